/-
  States in memory: a state's copy; whom a name means; where a signal is kept.
-/
import Derived.Test.YtdecceekodpjiaaDoorHRow
namespace Go.Proofs.YtdecceekodpjiaaDoor
open Go.RowKit

theorem nine {w : World} {b : Nat} {T : TypeId} {u0 u1 u2 u3 u4 u5 u6 u7 u8 : Value} (h : w.heap[b]? = some (.cells #[u0, u1, u2, u3, u4, u5, u6, u7, u8] T (0, 0))) :
    (w.cell? ⟨b, 0, none⟩ = some u0 ∧ w.cell? ⟨b, 1, none⟩ = some u1 ∧ w.cell? ⟨b, 2, none⟩ = some u2 ∧ w.cell? ⟨b, 3, none⟩ = some u3 ∧ w.cell? ⟨b, 4, none⟩ = some u4 ∧ w.cell? ⟨b, 5, none⟩ = some u5 ∧ w.cell? ⟨b, 6, none⟩ = some u6 ∧ w.cell? ⟨b, 7, none⟩ = some u7 ∧ w.cell? ⟨b, 8, none⟩ = some u8) ∧
    (w.frozen? ⟨b, 0, none⟩ = false ∧ w.frozen? ⟨b, 1, none⟩ = false ∧ w.frozen? ⟨b, 2, none⟩ = false ∧ w.frozen? ⟨b, 3, none⟩ = false ∧ w.frozen? ⟨b, 4, none⟩ = false ∧ w.frozen? ⟨b, 5, none⟩ = false ∧ w.frozen? ⟨b, 6, none⟩ = false ∧ w.frozen? ⟨b, 7, none⟩ = false ∧ w.frozen? ⟨b, 8, none⟩ = false) := by
  simp [World.cell?, World.frozen?, h]

theorem put9 {w : World} {b : Nat} {T : TypeId} {u0 u1 u2 u3 u4 u5 u6 u7 u8 : Value} (h : w.heap[b]? = some (.cells #[u0, u1, u2, u3, u4, u5, u6, u7, u8] T (0, 0))) (v0 v1 v2 v3 v4 v5 v6 v7 v8 : Value) : (((((((((w.setCell ⟨b, 0, none⟩ v0).setCell ⟨b, 1, none⟩ v1).setCell ⟨b, 2, none⟩ v2).setCell ⟨b, 3, none⟩ v3).setCell ⟨b, 4, none⟩ v4).setCell ⟨b, 5, none⟩ v5).setCell ⟨b, 6, none⟩ v6).setCell ⟨b, 7, none⟩ v7).setCell ⟨b, 8, none⟩ v8).heap[b]? = some (.cells #[v0, v1, v2, v3, v4, v5, v6, v7, v8] T (0, 0)) := by
  simp [World.setCell, Array.getElem?_modify, h]

theorem kept9 {S : Nat → Prop} (w : World) {b : Nat} (hb : S b) (v0 v1 v2 v3 v4 v5 v6 v7 v8 : Value) : Kept S w (((((((((w.setCell ⟨b, 0, none⟩ v0).setCell ⟨b, 1, none⟩ v1).setCell ⟨b, 2, none⟩ v2).setCell ⟨b, 3, none⟩ v3).setCell ⟨b, 4, none⟩ v4).setCell ⟨b, 5, none⟩ v5).setCell ⟨b, 6, none⟩ v6).setCell ⟨b, 7, none⟩ v7).setCell ⟨b, 8, none⟩ v8) :=
  ((((((((Kept.setCell w _ _ hb).and (Kept.setCell _ _ _ hb)).and (Kept.setCell _ _ _ hb)).and (Kept.setCell _ _ _ hb)).and (Kept.setCell _ _ _ hb)).and (Kept.setCell _ _ _ hb)).and (Kept.setCell _ _ _ hb)).and (Kept.setCell _ _ _ hb)).and (Kept.setCell _ _ _ hb)


/-- A state's nine values. -/
def stA (s : St) (v6 v7 : Value) : Array Value := #[.string s.dfn, .string s.id, .string s.par, .string s.pnode, .int .i64 s.status, .string s.text, v6, v7, .int .i64 s.events]

/-- A state that is handed in: its two rows are read. -/
structure StRd (w : World) (s : St) (v6 v7 : Value) : Prop where
  nodes : FlatAt w 3 v6 s.nodes.length (nsF s.nodes)
  sigs : FlatAt w 2 v7 s.sigs.length (sgF s.sigs)
  few6 : s.nodes.length ≤ 1000000
  few7 : s.sigs.length ≤ 1000000

theorem StRd.new {w w' : World} {s : St} {v6 v7 : Value} (R : StRd w s v6 v7) (K : Kept (fun _ => False) w w') : StRd w' s v6 v7 := ⟨R.nodes.new K, R.sigs.new K, R.few6, R.few7⟩

/-- A state that is one's own. -/
structure StOwn (w : World) (B : Nat) (s : St) (v6 v7 : Value) : Prop where
  nodes : w.ownsRow B 54 3 v6 s.nodes.length (nsF s.nodes)
  sigs : w.ownsRow B 78 2 v7 s.sigs.length (sgF s.sigs)

def zero9 : Array Value := #[.string ⟨#[]⟩, .string ⟨#[]⟩, .string ⟨#[]⟩, .string ⟨#[]⟩, .int .i64 0, .string ⟨#[]⟩, .slice none 0 0, .slice none 0 0, .int .i64 0]

def CopyPost (w : World) (s : St) (e : Ending) (w' : World) : Prop := ∃ u6 u7, e = .returned (.agg (stA s u6 u7)) ∧ StOwn w' w.heap.size s u6 u7 ∧ Kept (fun _ => False) w w'

set_option maxRecDepth 100000 in
set_option maxHeartbeats 2000000 in
theorem stateCopy_any (w : World) (s : St) (v6 v7 : Value) (R : StRd w s v6 v7) :
    Calls Tryd.prog 17 #[.agg (stA s v6 v7)] w (CopyPost w s) := by
  have K0 : Kept (fun _ => False) w ((w.alloc (.cells (stA s v6 v7) 39)).alloc (.cells zero9 39)) := (Kept.alloc _ _ _).and (Kept.alloc _ _ _)
  have R0 := R.new K0
  have h1 := copyNs_any _ v6 _ _ R0.nodes (nsF_one _) R0.few6
  unfold stA zero9 at h1 K0
  unfold stA
  have HR : Hid (StRd w s v6 v7) := R
  clear R R0
  obtain ⟨x0, x1, x2, x3, x4, x5, ln, ls, x8⟩ := s
  simp only [] at h1 K0 ⊢
  have HK0 : Hid (Kept (fun _ => False) w ((w.alloc (.cells #[.string x0, .string x1, .string x2, .string x3, .int .i64 x4, .string x5, v6, v7, .int .i64 x8] 39)).alloc (.cells #[.string ⟨#[]⟩, .string ⟨#[]⟩, .string ⟨#[]⟩, .string ⟨#[]⟩, .int .i64 0, .string ⟨#[]⟩, .slice none 0 0, .slice none 0 0, .int .i64 0] 39))) := K0
  clear K0
  go_enter Tryd.func17, Tryd.ntmps17
  go_wp2_with (first
    | (go_at_call 20; refine h1.mono ?_; rintro e w1 ⟨a6, c6, rfl, o6, K1⟩; clear h1; rw [World.size_alloc, World.size_alloc] at o6;
        have b0 : w1.heap[w.heap.size]? = some (.cells #[.string x0, .string x1, .string x2, .string x3, .int .i64 x4, .string x5, v6, v7, .int .i64 x8] 39 (0, 0)) := (by rw [K1.block _ (by rw [World.size_alloc, World.size_alloc]; omega) (fun h => h), Below.heap_alloc _ _ _ (by rw [World.size_alloc]; omega)]; exact heap_alloc_new _ _);
        have b1 : w1.heap[w.heap.size + 1]? = some (.cells #[.string ⟨#[]⟩, .string ⟨#[]⟩, .string ⟨#[]⟩, .string ⟨#[]⟩, .int .i64 0, .string ⟨#[]⟩, .slice none 0 0, .slice none 0 0, .int .i64 0] 39 (0, 0)) := (by rw [K1.block _ (by rw [World.size_alloc, World.size_alloc]; omega) (fun h => h)]; have h := heap_alloc_new (w.alloc (.cells #[.string x0, .string x1, .string x2, .string x3, .int .i64 x4, .string x5, v6, v7, .int .i64 x8] 39)) (.cells #[.string ⟨#[]⟩, .string ⟨#[]⟩, .string ⟨#[]⟩, .string ⟨#[]⟩, .int .i64 0, .string ⟨#[]⟩, .slice none 0 0, .slice none 0 0, .int .i64 0] 39); rw [World.size_alloc] at h; exact h);
        obtain ⟨⟨p0, p1, p2, p3, p4, p5, p6, p7, p8⟩, q0, q1, q2, q3, q4, q5, q6, q7, q8⟩ := nine b0;
        have ks : Kept (fun j => j = w.heap.size) w1 (w1.setCell ⟨w.heap.size, 6, none⟩ (.slice a6 ln.length c6)) := Kept.setCell _ _ _ rfl;
        have K2 : Kept (fun _ => False) w (w1.setCell ⟨w.heap.size, 6, none⟩ (.slice a6 ln.length c6)) := (HK0.out.and K1).trans ks (fun i h => .inr (by omega));
        have O6 : Hid ((w1.setCell ⟨w.heap.size, 6, none⟩ (.slice a6 ln.length c6)).ownsRow (w.heap.size + 1 + 1) 54 3 (.slice a6 ln.length c6) ln.length (nsF ln)) := ownsRow_keep o6 (fun g hg => ks.block g (ownsRow_blk o6 hg) (by have := (o6.lt g hg).1; omega));
        have B0 : Hid ((w1.setCell ⟨w.heap.size, 6, none⟩ (.slice a6 ln.length c6)).heap[w.heap.size]? = some (.cells #[.string x0, .string x1, .string x2, .string x3, .int .i64 x4, .string x5, .slice a6 ln.length c6, v7, .int .i64 x8] 39 (0, 0))) := (by show _ = _; simp [World.setCell, Array.getElem?_modify, b0]);
        have B1 : Hid ((w1.setCell ⟨w.heap.size, 6, none⟩ (.slice a6 ln.length c6)).heap[w.heap.size + 1]? = some (.cells #[.string ⟨#[]⟩, .string ⟨#[]⟩, .string ⟨#[]⟩, .string ⟨#[]⟩, .int .i64 0, .string ⟨#[]⟩, .slice none 0 0, .slice none 0 0, .int .i64 0] 39 (0, 0))) := (ks.block _ (Array.getElem?_eq_some_iff.1 b1).1 (by omega)).trans b1;
        have HK2 : Hid (Kept (fun _ => False) w (w1.setCell ⟨w.heap.size, 6, none⟩ (.slice a6 ln.length c6))) := K2;
        have h2 := copySg_any _ v7 _ _ (HR.out.new K2).sigs (sgF_one _) HR.out.few7;
        obtain ⟨⟨r0, r1, r2, r3, r4, r5, r6, r7, r8⟩, _⟩ := nine B0.out;
        clear o6 K1 ks K2 b0 b1)
    | (go_at_call 21; refine h2.mono ?_; rintro e w3 ⟨a7, c7, rfl, o7, K3⟩; clear h2 p0 p1 p2 p3 p4 p5 p6 p7 p8 q0 q1 q2 q3 q4 q5 q6 q7 q8 r0 r1 r2 r3 r4 r5 r6 r7 r8;
        have b0 := (K3.block _ (Array.getElem?_eq_some_iff.1 B0.out).1 (fun h => h)).trans B0.out;
        have b1 := (K3.block _ (Array.getElem?_eq_some_iff.1 B1.out).1 (fun h => h)).trans B1.out;
        have hz := HK2.out.size;
        have hz1 := (Array.getElem?_eq_some_iff.1 B1.out).1;
        have o6 := ownsRow_keep O6.out (fun g hg => K3.block g (ownsRow_blk O6.out hg) (fun h => h));
        obtain ⟨⟨p0, p1, p2, p3, p4, p5, p6, p7, p8⟩, q0, q1, q2, q3, q4, q5, q6, q7, q8⟩ := nine b0;
        have ks : Kept (fun j => j = w.heap.size) w3 (w3.setCell ⟨w.heap.size, 7, none⟩ (.slice a7 ls.length c7)) := Kept.setCell _ _ _ rfl;
        have O7 : Hid ((w3.setCell ⟨w.heap.size, 7, none⟩ (.slice a7 ls.length c7)).ownsRow (w.heap.size + 1 + 1) 78 2 (.slice a7 ls.length c7) ls.length (sgF ls)) := ownsRow_keep (ownsRow_low o7 (by omega)) (fun g hg => ks.block g (ownsRow_blk o7 hg) (by have := (o7.lt g hg).1; omega));
        have P6 : Hid ((w3.setCell ⟨w.heap.size, 7, none⟩ (.slice a7 ls.length c7)).ownsRow (w.heap.size + 1 + 1) 54 3 (.slice a6 ln.length c6) ln.length (nsF ln)) := ownsRow_keep o6 (fun g hg => ks.block g (ownsRow_blk o6 hg) (by have := (o6.lt g hg).1; omega));
        have D0 : (w3.setCell ⟨w.heap.size, 7, none⟩ (.slice a7 ls.length c7)).heap[w.heap.size]? = some (.cells #[.string x0, .string x1, .string x2, .string x3, .int .i64 x4, .string x5, .slice a6 ln.length c6, .slice a7 ls.length c7, .int .i64 x8] 39 (0, 0)) := (by simp [World.setCell, Array.getElem?_modify, b0]);
        have D1 : (w3.setCell ⟨w.heap.size, 7, none⟩ (.slice a7 ls.length c7)).heap[w.heap.size + 1]? = some (.cells #[.string ⟨#[]⟩, .string ⟨#[]⟩, .string ⟨#[]⟩, .string ⟨#[]⟩, .int .i64 0, .string ⟨#[]⟩, .slice none 0 0, .slice none 0 0, .int .i64 0] 39 (0, 0)) := (ks.block _ (Array.getElem?_eq_some_iff.1 b1).1 (by omega)).trans b1;
        have HK4 : Hid (Kept (fun _ => False) w (w3.setCell ⟨w.heap.size, 7, none⟩ (.slice a7 ls.length c7))) := (HK2.out.and K3).trans ks (fun i h => .inr (by omega));
        have HD1 : Hid ((w3.setCell ⟨w.heap.size, 7, none⟩ (.slice a7 ls.length c7)).heap[w.heap.size + 1]? = some (.cells #[.string ⟨#[]⟩, .string ⟨#[]⟩, .string ⟨#[]⟩, .string ⟨#[]⟩, .int .i64 0, .string ⟨#[]⟩, .slice none 0 0, .slice none 0 0, .int .i64 0] 39 (0, 0))) := D1;
        obtain ⟨⟨r0, r1, r2, r3, r4, r5, r6, r7, r8⟩, _⟩ := nine D0; obtain ⟨⟨t0, t1, t2, t3, t4, t5, t6, t7, t8⟩, f0, f1, f2, f3, f4, f5, f6, f7, f8⟩ := nine D1;
        clear o6 o7 K3 ks b0 b1 D0 D1 O6 B0 B1 HK2)
    | fail)
  have E1 := put9 HD1.out (.string x0) (.string x1) (.string x2) (.string x3) (.int .i64 x4) (.string x5) (.slice a6 ln.length c6) (.slice a7 ls.length c7) (.int .i64 x8)
  have KK := kept9 (S := fun j => j = w.heap.size + 1) (w3.setCell ⟨w.heap.size, 7, none⟩ (.slice a7 ls.length c7)) rfl (.string x0) (.string x1) (.string x2) (.string x3) (.int .i64 x4) (.string x5) (.slice a6 ln.length c6) (.slice a7 ls.length c7) (.int .i64 x8)
  have o6 := ownsRow_keep P6.out (fun g hg => KK.block g (ownsRow_blk P6.out hg) (by have := (P6.out.lt g hg).1; omega))
  have o7 := ownsRow_keep O7.out (fun g hg => KK.block g (ownsRow_blk O7.out hg) (by have := (O7.out.lt g hg).1; omega))
  obtain ⟨⟨g0, g1, g2, g3, g4, g5, g6, g7, g8⟩, _⟩ := nine E1
  have KF := HK4.out.trans KK (fun i h => .inr (by omega))
  clear P6 O7 HD1 E1 HK4 KK
  refine bodyPost_ret (by simp [results, Tryd.results17, go_sem, g0, g1, g2, g3, g4, g5, g6, g7, g8]; try rfl) rfl ?_
  exact ⟨_, _, rfl, ⟨ownsRow_low o6 (by omega), ownsRow_low o7 (by omega)⟩, KF⟩

end Go.Proofs.YtdecceekodpjiaaDoor
