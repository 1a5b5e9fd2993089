/-
  Whom a name means in a state; where a signal is kept.
-/
import Derived.Test.YtfjekjbkifmpfaaDoorG02
import Derived.Test.YtfjekjbkifmpfaaDoorG01
import Derived.Deep.QuietTactic
import Derived.BigQuiet
import Derived.Deep.RegionHeld3
import Derived.Deep.RegionLaw
namespace Go.Proofs.YtfjekjbkifmpfaaDoor
open Go.RowKit

theorem FlatAt.shape {w : World} {sz n : Nat} {v : Value} {l : List Value} (F : FlatAt w sz v n l) : ∃ a c, v = .slice a n c := by
  obtain ⟨_, a, c, e, _⟩ := F
  exact ⟨a, c, e⟩

/-- The node of a name, if the state has it, too. -/
def findS (ns : List Nd) (m : Nat) (s : ByteArray) : Bool := match findP ns s with | some i => decide (i < m) | none => false

set_option maxRecDepth 100000 in
set_option maxHeartbeats 2000000 in
theorem hfind_any (w : World) (name : ByteArray) (a : Option Addr) (c : Nat) (ns : List Nd) (hN : NodesAt w a ns) (hn : ns.length ≤ 1000000) (s : St) (v6 v7 : Value) (R : StRd w s v6 v7) (x : ByteArray) :
    Calls Tryd.prog 70 #[.agg #[.string name, .slice a ns.length c], .agg (stA s v6 v7), .string x] w fun e w' => e = .returned (.tuple #[.int .i64 ((findP ns x).getD 0 : Nat), .bool (findS ns s.nodes.length x)]) ∧ Kept (fun _ => False) w w' := by
  obtain ⟨a6, c6, rfl⟩ := R.nodes.shape
  have hfew := R.few6
  have K0 : Kept (fun _ => False) w ((w.alloc (.cells #[.string name, .slice a ns.length c] 24)).alloc (.cells (stA s (.slice a6 s.nodes.length c6) v7) 33)) := (Kept.alloc _ _ _).and (Kept.alloc _ _ _)
  have hF := find_any _ name a ns.length c ns (keptNew K0 hN) rfl (by omega) x
  unfold stA at hF K0 ⊢
  unfold findS
  clear R hN
  have HK0 : Hid (Kept (fun _ => False) w ((w.alloc (.cells #[.string name, .slice a ns.length c] 24)).alloc (.cells #[.string s.dfn, .string s.id, .string s.par, .string s.pnode, .int .i64 s.status, .string s.text, .slice a6 s.nodes.length c6, v7, .int .i64 s.events] 33))) := K0
  clear K0
  generalize hl : s.nodes.length = m at *
  generalize s.dfn = x0 at *
  generalize s.id = x1 at *
  generalize s.par = x2 at *
  generalize s.pnode = x3 at *
  generalize s.status = x4 at *
  generalize s.text = x5 at *
  generalize s.events = x8 at *
  clear hl
  cases hf : findP ns x with
  | none =>
    rw [hf] at hF
    simp only [Option.getD_none, Option.isSome_none] at hF ⊢
    clear hf
    go_enter Tryd.func70, Tryd.ntmps70
    go_wp2_with (first
      | (go_at_call 89; refine hF.mono ?_; rintro e w1 ⟨rfl, K1⟩; clear hF)
      | go_quiet (fail)
      | fail)
    go_ret2
    exact ⟨rfl, (HK0.out.and K1).and (Kept.drewN _ _ _)⟩
  | some i =>
    have hi := findP_lt hf
    rw [hf] at hF
    simp only [Option.getD_some, Option.isSome_some] at hF ⊢
    clear hf
    by_cases him : i < m
    · have e1 : (i : Int) < (m : Int) := by omega
      have e2 : decide (i < m) = true := decide_eq_true him
      rw [e2]
      go_enter Tryd.func70, Tryd.ntmps70
      go_wp2_with (first
        | (go_at_call 89; refine hF.mono ?_; rintro e w1 ⟨rfl, K1⟩; clear hF; have c6' := boxC (S := fun _ => False) (w := w.alloc (.cells #[.string name, .slice a ns.length c] 24)) (arr := #[.string x0, .string x1, .string x2, .string x3, .int .i64 x4, .string x5, .slice a6 m c6, v7, .int .i64 x8]) K1 (fun h => h) 6 _ rfl; rw [World.size_alloc] at c6')
        | go_quiet (fail)
        | fail)
      go_ret2
      exact ⟨rfl, (HK0.out.and K1).and (Kept.drewN _ _ _)⟩
    · have e1 : ¬ (i : Int) < (m : Int) := by omega
      have e2 : decide (i < m) = false := decide_eq_false him
      rw [e2]
      go_enter Tryd.func70, Tryd.ntmps70
      go_wp2_with (first
        | (go_at_call 89; refine hF.mono ?_; rintro e w1 ⟨rfl, K1⟩; clear hF; have c6' := boxC (S := fun _ => False) (w := w.alloc (.cells #[.string name, .slice a ns.length c] 24)) (arr := #[.string x0, .string x1, .string x2, .string x3, .int .i64 x4, .string x5, .slice a6 m c6, v7, .int .i64 x8]) K1 (fun h => h) 6 _ rfl; rw [World.size_alloc] at c6')
        | go_quiet (fail)
        | fail)
      go_ret2
      exact ⟨rfl, (HK0.out.and K1).and (Kept.drewN _ _ _)⟩

end Go.Proofs.YtfjekjbkifmpfaaDoor

/-
  Where a signal is kept.
-/
namespace Go.Proofs.YtfjekjbkifmpfaaDoor
open Go.RowKit

set_option maxRecDepth 100000 in
theorem keptIs_any (w : World) (x y s : ByteArray) (b : Nat) (hc : w.cell? ⟨b, 0, none⟩ = some (.string s)) :
    Calls Tryd.prog 102 #[.agg #[.string x, .string y], .pointer (some ⟨b, 0, none⟩)] w fun e w' => e = .returned (.bool (decide (x = s))) ∧ Kept (fun _ => False) w w' := by
  have hc2 := keepC (Kept.alloc (fun _ => False) w (.cells #[.string x, .string y] 88)) hc (fun _ _ h => h)
  have HE : Hid ((x.toList == s.toList) = decide (x = s)) := str_eq x s
  clear hc
  go_enter Tryd.func102, Tryd.ntmps102
  go_wp2_with (first | go_quiet (fail) | fail)
  go_ret
  refine ⟨?_, ?_⟩
  · rw [← HE.out]; rfl
  · first | exact Kept.alloc _ _ _ | exact (Kept.alloc _ _ _).and (Kept.drewN _ _ _)

theorem keptP_none {l : List Sg} {s : ByteArray} (h : ∀ j (hj : j < l.length), decide ((l[j]).name = s) = false) : keptP l s = none := by
  unfold keptP
  rw [List.findIdx?_eq_none_iff]
  intro x hx
  obtain ⟨j, hj, rfl⟩ := List.mem_iff_getElem.1 hx
  exact h j hj

theorem keptP_some {l : List Sg} {s : ByteArray} {k : Nat} (hk : k < l.length) (h : ∀ j (hj : j < k), decide ((l[j]'(by omega)).name = s) = false) (hf : decide ((l[k]).name = s) = true) : keptP l s = some k := by
  unfold keptP
  rw [List.findIdx?_eq_some_iff_getElem]
  exact ⟨hk, hf, fun j hj => by rw [h j hj]; decide⟩

theorem keptP_lt {l : List Sg} {s : ByteArray} {k : Nat} (h : keptP l s = some k) : k < l.length := by
  unfold keptP at h
  rw [List.findIdx?_eq_some_iff_getElem] at h
  exact h.1

/-- Its place, or -1. -/
def keptZ (l : List Sg) (s : ByteArray) : Int := match keptP l s with | some i => (i : Int) | none => -1

set_option maxRecDepth 100000 in
set_option maxHeartbeats 2000000 in
theorem indexSg_any (w : World) (v : Value) (l : List Sg) (F : FlatAt w 2 v l.length (sgF l)) (hl : l.length ≤ 1000000) (s : ByteArray) (b : Nat) (hc : w.cell? ⟨b, 0, none⟩ = some (.string s)) :
    Calls Tryd.prog 101 #[v, .func (.func 102) #[] #[.pointer (some ⟨b, 0, none⟩)]] w fun e w' => e = .returned (.int .i64 (keptZ l s)) ∧ Kept (fun _ => False) w w' := by
  obtain ⟨a, c, rfl⟩ := F.shape
  have HF : Hid (FlatAt w 2 (.slice a l.length c) l.length (sgF l)) := F
  have HC : Hid (w.cell? ⟨b, 0, none⟩ = some (.string s)) := hc
  clear F hc
  go_enter Tryd.func101, Tryd.ntmps101
  go_wp2_with fail
  go_loopw [8] (fun q wr => ∃ (k : Nat), k ≤ l.length ∧ q = .int .i64 k ∧ (∀ j (hj : j < k) (hj2 : j < l.length), decide ((l[j]).name = s) = false) ∧ Kept (fun _ => False) w wr) (fun q _ => l.length - (intOf q).toNat)
  case atStart => exact ⟨0, Nat.zero_le _, rfl, fun j hj => by omega, Kept.refl _ _⟩
  case round =>
    obtain ⟨k, hk, rfl, hno, K⟩ := hrel
    have HNo : Hid (∀ j (hj : j < k) (hj2 : j < l.length), decide ((l[j]).name = s) = false) := hno
    clear hno
    by_cases hlt : k < l.length
    · have e0 : (k : Int) < (l.length : Int) := by omega
      obtain ⟨_, a2, c2, e2, hcap, _, h3⟩ := HF.out.new K
      obtain ⟨rfl, rfl⟩ : a = a2 ∧ c = c2 := by simpa using e2
      rcases h3 with h3 | ⟨fb, fo, rfl, hcell⟩
      · omega
      · have x0 := hcell (k * 2 + 0) _ ((flatMap_at sgC_len (List.getElem?_eq_getElem hlt) 0 (by decide)).trans rfl)
        have x1 := hcell (k * 2 + 1) _ ((flatMap_at sgC_len (List.getElem?_eq_getElem hlt) 1 (by decide)).trans rfl)
        rw [Nat.add_zero] at x0
        rw [← Nat.add_assoc] at x1
        have hq := keptIs_any wr (l[k]).name (l[k]).text s b (keepC K HC.out (fun _ _ h => h))
        have HFd : Hid (decide ((l[k]).name = s) = true → keptP l s = some k) := fun h => keptP_some hlt (fun j hj => HNo.out j hj (by omega)) h
        have HNx : Hid (decide ((l[k]).name = s) = false → ∀ j (hj : j < k + 1) (hj2 : j < l.length), decide ((l[j]).name = s) = false) := fun h j hj hj2 => by
          by_cases hjk : j = k
          · subst hjk; exact h
          · exact HNo.out j (by omega) hj2
        clear hcell e2
        generalize decide ((l[k]).name = s) = d at *
        generalize l[k] = g at *
        cases d with
        | true =>
          have HZ : Hid (keptZ l s = (k : Int)) := by show _ = _; unfold keptZ; rw [HFd.out rfl]
          clear HFd HNx HNo
          go_wp2_with (first
            | (go_at_call 102; refine hq.mono ?_; rintro e w1 ⟨rfl, K1⟩; clear hq)
            | fail)
          go_ret
          rw [HZ.out]
          exact ⟨rfl, K.and K1⟩
        | false =>
          have HN2 : Hid (∀ j (hj : j < k + 1) (hj2 : j < l.length), decide ((l[j]).name = s) = false) := HNx.out rfl
          clear HFd HNx HNo
          go_wp2_with (first
            | (go_at_call 102; refine hq.mono ?_; rintro e w1 ⟨rfl, K1⟩; clear hq)
            | fail)
          go_roundw
          case rel => exact ⟨k + 1, by omega, by go_num, HN2.out, K.and K1⟩
          case measure => simp [intOf]; omega
    · have e0 : ¬ (k : Int) < (l.length : Int) := by omega
      have HZ : Hid (keptZ l s = -1) := by
        show _ = _
        unfold keptZ
        rw [keptP_none (fun j hj => HNo.out j (by omega) hj)]
      clear HNo
      go_wp2_with fail
      go_ret
      rw [HZ.out]
      exact ⟨rfl, K⟩

set_option maxRecDepth 100000 in
theorem kept_any (w : World) (s : St) (v6 v7 : Value) (R : StRd w s v6 v7) (x : ByteArray) :
    Calls Tryd.prog 90 #[.agg (stA s v6 v7), .string x] w fun e w' => e = .returned (.int .i64 (keptZ s.sigs x)) ∧ Kept (fun _ => False) w w' := by
  have K0 : Kept (fun _ => False) w ((w.alloc (.cells (stA s v6 v7) 33)).alloc (.cells #[.string x] 9)) := (Kept.alloc _ _ _).and (Kept.alloc _ _ _)
  have hb : ((w.alloc (.cells (stA s v6 v7) 33)).alloc (.cells #[.string x] 9)).cell? ⟨w.heap.size + 1, 0, none⟩ = some (.string x) := by
    have h := heap_alloc_new (w.alloc (.cells (stA s v6 v7) 33)) (.cells #[.string x] 9)
    rw [World.size_alloc] at h
    unfold World.cell?
    rw [h]
    rfl
  have hI := indexSg_any _ v7 s.sigs (R.new K0).sigs R.few7 x (w.heap.size + 1) hb
  unfold stA at hI K0 ⊢
  have HK0 : Hid (Kept (fun _ => False) w ((w.alloc (.cells #[.string s.dfn, .string s.id, .string s.par, .string s.pnode, .int .i64 s.status, .string s.text, v6, v7, .int .i64 s.events] 33)).alloc (.cells #[.string x] 9))) := K0
  clear K0 R hb
  generalize keptZ s.sigs x = z at *
  go_enter Tryd.func90, Tryd.ntmps90
  go_wp2_with (first
    | (go_at_call 101; refine hI.mono ?_; rintro e w1 ⟨rfl, K1⟩; clear hI)
    | fail)
  go_ret
  exact ⟨rfl, HK0.out.and K1⟩

end Go.Proofs.YtfjekjbkifmpfaaDoor

/-
  The document's copied: a state of one's own.
-/
namespace Go.Proofs.YtfjekjbkifmpfaaDoor.Rf
open Go.RowKit

set_option maxRecDepth 100000 in
set_option maxHeartbeats 2000000 in
theorem refCopied_any (w : World) (s : St) (v6 v7 : Value) (R : StRd w s v6 v7) :
    Calls Tryd.prog 41 #[.agg (stA s v6 v7)] w (CopyPost w s) := by
  have K0 : Kept (fun _ => False) w ((w.alloc (.cells (stA s v6 v7) 33)).alloc (.cells zero9 33)) := (Kept.alloc _ _ _).and (Kept.alloc _ _ _)
  obtain ⟨i0, hi0, hz0, hz1, hz2⟩ := info_parts Tryd.info61
  obtain ⟨j0, hj0, hy0, hy1, hy2⟩ := info_parts Tryd.info88
  have R0 := R.new (K0.and (Kept.alloc _ _ (.cells #[] 61)))
  have hs6 := R0.nodes.src
  have ho6 := ownsRow_empty ((w.alloc (.cells (stA s v6 v7) 33)).alloc (.cells zero9 33)) (w.heap.size + 1 + 1) 61 3 (by rw [World.size_alloc, World.size_alloc]; exact Nat.le_refl _)
  rw [World.size_alloc, World.size_alloc] at ho6
  have hn6 := nsF_one s.nodes
  have hf6 := R.few6
  unfold stA zero9 at hs6 ho6 K0
  unfold stA
  have HR : Hid (StRd w s v6 v7) := R
  clear R R0
  obtain ⟨x0, x1, x2, x3, x4, x5, ln, ls, x8⟩ := s
  simp only [] at hs6 ho6 hn6 hf6 K0 ⊢
  have HK0 : Hid (Kept (fun _ => False) w ((w.alloc (.cells #[.string x0, .string x1, .string x2, .string x3, .int .i64 x4, .string x5, v6, v7, .int .i64 x8] 33)).alloc (.cells #[.string ⟨#[]⟩, .string ⟨#[]⟩, .string ⟨#[]⟩, .string ⟨#[]⟩, .int .i64 0, .string ⟨#[]⟩, .slice none 0 0, .slice none 0 0, .int .i64 0] 33))) := K0
  clear K0
  go_enter Tryd.func41, Tryd.ntmps41
  go_wp2_with (first
    | (at_builtin; refine wpList_append_src _ rfl _ _ 30 rfl (w.heap.size + 1 + 1) 61 i0 _ 3 32 Tryd.underlying30 hi0 hz0 hz1 hz2 rfl (by decide) _ 0 _ rfl ho6 _ rfl ln.length _ hs6 hn6 (by unfold maxLen; omega) (by omega) (by rw [World.size_alloc, World.size_alloc, World.size_alloc]; omega) ?_; intro a6 c6 w1 o6 hg6 _ _; rw [Nat.zero_add, List.nil_append] at o6; rw [Nat.zero_add];
        have K1 : Kept (fun _ => False) ((w.alloc (.cells #[.string x0, .string x1, .string x2, .string x3, .int .i64 x4, .string x5, v6, v7, .int .i64 x8] 33)).alloc (.cells #[.string ⟨#[]⟩, .string ⟨#[]⟩, .string ⟨#[]⟩, .string ⟨#[]⟩, .int .i64 0, .string ⟨#[]⟩, .slice none 0 0, .slice none 0 0, .int .i64 0] 33)) w1 := (Kept.alloc _ _ (.cells #[] 61)).trans (Kept.grown (S := fun j => ((w.alloc (.cells #[.string x0, .string x1, .string x2, .string x3, .int .i64 x4, .string x5, v6, v7, .int .i64 x8] 33)).alloc (.cells #[.string ⟨#[]⟩, .string ⟨#[]⟩, .string ⟨#[]⟩, .string ⟨#[]⟩, .int .i64 0, .string ⟨#[]⟩, .slice none 0 0, .slice none 0 0, .int .i64 0] 33)).heap.size ≤ j) hg6 (fun k e => by rw [World.size_alloc, World.size_alloc]; exact Nat.le_of_eq (Option.some.inj e))) (fun _ h => .inr h); clear hg6 hs6 ho6;
        have b0 : w1.heap[w.heap.size]? = some (.cells #[.string x0, .string x1, .string x2, .string x3, .int .i64 x4, .string x5, v6, v7, .int .i64 x8] 33 (0, 0)) := (by rw [K1.block _ (by rw [World.size_alloc, World.size_alloc]; omega) (fun h => h), Below.heap_alloc _ _ _ (by rw [World.size_alloc]; omega)]; exact heap_alloc_new _ _);
        have b1 : w1.heap[w.heap.size + 1]? = some (.cells #[.string ⟨#[]⟩, .string ⟨#[]⟩, .string ⟨#[]⟩, .string ⟨#[]⟩, .int .i64 0, .string ⟨#[]⟩, .slice none 0 0, .slice none 0 0, .int .i64 0] 33 (0, 0)) := (by rw [K1.block _ (by rw [World.size_alloc, World.size_alloc]; omega) (fun h => h)]; have h := heap_alloc_new (w.alloc (.cells #[.string x0, .string x1, .string x2, .string x3, .int .i64 x4, .string x5, v6, v7, .int .i64 x8] 33)) (.cells #[.string ⟨#[]⟩, .string ⟨#[]⟩, .string ⟨#[]⟩, .string ⟨#[]⟩, .int .i64 0, .string ⟨#[]⟩, .slice none 0 0, .slice none 0 0, .int .i64 0] 33); rw [World.size_alloc] at h; exact h);
        obtain ⟨⟨p0, p1, p2, p3, p4, p5, p6, p7, p8⟩, q0, q1, q2, q3, q4, q5, q6, q7, q8⟩ := nine b0;
        have ks : Kept (fun j => j = w.heap.size) w1 (w1.setCell ⟨w.heap.size, 6, none⟩ (.slice a6 ln.length c6)) := Kept.setCell _ _ _ rfl;
        have K2 : Kept (fun _ => False) w (w1.setCell ⟨w.heap.size, 6, none⟩ (.slice a6 ln.length c6)) := (HK0.out.and K1).trans ks (fun i h => .inr (by omega));
        have O6 : Hid ((w1.setCell ⟨w.heap.size, 6, none⟩ (.slice a6 ln.length c6)).ownsRow (w.heap.size + 1 + 1) 61 3 (.slice a6 ln.length c6) ln.length (nsF ln)) := ownsRow_keep o6 (fun g hg => ks.block g (ownsRow_blk o6 hg) (by have := (o6.lt g hg).1; omega));
        have B0 : Hid ((w1.setCell ⟨w.heap.size, 6, none⟩ (.slice a6 ln.length c6)).heap[w.heap.size]? = some (.cells #[.string x0, .string x1, .string x2, .string x3, .int .i64 x4, .string x5, .slice a6 ln.length c6, v7, .int .i64 x8] 33 (0, 0))) := (by show _ = _; simp [World.setCell, Array.getElem?_modify, b0]);
        have B1 : Hid ((w1.setCell ⟨w.heap.size, 6, none⟩ (.slice a6 ln.length c6)).heap[w.heap.size + 1]? = some (.cells #[.string ⟨#[]⟩, .string ⟨#[]⟩, .string ⟨#[]⟩, .string ⟨#[]⟩, .int .i64 0, .string ⟨#[]⟩, .slice none 0 0, .slice none 0 0, .int .i64 0] 33 (0, 0))) := (ks.block _ (Array.getElem?_eq_some_iff.1 b1).1 (by omega)).trans b1;
        have HK2 : Hid (Kept (fun _ => False) w (w1.setCell ⟨w.heap.size, 6, none⟩ (.slice a6 ln.length c6))) := K2;
        have hs7 := ((HR.out.new K2).sigs.new (Kept.alloc _ _ (.cells #[] 88))).src; have hn7 := sgF_one ls; have hf7 : ls.length ≤ 1000000 := HR.out.few7; have hzz : (w1.setCell ⟨w.heap.size, 6, none⟩ (.slice a6 ln.length c6)).heap.size = w1.heap.size := (by simp [World.setCell]); have ho7 := ownsRow_empty (w1.setCell ⟨w.heap.size, 6, none⟩ (.slice a6 ln.length c6)) w1.heap.size 88 2 (by rw [hzz]; exact Nat.le_refl _); rw [hzz] at ho7;
        obtain ⟨⟨r0, r1, r2, r3, r4, r5, r6, r7, r8⟩, _⟩ := nine B0.out;
        have y7 : ((w1.setCell ⟨w.heap.size, 6, none⟩ (.slice a6 ln.length c6)).alloc (.cells #[] 88)).cell? ⟨w.heap.size, 7, none⟩ = some v7 := (World.cell?_of_block ((Kept.alloc (fun _ => False) _ _).block _ (World.block_lt_of_cell? _ _ r7) (fun h => h))).trans r7;
        have HZZ := hid hzz; clear hzz o6 K1 ks K2 b0 b1)
    | (at_builtin; refine wpList_append_src _ rfl _ _ 31 rfl w1.heap.size 88 j0 _ 2 32 Tryd.underlying31 hj0 hy0 hy1 hy2 rfl (by decide) _ 0 _ rfl ho7 _ rfl ls.length _ hs7 hn7 (by unfold maxLen; omega) (by omega) (by rw [World.size_alloc, HZZ.out]; omega) ?_; intro a7 c7 w3 o7 hg7 _ _; rw [Nat.zero_add, List.nil_append] at o7; rw [Nat.zero_add];
        have K3 : Kept (fun _ => False) (w1.setCell ⟨w.heap.size, 6, none⟩ (.slice a6 ln.length c6)) w3 := (Kept.alloc _ _ (.cells #[] 88)).trans (Kept.grown (S := fun j => (w1.setCell ⟨w.heap.size, 6, none⟩ (.slice a6 ln.length c6)).heap.size ≤ j) hg7 (fun k e => by rw [HZZ.out]; exact Nat.le_of_eq (Option.some.inj e))) (fun _ h => .inr h); have o7 := o7; rw [← HZZ.out] at o7; clear hg7 hs7 ho7 y7 p0 p1 p2 p3 p4 p5 p6 p7 p8 q0 q1 q2 q3 q4 q5 q6 q7 q8 r0 r1 r2 r3 r4 r5 r6 r7 r8;
        have b0 := (K3.block _ (Array.getElem?_eq_some_iff.1 B0.out).1 (fun h => h)).trans B0.out;
        have b1 := (K3.block _ (Array.getElem?_eq_some_iff.1 B1.out).1 (fun h => h)).trans B1.out;
        have hz := HK2.out.size;
        have hz1 := (Array.getElem?_eq_some_iff.1 B1.out).1;
        have o6 := ownsRow_keep O6.out (fun g hg => K3.block g (ownsRow_blk O6.out hg) (fun h => h));
        obtain ⟨⟨p0, p1, p2, p3, p4, p5, p6, p7, p8⟩, q0, q1, q2, q3, q4, q5, q6, q7, q8⟩ := nine b0;
        have ks : Kept (fun j => j = w.heap.size) w3 (w3.setCell ⟨w.heap.size, 7, none⟩ (.slice a7 ls.length c7)) := Kept.setCell _ _ _ rfl;
        have O7 : Hid ((w3.setCell ⟨w.heap.size, 7, none⟩ (.slice a7 ls.length c7)).ownsRow (w.heap.size + 1 + 1) 88 2 (.slice a7 ls.length c7) ls.length (sgF ls)) := ownsRow_keep (ownsRow_low o7 (by omega)) (fun g hg => ks.block g (ownsRow_blk o7 hg) (by have := (o7.lt g hg).1; omega));
        have P6 : Hid ((w3.setCell ⟨w.heap.size, 7, none⟩ (.slice a7 ls.length c7)).ownsRow (w.heap.size + 1 + 1) 61 3 (.slice a6 ln.length c6) ln.length (nsF ln)) := ownsRow_keep o6 (fun g hg => ks.block g (ownsRow_blk o6 hg) (by have := (o6.lt g hg).1; omega));
        have D0 : (w3.setCell ⟨w.heap.size, 7, none⟩ (.slice a7 ls.length c7)).heap[w.heap.size]? = some (.cells #[.string x0, .string x1, .string x2, .string x3, .int .i64 x4, .string x5, .slice a6 ln.length c6, .slice a7 ls.length c7, .int .i64 x8] 33 (0, 0)) := (by simp [World.setCell, Array.getElem?_modify, b0]);
        have D1 : (w3.setCell ⟨w.heap.size, 7, none⟩ (.slice a7 ls.length c7)).heap[w.heap.size + 1]? = some (.cells #[.string ⟨#[]⟩, .string ⟨#[]⟩, .string ⟨#[]⟩, .string ⟨#[]⟩, .int .i64 0, .string ⟨#[]⟩, .slice none 0 0, .slice none 0 0, .int .i64 0] 33 (0, 0)) := (ks.block _ (Array.getElem?_eq_some_iff.1 b1).1 (by omega)).trans b1;
        have HK4 : Hid (Kept (fun _ => False) w (w3.setCell ⟨w.heap.size, 7, none⟩ (.slice a7 ls.length c7))) := (HK2.out.and K3).trans ks (fun i h => .inr (by omega));
        have HD1 : Hid ((w3.setCell ⟨w.heap.size, 7, none⟩ (.slice a7 ls.length c7)).heap[w.heap.size + 1]? = some (.cells #[.string ⟨#[]⟩, .string ⟨#[]⟩, .string ⟨#[]⟩, .string ⟨#[]⟩, .int .i64 0, .string ⟨#[]⟩, .slice none 0 0, .slice none 0 0, .int .i64 0] 33 (0, 0))) := D1;
        obtain ⟨⟨r0, r1, r2, r3, r4, r5, r6, r7, r8⟩, _⟩ := nine D0; obtain ⟨⟨t0, t1, t2, t3, t4, t5, t6, t7, t8⟩, f0, f1, f2, f3, f4, f5, f6, f7, f8⟩ := nine D1;
        clear o6 o7 K3 ks b0 b1 D0 D1 O6 B0 B1 HK2)
    | fail)
  have E1 := put9 HD1.out (.string x0) (.string x1) (.string x2) (.string x3) (.int .i64 x4) (.string x5) (.slice a6 ln.length c6) (.slice a7 ls.length c7) (.int .i64 x8)
  have KK := kept9 (S := fun j => j = w.heap.size + 1) (w3.setCell ⟨w.heap.size, 7, none⟩ (.slice a7 ls.length c7)) rfl (.string x0) (.string x1) (.string x2) (.string x3) (.int .i64 x4) (.string x5) (.slice a6 ln.length c6) (.slice a7 ls.length c7) (.int .i64 x8)
  have o6 := ownsRow_keep P6.out (fun g hg => KK.block g (ownsRow_blk P6.out hg) (by have := (P6.out.lt g hg).1; omega))
  have o7 := ownsRow_keep O7.out (fun g hg => KK.block g (ownsRow_blk O7.out hg) (by have := (O7.out.lt g hg).1; omega))
  obtain ⟨⟨g0, g1, g2, g3, g4, g5, g6, g7, g8⟩, _⟩ := nine E1
  have KF := HK4.out.trans KK (fun i h => .inr (by omega))
  clear P6 O7 HD1 E1 HK4 KK
  refine bodyPost_ret (by simp [results, Tryd.results41, go_sem, g0, g1, g2, g3, g4, g5, g6, g7, g8]; try rfl) rfl ?_
  exact ⟨_, _, rfl, ⟨ownsRow_low o6 (by omega), ownsRow_low o7 (by omega)⟩, KF⟩

end Go.Proofs.YtfjekjbkifmpfaaDoor.Rf

/-
  The document's kept: where the first signal of a name is kept.
-/
namespace Go.Proofs.YtfjekjbkifmpfaaDoor.Rf
open Go.RowKit

set_option maxRecDepth 100000 in
set_option maxHeartbeats 2000000 in
theorem kept_any (w : World) (s : St) (v6 v7 : Value) (R : StRd w s v6 v7) (x : ByteArray) :
    Calls Tryd.prog 42 #[.agg (stA s v6 v7), .string x] w fun e w' => e = .returned (.int .i64 (keptZ s.sigs x)) ∧ Kept (fun _ => False) w w' := by
  have K0 : Kept (fun _ => False) w (w.alloc (.cells (stA s v6 v7) 33)) := Kept.alloc _ _ _
  have hb := heap_alloc_new w (.cells (stA s v6 v7) 33)
  have hF := R.sigs
  obtain ⟨a, c, hv⟩ := hF.shape
  subst hv
  have HF := hid hF
  have hl := R.few7
  unfold stA at hb K0 ⊢
  have HK0 := hid K0
  have HB := hid hb
  clear K0 hb hF R
  generalize s.sigs = l at *
  go_enter Tryd.func42, Tryd.ntmps42
  go_wp2_with fail
  generalize w.alloc (.cells #[.string s.dfn, .string s.id, .string s.par, .string s.pnode, .int .i64 s.status, .string s.text, v6, .slice a l.length c, .int .i64 s.events] 33) = W at *
  generalize w.heap.size = bx at *
  go_loopw [5] (fun q wr => ∃ (k : Nat), k ≤ l.length ∧ q = .int .i64 k ∧ (∀ j (hj : j < k) (hj2 : j < l.length), decide ((l[j]).name = x) = false) ∧ wr = W) (fun q _ => l.length - (intOf q).toNat)
  case atStart => exact ⟨0, Nat.zero_le _, rfl, fun j hj => by omega, rfl⟩
  case round =>
    obtain ⟨k, hk, rfl, hno, hwr⟩ := hrel
    subst wr
    have HNo : Hid (∀ j (hj : j < k) (hj2 : j < l.length), decide ((l[j]).name = x) = false) := hno
    clear hno
    obtain ⟨⟨p0, p1, p2, p3, p4, p5, p6, p7, p8⟩, _⟩ := nine HB.out
    clear p0 p1 p2 p3 p4 p5 p6 p8
    by_cases hlt : k < l.length
    · have e0 : (k : Int) < (l.length : Int) := by omega
      obtain ⟨_, a2, c2, e2, hcap, _, h3⟩ := HF.out.new HK0.out
      obtain ⟨rfl, rfl⟩ : a = a2 ∧ c = c2 := by simpa using e2
      rcases h3 with h3 | ⟨fb, fo, rfl, hcell⟩
      · omega
      · have x0 := hcell (k * 2 + 0) _ ((flatMap_at sgC_len (List.getElem?_eq_getElem hlt) 0 (by decide)).trans rfl)
        rw [Nat.add_zero] at x0
        have HE : Hid (((l[k]).name.toList == x.toList) = decide ((l[k]).name = x)) := str_eq (l[k]).name x
        have HFd : Hid (decide ((l[k]).name = x) = true → keptP l x = some k) := fun h => keptP_some hlt (fun j hj => HNo.out j hj (by omega)) h
        have HNx : Hid (decide ((l[k]).name = x) = false → ∀ j (hj : j < k + 1) (hj2 : j < l.length), decide ((l[j]).name = x) = false) := fun h j hj hj2 => by
          by_cases hjk : j = k
          · subst hjk; exact h
          · exact HNo.out j (by omega) hj2
        clear hcell e2
        generalize decide ((l[k]).name = x) = d at *
        generalize l[k] = g at *
        cases d with
        | true =>
          have HZ : Hid (keptZ l x = (k : Int)) := by show _ = _; unfold keptZ; rw [HFd.out rfl]
          have he := HE.out
          clear HFd HNx HNo HE
          go_wp2_with fail
          go_ret
          rw [HZ.out]
          exact ⟨rfl, HK0.out⟩
        | false =>
          have HN2 : Hid (∀ j (hj : j < k + 1) (hj2 : j < l.length), decide ((l[j]).name = x) = false) := HNx.out rfl
          have he := HE.out
          clear HFd HNx HNo HE
          go_wp2_with fail
          go_roundw
          case rel => exact ⟨k + 1, by omega, by go_num, HN2.out, by trivial⟩
          case measure => simp [intOf]; omega
    · have e0 : ¬ (k : Int) < (l.length : Int) := by omega
      have HZ : Hid (keptZ l x = -1) := by
        show _ = _
        unfold keptZ
        rw [keptP_none (fun j hj => HNo.out j (by omega) hj)]
      clear HNo
      go_wp2_with fail
      go_ret
      rw [HZ.out]
      exact ⟨rfl, HK0.out⟩

end Go.Proofs.YtfjekjbkifmpfaaDoor.Rf

/-
  Laws of single steps of regions that draw their order; a state as nine cells within a block.
-/
namespace Go.Proofs.YtfjekjbkifmpfaaDoor
open Go.RowKit

def onlyN (K : Act → World → Prop) : Exit → Act → World → Prop
  | .normal, a, w => K a w
  | _, _, _ => False

theorem wp_onlyN {P : Program} {c : Code} {Q : Exit → Act → World → Prop} {a : Act} {w : World} (h : c.wp P (onlyN (fun a w => Q .normal a w)) a w) : c.wp P Q a w :=
  Code.wp_mono (fun e a w h => by cases e <;> first | exact h | exact h.elim) h

/-- append(v, x...) onto a row that is owned, as a step of a region that draws. -/
theorem step_append_sr {P : Program} {ops : Array Oper} {o : Oper} {a : Act} (w : World) {K : Act → World → Prop} {Q : Exit → Act → World → Prop} {E : Prop}
    (hg : o.guard = none) (s x : Operand) (t : TypeId) (hop : o.op = Op.call { callee := Callee.builtin Builtin.append, args := #[s, x], argTypes := #[t, t] })
    (base : Nat) (e : TypeId) (i : TypeInfo) (z : Value) (size bytes : Nat) (ht : P.underlying t = some (.slice e)) (hi : P.info? e = some i) (hz : i.zero = some z)
    (hsize : i.size = size) (hby : i.bytes = bytes) (hzs : z.cells.size = size) (hsz : 0 < size)
    (v : Value) (n : Nat) (xs : List Value) (hs : a.eval s = v) (hown : w.ownsRow base e size v n xs) (xv : Value) (hx : a.eval x = xv) (m : Nat) (news : List Value) (hsrc : Src w size xv m news) (h1 : ∀ u ∈ news, u.oneCell' = true)
    (h63 : n + m ≤ maxLen) (hbytes : (n + m) * bytes ≤ 140737488355328) (hbase : base ≤ w.heap.size)
    (hK : ∀ a' cap w', w'.ownsRow base e size (.slice a' (n + m) cap) (n + m) (xs ++ news) → w.grownBy w' v.ownBlock → (Value.slice a' (n + m) cap = .slice none 0 0 ↔ v = .slice none 0 0 ∧ m = 0) → ((Value.slice a' (n + m) cap).ownBlock = v.ownBlock ∨ (Value.slice a' (n + m) cap).ownBlock = some w.heap.size) → K (a.put o.dst (.slice a' (n + m) cap)) w') :
    if Region.wanted o (yielded ops a.tmps) = true then Oper.wp P o a w K Q else E := by
  have hw : Region.wanted o (yielded ops a.tmps) = true := by simp [Region.wanted, hg]
  rw [if_pos hw]
  obtain ⟨v', w', hrun, h2, h3, h4, h5⟩ := run_append_src (P := P) w base t o.type e i z size bytes ht hi hz hsize hby hzs hsz v n xs hown xv m news hsrc h1 h63 hbytes hbase
  obtain ⟨a', cap, rfl⟩ := ownsRow_shape h2
  unfold Oper.wp
  simp [execOp, hop, resolve, invoke, builtin, hs, hx, hrun, Result.andThen]
  exact hK a' cap w' h2 h3 h4 h5

/-- A call of a Go function as a step of a region that draws. -/
theorem step_call1 {P : Program} {ops : Array Oper} {o : Oper} {a : Act} (w : World) {K : Act → World → Prop} {Q : Exit → Act → World → Prop} {E : Prop}
    (hg : o.guard = none) (f : Nat) (x : Operand) (t : TypeId) (hop : o.op = Op.call { callee := .value (.func f), args := #[x], argTypes := #[t] })
    (he : ∀ args w, (callFunc f args).run P w = .ok (.enter f args) w) (v : Value) (hx : a.eval x = v) {R : Ending → World → Prop} (hC : Calls P f #[v] w R)
    (hK : ∀ e w', R e w' → ∃ u, e = .returned u ∧ K (a.put o.dst u) w') :
    if Region.wanted o (yielded ops a.tmps) = true then Oper.wp P o a w K Q else E := by
  have hw : Region.wanted o (yielded ops a.tmps) = true := by simp [Region.wanted, hg]
  rw [if_pos hw]
  unfold Oper.wp
  have hf : a.eval (.func f) = .func (.func f) #[] #[] := rfl
  simp [execOp, hop, resolve, invoke, hf, hx, he, Deferred.ofValue]
  refine hC.mono ?_
  rintro e w' h
  obtain ⟨u, rfl, k⟩ := hK e w' h
  exact k

/-- Calls of Go functions with two and three arguments as steps of a region that draws. -/
theorem step_call2 {P : Program} {ops : Array Oper} {o : Oper} {a : Act} (w : World) {K : Act → World → Prop} {Q : Exit → Act → World → Prop} {E : Prop}
    (hw : Region.wanted o (yielded ops a.tmps) = true) (f : Nat) (x y : Operand) (t t2 : TypeId) (hop : o.op = Op.call { callee := .value (.func f), args := #[x, y], argTypes := #[t, t2] })
    (he : ∀ args w, (callFunc f args).run P w = .ok (.enter f args) w) (v v2 : Value) (hx : a.eval x = v) (hy : a.eval y = v2) {R : Ending → World → Prop} (hC : Calls P f #[v, v2] w R)
    (hK : ∀ e w', R e w' → ∃ u, e = .returned u ∧ K (a.put o.dst u) w') :
    if Region.wanted o (yielded ops a.tmps) = true then Oper.wp P o a w K Q else E := by
  rw [if_pos hw]
  unfold Oper.wp
  have hf : a.eval (.func f) = .func (.func f) #[] #[] := rfl
  simp [execOp, hop, resolve, invoke, hf, hx, hy, he, Deferred.ofValue]
  refine hC.mono ?_
  rintro e w' h
  obtain ⟨u, rfl, k⟩ := hK e w' h
  exact k

theorem step_call3 {P : Program} {ops : Array Oper} {o : Oper} {a : Act} (w : World) {K : Act → World → Prop} {Q : Exit → Act → World → Prop} {E : Prop}
    (hw : Region.wanted o (yielded ops a.tmps) = true) (f : Nat) (x y z : Operand) (t t2 t3 : TypeId) (hop : o.op = Op.call { callee := .value (.func f), args := #[x, y, z], argTypes := #[t, t2, t3] })
    (he : ∀ args w, (callFunc f args).run P w = .ok (.enter f args) w) (v v2 v3 : Value) (hx : a.eval x = v) (hy : a.eval y = v2) (hz : a.eval z = v3) {R : Ending → World → Prop} (hC : Calls P f #[v, v2, v3] w R)
    (hK : ∀ e w', R e w' → ∃ u, e = .returned u ∧ K (a.put o.dst u) w') :
    if Region.wanted o (yielded ops a.tmps) = true then Oper.wp P o a w K Q else E := by
  rw [if_pos hw]
  unfold Oper.wp
  have hf : a.eval (.func f) = .func (.func f) #[] #[] := rfl
  simp [execOp, hop, resolve, invoke, hf, hx, hy, hz, he, Deferred.ofValue]
  refine hC.mono ?_
  rintro e w' h
  obtain ⟨u, rfl, k⟩ := hK e w' h
  exact k

theorem step_call4 {P : Program} {ops : Array Oper} {o : Oper} {a : Act} (w : World) {K : Act → World → Prop} {Q : Exit → Act → World → Prop} {E : Prop}
    (hw : Region.wanted o (yielded ops a.tmps) = true) (f : Nat) (x y z p : Operand) (t t2 t3 t4 : TypeId) (hop : o.op = Op.call { callee := .value (.func f), args := #[x, y, z, p], argTypes := #[t, t2, t3, t4] })
    (he : ∀ args w, (callFunc f args).run P w = .ok (.enter f args) w) (v v2 v3 v4 : Value) (hx : a.eval x = v) (hy : a.eval y = v2) (hz : a.eval z = v3) (hp : a.eval p = v4) {R : Ending → World → Prop} (hC : Calls P f #[v, v2, v3, v4] w R)
    (hK : ∀ e w', R e w' → ∃ u, e = .returned u ∧ K (a.put o.dst u) w') :
    if Region.wanted o (yielded ops a.tmps) = true then Oper.wp P o a w K Q else E := by
  rw [if_pos hw]
  unfold Oper.wp
  have hf : a.eval (.func f) = .func (.func f) #[] #[] := rfl
  simp [execOp, hop, resolve, invoke, hf, hx, hy, hz, hp, he, Deferred.ofValue]
  refine hC.mono ?_
  rintro e w' h
  obtain ⟨u, rfl, k⟩ := hK e w' h
  exact k

/-- A state's nine values as a row. -/
def stL (s : St) (v6 v7 : Value) : List Value := [.string s.dfn, .string s.id, .string s.par, .string s.pnode, .int .i64 s.status, .string s.text, v6, v7, .int .i64 s.events]

theorem blk_at {w : World} {sb so : Nat} {T : TypeId} {pre l post : List Value} (h : w.heap[sb]? = some (.cells (pre ++ l ++ post).toArray T (0, 0))) (hso : pre.length = so) {j : Nat} {u : Value} (hu : l[j]? = some u) : w.cell? ⟨sb, so + j, none⟩ = some u ∧ w.frozen? ⟨sb, so + j, none⟩ = false := by
  have hj : j < l.length := (List.getElem?_eq_some_iff.1 hu).1
  subst hso
  unfold World.cell? World.frozen?
  rw [h]
  refine ⟨?_, by simp⟩
  simp only [List.getElem?_toArray]
  rw [List.append_assoc, List.getElem?_append_right (by omega), show pre.length + j - pre.length = j by omega, List.getElem?_append_left hj]
  exact hu

theorem blk_set {w : World} {sb so : Nat} {T : TypeId} {pre l post : List Value} (h : w.heap[sb]? = some (.cells (pre ++ l ++ post).toArray T (0, 0))) (hso : pre.length = so) {j : Nat} (hj : j < l.length) (v : Value) : (w.setCell ⟨sb, so + j, none⟩ v).heap[sb]? = some (.cells (pre ++ l.set j v ++ post).toArray T (0, 0)) := by
  subst hso
  have e : (pre ++ l ++ post).set (pre.length + j) v = pre ++ l.set j v ++ post := by
    rw [List.append_assoc, List.set_append_right _ _ (by omega), show pre.length + j - pre.length = j by omega, List.set_append_left _ _ hj, List.append_assoc]
  simp only [World.setCell, Array.getElem?_modify, h, if_true, Option.map_some]
  rw [List.setIfInBounds_toArray, e]
  rfl

theorem nineAt {w : World} {sb so : Nat} {T : TypeId} {pre post : List Value} {u0 u1 u2 u3 u4 u5 u6 u7 u8 : Value} (h : w.heap[sb]? = some (.cells (pre ++ [u0, u1, u2, u3, u4, u5, u6, u7, u8] ++ post).toArray T (0, 0))) (hso : pre.length = so) :
    (w.cell? ⟨sb, so, none⟩ = some u0 ∧ w.cell? ⟨sb, so + 1, none⟩ = some u1 ∧ w.cell? ⟨sb, so + 2, none⟩ = some u2 ∧ w.cell? ⟨sb, so + 3, none⟩ = some u3 ∧ w.cell? ⟨sb, so + 4, none⟩ = some u4 ∧ w.cell? ⟨sb, so + 5, none⟩ = some u5 ∧ w.cell? ⟨sb, so + 6, none⟩ = some u6 ∧ w.cell? ⟨sb, so + 7, none⟩ = some u7 ∧ w.cell? ⟨sb, so + 8, none⟩ = some u8) ∧
    (w.frozen? ⟨sb, so, none⟩ = false ∧ w.frozen? ⟨sb, so + 1, none⟩ = false ∧ w.frozen? ⟨sb, so + 2, none⟩ = false ∧ w.frozen? ⟨sb, so + 3, none⟩ = false ∧ w.frozen? ⟨sb, so + 4, none⟩ = false ∧ w.frozen? ⟨sb, so + 5, none⟩ = false ∧ w.frozen? ⟨sb, so + 6, none⟩ = false ∧ w.frozen? ⟨sb, so + 7, none⟩ = false ∧ w.frozen? ⟨sb, so + 8, none⟩ = false) :=
  ⟨⟨(blk_at h hso (j := 0) rfl).1, (blk_at h hso (j := 1) rfl).1, (blk_at h hso (j := 2) rfl).1, (blk_at h hso (j := 3) rfl).1, (blk_at h hso (j := 4) rfl).1, (blk_at h hso (j := 5) rfl).1, (blk_at h hso (j := 6) rfl).1, (blk_at h hso (j := 7) rfl).1, (blk_at h hso (j := 8) rfl).1⟩, (blk_at h hso (j := 0) rfl).2, (blk_at h hso (j := 1) rfl).2, (blk_at h hso (j := 2) rfl).2, (blk_at h hso (j := 3) rfl).2, (blk_at h hso (j := 4) rfl).2, (blk_at h hso (j := 5) rfl).2, (blk_at h hso (j := 6) rfl).2, (blk_at h hso (j := 7) rfl).2, (blk_at h hso (j := 8) rfl).2⟩

end Go.Proofs.YtfjekjbkifmpfaaDoor

/-
  Walk: a node is copied and put behind the others, as a region that draws its order.
-/
namespace Go.Proofs.YtfjekjbkifmpfaaDoor
open Go.RowKit

end Go.Proofs.YtfjekjbkifmpfaaDoor

/-
  receive: its region that draws its order.
-/
namespace Go.Proofs.YtfjekjbkifmpfaaDoor
open Go.RowKit

theorem FlatAt.tail {w : World} {sz n k b o c : Nat} {l : List Value} (F : FlatAt w sz (.slice (some ⟨b, o, none⟩) n c) n l) (hk : k ≤ n) : FlatAt w sz (.slice (some ⟨b, o + k * sz, none⟩) (n - k) (c - k)) (n - k) (l.drop (k * sz)) := by
  obtain ⟨h0, a', c', e, h1, h2, h3⟩ := F
  obtain ⟨rfl, rfl⟩ : some (⟨b, o, none⟩ : Addr) = a' ∧ c = c' := by simpa using e
  refine ⟨by rw [List.length_drop, h0, Nat.sub_mul], _, _, rfl, by omega, by omega, ?_⟩
  rcases h3 with h | ⟨b', o', e', hc⟩
  · exact .inl (by omega)
  · obtain ⟨rfl, rfl⟩ : b = b' ∧ o = o' := by simpa using e'
    refine .inr ⟨b, o + k * sz, rfl, fun j u hu => ?_⟩
    rw [List.getElem?_drop] at hu
    rw [Nat.add_assoc]
    exact hc _ u hu

theorem FlatAt.zero {w : World} {sz n k b o c : Nat} {l : List Value} (F : FlatAt w sz (.slice (some ⟨b, o, none⟩) n c) n l) (hk : n = k) : FlatAt w sz (.slice (some ⟨b, o, none⟩) (n - k) (c - k)) (n - k) (l.drop (k * sz)) := by
  obtain ⟨h0, a', c', e, h1, h2, h3⟩ := F
  obtain ⟨rfl, rfl⟩ : some (⟨b, o, none⟩ : Addr) = a' ∧ c = c' := by simpa using e
  exact ⟨by rw [List.length_drop, h0, Nat.sub_mul], _, _, rfl, by omega, by omega, .inl (by omega)⟩

set_option maxRecDepth 100000 in
set_option maxHeartbeats 8000000 in
theorem rc6 {W : World} {sb so g n c7 k : Nat} {xs : List Value} {ds : List Deferred} {u1 u2 u3 u4 u5 u6 u7 u8 u10 u11 u12 u13 u14 u15 u16 u17 u18 u19 u20 u21 u22 u23 u24 u25 u26 u27 u28 u29 u30 u31 u32 u33 u34 u35 u36 u37 u38 u39 u40 u41 u42 : Value} (K : Act → World → Prop)
    (x0 : W.cell? ⟨sb, so + 7, none⟩ = some (.slice (some ⟨g, 0, none⟩) n c7)) (xz : W.frozen? ⟨sb, so + 7, none⟩ = false) (hk : k < n) (hn : n ≤ 1000000) (hR : W.ownsRow 0 88 2 (.slice (some ⟨g, 0, none⟩) n c7) n xs) (h1 : ∀ u ∈ xs, u.oneCell' = true)
    (h : ∀ (v25 v26 v27 v28 v29 v30 v31 v32 v33 v34 v35 v36 v37 v38 v39 v40 v41 v42 : Value) (a4 : Option Addr) (c4 : Nat) (w4 : World), w4.ownsRow W.heap.size 88 2 (.slice a4 (n - 1) c4) (n - 1) (xs.take (k * 2) ++ xs.drop ((k + 1) * 2)) → Kept (fun _ => False) W w4 → K { tmps := #[.pointer (some ⟨sb, so, none⟩), u1, u2, u3, u4, u5, u6, u7, u8, .int .i64 (k : Nat), u10, u11, u12, u13, u14, u15, u16, u17, u18, u19, u20, u21, u22, u23, u24, v25, v26, v27, v28, v29, v30, v31, v32, v33, v34, v35, v36, v37, v38, v39, v40, v41, v42], defers := ds } (w4.setCell ⟨sb, so + 7, none⟩ (.slice a4 (n - 1) c4))) :
    (Code.region 6 #[{ dst := some 25, op := Op.move (Operand.tmp 0), type := 86, pos := "apply.go:122", after := #[], guard := none }, { dst := some 26, op := Op.move (Operand.tmp 0), type := 86, pos := "apply.go:122", after := #[], guard := none }, { dst := some 27, op := Op.nilCheck (Operand.tmp 26), type := 0, pos := "apply.go:122", after := #[{ on := 1, ground := Ground.data }], guard := none }, { dst := some 28, op := Op.fieldAddr 33 (Operand.tmp 27) 7, type := 0, pos := "apply.go:122", after := #[{ on := 2, ground := Ground.data }], guard := none }, { dst := some 29, op := Op.load 31 (Operand.tmp 28), type := 31, pos := "apply.go:122", after := #[{ on := 3, ground := Ground.data }], guard := none }, { dst := some 30, op := Op.move (Operand.tmp 9), type := 3, pos := "apply.go:122", after := #[], guard := none }, { dst := some 31, op := Op.slice 31 (Operand.tmp 29) none (some (Operand.tmp 30)) none, type := 31, pos := "apply.go:122", after := #[{ on := 4, ground := Ground.data }, { on := 5, ground := Ground.data }], guard := none }, { dst := some 32, op := Op.call { callee := Callee.value (Operand.func 51), args := #[Operand.tmp 31], argTypes := #[31] }, type := 31, pos := "apply.go:122", after := #[{ on := 6, ground := Ground.data }], guard := none }, { dst := some 33, op := Op.move (Operand.tmp 0), type := 86, pos := "apply.go:122", after := #[], guard := none }, { dst := some 34, op := Op.nilCheck (Operand.tmp 33), type := 0, pos := "apply.go:122", after := #[{ on := 8, ground := Ground.data }], guard := none }, { dst := some 35, op := Op.fieldAddr 33 (Operand.tmp 34) 7, type := 0, pos := "apply.go:122", after := #[{ on := 9, ground := Ground.data }], guard := none }, { dst := some 36, op := Op.load 31 (Operand.tmp 35), type := 31, pos := "apply.go:122", after := #[{ on := 10, ground := Ground.data }], guard := none }, { dst := some 37, op := Op.move (Operand.tmp 9), type := 3, pos := "apply.go:122", after := #[], guard := none }, { dst := some 38, op := Op.binOp BinOp.add 3 (Operand.tmp 37) (Operand.const (Value.int IntKind.i64 1)) 3, type := 3, pos := "apply.go:122", after := #[{ on := 12, ground := Ground.data }], guard := none }, { dst := some 39, op := Op.slice 31 (Operand.tmp 36) (some (Operand.tmp 38)) none none, type := 31, pos := "apply.go:122", after := #[{ on := 11, ground := Ground.data }, { on := 13, ground := Ground.data }], guard := none }, { dst := some 40, op := Op.call { callee := Callee.builtin Builtin.append, args := #[Operand.tmp 32, Operand.tmp 39], argTypes := #[31, 31] }, type := 31, pos := "apply.go:122", after := #[{ on := 7, ground := Ground.data }, { on := 14, ground := Ground.data }, { on := 7, ground := Ground.chain }], guard := none }, { dst := some 41, op := Op.nilCheck (Operand.tmp 25), type := 0, pos := "apply.go:122", after := #[{ on := 0, ground := Ground.data }, { on := 0, ground := Ground.phase }, { on := 1, ground := Ground.phase }, { on := 2, ground := Ground.phase }, { on := 3, ground := Ground.phase }, { on := 4, ground := Ground.phase }, { on := 5, ground := Ground.phase }, { on := 6, ground := Ground.phase }, { on := 7, ground := Ground.phase }, { on := 8, ground := Ground.phase }, { on := 9, ground := Ground.phase }, { on := 10, ground := Ground.phase }, { on := 11, ground := Ground.phase }, { on := 12, ground := Ground.phase }, { on := 13, ground := Ground.phase }, { on := 14, ground := Ground.phase }, { on := 15, ground := Ground.phase }], guard := none }, { dst := some 42, op := Op.fieldAddr 33 (Operand.tmp 41) 7, type := 0, pos := "apply.go:122", after := #[{ on := 16, ground := Ground.data }, { on := 0, ground := Ground.phase }, { on := 1, ground := Ground.phase }, { on := 2, ground := Ground.phase }, { on := 3, ground := Ground.phase }, { on := 4, ground := Ground.phase }, { on := 5, ground := Ground.phase }, { on := 6, ground := Ground.phase }, { on := 7, ground := Ground.phase }, { on := 8, ground := Ground.phase }, { on := 9, ground := Ground.phase }, { on := 10, ground := Ground.phase }, { on := 11, ground := Ground.phase }, { on := 12, ground := Ground.phase }, { on := 13, ground := Ground.phase }, { on := 14, ground := Ground.phase }, { on := 15, ground := Ground.phase }], guard := none }, { dst := none, op := Op.store 31 (Operand.tmp 42) (Operand.tmp 40), type := 0, pos := "apply.go:122", after := #[{ on := 17, ground := Ground.data }, { on := 15, ground := Ground.data }, { on := 15, ground := Ground.chain }, { on := 0, ground := Ground.phase }, { on := 1, ground := Ground.phase }, { on := 2, ground := Ground.phase }, { on := 3, ground := Ground.phase }, { on := 4, ground := Ground.phase }, { on := 5, ground := Ground.phase }, { on := 6, ground := Ground.phase }, { on := 7, ground := Ground.phase }, { on := 8, ground := Ground.phase }, { on := 9, ground := Ground.phase }, { on := 10, ground := Ground.phase }, { on := 11, ground := Ground.phase }, { on := 12, ground := Ground.phase }, { on := 13, ground := Ground.phase }, { on := 14, ground := Ground.phase }, { on := 15, ground := Ground.phase }], guard := none }] true).wp Tryd.prog (onlyN K) { tmps := #[.pointer (some ⟨sb, so, none⟩), u1, u2, u3, u4, u5, u6, u7, u8, .int .i64 (k : Nat), u10, u11, u12, u13, u14, u15, u16, u17, u18, u19, u20, u21, u22, u23, u24, u25, u26, u27, u28, u29, u30, u31, u32, u33, u34, u35, u36, u37, u38, u39, u40, u41, u42], defers := ds } W := by
  obtain ⟨j0, hj0, hy0, hy1, hy2⟩ := info_parts Tryd.info88
  have HH : Hid _ := h
  have HF : Hid (FlatAt W 2 (.slice (some ⟨g, 0, none⟩) n c7) n xs) := flat_of_owns hR
  have hcap : n ≤ c7 := by
    obtain ⟨_, a', c', he, hc, _, _⟩ := HF.out
    obtain ⟨_, rfl⟩ : some (⟨g, 0, none⟩ : Addr) = a' ∧ c7 = c' := by simpa using he
    exact hc
  have H1 : Hid (∀ u ∈ xs, u.oneCell' = true) := h1
  have H1a : Hid (∀ u ∈ xs.take (k * 2), u.oneCell' = true) := fun u hu => h1 u (List.mem_of_mem_take hu)
  have H1b : Hid (∀ u ∈ xs.drop ((k + 1) * 2), u.oneCell' = true) := fun u hu => h1 u (List.mem_of_mem_drop hu)
  have hk1 : k ≤ c7 := by omega
  have hk2 : k + 1 ≤ c7 := by omega
  have hk3 : k + 1 ≤ n := by omega
  clear h1
  have KD := Kept.drew (fun _ => False) W
  have HC : Hid (∀ V, Kept (fun _ => False) W.drew V → V.cell? ⟨sb, so + 7, none⟩ = some (.slice (some ⟨g, 0, none⟩) n c7) ∧ V.frozen? ⟨sb, so + 7, none⟩ = false) := fun V KV => by
    have hb := (KD.and KV).block sb (World.block_lt_of_cell? W _ x0) (fun h => h)
    exact ⟨(World.cell?_of_block (w := W) hb).trans x0, by rw [← xz]; unfold World.frozen?; rw [hb]⟩
  have HKD : Hid (Kept (fun _ => False) W W.drew) := KD
  have r0 : W.drew.cell? ⟨sb, so + 7, none⟩ = some (.slice (some ⟨g, 0, none⟩) n c7) := x0
  have e1 : (k : Int) < (n : Int) := by omega
  have e2 : (k : Int) + 1 ≤ (n : Int) := by omega
  have w1 : IntKind.i64.wrap (k : Int) = (k : Int) := by rw [IntKind.wrap_i64]; omega
  have w2 : IntKind.i64.wrap ((k : Int) + 1) = (k : Int) + 1 := by rw [IntKind.wrap_i64]; omega
  clear h KD x0 xz
  have e3 : (0 : Int) ≤ (k : Int) + 1 := by omega
  have hnk : k + (n - (k + 1)) = n - 1 := by omega
  by_cases hcc : c7 = k + 1
  · obtain rfl : n = k + 1 := by omega
    subst hcc
    have HTl : Hid (∀ V, Kept (fun _ => False) W V → Src V 2 (.slice (some ⟨g, 0, none⟩) 0 0) 0 (xs.drop ((k + 1) * 2))) := fun V KV => by
      have h := (HF.out.new KV).zero (k := k + 1) rfl
      rw [Nat.sub_self] at h
      exact h.src
    have e4 : (k : Int) ≤ (k : Int) + 1 := by omega
    simp only [Nat.sub_self, Nat.add_zero, Nat.add_sub_cancel] at *
    go_region_law
      (first
        | (refine step_call1 _ rfl 51 _ _ rfl (enters_of Tryd.func51 (by kernel_rfl) rfl) _ (by rfl) (copySg_any _ _ k _ ((HF.out.new HKD.out).take (Nat.le_of_lt hk)) H1a.out (by omega)) ?_; rintro e w5 ⟨a5, c5, rfl, o5, K5⟩; refine ⟨_, rfl, ?_⟩; obtain ⟨z0, z1⟩ := HC.out w5 K5; have HO5 : Hid (w5.ownsRow W.drew.heap.size 88 2 (.slice a5 k c5) k (xs.take (k * 2))) := o5; clear o5)
        | (refine step_append_sr _ (by rfl) _ _ 31 (by rfl) W.drew.heap.size 88 j0 _ 2 32 Tryd.underlying31 hj0 hy0 hy1 hy2 rfl (by decide) (.slice a5 k c5) k _ (by rfl) HO5.out _ (by rfl) 0 (xs.drop ((k + 1) * 2)) (HTl.out w5 (HKD.out.and K5)) H1b.out (by unfold maxLen; omega) (by omega) K5.size ?_; intro a4 c4 w4 ho4 hg4 _ hl4; have K4 : Kept (fun _ => False) W.drew w4 := K5.trans (Kept.grown (S := fun j => W.drew.heap.size ≤ j) hg4 (fun j e => (HO5.out.lt j e).1)) (fun _ h => .inr h); obtain ⟨y0, y1⟩ := HC.out w4 K4; skip)
        | fail)
    all_goals exact HH.out _ _ _ _ _ _ _ _ _ _ _ _ _ _ _ _ _ _ a4 c4 w4 ho4 (HKD.out.and K4)
  · have HTl : Hid (∀ V, Kept (fun _ => False) W V → Src V 2 (.slice (some ⟨g, (k + 1) * 2, none⟩) (n - (k + 1)) (c7 - (k + 1))) (n - (k + 1)) (xs.drop ((k + 1) * 2))) := fun V KV => by
      have h := (HF.out.new KV).tail (k := k + 1) hk3
      rw [Nat.zero_add] at h
      exact h.src
    go_region_law
      (first
        | (refine step_call1 _ rfl 51 _ _ rfl (enters_of Tryd.func51 (by kernel_rfl) rfl) _ (by rfl) (copySg_any _ _ k _ ((HF.out.new HKD.out).take (Nat.le_of_lt hk)) H1a.out (by omega)) ?_; rintro e w5 ⟨a5, c5, rfl, o5, K5⟩; refine ⟨_, rfl, ?_⟩; obtain ⟨z0, z1⟩ := HC.out w5 K5; have HO5 : Hid (w5.ownsRow W.drew.heap.size 88 2 (.slice a5 k c5) k (xs.take (k * 2))) := o5; clear o5)
        | (refine step_append_sr _ (by rfl) _ _ 31 (by rfl) W.drew.heap.size 88 j0 _ 2 32 Tryd.underlying31 hj0 hy0 hy1 hy2 rfl (by decide) (.slice a5 k c5) k _ (by rfl) HO5.out _ (by rfl) (n - (k + 1)) (xs.drop ((k + 1) * 2)) (HTl.out w5 (HKD.out.and K5)) H1b.out (by unfold maxLen; omega) (by omega) K5.size ?_; intro a4 c4 w4 ho4 hg4 _ hl4; have K4 : Kept (fun _ => False) W.drew w4 := K5.trans (Kept.grown (S := fun j => W.drew.heap.size ≤ j) hg4 (fun j e => (HO5.out.lt j e).1)) (fun _ h => .inr h); obtain ⟨y0, y1⟩ := HC.out w4 K4; rw [hnk] at ho4)
        | fail)
    all_goals exact HH.out _ _ _ _ _ _ _ _ _ _ _ _ _ _ _ _ _ _ a4 c4 w4 ho4 (HKD.out.and K4)

end Go.Proofs.YtfjekjbkifmpfaaDoor

/-
  Walk: the order and a copy of the nodes, kept for the function that tells them.
-/
namespace Go.Proofs.YtfjekjbkifmpfaaDoor
open Go.RowKit

end Go.Proofs.YtfjekjbkifmpfaaDoor

/-
  The function that Walk makes: it tells the nodes in order, each a copy.
-/
namespace Go.Proofs.YtfjekjbkifmpfaaDoor
open Go.RowKit Go.Shelf
attribute [local go_sem] Oper.semAt_some

/-- Nodes of memory are fine. -/
theorem NodesAt.fine {w : World} {a : Option Addr} {ns : List Nd} (C : NodesAt w a ns) : ∀ n ∈ ns, NdOk n ∧ ∀ s ∈ n.after, s.size ≤ maxLen := by
  intro n hn
  refine ⟨C.1 n hn, ?_⟩
  rcases C.2 with h | ⟨b, o, h, hc⟩
  · subst h; simp at hn
  · obtain ⟨i, hi, rfl⟩ := List.mem_iff_getElem.1 hn
    obtain ⟨v, ⟨_, _, _, _, _, _, h5⟩, _⟩ := hc i hi
    exact h5

end Go.Proofs.YtfjekjbkifmpfaaDoor

/-
  changeNode: its region in which a signal is received.
-/
namespace Go.Proofs.YtfjekjbkifmpfaaDoor
open Go.RowKit

set_option maxRecDepth 100000 in
set_option maxHeartbeats 8000000 in
theorem cn5 {W : World} {F : Nat → Prop} {R : World → Prop} {sb so db eb b o n c mb i : Nat} {arg : ByteArray} {ms ez : Int} {r : Bool} {ds : List Deferred} {u0 u2 u4 u6 u10 u11 u12 u13 u14 u15 u16 u17 u18 u19 u20 u21 u22 u23 u24 u25 u26 u27 u28 u29 u30 u31 u32 u33 u34 u35 u36 u37 u38 u39 u40 u41 u42 u43 u44 u45 u46 u47 u48 u49 u50 u51 u52 u53 u54 u55 u56 u57 u58 u59 u60 u61 u62 u63 u64 u65 u66 u67 u68 u69 u70 u71 u72 u73 u74 u75 u76 u77 u78 u79 u80 u81 u82 u83 u84 u85 u86 u87 u88 u89 u90 : Value} (K : Act → World → Prop)
    (x0 : W.cell? ⟨eb, 0, none⟩ = some (.int .i64 12)) (x1 : W.cell? ⟨db, 1, none⟩ = some (.slice (some ⟨b, o, none⟩) n c)) (x2 : W.cell? ⟨b, o + i * 7 + 2, none⟩ = some (.string arg)) (x3 : W.cell? ⟨mb, 2, none⟩ = some (.int .i64 ms)) (x4 : W.cell? ⟨eb, 3, none⟩ = some (.int .i64 ez)) (hi : i < n) (hn : n ≤ 1000000) (n0 : ¬ F eb) (n1 : ¬ F db) (n2 : ¬ F b) (n3 : ¬ F mb)
    (hC : Calls Tryd.prog 72 #[.pointer (some ⟨sb, so, none⟩), .string arg, .int .i64 ms, .int .i64 ez] W.drew fun e w' => e = .returned (.bool r) ∧ R w') (hR : ∀ V, R V → Kept F W.drew V)
    (h : ∀ (v43 v44 v45 v46 v47 v48 v49 v50 v51 v52 v53 v54 v55 v56 v57 v58 v59 v60 v61 v62 v63 : Value) (w5 : World), R w5 → K { tmps := #[u0, .pointer (some ⟨sb, so, none⟩), u2, .pointer (some ⟨db, 0, none⟩), u4, .pointer (some ⟨eb, 0, none⟩), u6, .int .i64 (i : Nat), .bool true, .pointer (some ⟨mb, 0, none⟩), u10, u11, u12, u13, u14, u15, u16, u17, u18, u19, u20, u21, u22, u23, u24, u25, u26, u27, u28, u29, u30, u31, u32, u33, u34, u35, u36, u37, u38, u39, u40, u41, u42, v43, v44, v45, v46, v47, v48, v49, v50, v51, v52, v53, v54, v55, v56, v57, v58, v59, v60, v61, v62, v63, .bool (!r), u65, u66, u67, u68, u69, u70, u71, u72, u73, u74, u75, u76, u77, u78, u79, u80, u81, u82, u83, u84, u85, u86, u87, u88, u89, u90], defers := ds } w5) :
    (Code.region 5 #[{ dst := some 43, op := Op.move (Operand.tmp 8), type := 4, pos := "apply.go:83", after := #[], guard := none }, { dst := some 44, op := Op.unOp UnOp.not 4 (Operand.tmp 43), type := 4, pos := "apply.go:83", after := #[{ on := 0, ground := Ground.data }], guard := none }, { dst := some 45, op := Op.move (Operand.tmp 44), type := 4, pos := "apply.go:83", after := #[{ on := 1, ground := Ground.data }], guard := none }, { dst := some 46, op := Op.fieldAddr 51 (Operand.tmp 5) 0, type := 0, pos := "apply.go:83", after := #[{ on := 2, ground := Ground.guard }], guard := some (2, false) }, { dst := some 47, op := Op.load 3 (Operand.tmp 46), type := 3, pos := "apply.go:83", after := #[{ on := 3, ground := Ground.data }, { on := 2, ground := Ground.guard }], guard := some (2, false) }, { dst := some 48, op := Op.binOp BinOp.eql 3 (Operand.tmp 47) (Operand.const (Value.int IntKind.i64 12)) 3, type := 4, pos := "apply.go:83", after := #[{ on := 4, ground := Ground.data }, { on := 2, ground := Ground.guard }], guard := some (2, false) }, { dst := some 49, op := Op.move (Operand.tmp 48), type := 4, pos := "apply.go:83", after := #[{ on := 5, ground := Ground.data }, { on := 2, ground := Ground.chain }, { on := 2, ground := Ground.guard }], guard := some (2, false) }, { dst := some 50, op := Op.move (Operand.tmp 1), type := 86, pos := "apply.go:83", after := #[{ on := 6, ground := Ground.guard }], guard := some (6, true) }, { dst := some 51, op := Op.fieldAddr 24 (Operand.tmp 3) 1, type := 0, pos := "apply.go:83", after := #[{ on := 6, ground := Ground.guard }], guard := some (6, true) }, { dst := some 52, op := Op.load 22 (Operand.tmp 51), type := 22, pos := "apply.go:83", after := #[{ on := 8, ground := Ground.data }, { on := 6, ground := Ground.guard }], guard := some (6, true) }, { dst := some 53, op := Op.move (Operand.tmp 7), type := 3, pos := "apply.go:83", after := #[{ on := 6, ground := Ground.guard }], guard := some (6, true) }, { dst := some 54, op := Op.indexAddr 22 (Operand.tmp 52) (Operand.tmp 53), type := 0, pos := "apply.go:83", after := #[{ on := 9, ground := Ground.data }, { on := 10, ground := Ground.data }, { on := 6, ground := Ground.guard }], guard := some (6, true) }, { dst := some 55, op := Op.fieldAddr 64 (Operand.tmp 54) 2, type := 0, pos := "apply.go:83", after := #[{ on := 11, ground := Ground.data }, { on := 6, ground := Ground.guard }], guard := some (6, true) }, { dst := some 56, op := Op.load 9 (Operand.tmp 55), type := 9, pos := "apply.go:83", after := #[{ on := 12, ground := Ground.data }, { on := 6, ground := Ground.guard }], guard := some (6, true) }, { dst := some 57, op := Op.fieldAddr 116 (Operand.tmp 9) 2, type := 0, pos := "apply.go:83", after := #[{ on := 6, ground := Ground.guard }], guard := some (6, true) }, { dst := some 58, op := Op.load 3 (Operand.tmp 57), type := 3, pos := "apply.go:83", after := #[{ on := 14, ground := Ground.data }, { on := 6, ground := Ground.guard }], guard := some (6, true) }, { dst := some 59, op := Op.fieldAddr 51 (Operand.tmp 5) 3, type := 0, pos := "apply.go:83", after := #[{ on := 6, ground := Ground.guard }], guard := some (6, true) }, { dst := some 60, op := Op.load 3 (Operand.tmp 59), type := 3, pos := "apply.go:83", after := #[{ on := 16, ground := Ground.data }, { on := 6, ground := Ground.guard }], guard := some (6, true) }, { dst := some 61, op := Op.call { callee := Callee.value (Operand.func 72), args := #[Operand.tmp 50, Operand.tmp 56, Operand.tmp 58, Operand.tmp 60], argTypes := #[86, 9, 3, 3] }, type := 4, pos := "apply.go:83", after := #[{ on := 7, ground := Ground.data }, { on := 13, ground := Ground.data }, { on := 15, ground := Ground.data }, { on := 17, ground := Ground.data }, { on := 6, ground := Ground.chain }, { on := 6, ground := Ground.guard }], guard := some (6, true) }, { dst := some 62, op := Op.unOp UnOp.not 4 (Operand.tmp 61), type := 4, pos := "apply.go:83", after := #[{ on := 18, ground := Ground.data }, { on := 6, ground := Ground.guard }], guard := some (6, true) }, { dst := some 63, op := Op.pick (Operand.tmp 49) (Operand.tmp 62) (Operand.const (Value.bool false)), type := 4, pos := "apply.go:83", after := #[{ on := 6, ground := Ground.data }, { on := 19, ground := Ground.data }, { on := 2, ground := Ground.guard }], guard := some (2, false) }, { dst := some 64, op := Op.pick (Operand.tmp 45) (Operand.const (Value.bool true)) (Operand.tmp 63), type := 4, pos := "apply.go:83", after := #[{ on := 2, ground := Ground.data }, { on := 20, ground := Ground.data }], guard := none }] true).wp Tryd.prog (onlyN K) { tmps := #[u0, .pointer (some ⟨sb, so, none⟩), u2, .pointer (some ⟨db, 0, none⟩), u4, .pointer (some ⟨eb, 0, none⟩), u6, .int .i64 (i : Nat), .bool true, .pointer (some ⟨mb, 0, none⟩), u10, u11, u12, u13, u14, u15, u16, u17, u18, u19, u20, u21, u22, u23, u24, u25, u26, u27, u28, u29, u30, u31, u32, u33, u34, u35, u36, u37, u38, u39, u40, u41, u42, u43, u44, u45, u46, u47, u48, u49, u50, u51, u52, u53, u54, u55, u56, u57, u58, u59, u60, u61, u62, u63, u64, u65, u66, u67, u68, u69, u70, u71, u72, u73, u74, u75, u76, u77, u78, u79, u80, u81, u82, u83, u84, u85, u86, u87, u88, u89, u90], defers := ds } W := by
  have HH : Hid _ := h
  have HR : Hid (∀ V, R V → Kept F W.drew V) := hR
  have KD := Kept.drew F W
  have hh : ∀ {V : World} {k q : Nat} {v : Value}, Kept F W V → W.cell? ⟨q, k, none⟩ = some v → ¬ F q → V.cell? ⟨q, k, none⟩ = some v := fun {V k q v} KV hc hne => by
    rw [World.cell?_of_block (w := W) (KV.block _ (World.block_lt_of_cell? W _ hc) hne)]
    exact hc
  have HS : Hid (∀ V, Kept F W.drew V → V.cell? ⟨eb, 0, none⟩ = some (.int .i64 12) ∧ V.cell? ⟨db, 1, none⟩ = some (.slice (some ⟨b, o, none⟩) n c) ∧ V.cell? ⟨b, o + i * 7 + 2, none⟩ = some (.string arg) ∧ V.cell? ⟨mb, 2, none⟩ = some (.int .i64 ms) ∧ V.cell? ⟨eb, 3, none⟩ = some (.int .i64 ez)) := fun V KV => ⟨hh (KD.and KV) x0 n0, hh (KD.and KV) x1 n1, hh (KD.and KV) x2 n2, hh (KD.and KV) x3 n3, hh (KD.and KV) x4 n0⟩
  have hS0 := HS.out W.drew (Kept.refl _ _)
  have e1 : (i : Int) < (n : Int) := by omega
  have w1 : IntKind.i64.wrap (i : Int) = (i : Int) := by rw [IntKind.wrap_i64]; omega
  clear h hR KD hh x0 x1 x2 x3 x4 n0 n1 n2 n3
  refine wp_region_held_drew (S := fun V => V.cell? ⟨eb, 0, none⟩ = some (.int .i64 12) ∧ V.cell? ⟨db, 1, none⟩ = some (.slice (some ⟨b, o, none⟩) n c) ∧ V.cell? ⟨b, o + i * 7 + 2, none⟩ = some (.string arg) ∧ V.cell? ⟨mb, 2, none⟩ = some (.int .i64 ms) ∧ V.cell? ⟨eb, 3, none⟩ = some (.int .i64 ez)) (by kernel_rfl) hS0 (fun _ => ?_)
  refine wpAnyH_take (i := 0) (oi := { dst := some 43, op := Op.move (Operand.tmp 8), type := 4, pos := "apply.go:83", after := #[], guard := none }) (v := ?vv1) rfl (by kernel_rfl) (by kernel_rfl) (by kernel_rfl) (fun _ _ _ h => h) (Or.inl ⟨by rfl, ?hy1⟩) hS0 ?rest1
  case hy1 =>
    intro V hV
    obtain ⟨y0, y1, y2, y3, y4⟩ := hV
    go_simp
    all_goals rfl
  simp only [Act.put, List.setIfInBounds_toArray, List.set_cons_zero, List.set_cons_succ]
  refine wpAnyH_take (i := 1) (oi := { dst := some 44, op := Op.unOp UnOp.not 4 (Operand.tmp 43), type := 4, pos := "apply.go:83", after := #[{ on := 0, ground := Ground.data }], guard := none }) (v := ?vv2) rfl (by kernel_rfl) (by kernel_rfl) (by kernel_rfl) (fun _ _ _ h => h) (Or.inl ⟨by rfl, ?hy2⟩) hS0 ?rest2
  case hy2 =>
    intro V hV
    obtain ⟨y0, y1, y2, y3, y4⟩ := hV
    go_simp
    all_goals rfl
  simp only [Act.put, List.setIfInBounds_toArray, List.set_cons_zero, List.set_cons_succ]
  refine wpAnyH_take (i := 2) (oi := { dst := some 45, op := Op.move (Operand.tmp 44), type := 4, pos := "apply.go:83", after := #[{ on := 1, ground := Ground.data }], guard := none }) (v := ?vv3) rfl (by kernel_rfl) (by kernel_rfl) (by kernel_rfl) (fun _ _ _ h => h) (Or.inl ⟨by rfl, ?hy3⟩) hS0 ?rest3
  case hy3 =>
    intro V hV
    obtain ⟨y0, y1, y2, y3, y4⟩ := hV
    go_simp
    all_goals rfl
  simp only [Act.put, List.setIfInBounds_toArray, List.set_cons_zero, List.set_cons_succ]
  refine wpAnyH_take (i := 3) (oi := { dst := some 46, op := Op.fieldAddr 51 (Operand.tmp 5) 0, type := 0, pos := "apply.go:83", after := #[{ on := 2, ground := Ground.guard }], guard := some (2, false) }) (v := ?vv4) rfl (by kernel_rfl) (by kernel_rfl) (by kernel_rfl) (fun _ _ _ h => h) (Or.inl ⟨by rfl, ?hy4⟩) hS0 ?rest4
  case hy4 =>
    intro V hV
    obtain ⟨y0, y1, y2, y3, y4⟩ := hV
    go_simp
    all_goals rfl
  simp only [Act.put, List.setIfInBounds_toArray, List.set_cons_zero, List.set_cons_succ]
  refine wpAnyH_take (i := 4) (oi := { dst := some 47, op := Op.load 3 (Operand.tmp 46), type := 3, pos := "apply.go:83", after := #[{ on := 3, ground := Ground.data }, { on := 2, ground := Ground.guard }], guard := some (2, false) }) (v := ?vv5) rfl (by kernel_rfl) (by kernel_rfl) (by kernel_rfl) (fun _ _ _ h => h) (Or.inl ⟨by rfl, ?hy5⟩) hS0 ?rest5
  case hy5 =>
    intro V hV
    obtain ⟨y0, y1, y2, y3, y4⟩ := hV
    go_simp
    all_goals rfl
  simp only [Act.put, List.setIfInBounds_toArray, List.set_cons_zero, List.set_cons_succ]
  refine wpAnyH_take (i := 5) (oi := { dst := some 48, op := Op.binOp BinOp.eql 3 (Operand.tmp 47) (Operand.const (Value.int IntKind.i64 12)) 3, type := 4, pos := "apply.go:83", after := #[{ on := 4, ground := Ground.data }, { on := 2, ground := Ground.guard }], guard := some (2, false) }) (v := ?vv6) rfl (by kernel_rfl) (by kernel_rfl) (by kernel_rfl) (fun _ _ _ h => h) (Or.inl ⟨by rfl, ?hy6⟩) hS0 ?rest6
  case hy6 =>
    intro V hV
    obtain ⟨y0, y1, y2, y3, y4⟩ := hV
    go_simp
    all_goals rfl
  simp only [Act.put, List.setIfInBounds_toArray, List.set_cons_zero, List.set_cons_succ]
  refine wpAnyH_take (i := 6) (oi := { dst := some 49, op := Op.move (Operand.tmp 48), type := 4, pos := "apply.go:83", after := #[{ on := 5, ground := Ground.data }, { on := 2, ground := Ground.chain }, { on := 2, ground := Ground.guard }], guard := some (2, false) }) (v := ?vv7) rfl (by kernel_rfl) (by kernel_rfl) (by kernel_rfl) (fun _ _ _ h => h) (Or.inl ⟨by rfl, ?hy7⟩) hS0 ?rest7
  case hy7 =>
    intro V hV
    obtain ⟨y0, y1, y2, y3, y4⟩ := hV
    go_simp
    all_goals rfl
  simp only [Act.put, List.setIfInBounds_toArray, List.set_cons_zero, List.set_cons_succ]
  refine wpAnyH_take (i := 7) (oi := { dst := some 50, op := Op.move (Operand.tmp 1), type := 86, pos := "apply.go:83", after := #[{ on := 6, ground := Ground.guard }], guard := some (6, true) }) (v := ?vv8) rfl (by kernel_rfl) (by kernel_rfl) (by kernel_rfl) (fun _ _ _ h => h) (Or.inl ⟨by rfl, ?hy8⟩) hS0 ?rest8
  case hy8 =>
    intro V hV
    obtain ⟨y0, y1, y2, y3, y4⟩ := hV
    go_simp
    all_goals rfl
  simp only [Act.put, List.setIfInBounds_toArray, List.set_cons_zero, List.set_cons_succ]
  refine wpAnyH_take (i := 8) (oi := { dst := some 51, op := Op.fieldAddr 24 (Operand.tmp 3) 1, type := 0, pos := "apply.go:83", after := #[{ on := 6, ground := Ground.guard }], guard := some (6, true) }) (v := ?vv9) rfl (by kernel_rfl) (by kernel_rfl) (by kernel_rfl) (fun _ _ _ h => h) (Or.inl ⟨by rfl, ?hy9⟩) hS0 ?rest9
  case hy9 =>
    intro V hV
    obtain ⟨y0, y1, y2, y3, y4⟩ := hV
    go_simp
    all_goals rfl
  simp only [Act.put, List.setIfInBounds_toArray, List.set_cons_zero, List.set_cons_succ]
  refine wpAnyH_take (i := 9) (oi := { dst := some 52, op := Op.load 22 (Operand.tmp 51), type := 22, pos := "apply.go:83", after := #[{ on := 8, ground := Ground.data }, { on := 6, ground := Ground.guard }], guard := some (6, true) }) (v := ?vv10) rfl (by kernel_rfl) (by kernel_rfl) (by kernel_rfl) (fun _ _ _ h => h) (Or.inl ⟨by rfl, ?hy10⟩) hS0 ?rest10
  case hy10 =>
    intro V hV
    obtain ⟨y0, y1, y2, y3, y4⟩ := hV
    go_simp
    all_goals rfl
  simp only [Act.put, List.setIfInBounds_toArray, List.set_cons_zero, List.set_cons_succ]
  refine wpAnyH_take (i := 10) (oi := { dst := some 53, op := Op.move (Operand.tmp 7), type := 3, pos := "apply.go:83", after := #[{ on := 6, ground := Ground.guard }], guard := some (6, true) }) (v := ?vv11) rfl (by kernel_rfl) (by kernel_rfl) (by kernel_rfl) (fun _ _ _ h => h) (Or.inl ⟨by rfl, ?hy11⟩) hS0 ?rest11
  case hy11 =>
    intro V hV
    obtain ⟨y0, y1, y2, y3, y4⟩ := hV
    go_simp
    all_goals rfl
  simp only [Act.put, List.setIfInBounds_toArray, List.set_cons_zero, List.set_cons_succ]
  refine wpAnyH_take (i := 11) (oi := { dst := some 54, op := Op.indexAddr 22 (Operand.tmp 52) (Operand.tmp 53), type := 0, pos := "apply.go:83", after := #[{ on := 9, ground := Ground.data }, { on := 10, ground := Ground.data }, { on := 6, ground := Ground.guard }], guard := some (6, true) }) (v := ?vv12) rfl (by kernel_rfl) (by kernel_rfl) (by kernel_rfl) (fun _ _ _ h => h) (Or.inl ⟨by rfl, ?hy12⟩) hS0 ?rest12
  case hy12 =>
    intro V hV
    obtain ⟨y0, y1, y2, y3, y4⟩ := hV
    go_simp
    all_goals rfl
  simp only [Act.put, List.setIfInBounds_toArray, List.set_cons_zero, List.set_cons_succ]
  refine wpAnyH_take (i := 12) (oi := { dst := some 55, op := Op.fieldAddr 64 (Operand.tmp 54) 2, type := 0, pos := "apply.go:83", after := #[{ on := 11, ground := Ground.data }, { on := 6, ground := Ground.guard }], guard := some (6, true) }) (v := ?vv13) rfl (by kernel_rfl) (by kernel_rfl) (by kernel_rfl) (fun _ _ _ h => h) (Or.inl ⟨by rfl, ?hy13⟩) hS0 ?rest13
  case hy13 =>
    intro V hV
    obtain ⟨y0, y1, y2, y3, y4⟩ := hV
    go_simp
    all_goals rfl
  simp only [Act.put, List.setIfInBounds_toArray, List.set_cons_zero, List.set_cons_succ]
  refine wpAnyH_take (i := 13) (oi := { dst := some 56, op := Op.load 9 (Operand.tmp 55), type := 9, pos := "apply.go:83", after := #[{ on := 12, ground := Ground.data }, { on := 6, ground := Ground.guard }], guard := some (6, true) }) (v := ?vv14) rfl (by kernel_rfl) (by kernel_rfl) (by kernel_rfl) (fun _ _ _ h => h) (Or.inl ⟨by rfl, ?hy14⟩) hS0 ?rest14
  case hy14 =>
    intro V hV
    obtain ⟨y0, y1, y2, y3, y4⟩ := hV
    go_simp
    all_goals rfl
  simp only [Act.put, List.setIfInBounds_toArray, List.set_cons_zero, List.set_cons_succ]
  refine wpAnyH_take (i := 14) (oi := { dst := some 57, op := Op.fieldAddr 116 (Operand.tmp 9) 2, type := 0, pos := "apply.go:83", after := #[{ on := 6, ground := Ground.guard }], guard := some (6, true) }) (v := ?vv15) rfl (by kernel_rfl) (by kernel_rfl) (by kernel_rfl) (fun _ _ _ h => h) (Or.inl ⟨by rfl, ?hy15⟩) hS0 ?rest15
  case hy15 =>
    intro V hV
    obtain ⟨y0, y1, y2, y3, y4⟩ := hV
    go_simp
    all_goals rfl
  simp only [Act.put, List.setIfInBounds_toArray, List.set_cons_zero, List.set_cons_succ]
  refine wpAnyH_take (i := 15) (oi := { dst := some 58, op := Op.load 3 (Operand.tmp 57), type := 3, pos := "apply.go:83", after := #[{ on := 14, ground := Ground.data }, { on := 6, ground := Ground.guard }], guard := some (6, true) }) (v := ?vv16) rfl (by kernel_rfl) (by kernel_rfl) (by kernel_rfl) (fun _ _ _ h => h) (Or.inl ⟨by rfl, ?hy16⟩) hS0 ?rest16
  case hy16 =>
    intro V hV
    obtain ⟨y0, y1, y2, y3, y4⟩ := hV
    go_simp
    all_goals rfl
  simp only [Act.put, List.setIfInBounds_toArray, List.set_cons_zero, List.set_cons_succ]
  refine wpAnyH_take (i := 16) (oi := { dst := some 59, op := Op.fieldAddr 51 (Operand.tmp 5) 3, type := 0, pos := "apply.go:83", after := #[{ on := 6, ground := Ground.guard }], guard := some (6, true) }) (v := ?vv17) rfl (by kernel_rfl) (by kernel_rfl) (by kernel_rfl) (fun _ _ _ h => h) (Or.inl ⟨by rfl, ?hy17⟩) hS0 ?rest17
  case hy17 =>
    intro V hV
    obtain ⟨y0, y1, y2, y3, y4⟩ := hV
    go_simp
    all_goals rfl
  simp only [Act.put, List.setIfInBounds_toArray, List.set_cons_zero, List.set_cons_succ]
  refine wpAnyH_take (i := 17) (oi := { dst := some 60, op := Op.load 3 (Operand.tmp 59), type := 3, pos := "apply.go:83", after := #[{ on := 16, ground := Ground.data }, { on := 6, ground := Ground.guard }], guard := some (6, true) }) (v := ?vv18) rfl (by kernel_rfl) (by kernel_rfl) (by kernel_rfl) (fun _ _ _ h => h) (Or.inl ⟨by rfl, ?hy18⟩) hS0 ?rest18
  case hy18 =>
    intro V hV
    obtain ⟨y0, y1, y2, y3, y4⟩ := hV
    go_simp
    all_goals rfl
  simp only [Act.put, List.setIfInBounds_toArray, List.set_cons_zero, List.set_cons_succ]
  refine wpAnyH_ready (rs := [18]) (by kernel_rfl) (by simp) (AllReadyH.cons (o := { dst := some 61, op := Op.call { callee := Callee.value (Operand.func 72), args := #[Operand.tmp 50, Operand.tmp 56, Operand.tmp 58, Operand.tmp 60], argTypes := #[86, 9, 3, 3] }, type := 4, pos := "apply.go:83", after := #[{ on := 7, ground := Ground.data }, { on := 13, ground := Ground.data }, { on := 15, ground := Ground.data }, { on := 17, ground := Ground.data }, { on := 6, ground := Ground.chain }, { on := 6, ground := Ground.guard }], guard := some (6, true) }) rfl (fun K' hK => ?_) AllReadyH.nil)
  refine step_call4 _ (by rfl) 72 _ _ _ _ _ _ _ _ (by rfl) (enters_of Tryd.func72 (by kernel_rfl) rfl) _ _ _ _ (by rfl) (by rfl) (by rfl) (by rfl) hC ?_
  rintro e w5 ⟨rfl, R5⟩
  refine ⟨_, rfl, ?_⟩
  refine hK.out _ _ (HS.out _ (HR.out _ R5)) (fun _ => ?_)
  clear hK K'
  try (simp only [Act.put, List.setIfInBounds_toArray, List.set_cons_zero, List.set_cons_succ])
  refine wpAnyH_take (i := 19) (oi := { dst := some 62, op := Op.unOp UnOp.not 4 (Operand.tmp 61), type := 4, pos := "apply.go:83", after := #[{ on := 18, ground := Ground.data }, { on := 6, ground := Ground.guard }], guard := some (6, true) }) (v := ?vv19) rfl (by kernel_rfl) (by kernel_rfl) (by kernel_rfl) (fun _ _ _ h => h) (Or.inl ⟨by rfl, ?hy19⟩) (HS.out _ (HR.out _ R5)) ?rest19
  case hy19 =>
    intro V hV
    obtain ⟨y0, y1, y2, y3, y4⟩ := hV
    go_simp
    all_goals rfl
  simp only [Act.put, List.setIfInBounds_toArray, List.set_cons_zero, List.set_cons_succ]
  refine wpAnyH_take (i := 20) (oi := { dst := some 63, op := Op.pick (Operand.tmp 49) (Operand.tmp 62) (Operand.const (Value.bool false)), type := 4, pos := "apply.go:83", after := #[{ on := 6, ground := Ground.data }, { on := 19, ground := Ground.data }, { on := 2, ground := Ground.guard }], guard := some (2, false) }) (v := ?vv20) rfl (by kernel_rfl) (by kernel_rfl) (by kernel_rfl) (fun _ _ _ h => h) (Or.inl ⟨by rfl, ?hy20⟩) (HS.out _ (HR.out _ R5)) ?rest20
  case hy20 =>
    intro V hV
    obtain ⟨y0, y1, y2, y3, y4⟩ := hV
    go_simp
    all_goals rfl
  simp only [Act.put, List.setIfInBounds_toArray, List.set_cons_zero, List.set_cons_succ]
  refine wpAnyH_take (i := 21) (oi := { dst := some 64, op := Op.pick (Operand.tmp 45) (Operand.const (Value.bool true)) (Operand.tmp 63), type := 4, pos := "apply.go:83", after := #[{ on := 2, ground := Ground.data }, { on := 20, ground := Ground.data }], guard := none }) (v := ?vv21) rfl (by kernel_rfl) (by kernel_rfl) (by kernel_rfl) (fun _ _ _ h => h) (Or.inl ⟨by rfl, ?hy21⟩) (HS.out _ (HR.out _ R5)) ?rest21
  case hy21 =>
    intro V hV
    obtain ⟨y0, y1, y2, y3, y4⟩ := hV
    go_simp
    all_goals rfl
  simp only [Act.put, List.setIfInBounds_toArray, List.set_cons_zero, List.set_cons_succ]
  refine wpAnyH_done (by kernel_rfl) ?_ _
  exact HH.out _ _ _ _ _ _ _ _ _ _ _ _ _ _ _ _ _ _ _ _ _ w5 R5

end Go.Proofs.YtfjekjbkifmpfaaDoor

/-
  A state in memory, within a block; receive.
-/
namespace Go.Proofs.YtfjekjbkifmpfaaDoor
open Go.RowKit

/-- A state that lies in block sb from cell so on (pre ahead of it, post behind it); F has its blocks. -/
structure StIn (w : World) (F : Nat → Prop) (sb so : Nat) (T : TypeId) (pre post : List Value) (s : St) (v6 v7 : Value) : Prop where
  blk : w.heap[sb]? = some (.cells (pre ++ stL s v6 v7 ++ post).toArray T (0, 0))
  off : pre.length = so
  nodes : w.ownsRow 0 61 3 v6 s.nodes.length (nsF s.nodes)
  sigs : w.ownsRow 0 88 2 v7 s.sigs.length (sgF s.sigs)
  inS : F sb
  in6 : ∀ g, v6.ownBlock = some g → F g ∧ g ≠ sb
  in7 : ∀ g, v7.ownBlock = some g → F g ∧ g ≠ sb
  top : ∀ g, F g → g < w.heap.size

theorem StIn.new {w w' : World} {F : Nat → Prop} {sb so : Nat} {T : TypeId} {pre post : List Value} {s : St} {v6 v7 : Value} (S : StIn w F sb so T pre post s v6 v7) (K : Kept (fun _ => False) w w') : StIn w' F sb so T pre post s v6 v7 :=
  ⟨(K.block _ (Array.getElem?_eq_some_iff.1 S.blk).1 (fun h => h)).trans S.blk, S.off, ownsRow_keep S.nodes (fun g hg => K.block g (ownsRow_blk S.nodes hg) (fun h => h)), ownsRow_keep S.sigs (fun g hg => K.block g (ownsRow_blk S.sigs hg) (fun h => h)), S.inS, S.in6, S.in7, fun g h => Nat.lt_of_lt_of_le (S.top g h) K.size⟩

theorem StIn.rd {w : World} {F : Nat → Prop} {sb so : Nat} {T : TypeId} {pre post : List Value} {s : St} {v6 v7 : Value} (S : StIn w F sb so T pre post s v6 v7) (h6 : s.nodes.length ≤ 1000000) (h7 : s.sigs.length ≤ 1000000) : StRd w s v6 v7 := ⟨flat_of_owns S.nodes, flat_of_owns S.sigs, h6, h7⟩

theorem StIn.lt {w : World} {F : Nat → Prop} {sb so : Nat} {T : TypeId} {pre post : List Value} {s : St} {v6 v7 : Value} (S : StIn w F sb so T pre post s v6 v7) : sb < w.heap.size := (Array.getElem?_eq_some_iff.1 S.blk).1

/-- What a call leaves of a state that it may change: the state, and all else. -/
def Goes (w : World) (F : Nat → Prop) (sb so : Nat) (T : TypeId) (pre post : List Value) (s : St) (w' : World) : Prop :=
  (∃ F' v6 v7, StIn w' F' sb so T pre post s v6 v7 ∧ ∀ g, F' g → F g ∨ w.heap.size ≤ g) ∧ Kept F w w'

def RcvPost (w : World) (F : Nat → Prop) (sb so : Nat) (T : TypeId) (pre post : List Value) (s : St) (r : Option (List Sg)) (e : Ending) (w' : World) : Prop :=
  e = .returned (.bool r.isSome) ∧ match r with
    | none => Kept (fun _ => False) w w'
    | some l => Goes w F sb so T pre post { s with sigs := l } w'

theorem erase_flat (l : List Sg) (k : Nat) : (sgF l).take (k * 2) ++ (sgF l).drop ((k + 1) * 2) = sgF (l.eraseIdx k) := by
  have h : ∀ (l : List Sg) (k : Nat), (sgF l).take (k * 2) = sgF (l.take k) ∧ (sgF l).drop (k * 2) = sgF (l.drop k) := by
    intro l
    induction l with
    | nil => intro k; simp [sgF]
    | cons x t ih =>
      intro k
      cases k with
      | zero => simp [sgF]
      | succ k =>
        have e : sgF (x :: t) = sgC x ++ sgF t := rfl
        have e2 : (k + 1) * 2 = (sgC x).length + k * 2 := by rw [sgC_len]; omega
        rw [e, e2, List.take_length_add_append, List.drop_length_add_append, (ih k).1, (ih k).2]
        exact ⟨rfl, rfl⟩
  rw [(h l k).1, (h l (k + 1)).2, List.eraseIdx_eq_take_drop_succ]
  unfold sgF
  rw [List.flatMap_append]

set_option maxRecDepth 100000 in
set_option maxHeartbeats 4000000 in
theorem receive_any (w : World) (F : Nat → Prop) (sb so : Nat) (T : TypeId) (pre post : List Value) (s : St) (v6 v7 : Value) (S : StIn w F sb so T pre post s v6 v7) (h6 : s.nodes.length ≤ 1000000) (h7 : s.sigs.length ≤ 1000000) (x : ByteArray) (st nb : Int) :
    Calls Tryd.prog 72 #[.pointer (some ⟨sb, so, none⟩), .string x, .int .i64 st, .int .i64 nb] w (RcvPost w F sb so T pre post s (receiveP s.sigs x st nb)) := by
  have HS : Hid (StIn w F sb so T pre post s v6 v7) := S
  by_cases hst : st = 2
  · have e1 : (st == 2) = true := by simp [hst]
    have hr : receiveP s.sigs x st nb = if nb = 0 then some s.sigs else none := by unfold receiveP; rw [if_pos hst]
    rw [hr]
    clear hst hr S
    by_cases hnb : nb = 0
    · have e2 : (nb == 0) = true := by simp [hnb]
      rw [if_pos hnb]
      clear hnb
      go_enter Tryd.func72, Tryd.ntmps72
      go_wp2_with fail
      go_ret
      exact ⟨rfl, ⟨F, v6, v7, HS.out, fun g h => .inl h⟩, Kept.refl _ _⟩
    · have e2 : (nb == 0) = false := by simp [hnb]
      rw [if_neg hnb]
      clear hnb
      go_enter Tryd.func72, Tryd.ntmps72
      go_wp2_with fail
      go_ret
      exact ⟨rfl, Kept.refl _ _⟩
  · have e1 : (st == 2) = false := by simp [hst]
    have hr : receiveP s.sigs x st nb = match keptP s.sigs x with | some i => if nb = 1 then some (s.sigs.eraseIdx i) else none | none => none := by unfold receiveP; rw [if_neg hst]; rfl
    have hK := kept_any w s v6 v7 (S.rd h6 h7) x
    unfold keptZ stA at hK
    have hb := S.blk
    unfold stL at hb
    obtain ⟨⟨c0, c1, c2, c3, c4, c5, c6, c7, c8⟩, f0, f1, f2, f3, f4, f5, f6, f7, f8⟩ := nineAt hb S.off
    rw [hr]
    clear hst hr hb S
    cases hk : keptP s.sigs x with
    | none =>
      rw [hk] at hK
      simp only [] at hK ⊢
      clear hk
      by_cases hnb : nb = 1
      · have e2 : (nb != 1) = false := by simp [hnb]
        clear hnb
        go_enter Tryd.func72, Tryd.ntmps72
        go_wp2_with (first
          | (go_at_call 90; refine hK.mono ?_; rintro e w1 ⟨rfl, K1⟩; clear hK)
          | fail)
        go_ret
        exact ⟨rfl, K1⟩
      · have e2 : (nb != 1) = true := by simp [hnb]
        clear hnb
        go_enter Tryd.func72, Tryd.ntmps72
        go_wp2_with (first
          | (go_at_call 90; refine hK.mono ?_; rintro e w1 ⟨rfl, K1⟩; clear hK)
          | fail)
        go_ret
        exact ⟨rfl, K1⟩
    | some k =>
      have hkl := keptP_lt hk
      rw [hk] at hK
      simp only [] at hK ⊢
      clear hk
      by_cases hnb : nb = 1
      · have e2 : (nb != 1) = false := by simp [hnb]
        have e3 : ¬ (k : Int) < 0 := by omega
        rw [if_pos hnb]
        clear hnb
        go_enter Tryd.func72, Tryd.ntmps72
        go_wp2_with (first
          | (go_at_call 90; refine hK.mono ?_; rintro e w1 ⟨rfl, K1⟩; clear hK c0 c1 c2 c3 c4 c5 c6 c7 c8 f0 f1 f2 f3 f4 f5 f6 f7 f8)
          | fail)
        have S1 := HS.out.new K1
        obtain ⟨g, cg, rfl⟩ : ∃ g cg, v7 = .slice (some ⟨g, 0, none⟩) s.sigs.length cg := by
          rcases S1.sigs.2 with ⟨_, h0⟩ | ⟨g, cap, cur, hv, _⟩
          · omega
          · exact ⟨g, cap, hv⟩
        have hb := S1.blk
        unfold stL at hb
        obtain ⟨⟨_, _, _, _, _, _, _, c7, _⟩, _, _, _, _, _, _, _, f7, _⟩ := nineAt hb S1.off
        have HS1 : Hid (StIn w1 F sb so T pre post s v6 (.slice (some ⟨g, 0, none⟩) s.sigs.length cg)) := S1
        have hbh : Hid (w1.heap[sb]? = some (.cells (pre ++ [.string s.dfn, .string s.id, .string s.par, .string s.pnode, .int .i64 s.status, .string s.text, v6, .slice (some ⟨g, 0, none⟩) s.sigs.length cg, .int .i64 s.events] ++ post).toArray T (0, 0))) := hb
        clear hb
        refine wp_onlyN (rc6 (xs := sgF s.sigs) _ c7 f7 hkl h7 S1.sigs (sgF_one _) ?_)
        intro _ _ _ _ _ _ _ _ _ _ _ _ _ _ _ _ _ _ a4 c4 w4 o4 K4
        have HO4 : Hid (w4.ownsRow w1.heap.size 88 2 (.slice a4 (s.sigs.length - 1) c4) (s.sigs.length - 1) ((sgF s.sigs).take (k * 2) ++ (sgF s.sigs).drop ((k + 1) * 2))) := o4
        have HK4 : Hid (Kept (fun _ => False) w1 w4) := K4
        clear S1 c7 f7 o4 K4
        go_wp2_with fail
        go_ret
        refine ⟨rfl, ?_⟩
        have KS : Kept (fun j => j = sb) w4 (w4.setCell ⟨sb, so + 7, none⟩ (.slice a4 (s.sigs.length - 1) c4)) := Kept.setCell _ _ _ rfl
        have b4 := (HK4.out.block _ HS1.out.lt (fun h => h)).trans hbh.out
        have hlt1 := HS1.out.lt
        have hz1 := K1.size
        have o4 := HO4.out
        rw [erase_flat] at o4
        have hz4 : w1.heap.size ≤ (w4.setCell ⟨sb, so + 7, none⟩ (.slice a4 (s.sigs.length - 1) c4)).heap.size := Nat.le_trans HK4.out.size KS.size
        refine ⟨⟨fun g => F g ∨ (w.heap.size ≤ g ∧ g < (w4.setCell ⟨sb, so + 7, none⟩ (.slice a4 (s.sigs.length - 1) c4)).heap.size), v6, .slice a4 (s.sigs.length - 1) c4, ⟨blk_set b4 HS1.out.off (j := 7) (by simp) _, HS1.out.off, ?_, ?_, .inl HS1.out.inS, fun g hg => ⟨.inl (HS1.out.in6 g hg).1, (HS1.out.in6 g hg).2⟩, fun g hg => ?_, fun g h => ?_⟩, fun g h => h.imp id And.left⟩, ?_⟩
        · have n4 := ownsRow_keep HS1.out.nodes (fun g hg => HK4.out.block g (ownsRow_blk HS1.out.nodes hg) (fun h => h))
          exact ownsRow_keep n4 (fun g hg => KS.block g (ownsRow_blk n4 hg) (HS1.out.in6 g hg).2)
        · have hl : (s.sigs.eraseIdx k).length = s.sigs.length - 1 := by rw [List.length_eraseIdx, if_pos hkl]
          show World.ownsRow _ _ _ _ _ (s.sigs.eraseIdx k).length _
          rw [hl]
          exact ownsRow_low (ownsRow_keep o4 (fun g hg => KS.block g (ownsRow_blk o4 hg) (by have := (o4.lt g hg).1; omega))) (Nat.zero_le _)
        · have := (o4.lt g hg).1
          exact ⟨.inr ⟨by omega, Nat.lt_of_lt_of_le (o4.lt g hg).2 KS.size⟩, by omega⟩
        · rcases h with h | h
          · exact Nat.lt_of_lt_of_le (HS1.out.top g h) hz4
          · exact h.2
        · exact ((K1.and HK4.out).mono (fun _ h => h.elim)).and (KS.mono (fun j h => h ▸ HS1.out.inS))
      · have e2 : (nb != 1) = true := by simp [hnb]
        rw [if_neg hnb]
        clear hnb
        go_enter Tryd.func72, Tryd.ntmps72
        go_wp2_with (first
          | (go_at_call 90; refine hK.mono ?_; rintro e w1 ⟨rfl, K1⟩; clear hK)
          | fail)
        go_ret
        exact ⟨rfl, K1⟩

end Go.Proofs.YtfjekjbkifmpfaaDoor

/-
  tell: its regions that draw their order.
-/
namespace Go.Proofs.YtfjekjbkifmpfaaDoor
open Go.RowKit

theorem Tryd.info78 : (Tryd.prog.info? 78).map (fun i => (i.zero, i.size, i.bytes)) = some (some (.agg #[.int .i64 0, .complex .f64 0 0, .string ⟨#[]⟩, .string ⟨#[]⟩, .int .i64 0, .int .i64 0, .int .i64 0, .string ⟨#[]⟩, .string ⟨#[]⟩, .string ⟨#[]⟩, .string ⟨#[]⟩, .string ⟨#[]⟩, .int .i64 0]), 13, 168) := by kernel_rfl

set_option maxRecDepth 100000 in
set_option maxHeartbeats 8000000 in
theorem tl1 {W : World} {R : World → Prop} {sb eb : Nat} {d0 d1 e0 e1 e2 e3 : Value} {r : Bool} {ds : List Deferred} {u1 u2 u3 u5 u6 u7 u8 u9 u10 u11 u12 u13 u14 u15 u16 u17 u18 u19 u20 u21 u22 u23 u24 u25 u26 u27 u28 u29 u30 u31 u32 u33 u34 u35 u36 u37 u38 u39 u40 u41 u42 u43 u44 u45 u46 u47 u48 u49 u50 : Value} (K : Act → World → Prop)
    (x0 : W.cell? ⟨sb, 0, none⟩ = some (d0)) (x1 : W.cell? ⟨sb, 1, none⟩ = some (d1)) (x2 : W.cell? ⟨eb, 0, none⟩ = some (e0)) (x3 : W.cell? ⟨eb, 1, none⟩ = some (e1)) (x4 : W.cell? ⟨eb, 2, none⟩ = some (e2)) (x5 : W.cell? ⟨eb, 3, none⟩ = some (e3))
    (hC : Calls Tryd.prog 36 #[.agg #[d0, d1], .pointer (some ⟨sb, 2, none⟩), .agg #[e0, e1, e2, e3]] W.drew fun e w' => e = .returned (.bool r) ∧ R w') (hR : ∀ V, R V → V.cell? ⟨sb, 0, none⟩ = some (d0) ∧ V.cell? ⟨sb, 1, none⟩ = some (d1) ∧ V.cell? ⟨eb, 0, none⟩ = some (e0) ∧ V.cell? ⟨eb, 1, none⟩ = some (e1) ∧ V.cell? ⟨eb, 2, none⟩ = some (e2) ∧ V.cell? ⟨eb, 3, none⟩ = some (e3))
    (h : ∀ (v8 v9 v10 v11 v12 v13 v14 v15 v16 : Value) (w5 : World), R w5 → K { tmps := #[.pointer (some ⟨sb, 0, none⟩), u1, u2, u3, .pointer (some ⟨eb, 0, none⟩), u5, u6, u7, v8, v9, v10, v11, v12, v13, v14, v15, v16, .bool (!r), u18, u19, u20, u21, u22, u23, u24, u25, u26, u27, u28, u29, u30, u31, u32, u33, u34, u35, u36, u37, u38, u39, u40, u41, u42, u43, u44, u45, u46, u47, u48, u49, u50], defers := ds } w5) :
    (Code.region 1 #[{ dst := some 8, op := Op.move (Operand.tmp 0), type := 94, pos := "step.go:64", after := #[], guard := none }, { dst := some 9, op := Op.nilCheck (Operand.tmp 8), type := 0, pos := "step.go:64", after := #[{ on := 0, ground := Ground.data }], guard := none }, { dst := some 10, op := Op.fieldAddr 96 (Operand.tmp 9) 0, type := 0, pos := "step.go:64", after := #[{ on := 1, ground := Ground.data }], guard := none }, { dst := some 11, op := Op.load 24 (Operand.tmp 10), type := 24, pos := "step.go:64", after := #[{ on := 2, ground := Ground.data }], guard := none }, { dst := some 12, op := Op.move (Operand.tmp 0), type := 94, pos := "step.go:64", after := #[], guard := none }, { dst := some 13, op := Op.nilCheck (Operand.tmp 12), type := 0, pos := "step.go:64", after := #[{ on := 4, ground := Ground.data }], guard := none }, { dst := some 14, op := Op.fieldAddr 96 (Operand.tmp 13) 1, type := 0, pos := "step.go:64", after := #[{ on := 5, ground := Ground.data }], guard := none }, { dst := some 15, op := Op.load 51 (Operand.tmp 4), type := 51, pos := "step.go:64", after := #[], guard := none }, { dst := some 16, op := Op.call { callee := Callee.value (Operand.func 36), args := #[Operand.tmp 11, Operand.tmp 14, Operand.tmp 15], argTypes := #[24, 86, 51] }, type := 4, pos := "step.go:64", after := #[{ on := 3, ground := Ground.data }, { on := 6, ground := Ground.data }, { on := 7, ground := Ground.data }], guard := none }, { dst := some 17, op := Op.unOp UnOp.not 4 (Operand.tmp 16), type := 4, pos := "step.go:64", after := #[{ on := 8, ground := Ground.data }], guard := none }] true).wp Tryd.prog (onlyN K) { tmps := #[.pointer (some ⟨sb, 0, none⟩), u1, u2, u3, .pointer (some ⟨eb, 0, none⟩), u5, u6, u7, u8, u9, u10, u11, u12, u13, u14, u15, u16, u17, u18, u19, u20, u21, u22, u23, u24, u25, u26, u27, u28, u29, u30, u31, u32, u33, u34, u35, u36, u37, u38, u39, u40, u41, u42, u43, u44, u45, u46, u47, u48, u49, u50], defers := ds } W := by
  have HH : Hid _ := h
  have HR : Hid (∀ V, R V → V.cell? ⟨sb, 0, none⟩ = some (d0) ∧ V.cell? ⟨sb, 1, none⟩ = some (d1) ∧ V.cell? ⟨eb, 0, none⟩ = some (e0) ∧ V.cell? ⟨eb, 1, none⟩ = some (e1) ∧ V.cell? ⟨eb, 2, none⟩ = some (e2) ∧ V.cell? ⟨eb, 3, none⟩ = some (e3)) := hR
  have hS0 : W.drew.cell? ⟨sb, 0, none⟩ = some (d0) ∧ W.drew.cell? ⟨sb, 1, none⟩ = some (d1) ∧ W.drew.cell? ⟨eb, 0, none⟩ = some (e0) ∧ W.drew.cell? ⟨eb, 1, none⟩ = some (e1) ∧ W.drew.cell? ⟨eb, 2, none⟩ = some (e2) ∧ W.drew.cell? ⟨eb, 3, none⟩ = some (e3) := ⟨x0, x1, x2, x3, x4, x5⟩
  clear h hR x0 x1 x2 x3 x4 x5
  refine wp_region_held_drew (S := fun V => V.cell? ⟨sb, 0, none⟩ = some (d0) ∧ V.cell? ⟨sb, 1, none⟩ = some (d1) ∧ V.cell? ⟨eb, 0, none⟩ = some (e0) ∧ V.cell? ⟨eb, 1, none⟩ = some (e1) ∧ V.cell? ⟨eb, 2, none⟩ = some (e2) ∧ V.cell? ⟨eb, 3, none⟩ = some (e3)) (by kernel_rfl) hS0 (fun _ => ?_)
  refine wpAnyH_take (i := 0) (oi := { dst := some 8, op := Op.move (Operand.tmp 0), type := 94, pos := "step.go:64", after := #[], guard := none }) (v := ?vv1) rfl (by kernel_rfl) (by kernel_rfl) (by kernel_rfl) (fun _ _ _ h => h) (Or.inl ⟨by rfl, ?hy1⟩) hS0 ?rest1
  case hy1 =>
    intro V hV
    obtain ⟨y0, y1, y2, y3, y4, y5⟩ := hV
    go_simp
    all_goals rfl
  simp only [Act.put, List.setIfInBounds_toArray, List.set_cons_zero, List.set_cons_succ]
  refine wpAnyH_take (i := 1) (oi := { dst := some 9, op := Op.nilCheck (Operand.tmp 8), type := 0, pos := "step.go:64", after := #[{ on := 0, ground := Ground.data }], guard := none }) (v := ?vv2) rfl (by kernel_rfl) (by kernel_rfl) (by kernel_rfl) (fun _ _ _ h => h) (Or.inl ⟨by rfl, ?hy2⟩) hS0 ?rest2
  case hy2 =>
    intro V hV
    obtain ⟨y0, y1, y2, y3, y4, y5⟩ := hV
    go_simp
    all_goals rfl
  simp only [Act.put, List.setIfInBounds_toArray, List.set_cons_zero, List.set_cons_succ]
  refine wpAnyH_take (i := 2) (oi := { dst := some 10, op := Op.fieldAddr 96 (Operand.tmp 9) 0, type := 0, pos := "step.go:64", after := #[{ on := 1, ground := Ground.data }], guard := none }) (v := ?vv3) rfl (by kernel_rfl) (by kernel_rfl) (by kernel_rfl) (fun _ _ _ h => h) (Or.inl ⟨by rfl, ?hy3⟩) hS0 ?rest3
  case hy3 =>
    intro V hV
    obtain ⟨y0, y1, y2, y3, y4, y5⟩ := hV
    go_simp
    all_goals rfl
  simp only [Act.put, List.setIfInBounds_toArray, List.set_cons_zero, List.set_cons_succ]
  refine wpAnyH_take (i := 3) (oi := { dst := some 11, op := Op.load 24 (Operand.tmp 10), type := 24, pos := "step.go:64", after := #[{ on := 2, ground := Ground.data }], guard := none }) (v := ?vv4) rfl (by kernel_rfl) (by kernel_rfl) (by kernel_rfl) (fun _ _ _ h => h) (Or.inl ⟨by rfl, ?hy4⟩) hS0 ?rest4
  case hy4 =>
    intro V hV
    obtain ⟨y0, y1, y2, y3, y4, y5⟩ := hV
    go_simp
    all_goals rfl
  simp only [Act.put, List.setIfInBounds_toArray, List.set_cons_zero, List.set_cons_succ]
  refine wpAnyH_take (i := 4) (oi := { dst := some 12, op := Op.move (Operand.tmp 0), type := 94, pos := "step.go:64", after := #[], guard := none }) (v := ?vv5) rfl (by kernel_rfl) (by kernel_rfl) (by kernel_rfl) (fun _ _ _ h => h) (Or.inl ⟨by rfl, ?hy5⟩) hS0 ?rest5
  case hy5 =>
    intro V hV
    obtain ⟨y0, y1, y2, y3, y4, y5⟩ := hV
    go_simp
    all_goals rfl
  simp only [Act.put, List.setIfInBounds_toArray, List.set_cons_zero, List.set_cons_succ]
  refine wpAnyH_take (i := 5) (oi := { dst := some 13, op := Op.nilCheck (Operand.tmp 12), type := 0, pos := "step.go:64", after := #[{ on := 4, ground := Ground.data }], guard := none }) (v := ?vv6) rfl (by kernel_rfl) (by kernel_rfl) (by kernel_rfl) (fun _ _ _ h => h) (Or.inl ⟨by rfl, ?hy6⟩) hS0 ?rest6
  case hy6 =>
    intro V hV
    obtain ⟨y0, y1, y2, y3, y4, y5⟩ := hV
    go_simp
    all_goals rfl
  simp only [Act.put, List.setIfInBounds_toArray, List.set_cons_zero, List.set_cons_succ]
  refine wpAnyH_take (i := 6) (oi := { dst := some 14, op := Op.fieldAddr 96 (Operand.tmp 13) 1, type := 0, pos := "step.go:64", after := #[{ on := 5, ground := Ground.data }], guard := none }) (v := ?vv7) rfl (by kernel_rfl) (by kernel_rfl) (by kernel_rfl) (fun _ _ _ h => h) (Or.inl ⟨by rfl, ?hy7⟩) hS0 ?rest7
  case hy7 =>
    intro V hV
    obtain ⟨y0, y1, y2, y3, y4, y5⟩ := hV
    go_simp
    all_goals rfl
  simp only [Act.put, List.setIfInBounds_toArray, List.set_cons_zero, List.set_cons_succ]
  refine wpAnyH_take (i := 7) (oi := { dst := some 15, op := Op.load 51 (Operand.tmp 4), type := 51, pos := "step.go:64", after := #[], guard := none }) (v := ?vv8) rfl (by kernel_rfl) (by kernel_rfl) (by kernel_rfl) (fun _ _ _ h => h) (Or.inl ⟨by rfl, ?hy8⟩) hS0 ?rest8
  case hy8 =>
    intro V hV
    obtain ⟨y0, y1, y2, y3, y4, y5⟩ := hV
    go_simp
    all_goals rfl
  simp only [Act.put, List.setIfInBounds_toArray, List.set_cons_zero, List.set_cons_succ]
  refine wpAnyH_ready (rs := [8]) (by kernel_rfl) (by simp) (AllReadyH.cons (o := { dst := some 16, op := Op.call { callee := Callee.value (Operand.func 36), args := #[Operand.tmp 11, Operand.tmp 14, Operand.tmp 15], argTypes := #[24, 86, 51] }, type := 4, pos := "step.go:64", after := #[{ on := 3, ground := Ground.data }, { on := 6, ground := Ground.data }, { on := 7, ground := Ground.data }], guard := none }) rfl (fun K' hK => ?_) AllReadyH.nil)
  refine step_call3 _ (by rfl) 36 _ _ _ _ _ _ (by rfl) (enters_of Tryd.func36 (by kernel_rfl) rfl) _ _ _ (by rfl) (by rfl) (by rfl) hC ?_
  rintro e w5 ⟨rfl, R5⟩
  refine ⟨_, rfl, ?_⟩
  refine hK.out _ _ (HR.out _ R5) (fun _ => ?_)
  clear hK K'
  try (simp only [Act.put, List.setIfInBounds_toArray, List.set_cons_zero, List.set_cons_succ])
  refine wpAnyH_take (i := 9) (oi := { dst := some 17, op := Op.unOp UnOp.not 4 (Operand.tmp 16), type := 4, pos := "step.go:64", after := #[{ on := 8, ground := Ground.data }], guard := none }) (v := ?vv9) rfl (by kernel_rfl) (by kernel_rfl) (by kernel_rfl) (fun _ _ _ h => h) (Or.inl ⟨by rfl, ?hy9⟩) (HR.out _ R5) ?rest9
  case hy9 =>
    intro V hV
    obtain ⟨y0, y1, y2, y3, y4, y5⟩ := hV
    go_simp
    all_goals rfl
  simp only [Act.put, List.setIfInBounds_toArray, List.set_cons_zero, List.set_cons_succ]
  refine wpAnyH_done (by kernel_rfl) ?_ _
  exact HH.out _ _ _ _ _ _ _ _ _ w5 R5

set_option maxRecDepth 100000 in
set_option maxHeartbeats 8000000 in
theorem tl2 {W : World} {sb eb k c7 : Nat} {a7 : Option Addr} {ek ez : Int} {en et : ByteArray} {xs : List Value} {ds : List Deferred} {u1 u2 u3 u5 u6 u7 u8 u9 u10 u11 u12 u13 u14 u15 u16 u17 u18 u19 u20 u21 u22 u23 u24 u25 u26 u27 u28 u29 u30 u31 u32 u33 u34 u35 u36 u37 u38 u39 u40 u41 u42 u43 u44 u45 u46 u47 u48 u49 u50 : Value} (K : Act → World → Prop)
    (x0 : W.cell? ⟨sb, 12, none⟩ = some (.slice a7 k c7)) (xz : W.frozen? ⟨sb, 12, none⟩ = false) (x1 : W.cell? ⟨eb, 0, none⟩ = some (.int .i64 ek)) (x2 : W.cell? ⟨eb, 1, none⟩ = some (.string en)) (x3 : W.cell? ⟨eb, 2, none⟩ = some (.string et)) (x4 : W.cell? ⟨eb, 3, none⟩ = some (.int .i64 ez)) (hne : ∀ g, (Value.slice a7 k c7).ownBlock = some g → g ≠ sb) (hk : k ≤ 1000000000) (hR : W.ownsRow 0 51 4 (.slice a7 k c7) k xs)
    (h : ∀ (v18 v19 v20 v21 v22 v23 v24 v25 v26 v27 : Value) (a4 : Option Addr) (c4 : Nat) (w4 : World), w4.ownsRow 0 51 4 (.slice a4 (k + 1) c4) (k + 1) (xs ++ [.int .i64 ek, .string en, .string et, .int .i64 ez]) → ((Value.slice a4 (k + 1) c4).ownBlock = (Value.slice a7 k c7).ownBlock ∨ ∃ g, (Value.slice a4 (k + 1) c4).ownBlock = some g ∧ W.heap.size ≤ g) → Kept (fun j => (Value.slice a7 k c7).ownBlock = some j) W w4 → K { tmps := #[.pointer (some ⟨sb, 0, none⟩), u1, u2, u3, .pointer (some ⟨eb, 0, none⟩), u5, u6, u7, u8, u9, u10, u11, u12, u13, u14, u15, u16, u17, v18, v19, v20, v21, v22, v23, v24, v25, v26, v27, u28, u29, u30, u31, u32, u33, u34, u35, u36, u37, u38, u39, u40, u41, u42, u43, u44, u45, u46, u47, u48, u49, u50], defers := ds } (w4.setCell ⟨sb, 12, none⟩ (.slice a4 (k + 1) c4))) :
    (Code.region 2 #[{ dst := some 18, op := Op.move (Operand.tmp 0), type := 94, pos := "step.go:67", after := #[], guard := none }, { dst := some 19, op := Op.move (Operand.tmp 0), type := 94, pos := "step.go:67", after := #[], guard := none }, { dst := some 20, op := Op.nilCheck (Operand.tmp 19), type := 0, pos := "step.go:67", after := #[{ on := 1, ground := Ground.data }], guard := none }, { dst := some 21, op := Op.fieldAddr 96 (Operand.tmp 20) 3, type := 0, pos := "step.go:67", after := #[{ on := 2, ground := Ground.data }], guard := none }, { dst := some 22, op := Op.load 34 (Operand.tmp 21), type := 34, pos := "step.go:67", after := #[{ on := 3, ground := Ground.data }], guard := none }, { dst := some 23, op := Op.load 51 (Operand.tmp 4), type := 51, pos := "step.go:67", after := #[], guard := none }, { dst := some 24, op := Op.buildSlice 34 1 #[(0, Operand.tmp 23)], type := 34, pos := "step.go:67", after := #[{ on := 5, ground := Ground.data }], guard := none }, { dst := some 25, op := Op.call { callee := Callee.builtin Builtin.append, args := #[Operand.tmp 22, Operand.tmp 24], argTypes := #[34, 34] }, type := 34, pos := "step.go:67", after := #[{ on := 4, ground := Ground.data }, { on := 6, ground := Ground.data }], guard := none }, { dst := some 26, op := Op.nilCheck (Operand.tmp 18), type := 0, pos := "step.go:67", after := #[{ on := 0, ground := Ground.data }, { on := 0, ground := Ground.phase }, { on := 1, ground := Ground.phase }, { on := 2, ground := Ground.phase }, { on := 3, ground := Ground.phase }, { on := 4, ground := Ground.phase }, { on := 5, ground := Ground.phase }, { on := 6, ground := Ground.phase }, { on := 7, ground := Ground.phase }], guard := none }, { dst := some 27, op := Op.fieldAddr 96 (Operand.tmp 26) 3, type := 0, pos := "step.go:67", after := #[{ on := 8, ground := Ground.data }, { on := 0, ground := Ground.phase }, { on := 1, ground := Ground.phase }, { on := 2, ground := Ground.phase }, { on := 3, ground := Ground.phase }, { on := 4, ground := Ground.phase }, { on := 5, ground := Ground.phase }, { on := 6, ground := Ground.phase }, { on := 7, ground := Ground.phase }], guard := none }, { dst := none, op := Op.store 34 (Operand.tmp 27) (Operand.tmp 25), type := 0, pos := "step.go:67", after := #[{ on := 9, ground := Ground.data }, { on := 7, ground := Ground.data }, { on := 7, ground := Ground.chain }, { on := 0, ground := Ground.phase }, { on := 1, ground := Ground.phase }, { on := 2, ground := Ground.phase }, { on := 3, ground := Ground.phase }, { on := 4, ground := Ground.phase }, { on := 5, ground := Ground.phase }, { on := 6, ground := Ground.phase }, { on := 7, ground := Ground.phase }], guard := none }] true).wp Tryd.prog (onlyN K) { tmps := #[.pointer (some ⟨sb, 0, none⟩), u1, u2, u3, .pointer (some ⟨eb, 0, none⟩), u5, u6, u7, u8, u9, u10, u11, u12, u13, u14, u15, u16, u17, u18, u19, u20, u21, u22, u23, u24, u25, u26, u27, u28, u29, u30, u31, u32, u33, u34, u35, u36, u37, u38, u39, u40, u41, u42, u43, u44, u45, u46, u47, u48, u49, u50], defers := ds } W := by
  obtain ⟨j0, hj0, hy0, hy1, hy2⟩ := info_parts Tryd.info51
  have HH : Hid _ := h
  have KD := Kept.drew (fun j => (Value.slice a7 k c7).ownBlock = some j) W
  have hlt := World.block_lt_of_cell? W _ x0
  have HC : Hid (∀ V, Kept (fun j => (Value.slice a7 k c7).ownBlock = some j) W.drew V → V.cell? ⟨sb, 12, none⟩ = some (.slice a7 k c7) ∧ V.frozen? ⟨sb, 12, none⟩ = false) := fun V KV => by
    have hb := (KD.and KV).block sb hlt (fun e => hne sb e rfl)
    exact ⟨(World.cell?_of_block (w := W) hb).trans x0, by rw [← xz]; unfold World.frozen?; rw [hb]⟩
  have HR : Hid (W.drew.ownsRow 0 51 4 (.slice a7 k c7) k xs) := hR
  have HKD : Hid (Kept (fun j => (Value.slice a7 k c7).ownBlock = some j) W W.drew) := KD
  have r0 : W.drew.cell? ⟨sb, 12, none⟩ = some (.slice a7 k c7) := x0
  have r1 : W.drew.cell? ⟨eb, 0, none⟩ = some (.int .i64 ek) := x1
  have r2 : W.drew.cell? ⟨eb, 1, none⟩ = some (.string en) := x2
  have r3 : W.drew.cell? ⟨eb, 2, none⟩ = some (.string et) := x3
  have r4 : W.drew.cell? ⟨eb, 3, none⟩ = some (.int .i64 ez) := x4
  have r99 : (W.alloc (.cells #[.int .i64 ek, .string en, .string et, .int .i64 ez] 51)).cell? ⟨sb, 12, none⟩ = some (.slice a7 k c7) := keepC (Kept.alloc (fun _ => False) _ _) x0 (fun _ _ h => h)
  clear h KD x0 x1 x2 x3 x4 xz hR
  go_region_law
    (first
      | (refine step_append_sr _ (by rfl) _ _ 34 (by rfl) 0 51 j0 _ 4 48 Tryd.underlying34 hj0 hy0 hy1 hy2 rfl (by decide) (.slice a7 k c7) k xs (by rfl) (HR.out.alloc _) _ (by rfl) 1 [.int .i64 ek, .string en, .string et, .int .i64 ez] (.inl ⟨_, 1, rfl, rfl, World.news_of_block (heap_alloc_new _ _)⟩) (evF_one [⟨ek, en, et, ez⟩]) (by unfold maxLen; omega) (by omega) (Nat.zero_le _) ?_; intro a4 c4 w4 ho4 hg4 _ hl4; have K4 : Kept (fun j => (Value.slice a7 k c7).ownBlock = some j) W.drew w4 := (Kept.alloc _ _ _).and (Kept.grown hg4 (fun j e => e)); obtain ⟨z0, z1⟩ := HC.out w4 K4)
      | fail)
  all_goals exact HH.out _ _ _ _ _ _ _ _ _ _ a4 c4 w4 ho4 (hl4.imp id (fun e => ⟨_, e, by show W.heap.size ≤ (W.alloc _).heap.size; rw [World.size_alloc]; omega⟩)) (HKD.out.and K4)

set_option maxRecDepth 100000 in
set_option maxHeartbeats 8000000 in
theorem tl7 {W : World} {sb tb k c7 : Nat} {a7 : Option Addr} {tk tt ta mk ms : Int} {tf tn mt mf mn ma mx : ByteArray} {xs : List Value} {ds : List Deferred} {u1 u2 u3 u4 u5 u6 u8 u9 u10 u11 u12 u13 u14 u15 u16 u17 u18 u19 u20 u21 u22 u23 u24 u25 u26 u27 u28 u29 u30 u31 u32 u33 u34 u35 u36 u37 u38 u39 u40 u41 u42 u43 u44 u45 u46 u47 u48 u49 u50 : Value} (K : Act → World → Prop)
    (x0 : W.cell? ⟨sb, 13, none⟩ = some (.slice a7 k c7)) (xz : W.frozen? ⟨sb, 13, none⟩ = false) (x1 : W.cell? ⟨tb, 0, none⟩ = some (.int .i64 tk)) (x2 : W.cell? ⟨tb, 1, none⟩ = some (.complex .f64 0 0)) (x3 : W.cell? ⟨tb, 2, none⟩ = some (.string tf)) (x4 : W.cell? ⟨tb, 3, none⟩ = some (.string tn)) (x5 : W.cell? ⟨tb, 4, none⟩ = some (.int .i64 tt)) (x6 : W.cell? ⟨tb, 5, none⟩ = some (.int .i64 ta)) (x7 : W.cell? ⟨tb, 6, none⟩ = some (.int .i64 mk)) (x8 : W.cell? ⟨tb, 7, none⟩ = some (.string mt)) (x9 : W.cell? ⟨tb, 8, none⟩ = some (.string mf)) (x10 : W.cell? ⟨tb, 9, none⟩ = some (.string mn)) (x11 : W.cell? ⟨tb, 10, none⟩ = some (.string ma)) (x12 : W.cell? ⟨tb, 11, none⟩ = some (.string mx)) (x13 : W.cell? ⟨tb, 12, none⟩ = some (.int .i64 ms)) (hne : ∀ g, (Value.slice a7 k c7).ownBlock = some g → g ≠ sb) (hk : k ≤ 1000000000) (hR : W.ownsRow 0 78 13 (.slice a7 k c7) k xs)
    (h : ∀ (v40 v41 v42 v43 v44 v45 v46 v47 v48 v49 : Value) (a4 : Option Addr) (c4 : Nat) (w4 : World), w4.ownsRow 0 78 13 (.slice a4 (k + 1) c4) (k + 1) (xs ++ [.int .i64 tk, .complex .f64 0 0, .string tf, .string tn, .int .i64 tt, .int .i64 ta, .int .i64 mk, .string mt, .string mf, .string mn, .string ma, .string mx, .int .i64 ms]) → ((Value.slice a4 (k + 1) c4).ownBlock = (Value.slice a7 k c7).ownBlock ∨ ∃ g, (Value.slice a4 (k + 1) c4).ownBlock = some g ∧ W.heap.size ≤ g) → Kept (fun j => (Value.slice a7 k c7).ownBlock = some j) W w4 → K { tmps := #[.pointer (some ⟨sb, 0, none⟩), u1, u2, u3, u4, u5, u6, .pointer (some ⟨tb, 0, none⟩), u8, u9, u10, u11, u12, u13, u14, u15, u16, u17, u18, u19, u20, u21, u22, u23, u24, u25, u26, u27, u28, u29, u30, u31, u32, u33, u34, u35, u36, u37, u38, u39, v40, v41, v42, v43, v44, v45, v46, v47, v48, v49, u50], defers := ds } (w4.setCell ⟨sb, 13, none⟩ (.slice a4 (k + 1) c4))) :
    (Code.region 7 #[{ dst := some 40, op := Op.move (Operand.tmp 0), type := 94, pos := "step.go:70", after := #[], guard := none }, { dst := some 41, op := Op.move (Operand.tmp 0), type := 94, pos := "step.go:70", after := #[], guard := none }, { dst := some 42, op := Op.nilCheck (Operand.tmp 41), type := 0, pos := "step.go:70", after := #[{ on := 1, ground := Ground.data }], guard := none }, { dst := some 43, op := Op.fieldAddr 96 (Operand.tmp 42) 4, type := 0, pos := "step.go:70", after := #[{ on := 2, ground := Ground.data }], guard := none }, { dst := some 44, op := Op.load 56 (Operand.tmp 43), type := 56, pos := "step.go:70", after := #[{ on := 3, ground := Ground.data }], guard := none }, { dst := some 45, op := Op.load 78 (Operand.tmp 7), type := 78, pos := "step.go:70", after := #[], guard := none }, { dst := some 46, op := Op.buildSlice 56 1 #[(0, Operand.tmp 45)], type := 56, pos := "step.go:70", after := #[{ on := 5, ground := Ground.data }], guard := none }, { dst := some 47, op := Op.call { callee := Callee.builtin Builtin.append, args := #[Operand.tmp 44, Operand.tmp 46], argTypes := #[56, 56] }, type := 56, pos := "step.go:70", after := #[{ on := 4, ground := Ground.data }, { on := 6, ground := Ground.data }], guard := none }, { dst := some 48, op := Op.nilCheck (Operand.tmp 40), type := 0, pos := "step.go:70", after := #[{ on := 0, ground := Ground.data }, { on := 0, ground := Ground.phase }, { on := 1, ground := Ground.phase }, { on := 2, ground := Ground.phase }, { on := 3, ground := Ground.phase }, { on := 4, ground := Ground.phase }, { on := 5, ground := Ground.phase }, { on := 6, ground := Ground.phase }, { on := 7, ground := Ground.phase }], guard := none }, { dst := some 49, op := Op.fieldAddr 96 (Operand.tmp 48) 4, type := 0, pos := "step.go:70", after := #[{ on := 8, ground := Ground.data }, { on := 0, ground := Ground.phase }, { on := 1, ground := Ground.phase }, { on := 2, ground := Ground.phase }, { on := 3, ground := Ground.phase }, { on := 4, ground := Ground.phase }, { on := 5, ground := Ground.phase }, { on := 6, ground := Ground.phase }, { on := 7, ground := Ground.phase }], guard := none }, { dst := none, op := Op.store 56 (Operand.tmp 49) (Operand.tmp 47), type := 0, pos := "step.go:70", after := #[{ on := 9, ground := Ground.data }, { on := 7, ground := Ground.data }, { on := 7, ground := Ground.chain }, { on := 0, ground := Ground.phase }, { on := 1, ground := Ground.phase }, { on := 2, ground := Ground.phase }, { on := 3, ground := Ground.phase }, { on := 4, ground := Ground.phase }, { on := 5, ground := Ground.phase }, { on := 6, ground := Ground.phase }, { on := 7, ground := Ground.phase }], guard := none }] true).wp Tryd.prog (onlyN K) { tmps := #[.pointer (some ⟨sb, 0, none⟩), u1, u2, u3, u4, u5, u6, .pointer (some ⟨tb, 0, none⟩), u8, u9, u10, u11, u12, u13, u14, u15, u16, u17, u18, u19, u20, u21, u22, u23, u24, u25, u26, u27, u28, u29, u30, u31, u32, u33, u34, u35, u36, u37, u38, u39, u40, u41, u42, u43, u44, u45, u46, u47, u48, u49, u50], defers := ds } W := by
  obtain ⟨j0, hj0, hy0, hy1, hy2⟩ := info_parts Tryd.info78
  have HH : Hid _ := h
  have KD := Kept.drew (fun j => (Value.slice a7 k c7).ownBlock = some j) W
  have hlt := World.block_lt_of_cell? W _ x0
  have HC : Hid (∀ V, Kept (fun j => (Value.slice a7 k c7).ownBlock = some j) W.drew V → V.cell? ⟨sb, 13, none⟩ = some (.slice a7 k c7) ∧ V.frozen? ⟨sb, 13, none⟩ = false) := fun V KV => by
    have hb := (KD.and KV).block sb hlt (fun e => hne sb e rfl)
    exact ⟨(World.cell?_of_block (w := W) hb).trans x0, by rw [← xz]; unfold World.frozen?; rw [hb]⟩
  have HR : Hid (W.drew.ownsRow 0 78 13 (.slice a7 k c7) k xs) := hR
  have HKD : Hid (Kept (fun j => (Value.slice a7 k c7).ownBlock = some j) W W.drew) := KD
  have r0 : W.drew.cell? ⟨sb, 13, none⟩ = some (.slice a7 k c7) := x0
  have r1 : W.drew.cell? ⟨tb, 0, none⟩ = some (.int .i64 tk) := x1
  have r2 : W.drew.cell? ⟨tb, 1, none⟩ = some (.complex .f64 0 0) := x2
  have r3 : W.drew.cell? ⟨tb, 2, none⟩ = some (.string tf) := x3
  have r4 : W.drew.cell? ⟨tb, 3, none⟩ = some (.string tn) := x4
  have r5 : W.drew.cell? ⟨tb, 4, none⟩ = some (.int .i64 tt) := x5
  have r6 : W.drew.cell? ⟨tb, 5, none⟩ = some (.int .i64 ta) := x6
  have r7 : W.drew.cell? ⟨tb, 6, none⟩ = some (.int .i64 mk) := x7
  have r8 : W.drew.cell? ⟨tb, 7, none⟩ = some (.string mt) := x8
  have r9 : W.drew.cell? ⟨tb, 8, none⟩ = some (.string mf) := x9
  have r10 : W.drew.cell? ⟨tb, 9, none⟩ = some (.string mn) := x10
  have r11 : W.drew.cell? ⟨tb, 10, none⟩ = some (.string ma) := x11
  have r12 : W.drew.cell? ⟨tb, 11, none⟩ = some (.string mx) := x12
  have r13 : W.drew.cell? ⟨tb, 12, none⟩ = some (.int .i64 ms) := x13
  have r99 : (W.alloc (.cells #[.int .i64 tk, .complex .f64 0 0, .string tf, .string tn, .int .i64 tt, .int .i64 ta, .int .i64 mk, .string mt, .string mf, .string mn, .string ma, .string mx, .int .i64 ms] 78)).cell? ⟨sb, 13, none⟩ = some (.slice a7 k c7) := keepC (Kept.alloc (fun _ => False) _ _) x0 (fun _ _ h => h)
  clear h KD x0 x1 x2 x3 x4 x5 x6 x7 x8 x9 x10 x11 x12 x13 xz hR
  go_region_law
    (first
      | (refine step_append_sr _ (by rfl) _ _ 56 (by rfl) 0 78 j0 _ 13 168 Tryd.underlying56 hj0 hy0 hy1 hy2 rfl (by decide) (.slice a7 k c7) k xs (by rfl) (HR.out.alloc _) _ (by rfl) 1 [.int .i64 tk, .complex .f64 0 0, .string tf, .string tn, .int .i64 tt, .int .i64 ta, .int .i64 mk, .string mt, .string mf, .string mn, .string ma, .string mx, .int .i64 ms] (.inl ⟨_, 1, rfl, rfl, World.news_of_block (heap_alloc_new _ _)⟩) (tkF_one [⟨tk, tf, tn, tt, ta, ⟨mk, mt, mf, mn, ma, mx, ms⟩⟩]) (by unfold maxLen; omega) (by omega) (Nat.zero_le _) ?_; intro a4 c4 w4 ho4 hg4 _ hl4; have K4 : Kept (fun j => (Value.slice a7 k c7).ownBlock = some j) W.drew w4 := (Kept.alloc _ _ _).and (Kept.grown hg4 (fun j e => e)); obtain ⟨z0, z1⟩ := HC.out w4 K4)
      | fail)
  all_goals exact HH.out _ _ _ _ _ _ _ _ _ _ a4 c4 w4 ho4 (hl4.imp id (fun e => ⟨_, e, by show W.heap.size ≤ (W.alloc _).heap.size; rw [World.size_alloc]; omega⟩)) (HKD.out.and K4)

end Go.Proofs.YtfjekjbkifmpfaaDoor
