/-
  copied: a node with an After of its own.
-/
import Derived.Test.YtoonnbagppliaaaDoorDRead3
namespace Go.Proofs.YtoonnbagppliaaaDoor
open Go.RowKit

/-- Seven cells of a block. -/
theorem seven {w : World} {b : Nat} {T : TypeId} {u0 u1 u2 u3 u4 u5 u6 : Value} (h : w.heap[b]? = some (.cells #[u0, u1, u2, u3, u4, u5, u6] T (0, 0))) :
    (w.cell? ⟨b, 0, none⟩ = some u0 ∧ w.cell? ⟨b, 1, none⟩ = some u1 ∧ w.cell? ⟨b, 2, none⟩ = some u2 ∧ w.cell? ⟨b, 3, none⟩ = some u3 ∧ w.cell? ⟨b, 4, none⟩ = some u4 ∧ w.cell? ⟨b, 5, none⟩ = some u5 ∧ w.cell? ⟨b, 6, none⟩ = some u6) ∧
    (w.frozen? ⟨b, 0, none⟩ = false ∧ w.frozen? ⟨b, 1, none⟩ = false ∧ w.frozen? ⟨b, 2, none⟩ = false ∧ w.frozen? ⟨b, 3, none⟩ = false ∧ w.frozen? ⟨b, 4, none⟩ = false ∧ w.frozen? ⟨b, 5, none⟩ = false ∧ w.frozen? ⟨b, 6, none⟩ = false) := by
  simp [World.cell?, World.frozen?, h]

theorem put7 {w : World} {b : Nat} {T : TypeId} {u0 u1 u2 u3 u4 u5 u6 : Value} (h : w.heap[b]? = some (.cells #[u0, u1, u2, u3, u4, u5, u6] T (0, 0))) (v0 v1 v2 v3 v4 v5 v6 : Value) : (((((((w.setCell ⟨b, 0, none⟩ v0).setCell ⟨b, 1, none⟩ v1).setCell ⟨b, 2, none⟩ v2).setCell ⟨b, 3, none⟩ v3).setCell ⟨b, 4, none⟩ v4).setCell ⟨b, 5, none⟩ v5).setCell ⟨b, 6, none⟩ v6).heap[b]? = some (.cells #[v0, v1, v2, v3, v4, v5, v6] T (0, 0)) := by
  simp [World.setCell, Array.getElem?_modify, h]

theorem kept7 {S : Nat → Prop} (w : World) {b : Nat} (hb : S b) (v0 v1 v2 v3 v4 v5 v6 : Value) : Kept S w (((((((w.setCell ⟨b, 0, none⟩ v0).setCell ⟨b, 1, none⟩ v1).setCell ⟨b, 2, none⟩ v2).setCell ⟨b, 3, none⟩ v3).setCell ⟨b, 4, none⟩ v4).setCell ⟨b, 5, none⟩ v5).setCell ⟨b, 6, none⟩ v6) :=
  ((((((Kept.setCell _ _ _ hb).and (Kept.setCell _ _ _ hb)).and (Kept.setCell _ _ _ hb)).and (Kept.setCell _ _ _ hb)).and (Kept.setCell _ _ _ hb)).and (Kept.setCell _ _ _ hb)).and (Kept.setCell _ _ _ hb)

theorem TextsAt.src {w : World} {a : Option Addr} {c : Nat} {l : List ByteArray} (h : TextsAt w (.slice a l.length c) l) : Src w 1 (.slice a l.length c) l.length (strsV l) := by
  obtain ⟨a', c', e, h1, h2, h3, h4⟩ := h
  simp only [Value.slice.injEq] at e
  obtain ⟨rfl, _, rfl⟩ := e
  rcases h3 with h | ⟨b, o, rfl, hc⟩
  · have hl : l = [] := by simpa using h
    subst hl
    cases a with
    | none => exact .inr ⟨c, rfl, rfl, rfl⟩
    | some ad => exact .inl ⟨ad, c, rfl, rfl, fun j u hu => by simp [strsV] at hu⟩
  · exact .inl ⟨_, c, rfl, by simp [strsV], fun j u hu => by rw [Addr.add_lit]; exact hc j u hu⟩

theorem texts_of_row {w : World} {base : Nat} {a : Option Addr} {c : Nat} {l : List ByteArray} (h : w.ownsRow base 9 1 (.slice a l.length c) l.length (strsV l)) (hs : ∀ s ∈ l, s.size ≤ maxLen) : TextsAt w (.slice a l.length c) l := by
  rcases h.2 with ⟨e, h0⟩ | ⟨g, cap, cur, e, hb, hg, h1, h2, _⟩
  · simp only [Value.slice.injEq] at e
    obtain ⟨rfl, _, rfl⟩ := e
    exact ⟨none, 0, rfl, by omega, Nat.zero_le _, .inl (by rw [List.map_eq_nil_iff]; exact List.eq_nil_of_length_eq_zero h0), hs⟩
  · simp only [Value.slice.injEq] at e
    obtain ⟨rfl, _, rfl⟩ := e
    refine ⟨_, _, rfl, h1, h2, .inr ⟨g, 0, rfl, fun j u hu => ?_⟩, hs⟩
    have := h.cells (g := g) rfl j u hu
    rw [Addr.add_lit] at this
    exact this

set_option maxRecDepth 100000 in
set_option maxHeartbeats 2000000 in
theorem copied_any (w : World) (x0 : ByteArray) (x1 : Int) (x2 x3 : ByteArray) (x4 x5 : Int) (l : List ByteArray) (av : Option Addr) (cv : Nat) (hT : TextsAt w (.slice av l.length cv) l) (hl : l.length ≤ 1000000) :
    Calls Tryd.prog 39 #[.agg #[.string x0, .int .i64 x1, .string x2, .string x3, .int .i64 x4, .int .i64 x5, .slice av l.length cv]] w fun e w' => ∃ a c, e = .returned (.agg #[.string x0, .int .i64 x1, .string x2, .string x3, .int .i64 x4, .int .i64 x5, .slice a l.length c]) ∧
      w'.ownsRow w.heap.size 9 1 (.slice a l.length c) l.length (strsV l) ∧ Kept (fun _ => False) w w' := by
  obtain ⟨i0, hi0, hz0, hz1, hz2⟩ := info_parts Tryd.info9
  have hS := (hT.kept ((Kept.alloc (fun _ => False) w (.cells #[.string x0, .int .i64 x1, .string x2, .string x3, .int .i64 x4, .int .i64 x5, .slice av l.length cv] 34)).and (Kept.alloc _ _ (.cells #[.string ⟨#[]⟩, .int .i64 0, .string ⟨#[]⟩, .string ⟨#[]⟩, .int .i64 0, .int .i64 0, .slice none 0 0] 34))) (fun _ _ h => h)).src
  have HS : Hid _ := hS
  have HC : Hid (∀ u ∈ strsV l, u.oneCell' = true) := strsV_one l
  clear hT hS
  go_enter Tryd.func39, Tryd.ntmps39
  go_wp2_with (first
    | (at_builtin; refine wpList_append_src _ rfl _ _ 32 rfl w.heap.size 9 i0 _ 1 16 Tryd.underlying32 hi0 hz0 hz1 hz2 rfl (by decide) (.slice none 0 0) 0 _ rfl (World.ownsRow_nil _ _ _ _) _ rfl l.length _ HS.out HC.out (by unfold maxLen; omega) (by omega) (by simp; omega) ?_; intro a3 cap3 w3 ho3 hg3 _ hl3;
        have K3 : Kept (fun _ => False) ((w.alloc (.cells #[.string x0, .int .i64 x1, .string x2, .string x3, .int .i64 x4, .int .i64 x5, .slice av l.length cv] 34)).alloc (.cells #[.string ⟨#[]⟩, .int .i64 0, .string ⟨#[]⟩, .string ⟨#[]⟩, .int .i64 0, .int .i64 0, .slice none 0 0] 34)) w3 := Kept.grown hg3 (fun k e => by cases e);
        have b0 : w3.heap[w.heap.size]? = some (.cells #[.string x0, .int .i64 x1, .string x2, .string x3, .int .i64 x4, .int .i64 x5, .slice av l.length cv] 34 (0, 0)) := (by rw [K3.block _ (by simp; omega) (fun h => h), Below.heap_alloc _ _ _ (by simp)]; exact heap_alloc_new _ _);
        have b1 : w3.heap[w.heap.size + 1]? = some (.cells #[.string ⟨#[]⟩, .int .i64 0, .string ⟨#[]⟩, .string ⟨#[]⟩, .int .i64 0, .int .i64 0, .slice none 0 0] 34 (0, 0)) := (by rw [K3.block _ (by simp) (fun h => h)]; have h := heap_alloc_new (w.alloc (.cells #[.string x0, .int .i64 x1, .string x2, .string x3, .int .i64 x4, .int .i64 x5, .slice av l.length cv] 34)) (.cells #[.string ⟨#[]⟩, .int .i64 0, .string ⟨#[]⟩, .string ⟨#[]⟩, .int .i64 0, .int .i64 0, .slice none 0 0] 34); rw [World.size_alloc] at h; exact h);
        obtain ⟨⟨p0, p1, p2, p3, p4, p5, p6⟩, q0, q1, q2, q3, q4, q5, q6⟩ := seven b0; obtain ⟨⟨r0, r1, r2, r3, r4, r5, r6⟩, s0, s1, s2, s3, s4, s5, s6⟩ := seven b1)
    | fail)
  have k1 : Kept (fun j => w.heap.size ≤ j) w3 (w3.setCell ⟨w.heap.size, 6, none⟩ (.slice a3 l.length cap3)) := Kept.setCell _ _ _ (Nat.le_refl _)
  have k0 : Kept (fun j => j = w.heap.size) w3 (w3.setCell ⟨w.heap.size, 6, none⟩ (.slice a3 l.length cap3)) := Kept.setCell _ _ _ rfl
  have b2 := put7 ((k0.block (w.heap.size + 1) (by have := (Array.getElem?_eq_some_iff.1 b1).1; omega) (by omega)).trans b1) (.string x0) (.int .i64 x1) (.string x2) (.string x3) (.int .i64 x4) (.int .i64 x5) (.slice a3 l.length cap3)
  have kk := k1.and (kept7 (S := fun j => w.heap.size ≤ j) (w3.setCell ⟨w.heap.size, 6, none⟩ (.slice a3 l.length cap3)) (b := w.heap.size + 1) (by show w.heap.size ≤ _; omega) (.string x0) (.int .i64 x1) (.string x2) (.string x3) (.int .i64 x4) (.int .i64 x5) (.slice a3 l.length cap3))
  have kq := k0.mono (S' := fun j => j = w.heap.size ∨ j = w.heap.size + 1) (fun _ h => .inl h) |>.and (kept7 (S := fun j => j = w.heap.size ∨ j = w.heap.size + 1) (w3.setCell ⟨w.heap.size, 6, none⟩ (.slice a3 l.length cap3)) (b := w.heap.size + 1) (.inr rfl) (.string x0) (.int .i64 x1) (.string x2) (.string x3) (.int .i64 x4) (.int .i64 x5) (.slice a3 l.length cap3))
  obtain ⟨⟨g0, g1, g2, g3, g4, g5, g6⟩, _⟩ := seven b2
  have hblk : ∀ g, (Value.slice a3 (0 + l.length) cap3).ownBlock = some g → ¬ (g = w.heap.size ∨ g = w.heap.size + 1) := fun g hg => by
    rcases hl3 with h | h
    · rw [h] at hg; cases hg
    · rw [h] at hg
      have := Option.some.inj hg
      simp at this
      omega
  rw [Nat.zero_add] at ho3 hblk
  have ho4 := ownsRow_keep ho3 (fun g hg => kq.block g (ownsRow_blk ho3 hg) (hblk g hg))
  generalize (((((((((w3.setCell { block := w.heap.size, off := 6 } (Value.slice a3 l.length cap3)).setCell { block := w.heap.size + 1, off := 0 } (Value.string x0)).setCell { block := w.heap.size + 1, off := 1 } (Value.int IntKind.i64 x1)).setCell { block := w.heap.size + 1, off := 2 } (Value.string x2)).setCell { block := w.heap.size + 1, off := 3 } (Value.string x3)).setCell { block := w.heap.size + 1, off := 4 } (Value.int IntKind.i64 x4)).setCell { block := w.heap.size + 1, off := 5 } (Value.int IntKind.i64 x5)).setCell { block := w.heap.size + 1, off := 6 } (Value.slice a3 l.length cap3))) = V at *
  refine bodyPost_ret (by simp [results, Tryd.results39, go_sem, g0, g1, g2, g3, g4, g5, g6]; try rfl) rfl ?_
  exact ⟨a3, cap3, rfl, ho4, (((Kept.alloc (fun _ => False) _ _).and (Kept.alloc _ _ _)).and K3).trans kk (fun i h => .inr h)⟩

end Go.Proofs.YtoonnbagppliaaaDoor
