/-
  Rows of records in memory, read as flat rows of cells; copies of them; a state's cells.
-/
import Derived.Test.YtdecceekodpjiaaDoorHMove
namespace Go.Proofs.YtdecceekodpjiaaDoor
open Go.RowKit

def slBlk : Value → Option Nat
  | .slice (some a) _ _ => some a.block
  | _ => none

/-- A row of n records of sz cells each. -/
def FlatAt (w : World) (sz : Nat) (v : Value) (n : Nat) (l : List Value) : Prop :=
  l.length = n * sz ∧ ∃ a c, v = .slice a n c ∧ n ≤ c ∧ c ≤ maxLen ∧ (n = 0 ∨ ∃ b o, a = some ⟨b, o, none⟩ ∧ ∀ j u, l[j]? = some u → w.cell? ⟨b, o + j, none⟩ = some u)

theorem FlatAt.kept {S : Nat → Prop} {w w' : World} {sz n : Nat} {v : Value} {l : List Value} (F : FlatAt w sz v n l) (K : Kept S w w') (hS : ∀ g, slBlk v = some g → g < w.heap.size → ¬ S g) : FlatAt w' sz v n l := by
  obtain ⟨h0, a, c, rfl, h1, h2, h3⟩ := F
  refine ⟨h0, a, c, rfl, h1, h2, ?_⟩
  rcases h3 with h | ⟨b, o, rfl, hc⟩
  · exact .inl h
  · refine .inr ⟨b, o, rfl, fun j u hu => ?_⟩
    have h4 := hc j u hu
    have h5 := World.block_lt_of_cell? w _ h4
    rw [World.cell?_of_block (w := w) (K.block _ h5 (hS b rfl h5))]
    exact h4

theorem FlatAt.new {w w' : World} {sz n : Nat} {v : Value} {l : List Value} (F : FlatAt w sz v n l) (K : Kept (fun _ => False) w w') : FlatAt w' sz v n l := F.kept K (fun _ _ _ h => h)

theorem FlatAt.src {w : World} {sz n : Nat} {v : Value} {l : List Value} (F : FlatAt w sz v n l) : Src w sz v n l := by
  obtain ⟨h0, a, c, rfl, h1, h2, h3⟩ := F
  rcases h3 with h | ⟨b, o, rfl, hc⟩
  · subst h
    have hl : l = [] := List.eq_nil_of_length_eq_zero (by rw [h0, Nat.zero_mul])
    cases a with
    | none => exact .inr ⟨c, rfl, rfl, hl⟩
    | some ad => exact .inl ⟨ad, c, rfl, h0, fun j u hu => by rw [hl] at hu; simp at hu⟩
  · refine .inl ⟨⟨b, o, none⟩, c, rfl, h0, fun j u hu => ?_⟩
    rw [Addr.add_lit]
    exact hc j u hu

theorem flat_of_owns {w : World} {B T sz n : Nat} {v : Value} {l : List Value} (h : w.ownsRow B T sz v n l) : FlatAt w sz v n l := by
  refine ⟨h.1, ?_⟩
  rcases h.2 with ⟨rfl, rfl⟩ | ⟨g, cap, cur, rfl, hb, hg, hn, hm, hs, ht⟩
  · exact ⟨none, 0, rfl, Nat.le_refl _, Nat.zero_le _, .inl rfl⟩
  · refine ⟨some ⟨g, 0, none⟩, cap, rfl, hn, hm, .inr ⟨g, 0, rfl, fun j u hu => ?_⟩⟩
    have := h.cells (g := g) rfl j u hu
    rw [Addr.add_lit] at this
    exact this

theorem slBlk_owns {w : World} {B T sz n : Nat} {v : Value} {l : List Value} (h : w.ownsRow B T sz v n l) : slBlk v = v.ownBlock := by
  rcases h.2 with ⟨rfl, rfl⟩ | ⟨g, cap, cur, rfl, _⟩
  · rfl
  · rfl

/-- The last part of a row. -/
theorem FlatAt.drop {w : World} {sz n k : Nat} {a : Option Addr} {c : Nat} {l : List Value} (F : FlatAt w sz (.slice a n c) n l) (hk : k < n) : ∃ b o, a = some ⟨b, o, none⟩ ∧ FlatAt w sz (.slice (some ⟨b, o + k * sz, none⟩) (n - k) (c - k)) (n - k) (l.drop (k * sz)) := by
  obtain ⟨h0, a', c', e, h1, h2, h3⟩ := F
  obtain ⟨rfl, rfl⟩ : a = a' ∧ c = c' := by simpa using e
  rcases h3 with h | ⟨b, o, rfl, hc⟩
  · omega
  · refine ⟨b, o, rfl, ?_, _, _, rfl, by omega, by omega, .inr ⟨b, o + k * sz, rfl, fun j u hu => ?_⟩⟩
    · rw [List.length_drop, h0, Nat.sub_mul]
    · rw [List.getElem?_drop] at hu
      rw [Nat.add_assoc]
      exact hc _ u hu

theorem FlatAt.take {w : World} {sz n k : Nat} {a : Option Addr} {c : Nat} {l : List Value} (F : FlatAt w sz (.slice a n c) n l) (hk : k ≤ n) : FlatAt w sz (.slice a k c) k (l.take (k * sz)) := by
  obtain ⟨h0, a', c', e, h1, h2, h3⟩ := F
  obtain ⟨rfl, rfl⟩ : a = a' ∧ c = c' := by simpa using e
  refine ⟨?_, a, c, rfl, by omega, h2, ?_⟩
  · rw [List.length_take, h0]
    exact Nat.min_eq_left (Nat.mul_le_mul_right _ hk)
  · rcases h3 with h | ⟨b, o, rfl, hc⟩
    · exact .inl (by omega)
    · refine .inr ⟨b, o, rfl, fun j u hu => ?_⟩
      rw [List.getElem?_take] at hu
      split at hu
      · exact hc j u hu
      · cases hu

theorem flatMap_len {α : Type} {f : α → List Value} {k : Nat} (h : ∀ x, (f x).length = k) : ∀ (l : List α), (l.flatMap f).length = l.length * k
  | [] => by simp
  | x :: l => by rw [List.flatMap_cons, List.length_append, h, flatMap_len h l, List.length_cons, Nat.add_mul]; omega

theorem flatMap_at {α : Type} {f : α → List Value} {k : Nat} (h : ∀ x, (f x).length = k) : ∀ {l : List α} {i : Nat} {x : α}, l[i]? = some x → ∀ j, j < k → (l.flatMap f)[i * k + j]? = (f x)[j]?
  | [], i, x, e => by simp at e
  | y :: ys, 0, x, e => by
    intro j hj
    obtain rfl : y = x := by simpa using e
    rw [List.flatMap_cons, Nat.zero_mul, Nat.zero_add, List.getElem?_append_left (by rw [h]; exact hj)]
  | y :: ys, i + 1, x, e => by
    intro j hj
    have e' : ys[i]? = some x := by simpa using e
    have e2 : (i + 1) * k = k + i * k := by rw [Nat.add_mul, Nat.one_mul, Nat.add_comm]
    rw [List.flatMap_cons, List.getElem?_append_right (by rw [h]; omega), h, show (i + 1) * k + j - k = i * k + j by omega]
    exact flatMap_at h e' j hj

theorem nsC_len (n : Ns) : (nsC n).length = 3 := rfl
theorem sgC_len (s : Sg) : (sgC s).length = 2 := rfl
theorem evC_len (e : Ev) : (evC e).length = 4 := rfl
theorem tkC_len (t : Tk) : (tkC t).length = 13 := rfl

def nsF (l : List Ns) : List Value := l.flatMap nsC
def sgF (l : List Sg) : List Value := l.flatMap sgC
def evF (l : List Ev) : List Value := l.flatMap evC
def tkF (l : List Tk) : List Value := l.flatMap tkC

theorem ones {α : Type} {f : α → List Value} (h : ∀ x, ∀ u ∈ f x, u.oneCell' = true) (l : List α) : ∀ u ∈ l.flatMap f, u.oneCell' = true := by
  intro u hu
  obtain ⟨x, _, hx⟩ := List.mem_flatMap.1 hu
  exact h x u hx

theorem nsF_one (l : List Ns) : ∀ u ∈ nsF l, u.oneCell' = true := ones (fun x u hu => by simp [nsC] at hu; rcases hu with rfl | rfl | rfl <;> rfl) l
theorem sgF_one (l : List Sg) : ∀ u ∈ sgF l, u.oneCell' = true := ones (fun x u hu => by simp [sgC] at hu; rcases hu with rfl | rfl <;> rfl) l
theorem evF_one (l : List Ev) : ∀ u ∈ evF l, u.oneCell' = true := ones (fun x u hu => by simp [evC] at hu; rcases hu with rfl | rfl | rfl | rfl <;> rfl) l
theorem tkF_one (l : List Tk) : ∀ u ∈ tkF l, u.oneCell' = true := ones (fun x u hu => by simp [tkC, mlC] at hu; rcases hu with rfl | rfl | rfl | rfl | rfl | rfl | rfl | rfl | rfl | rfl | rfl | rfl | rfl <;> rfl) l

theorem Tryd.info54 : (Tryd.prog.info? 54).map (fun i => (i.zero, i.size, i.bytes)) = some (some (.agg #[.int .i64 0, .int .i64 0, .string ⟨#[]⟩]), 3, 32) := by kernel_rfl
theorem Tryd.info78 : (Tryd.prog.info? 78).map (fun i => (i.zero, i.size, i.bytes)) = some (some (.agg #[.string ⟨#[]⟩, .string ⟨#[]⟩]), 2, 32) := by kernel_rfl
theorem Tryd.info59 : (Tryd.prog.info? 59).map (fun i => (i.zero, i.size, i.bytes)) = some (some (.agg #[.int .i64 0, .string ⟨#[]⟩, .string ⟨#[]⟩, .int .i64 0]), 4, 48) := by kernel_rfl

set_option maxRecDepth 100000 in
theorem copyNs_any (w : World) (v : Value) (n : Nat) (l : List Value) (hF : FlatAt w 3 v n l) (h1 : ∀ u ∈ l, u.oneCell' = true) (hn : n ≤ 1000000) :
    Calls Tryd.prog 20 #[v] w fun e w' => ∃ a c, e = .returned (.slice a n c) ∧ w'.ownsRow w.heap.size 54 3 (.slice a n c) n l ∧ Kept (fun _ => False) w w' := by
  obtain ⟨i0, hi0, hz0, hz1, hz2⟩ := info_parts Tryd.info54
  have HS : Hid (Src w 3 v n l) := hF.src
  have H1 : Hid (∀ u ∈ l, u.oneCell' = true) := h1
  clear hF h1
  go_enter Tryd.func20, Tryd.ntmps20
  go_wp2_with (first
    | (at_builtin; refine wpList_append_src _ rfl _ _ 36 rfl w.heap.size 54 i0 _ 3 32 Tryd.underlying36 hi0 hz0 hz1 hz2 rfl (by decide) (.slice none 0 0) 0 _ rfl (World.ownsRow_nil _ _ _ _) _ rfl n _ HS.out H1.out (by unfold maxLen; omega) (by omega) (by omega) ?_; intro a3 cap3 w3 ho3 hg3 _ hl3)
    | fail)
  go_ret
  rw [Nat.zero_add, List.nil_append] at ho3
  exact ⟨a3, cap3, by simp, ho3, Kept.grown hg3 (fun k e => by cases e)⟩

set_option maxRecDepth 100000 in
theorem copySg_any (w : World) (v : Value) (n : Nat) (l : List Value) (hF : FlatAt w 2 v n l) (h1 : ∀ u ∈ l, u.oneCell' = true) (hn : n ≤ 1000000) :
    Calls Tryd.prog 21 #[v] w fun e w' => ∃ a c, e = .returned (.slice a n c) ∧ w'.ownsRow w.heap.size 78 2 (.slice a n c) n l ∧ Kept (fun _ => False) w w' := by
  obtain ⟨i0, hi0, hz0, hz1, hz2⟩ := info_parts Tryd.info78
  have HS : Hid (Src w 2 v n l) := hF.src
  have H1 : Hid (∀ u ∈ l, u.oneCell' = true) := h1
  clear hF h1
  go_enter Tryd.func21, Tryd.ntmps21
  go_wp2_with (first
    | (at_builtin; refine wpList_append_src _ rfl _ _ 37 rfl w.heap.size 78 i0 _ 2 32 Tryd.underlying37 hi0 hz0 hz1 hz2 rfl (by decide) (.slice none 0 0) 0 _ rfl (World.ownsRow_nil _ _ _ _) _ rfl n _ HS.out H1.out (by unfold maxLen; omega) (by omega) (by omega) ?_; intro a3 cap3 w3 ho3 hg3 _ hl3)
    | fail)
  go_ret
  rw [Nat.zero_add, List.nil_append] at ho3
  exact ⟨a3, cap3, by simp, ho3, Kept.grown hg3 (fun k e => by cases e)⟩

end Go.Proofs.YtdecceekodpjiaaDoor
