/-
  The document's put: a spot into the row, behind those that are alike.
-/
import Derived.Test.YtjfgjmiedmpieaaDoorRRefHost
import Derived.Test.YtjfgjmiedmpieaaDoorRKeep
namespace Go.Proofs.YtjfgjmiedmpieaaDoor
open Go.RowKit Go.Sort

/-- A spot's three cells. -/
def enc3 (x : Sp) : List Value := [.int .i64 x.1.1, .int .i64 x.1.2, .int .i64 x.2]
def sp3 (l : List Sp) : List Value := l.flatMap enc3

theorem sp3_append (a b : List Sp) : sp3 (a ++ b) = sp3 a ++ sp3 b := by simp [sp3]
theorem sp3_len (l : List Sp) : (sp3 l).length = l.length * 3 := by
  induction l with
  | nil => rfl
  | cons x l ih =>
    show (enc3 x ++ sp3 l).length = _
    rw [List.length_append, ih]
    show 3 + l.length * 3 = (l.length + 1) * 3
    omega
theorem sp3_one (l : List Sp) : ∀ v ∈ sp3 l, v.oneCell' = true := by
  intro v hv
  obtain ⟨x, _, hx⟩ := List.mem_flatMap.1 hv
  simp [enc3] at hx
  rcases hx with rfl | rfl | rfl <;> rfl
theorem sp3_split (l : List Sp) (k : Nat) : sp3 l = sp3 (l.take k) ++ sp3 (l.drop k) := by rw [← sp3_append, List.take_append_drop]

theorem srcTake {w : World} {base n cap g : Nat} {T : TypeId} {l : List Sp} (h : w.ownsRow base T 3 (.slice (some ⟨g, 0, none⟩) n cap) n (sp3 l)) (hl : l.length = n) {k : Nat} (hk : k ≤ n) : Src w 3 (.slice (some ⟨g, 0, none⟩) k cap) k (sp3 (l.take k)) := by
  refine .inl ⟨_, _, rfl, by rw [sp3_len, List.length_take]; omega, fun j u hu => h.cells rfl j u ?_⟩
  rw [sp3_split l k, List.getElem?_append_left (List.getElem?_eq_some_iff.1 hu).1]
  exact hu

theorem srcDrop {w : World} {base n cap g : Nat} {T : TypeId} {l : List Sp} (h : w.ownsRow base T 3 (.slice (some ⟨g, 0, none⟩) n cap) n (sp3 l)) (hl : l.length = n) {k : Nat} (hk : k ≤ n) : Src w 3 (.slice (some ⟨g, k * 3, none⟩) (n - k) (cap - k)) (n - k) (sp3 (l.drop k)) := by
  refine .inl ⟨_, _, rfl, by rw [sp3_len, List.length_drop]; omega, fun j u hu => ?_⟩
  have h1 := h.cells rfl (k * 3 + j) u (by
    have hlt : (sp3 (l.take k)).length = k * 3 := by rw [sp3_len, List.length_take]; omega
    rw [sp3_split l k, List.getElem?_append_right (by omega), hlt, Nat.add_sub_cancel_left]
    exact hu)
  rw [Addr.add_lit] at h1 ⊢
  rw [Nat.zero_add] at h1
  exact h1

theorem rspOfRow {w : World} {base n cap g : Nat} {T : TypeId} {l : List Sp} (h : w.ownsRow base T 3 (.slice (some ⟨g, 0, none⟩) n cap) n (sp3 l)) : ∀ i (hi : i < l.length), w.cell? ⟨g, i * 3, none⟩ = some (.int .i64 (l[i]'hi).1.1) ∧ w.cell? ⟨g, i * 3 + 1, none⟩ = some (.int .i64 (l[i]'hi).1.2) ∧ w.cell? ⟨g, i * 3 + 2, none⟩ = some (.int .i64 (l[i]'hi).2) := by
  intro i hi
  have hx : ∀ d (hd : d < 3), (sp3 l)[i * 3 + d]? = (enc3 (l[i]'hi))[d]? := fun d hd => by
    have hlt : (sp3 (l.take i)).length = i * 3 := by rw [sp3_len, List.length_take]; omega
    rw [sp3_split l i, List.getElem?_append_right (by omega), hlt, Nat.add_sub_cancel_left, List.drop_eq_getElem_cons hi]
    show (enc3 l[i] ++ sp3 (l.drop (i + 1)))[d]? = _
    rw [List.getElem?_append_left hd]
  have f : ∀ d u (hd : d < 3), (enc3 (l[i]'hi))[d]? = some u → w.cell? ⟨g, i * 3 + d, none⟩ = some u := fun d u hd hu => by
    have := h.cells rfl (i * 3 + d) u (by rw [hx d hd]; exact hu)
    rw [Addr.add_lit, Nat.zero_add] at this
    exact this
  exact ⟨f 0 _ (by decide) rfl, f 1 _ (by decide) rfl, f 2 _ (by decide) rfl⟩

end Go.Proofs.YtjfgjmiedmpieaaDoor
