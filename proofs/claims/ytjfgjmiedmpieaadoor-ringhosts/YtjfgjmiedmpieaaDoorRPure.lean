/-
  The ring in plain terms: points and their order.
-/
import Derived.Test.YtjfgjmiedmpieaaDoorRFloat
namespace Go.Proofs.YtjfgjmiedmpieaaDoor

/-- A point: its two parts. -/
abbrev Pt := Int × Int

def pstep (z : Pt) (b : Int) : Pt := ((3 * z.1 - 2 * z.2 + b) % 16777213, (2 * z.1 + 3 * z.2 + 1) % 16777213)
def stir (z : Pt) (l : List UInt8) : Pt := l.foldl (fun z b => pstep z (b.toNat : Int)) z
/-- The document's point of a text. -/
def point (l : List UInt8) : Pt := stir (stir (1, 0) l) [0, 0, 0]

/-- The parts of a point lie within the square. -/
def InSq (z : Pt) : Prop := (0 ≤ z.1 ∧ z.1 < 16777213) ∧ 0 ≤ z.2 ∧ z.2 < 16777213

theorem pstep_in (z : Pt) (b : Int) : InSq (pstep z b) :=
  ⟨⟨Int.emod_nonneg _ (by decide), Int.emod_lt_of_pos _ (by decide)⟩, Int.emod_nonneg _ (by decide), Int.emod_lt_of_pos _ (by decide)⟩

theorem stir_in (l : List UInt8) : ∀ {z : Pt}, InSq z → InSq (stir z l) := by
  induction l with
  | nil => intro z h; exact h
  | cons b r ih => intro z _; exact ih (pstep_in z _)

theorem one_in : InSq (1, 0) := ⟨⟨by decide, by decide⟩, by decide, by decide⟩

theorem point_in (l : List UInt8) : InSq (point l) := stir_in _ (stir_in _ one_in)

theorem stir_next (z : Pt) (l : List UInt8) (k : Nat) (hk : k < l.length) : stir z (l.take (k + 1)) = pstep (stir z (l.take k)) (((l.getD k 0).toNat : Nat) : Int) := by
  unfold stir
  rw [List.take_add_one, List.foldl_append, List.getElem?_eq_getElem hk, List.getD_eq_getElem?_getD, List.getElem?_eq_getElem hk]
  rfl

/-- One point is ahead of another. -/
def ahead (a b : Pt) : Bool := if a.1 = b.1 then decide (a.2 < b.2) else decide (a.1 < b.1)

theorem ahead_iff (a b : Pt) : ahead a b = true ↔ a.1 < b.1 ∨ a.1 = b.1 ∧ a.2 < b.2 := by
  unfold ahead
  split <;> simp <;> omega

theorem ahead_no (a b : Pt) : ahead a b = false ↔ b.1 < a.1 ∨ b.1 = a.1 ∧ b.2 ≤ a.2 := by
  unfold ahead
  split <;> simp <;> omega

end Go.Proofs.YtjfgjmiedmpieaaDoor
