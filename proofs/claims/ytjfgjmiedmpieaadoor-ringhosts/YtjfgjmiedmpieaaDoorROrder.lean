/-
  The ring in plain terms: spots in their order, whose a shard is.
-/
import Derived.Test.YtjfgjmiedmpieaaDoorRPure
import Derived.Shelf.SlSortCmp.NoneTotal
namespace Go.Proofs.YtjfgjmiedmpieaaDoor
open Go.Sort

/-- A spot: a point and its host. -/
abbrev Sp := Pt × Int

def spCmp (x y : Sp) : Int := if ahead x.1 y.1 then -1 else if ahead y.1 x.1 then 1 else Lib.compareInt x.2 y.2

theorem spLt (x y : Sp) : Go.Proofs.ltOf spCmp x y = decide (x.1.1 < y.1.1 ∨ x.1.1 = y.1.1 ∧ (x.1.2 < y.1.2 ∨ x.1.2 = y.1.2 ∧ x.2 < y.2)) := by
  unfold Go.Proofs.ltOf spCmp
  by_cases h1 : ahead x.1 y.1 = true
  · rw [if_pos h1]
    have := (ahead_iff _ _).1 h1
    simp; omega
  · have h1' : ahead x.1 y.1 = false := by simpa using h1
    have n1 := (ahead_no _ _).1 h1'
    rw [if_neg h1]
    by_cases h2 : ahead y.1 x.1 = true
    · rw [if_pos h2]
      have := (ahead_iff _ _).1 h2
      simp; omega
    · have h2' : ahead y.1 x.1 = false := by simpa using h2
      have n2 := (ahead_no _ _).1 h2'
      rw [if_neg h2]
      unfold Lib.compareInt
      by_cases h3 : x.2 < y.2
      · simp [h3]; omega
      · by_cases h4 : y.2 < x.2 <;> simp [h3, h4] <;> omega

theorem spSwo : SWO (Go.Proofs.ltOf spCmp) where
  irrefl x := by rw [spLt]; simp
  trans x y z h1 h2 := by rw [spLt] at *; simp at *; omega
  ntrans x y z h1 h2 := by rw [spLt] at *; simp at *; omega

/-- x stands no later than y. -/
def noLater (x y : Sp) : Prop := Go.Proofs.ltOf spCmp y x = false

theorem noLater_iff (x y : Sp) : noLater x y ↔ x.1.1 < y.1.1 ∨ x.1.1 = y.1.1 ∧ (x.1.2 < y.1.2 ∨ x.1.2 = y.1.2 ∧ x.2 ≤ y.2) := by
  unfold noLater
  rw [spLt]
  simp
  omega

theorem noLater_antisymm {x y : Sp} (h1 : noLater x y) (h2 : noLater y x) : x = y := by
  rw [noLater_iff] at h1 h2
  obtain ⟨⟨a, b⟩, c⟩ := x
  obtain ⟨⟨d, e⟩, f⟩ := y
  simp only at h1 h2
  obtain rfl : a = d := by omega
  obtain rfl : b = e := by omega
  obtain rfl : c = f := by omega
  rfl

/-- x is the spot to which what lies at p belongs: the first that is not ahead of p, or the first of all. -/
def IsNext (l : List Sp) (p : Pt) (x : Sp) : Prop :=
  x ∈ l ∧ ((ahead x.1 p = false ∧ ∀ y ∈ l, ahead y.1 p = false → noLater x y) ∨ ((∀ y ∈ l, ahead y.1 p = true) ∧ ∀ y ∈ l, noLater x y))

theorem IsNext.unique {l : List Sp} {p : Pt} {x y : Sp} (hx : IsNext l p x) (hy : IsNext l p y) : x = y := by
  obtain ⟨mx, hx⟩ := hx
  obtain ⟨my, hy⟩ := hy
  rcases hx with ⟨ax, nx⟩ | ⟨ax, nx⟩ <;> rcases hy with ⟨ay, ny⟩ | ⟨ay, ny⟩
  · exact noLater_antisymm (nx y my ay) (ny x mx ax)
  · have := ay x mx; rw [ax] at this; cases this
  · have := ax y my; rw [ay] at this; cases this
  · exact noLater_antisymm (nx y my) (ny x mx)

theorem IsNext.congr {l l' : List Sp} {p : Pt} {x : Sp} (h : IsNext l p x) (hm : ∀ y, y ∈ l' ↔ y ∈ l) : IsNext l' p x := by
  obtain ⟨mx, hx⟩ := h
  refine ⟨(hm x).2 mx, ?_⟩
  rcases hx with ⟨ax, nx⟩ | ⟨ax, nx⟩
  · exact .inl ⟨ax, fun y hy => nx y ((hm y).1 hy)⟩
  · exact .inr ⟨fun y hy => ax y ((hm y).1 hy), fun y hy => nx y ((hm y).1 hy)⟩

/-- If a host goes, what was not its stays where it was. -/
theorem IsNext.less {l l' : List Sp} {p : Pt} {x : Sp} (h : IsNext l p x) (hs : ∀ y, y ∈ l' → y ∈ l) (hx' : x ∈ l') : IsNext l' p x := by
  obtain ⟨_, hx⟩ := h
  refine ⟨hx', ?_⟩
  rcases hx with ⟨ax, nx⟩ | ⟨ax, nx⟩
  · exact .inl ⟨ax, fun y hy => nx y (hs y hy)⟩
  · exact .inr ⟨fun y hy => ax y (hs y hy), fun y hy => nx y (hs y hy)⟩

/-- What a spot ahead of p has ahead of it is ahead of p. -/
theorem ahead_mono {x y : Sp} {p : Pt} (h : noLater x y) (hy : ahead y.1 p = true) : ahead x.1 p = true := by
  rw [noLater_iff] at h
  rw [ahead_iff] at hy ⊢
  omega

end Go.Proofs.YtjfgjmiedmpieaaDoor
