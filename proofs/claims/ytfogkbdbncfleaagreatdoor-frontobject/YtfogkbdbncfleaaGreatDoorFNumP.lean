/-
  The document's numbers as data.
-/
import Derived.Test.YtfogkbdbncfleaaGreatDoorFPure
namespace Go.Proofs.YtfogkbdbncfleaaGreatDoor
open Go.RowKit

theorem tw_lt {α : Type} (p : α → Bool) : ∀ (l : List α) (d : Nat), d < (l.takeWhile p).length → ∃ x, l[d]? = some x ∧ p x = true
  | [], d, h => by simp at h
  | a :: l, d, h => by
    rw [List.takeWhile_cons] at h
    by_cases hp : p a = true
    · rw [if_pos hp] at h
      cases d with
      | zero => exact ⟨a, rfl, hp⟩
      | succ d =>
        obtain ⟨x, h1, h2⟩ := tw_lt p l d (by simpa using h)
        exact ⟨x, by simpa using h1, h2⟩
    · rw [if_neg hp] at h
      simp at h

theorem tw_end {α : Type} (p : α → Bool) : ∀ (l : List α) (x : α), l[(l.takeWhile p).length]? = some x → p x = false
  | [], x, h => by simp at h
  | a :: l, x, h => by
    rw [List.takeWhile_cons] at h
    by_cases hp : p a = true
    · rw [if_pos hp] at h
      exact tw_end p l x (by simpa using h)
    · rw [if_neg hp] at h
      simp at h
      subst h
      simpa using hp

/-- So many digits stand there. -/
def digRun (s : ByteArray) (f : Nat) : Nat := ((s.data.toList.drop f).takeWhile isDig).length

theorem digRun_le (s : ByteArray) {f : Nat} (h : f ≤ s.size) : f + digRun s f ≤ s.size := by
  unfold digRun
  have h1 : ((s.data.toList.drop f).takeWhile isDig).length ≤ (s.data.toList.drop f).length := (List.takeWhile_sublist _).length_le
  rw [List.length_drop] at h1
  have : s.data.toList.length = s.size := by simp
  omega

theorem digRun_at (s : ByteArray) {f d : Nat} (h : d < digRun s f) : ∃ hl : f + d < s.size, isDig (s[f + d]'hl) = true := by
  obtain ⟨x, h1, h2⟩ := tw_lt isDig _ d h
  rw [List.getElem?_drop] at h1
  have hl : f + d < s.size := by
    rcases Nat.lt_or_ge (f + d) s.size with h | h
    · exact h
    · rw [get_ge s h] at h1; cases h1
  rw [get_lt s hl] at h1
  exact ⟨hl, by rw [Option.some.inj h1]; exact h2⟩

theorem digRun_end (s : ByteArray) {f : Nat} (hl : f + digRun s f < s.size) : isDig (s[f + digRun s f]'hl) = false := by
  refine tw_end isDig (s.data.toList.drop f) _ ?_
  rw [List.getElem?_drop]
  exact get_lt s hl

/-- A digit stands there. -/
def digAt (s : ByteArray) (j : Nat) : Bool := match s.data.toList[j]? with
  | none => false
  | some c => isDig c

theorem digAt_run (s : ByteArray) {f d : Nat} (h : d ≤ digRun s f) : digAt s (f + d) = decide (d < digRun s f) := by
  by_cases hd : d < digRun s f
  · obtain ⟨hl, h1⟩ := digRun_at s hd
    unfold digAt
    rw [get_lt s hl]
    simp only [h1, hd, decide_true]
  · obtain rfl : d = digRun s f := by omega
    rw [decide_eq_false (by omega)]
    unfold digAt
    rcases Nat.lt_or_ge (f + digRun s f) s.size with hl | hl
    · rw [get_lt s hl]
      exact digRun_end s hl
    · rw [get_ge s hl]

/-- The document's number: no digit may stand behind it. -/
def numR (s : ByteArray) (i : Nat) : List UInt8 × Nat × Bool := if (numP s i).2.2 && digAt s (numP s i).2.1 then ([], (numP s i).2.1, false) else numP s i

/-- The same, from its first digit on. -/
def numT (s : ByteArray) (i f : Nat) : List UInt8 × Nat × Bool :=
  if digRun s f = 0 then ([], f, false)
  else if standsP s f 48 then (if i < f then ([], f, false) else if digRun s f = 1 then (subL s i (f + 1), f + 1, true) else ([], f + 1, false))
  else if digRun s f ≤ 15 then (subL s i (f + digRun s f), f + digRun s f, true) else ([], f + 15, false)

theorem stands_run (s : ByteArray) {f : Nat} (h : standsP s f 48 = true) : 1 ≤ digRun s f := by
  have hl := standsP_some s h
  rw [standsP_lt s hl] at h
  have h0 : s[f]'hl = 48 := by simpa using h
  rcases Nat.eq_zero_or_pos (digRun s f) with h1 | h1
  · have h2 := digAt_run s (f := f) (d := 0) (by omega)
    rw [h1] at h2
    unfold digAt at h2
    rw [Nat.add_zero, get_lt s hl] at h2
    simp only [h0] at h2
    exact absurd h2 (by decide)
  · exact h1

theorem numR_eq (s : ByteArray) (i : Nat) : numR s i = numT s i (if standsP s i 45 then i + 1 else i) := by
  cases hm : standsP s i 45 with
  | false =>
    cases hz : standsP s i 48 with
    | true =>
      have hN : numP s i = ([48], i + 1, true) := by unfold numP; simp [hm, hz]
      have hr := stands_run s hz
      have hd := digAt_run s (f := i) (d := 1) hr
      have hl := standsP_some s hz
      have hs : subL s i (i + 1) = [48] := by
        unfold subL
        rw [drop_next s hl, show i + 1 - i = 1 by omega]
        rw [standsP_lt s hl] at hz
        simp at hz
        rw [hz]
        rfl
      unfold numR numT
      rw [hN]
      simp only [Bool.true_and, hd, Bool.false_eq_true, if_false, hz, if_true, Nat.lt_irrefl, hs]
      by_cases h1 : digRun s i = 1
      · simp [h1]
      · simp [h1, show digRun s i ≠ 0 by omega, show 1 < digRun s i by omega]
    | false =>
      have hN : numP s i = if digRun s i = 0 then ([], i, false) else (subL s i (i + min 15 (digRun s i)), i + min 15 (digRun s i), true) := by
        unfold numP digsP
        simp only [hm, hz, Bool.not_false, Bool.and_false, Bool.false_eq_true, if_false]
        by_cases h0 : digRun s i = 0
        · rw [if_pos (by unfold digRun at h0; omega), if_pos h0]
        · rw [if_neg (by unfold digRun at h0; omega), if_neg h0]; rfl
      have hd := digAt_run s (f := i) (d := min 15 (digRun s i)) (by omega)
      unfold numR numT
      rw [hN]
      simp only [Bool.false_eq_true, if_false, hz]
      by_cases h0 : digRun s i = 0
      · simp [h0]
      · simp only [if_neg h0, Bool.true_and, hd, decide_eq_true_eq]
        by_cases h1 : digRun s i ≤ 15
        · rw [if_neg (by omega), if_pos h1, show min 15 (digRun s i) = digRun s i by omega]
        · rw [if_pos (by omega), if_neg h1, show min 15 (digRun s i) = 15 by omega]
  | true =>
    cases hz : standsP s (i + 1) 48 with
    | true =>
      have hN : numP s i = ([], i + 1, false) := by unfold numP; simp [hm, hz]
      have hr := stands_run s hz
      unfold numR numT
      rw [hN]
      simp [hz, show digRun s (i + 1) ≠ 0 by omega]
    | false =>
      have hN : numP s i = if digRun s (i + 1) = 0 then ([], i + 1, false) else (subL s i (i + 1 + min 15 (digRun s (i + 1))), i + 1 + min 15 (digRun s (i + 1)), true) := by
        unfold numP digsP
        simp only [hm, hz, Bool.not_true, Bool.false_and, Bool.false_eq_true, if_false, if_true]
        by_cases h0 : digRun s (i + 1) = 0
        · rw [if_pos (by unfold digRun at h0; omega), if_pos h0]
        · rw [if_neg (by unfold digRun at h0; omega), if_neg h0]; rfl
      have hd := digAt_run s (f := i + 1) (d := min 15 (digRun s (i + 1))) (by omega)
      unfold numR numT
      rw [hN]
      simp only [if_true, hz, Bool.false_eq_true, if_false]
      by_cases h0 : digRun s (i + 1) = 0
      · simp [h0]
      · simp only [if_neg h0, Bool.true_and, hd, decide_eq_true_eq]
        by_cases h1 : digRun s (i + 1) ≤ 15
        · rw [if_neg (by omega), if_pos h1, show min 15 (digRun s (i + 1)) = digRun s (i + 1) by omega]
        · rw [if_pos (by omega), if_neg h1, show min 15 (digRun s (i + 1)) = 15 by omega]

/-- A value, the document's. -/
def valR (s : ByteArray) (i : Nat) : List UInt8 × Nat × Bool :=
  if standsP s i 34 then (if (textP s i).2.2 then (34 :: (textP s i).1, (textP s i).2.1, true) else ([], (textP s i).2.1, false)) else numR s i

end Go.Proofs.YtfogkbdbncfleaaGreatDoor
