/-
  A node's words as they are written, and read again; a definition's text, and the same with more blanks, empty lines and remarks. Nothing here speaks of a program.
-/
import Derived.Test.YtlholgpenpfpbaaDoorDTextP
import Derived.Test.YtlholgpenpfpbaaDoorDLevP
namespace Go.Proofs.YtlholgpenpfpbaaDoor
open Go.RowKit

def itB (z : Int) : ByteArray := mkB (Lib.itoa z)

def kindW (n : Nd) : List ByteArray :=
  if n.kind = 1 then [actB, n.arg] ++ ((if n.tries = 1 then [] else [triB, itB n.tries]) ++ (if n.delay = 0 then [] else [tmoB, itB n.delay]))
  else if n.kind = 2 then [timB, itB n.delay]
  else if n.kind = 3 then [chiB, n.arg]
  else if n.kind = 4 then [waiB, n.arg]
  else if n.kind = 5 then [senB, n.to, n.arg]
  else []
def aftW (l : List ByteArray) : List ByteArray := if l = [] then [] else aftB :: l
/-- The words of a node's line. -/
def wordsW (n : Nd) : List ByteArray := n.name :: (kindW n ++ aftW n.after)

/-! ### Numbers -/

theorem digitVal_of {d : Nat} (h : d < 10) : Lib.digitVal (UInt8.ofNat (48 + d)) = some d := by
  unfold Lib.digitVal
  have : (UInt8.ofNat (48 + d)).toNat = 48 + d := by rw [UInt8.toNat_ofNat']; omega
  rw [this, if_pos ⟨by omega, by omega⟩]
  congr 1
  omega

theorem decFrom_append : ∀ (l r : List UInt8) (a n : Nat), Lib.decFrom a l = some n → Lib.decFrom a (l ++ r) = Lib.decFrom n r
  | [], r, a, n, h => by simp [Lib.decFrom] at h; rw [h]; rfl
  | b :: l, r, a, n, h => by
    rw [List.cons_append, Lib.decFrom]
    rw [Lib.decFrom] at h
    cases hd : Lib.digitVal b with
    | none => rw [hd] at h; cases h
    | some d => rw [hd] at h; exact decFrom_append l r _ n h

theorem dec_back : ∀ (f u : Nat), u ≤ f → Lib.decFrom 0 (Lib.decDigits u) = some u ∧ (Lib.decDigits u ≠ []) ∧ (∀ b ∈ Lib.decDigits u, digitsB.data.toList.contains b = true) ∧ (Lib.decDigits u = [48] ∨ (Lib.decDigits u).headD 0 ≠ 48)
  | f, u, hf => by
    have hdig : ∀ d, d < 10 → digitsB.data.toList.contains (UInt8.ofNat (48 + d)) = true := by decide
    have hne48 : ∀ d, d < 10 → d ≠ 0 → UInt8.ofNat (48 + d) ≠ 48 := by decide
    rw [Lib.decDigits]
    by_cases h : u < 10
    · rw [dif_pos h]
      refine ⟨?_, by simp, fun b hb => ?_, ?_⟩
      · rw [Lib.decFrom, digitVal_of h]
        simp [Lib.decFrom]
      · rw [List.mem_singleton] at hb; rw [hb]; exact hdig u h
      · by_cases h0 : u = 0
        · left; rw [h0]; rfl
        · right; exact hne48 u h h0
    · rw [dif_neg h]
      cases f with
      | zero => omega
      | succ f =>
        obtain ⟨i1, i2, i3, i4⟩ := dec_back f (u / 10) (by omega)
        refine ⟨?_, by simp, fun b hb => ?_, ?_⟩
        · rw [decFrom_append _ _ _ _ i1]
          simp only [Lib.decFrom, digitVal_of (show u % 10 < 10 by omega)]
          congr 1
          omega
        · rw [List.mem_append] at hb
          rcases hb with hb | hb
          · exact i3 b hb
          · rw [List.mem_singleton] at hb; rw [hb]; exact hdig _ (by omega)
        · right
          cases hl : Lib.decDigits (u / 10) with
          | nil => exact absurd hl i2
          | cons b r =>
            rw [List.cons_append, List.headD_cons]
            rcases i4 with e | e
            · rw [e] at i1
              simp [Lib.decFrom, Lib.digitVal] at i1
              omega
            · rw [hl] at e; exact e

theorem dec_short (u : Nat) (h : u < 1000000000000000) : (Lib.decDigits u).length ≤ 15 := by
  rw [Lib.decDigits_length]
  have key : ∀ (k u : Nat), u < 10 ^ (k + 1) → Lib.nDigits u ≤ k + 1 := by
    intro k
    induction k with
    | zero => intro u hu; rw [← Lib.decDigits_length, Lib.decDigits, dif_pos (by omega)]; simp
    | succ k ih =>
      intro u hu
      rw [← Lib.decDigits_length, Lib.decDigits]
      split
      · simp
      · rw [List.length_append, Lib.decDigits_length]
        have := ih (u / 10) (by rw [Nat.pow_succ] at hu; omega)
        simp only [List.length_singleton]
        omega
  exact key 14 u (by omega)

theorem num_back {z : Int} (h0 : 0 ≤ z) (h1 : z ≤ 1000000) : numP (itB z) = true ∧ numV (itB z) = z := by
  obtain ⟨u, rfl⟩ : ∃ u : Nat, z = u := ⟨z.toNat, by omega⟩
  have e : Lib.itoa (u : Int) = Lib.decDigits u := by unfold Lib.itoa; rw [if_neg (by omega)]; simp
  obtain ⟨b1, b2, b3, b4⟩ := dec_back u u (Nat.le_refl _)
  have hs := dec_short u (by omega)
  have hp : 0 < (Lib.decDigits u).length := List.length_pos_iff.2 b2
  have hm : madeP (itB (u : Int)) digitsB 15 = true := by
    unfold madeP itB
    rw [mkB_size, mkB_list, e]
    simp only [Bool.and_eq_true, decide_eq_true_eq, List.all_eq_true]
    exact ⟨⟨by omega, by omega⟩, b3⟩
  refine ⟨?_, ?_⟩
  · unfold numP
    rw [hm, Bool.true_and]
    unfold itB
    rw [mkB_list, e]
    rcases b4 with h | h
    · rw [h]; rfl
    · rw [Bool.or_eq_true]
      right
      rw [Bool.not_eq_true', beq_eq_false_iff_ne]
      exact h
  · have ha := (num_atoi hm).1
    unfold itB at ha ⊢
    rw [mkB_list, e] at ha
    unfold numV
    rw [mkB_list, e]
    cases hl : Lib.decDigits u with
    | nil => exact absurd hl b2
    | cons b r =>
      have hb := b3 b (by rw [hl]; simp)
      have e1 : (b == 45) = false := by
        cases hh : (b == 45) with
        | false => rfl
        | true => rw [beq_iff_eq] at hh; subst hh; simp [digitsB] at hb
      have e2 : (b == 43) = false := by
        cases hh : (b == 43) with
        | false => rfl
        | true => rw [beq_iff_eq] at hh; subst hh; simp [digitsB] at hb
      rw [hl] at b1
      simp only [Lib.atoi, e1, e2, Bool.false_eq_true, if_false, Lib.decNat]
      rw [show (List.isEmpty (b :: r)) = false from rfl]
      simp only [Bool.false_eq_true, if_false]
      rw [b1]
      rfl

theorem dig_word (z : Int) (h0 : 0 ≤ z) : WordOk (Lib.itoa z) := by
  obtain ⟨u, rfl⟩ : ∃ u : Nat, z = u := ⟨z.toNat, by omega⟩
  have e : Lib.itoa (u : Int) = Lib.decDigits u := by unfold Lib.itoa; rw [if_neg (by omega)]; simp
  obtain ⟨_, b2, b3, _⟩ := dec_back u u (Nat.le_refl _)
  have key : ∀ b, digitsB.data.toList.contains b = true → b ≠ 32 ∧ b ≠ 10 ∧ b ≠ 35 := by
    intro b hb
    refine ⟨?_, ?_, ?_⟩ <;> (rintro rfl; revert hb; decide)
  rw [e]
  refine ⟨b2, fun b hb => ⟨(key b (b3 b hb)).1, (key b (b3 b hb)).2.1⟩, ?_⟩
  cases hl : Lib.decDigits u with
  | nil => exact absurd hl b2
  | cons b r => exact (key b (b3 b (by rw [hl]; simp))).2.2

/-! ### Names -/

theorem made_word {s l : ByteArray} {m : Int} (hl : ∀ b ∈ l.data.toList, b ≠ 32 ∧ b ≠ 10 ∧ b ≠ 35) (h : madeP s l m = true) : WordOk s.data.toList := by
  unfold madeP at h
  simp only [Bool.and_eq_true, decide_eq_true_eq, List.all_eq_true] at h
  obtain ⟨⟨h1, _⟩, h3⟩ := h
  have hlen : s.data.toList.length = s.size := by simp
  have key : ∀ b ∈ s.data.toList, b ≠ 32 ∧ b ≠ 10 ∧ b ≠ 35 := fun b hb => hl b (by simpa using h3 b hb)
  have hne : s.data.toList ≠ [] := by intro e; rw [e] at hlen; simp at hlen; omega
  refine ⟨hne, fun b hb => ⟨(key b hb).1, (key b hb).2.1⟩, ?_⟩
  cases hs : s.data.toList with
  | nil => exact absurd hs hne
  | cons b r => exact (key b (by rw [hs]; simp)).2.2

theorem name_word {s : ByteArray} (h : nameP s = true) : WordOk s.data.toList := made_word (by decide) h
theorem flow_word {s : ByteArray} (h : flowP s = true) : WordOk s.data.toList := made_word (by decide) h
theorem lit_words : (WordOk actB.data.toList ∧ WordOk timB.data.toList ∧ WordOk chiB.data.toList ∧ WordOk waiB.data.toList ∧ WordOk senB.data.toList) ∧ WordOk triB.data.toList ∧ WordOk tmoB.data.toList ∧ WordOk aftB.data.toList ∧ WordOk wfB.data.toList := by
  unfold WordOk
  decide

/-! ### A definition that is right -/

structure NdRight (n : Nd) : Prop where
  named : namedP n = true
  fits : fitsP n = true
  after : ∀ s ∈ n.after, nameP s = true

theorem check_right {nm : ByteArray} {ns : List Nd} (h : (checkP nm ns).2 = 0) : nameP nm = true ∧ ns.length ≤ 32 ∧ 1 ≤ ns.length ∧ ∀ n ∈ ns, NdRight n ∧ n.after.length ≤ 32 := by
  have T := taken_of h
  have node : ∀ k (hk : k < ns.length), namedP ns[k] = true ∧ fitsP ns[k] = true := by
    intro k hk
    have e := T.nod k hk
    unfold nodeE at e
    split at e
    · rename_i hnamed
      split at e
      · simp at e
      · split at e
        · rename_i hf; exact ⟨hnamed, hf⟩
        · simp at e
    · simp at e
  refine ⟨T.name, T.hi, T.lo, fun n hmem => ?_⟩
  obtain ⟨k, hk, rfl⟩ := List.mem_iff_getElem.1 hmem
  obtain ⟨n1, n2⟩ := node k hk
  refine ⟨⟨n1, n2, fun s hs => ?_⟩, by have := T.few hk; have := T.hi; omega⟩
  have e := T.aft k hk
  unfold afterE at e
  split at e
  · rename_i hall
    have := List.all_eq_true.1 hall s hs
    obtain ⟨j, hj⟩ := Option.isSome_iff_exists.1 this
    have := (node j (findP_lt hj)).1
    rw [← findP_name hj]
    unfold namedP at this
    simp only [Bool.and_eq_true] at this
    exact this.1.1
  · simp at e

end Go.Proofs.YtlholgpenpfpbaaDoor
