/-
  A body's text read as data: blanks, escapes, characters, texts, numbers, fields. Nothing here speaks of a program.
-/
import Derived.Test.YtfiaaaflpjpnjaaGreatDoorCBase
import Derived.Lib.RuneBytes
import Derived.Lib.Small
import Derived.Lib.Bytealg
import Derived.Shelf.Unicode.DecodeSlow
namespace Go.Proofs.YtfiaaaflpjpnjaaGreatDoor
open Go.RowKit

/-- The byte c stands at i. -/
def standsP (s : ByteArray) (i : Nat) (c : UInt8) : Bool := s.data.toList[i]? == some c

def blankB (c : UInt8) : Bool := c == 32 || c == 9 || c == 10 || c == 13

/-- The first place from i on at which no blank stands. -/
def skipP (s : ByteArray) (i : Nat) : Nat := i + ((s.data.toList.drop i).takeWhile blankB).length

def isDig (c : UInt8) : Bool := decide (48 ≤ c.toNat) && decide (c.toNat ≤ 57)

/-- The small letter of a great one. -/
def lowerP (c : UInt8) : UInt8 := if 65 ≤ c.toNat ∧ c.toNat ≤ 90 then c + 32 else c

/-- A digit of base 16; -1: it is none. -/
def hexD (c : UInt8) : Int := Lib.indexByte [48, 49, 50, 51, 52, 53, 54, 55, 56, 57, 97, 98, 99, 100, 101, 102] (lowerP c)

/-- k digits more. -/
def hexF (s : ByteArray) (at0 : Nat) : Nat → Nat → Int → Int × Nat × Bool
  | 0, next, c => if Lib.validRune c then (c, next, true) else (0, at0, false)
  | k + 1, next, c => match s.data.toList[next]? with
    | none => (0, next, false)
    | some b => if hexD b < 0 then (0, at0, false) else hexF s at0 k (next + 1) (c * 16 + hexD b)

/-- An escape from its backslash on. -/
def escP (s : ByteArray) (i : Nat) : Int × Nat × Bool := match s.data.toList[i + 1]? with
  | none => (0, s.size, false)
  | some k =>
    if k = 34 ∨ k = 92 ∨ k = 47 then (k.toNat, i + 2, true)
    else if k = 98 then (8, i + 2, true)
    else if k = 102 then (12, i + 2, true)
    else if k = 110 then (10, i + 2, true)
    else if k = 114 then (13, i + 2, true)
    else if k = 116 then (9, i + 2, true)
    else if k = 117 then hexF s i 4 (i + 2) 0
    else (0, i, false)

/-- A character of a text. -/
def charP (s : ByteArray) (i : Nat) : Int × Nat × Bool := match s.data.toList[i]? with
  | none => (0, i, false)
  | some b =>
    if b.toNat < 32 then (0, i, false)
    else if b = 92 then escP s i
    else if (Utf8.decode s i).1 = 65533 ∧ (Utf8.decode s i).2 = 1 then (0, i, false)
    else ((Utf8.decode s i).1, i + (Utf8.decode s i).2, true)

/-- A text's rest. -/
def textF (s : ByteArray) : Nat → Nat → List UInt8 → List UInt8 × Nat × Bool
  | 0, i, _ => ([], i, false)
  | n + 1, i, acc =>
    if standsP s i 34 then (acc, i + 1, true)
    else if (charP s i).2.2 then textF s n (charP s i).2.1 (acc ++ Lib.encodeRune (charP s i).1)
    else ([], (charP s i).2.1, false)

def textP (s : ByteArray) (i : Nat) : List UInt8 × Nat × Bool := if standsP s i 34 then textF s (s.size + 1 - (i + 1)) (i + 1) [] else ([], i, false)

/-- So many digits stand there, at most fifteen. -/
def digsP (s : ByteArray) (i : Nat) : Nat := min 15 ((s.data.toList.drop i).takeWhile isDig).length

def subL (s : ByteArray) (i j : Nat) : List UInt8 := (s.data.toList.drop i).take (j - i)

def numP (s : ByteArray) (i : Nat) : List UInt8 × Nat × Bool :=
  if !standsP s i 45 && standsP s i 48 then ([48], i + 1, true)
  else
    let first := if standsP s i 45 then i + 1 else i
    let next := if standsP s first 48 then first else first + digsP s first
    if next = first then ([], first, false) else (subL s i next, next, true)

def valP (s : ByteArray) (i : Nat) : List UInt8 × Nat × Bool :=
  if standsP s i 34 then (if (textP s i).2.2 then (34 :: (textP s i).1, (textP s i).2.1, true) else ([], (textP s i).2.1, false)) else numP s i

abbrev Pr := List UInt8 × List UInt8

/-- A field's value. -/
def fieldP (ps : List Pr) (k : List UInt8) : Option (List UInt8) := (ps.find? (fun p => p.1 == k)).map (·.2)

/-- Behind the closing brace at i. -/
def closeP (s : ByteArray) (ps : List Pr) (i : Nat) : List Pr × Nat × Int := if skipP s (i + 1) = s.size then (ps, 0, 0) else ([], skipP s (i + 1), 2)

/-- From a field on. -/
def objF (s : ByteArray) : Nat → List Pr → Nat → List Pr × Nat × Int
  | 0, _, i => ([], i, 2)
  | n + 1, ps, i =>
    if !(textP s i).2.2 then ([], (textP s i).2.1, 2)
    else if (fieldP ps (textP s i).1).isSome then ([], i, 16)
    else if ps.length = 16 then ([], i, 10)
    else
      let a2 := skipP s (textP s i).2.1
      if !standsP s a2 58 then ([], a2, 2)
      else
        let v := valP s (skipP s (a2 + 1))
        if !v.2.2 then ([], v.2.1, 2)
        else
          let a4 := skipP s v.2.1
          if standsP s a4 44 then objF s n (ps ++ [((textP s i).1, v.1)]) (skipP s (a4 + 1))
          else if standsP s a4 125 then closeP s (ps ++ [((textP s i).1, v.1)]) a4
          else ([], a4, 2)

/-- What Object answers: the fields, the place, why not. -/
def objP (s : ByteArray) : List Pr × Nat × Int :=
  let a := skipP s 0
  if !standsP s a 123 then ([], a, 2)
  else
    let a1 := skipP s (a + 1)
    if standsP s a1 125 then closeP s [] a1 else objF s 17 [] a1

section
variable (s : ByteArray)

theorem get_lt {i : Nat} (h : i < s.size) : s.data.toList[i]? = some (s[i]'h) := by
  rw [List.getElem?_eq_getElem (by simpa using h)]
  rfl

theorem get_ge {i : Nat} (h : s.size ≤ i) : s.data.toList[i]? = none := List.getElem?_eq_none (by simpa using h)

theorem standsP_lt {i : Nat} (h : i < s.size) (c : UInt8) : standsP s i c = (s[i]'h == c) := by
  unfold standsP
  rw [get_lt s h]
  rfl

theorem standsP_ge {i : Nat} (h : s.size ≤ i) (c : UInt8) : standsP s i c = false := by
  unfold standsP
  rw [get_ge s h]
  rfl

theorem standsP_some {i : Nat} {c : UInt8} (h : standsP s i c = true) : i < s.size := by
  rcases Nat.lt_or_ge i s.size with h1 | h1
  · exact h1
  · rw [standsP_ge s h1] at h; cases h

theorem drop_next {i : Nat} (h : i < s.size) : s.data.toList.drop i = (s[i]'h) :: s.data.toList.drop (i + 1) := by
  rw [List.drop_eq_getElem_cons (by simpa using h)]
  rfl

theorem skipP_next {i : Nat} (h : i < s.size) (hb : blankB (s[i]'h) = true) : skipP s i = skipP s (i + 1) := by
  unfold skipP
  rw [drop_next s h, List.takeWhile_cons, if_pos hb, List.length_cons]
  omega

theorem skipP_stop {i : Nat} (h : i < s.size) (hb : blankB (s[i]'h) = false) : skipP s i = i := by
  unfold skipP
  rw [drop_next s h, List.takeWhile_cons, if_neg (by rw [hb]; decide)]
  rfl

theorem skipP_end {i : Nat} (h : s.size ≤ i) : skipP s i = i := by
  unfold skipP
  rw [List.drop_of_length_le (by simpa using h)]
  rfl

theorem skipP_ge (i : Nat) : i ≤ skipP s i := by unfold skipP; omega

theorem skipP_le {i : Nat} (h : i ≤ s.size) : skipP s i ≤ s.size := by
  unfold skipP
  have h1 : ((s.data.toList.drop i).takeWhile blankB).length ≤ (s.data.toList.drop i).length := (List.takeWhile_sublist _).length_le
  rw [List.length_drop] at h1
  have : s.data.toList.length = s.size := by simp
  omega

theorem hexD_range (c : UInt8) : -1 ≤ hexD c ∧ hexD c ≤ 15 := by
  have h : ∀ n : Fin 256, -1 ≤ hexD (UInt8.ofNat n.1) ∧ hexD (UInt8.ofNat n.1) ≤ 15 := by decide +kernel
  have := h ⟨c.toNat, c.toNat_lt⟩
  simpa using this

theorem hexF_next (at0 : Nat) : ∀ (k next : Nat) (c : Int), at0 ≤ next → next ≤ s.size → at0 ≤ (hexF s at0 k next c).2.1 ∧ (hexF s at0 k next c).2.1 ≤ s.size ∧ ((hexF s at0 k next c).2.2 = true → next ≤ (hexF s at0 k next c).2.1 ∧ Lib.validRune (hexF s at0 k next c).1 = true)
  | 0, next, c, h0, h1 => by
    unfold hexF
    split
    · rename_i hv; exact ⟨h0, h1, fun _ => ⟨Nat.le_refl _, hv⟩⟩
    · exact ⟨Nat.le_refl _, Nat.le_trans h0 h1, fun h => by cases h⟩
  | k + 1, next, c, h0, h1 => by
    unfold hexF
    split
    · exact ⟨h0, h1, fun h => by cases h⟩
    · rename_i b hb
      have hlt : next < s.size := by
        rcases Nat.lt_or_ge next s.size with h | h
        · exact h
        · rw [get_ge s h] at hb; cases hb
      split
      · exact ⟨Nat.le_refl _, Nat.le_trans h0 h1, fun h => by cases h⟩
      · obtain ⟨a, b, c⟩ := hexF_next at0 k (next + 1) (c * 16 + hexD b) (by omega) (by omega)
        exact ⟨a, b, fun h => ⟨by have := (c h).1; omega, (c h).2⟩⟩

theorem dec_pos {i : Nat} (h : i < s.size) : 1 ≤ (Utf8.decode s i).2 := by
  by_cases ha : (s[i]'h).toNat < 128
  · rw [decode_ascii s i h ha]
    exact Nat.le_refl _
  · exact (decode_high s i h (by omega)).2

theorem dec_le {i : Nat} (h : i < s.size) : i + (Utf8.decode s i).2 ≤ s.size ∧ (Utf8.decode s i).1 ≤ 1114111 := by
  have h1 : (s.get! i).toNat < 256 := (s.get! i).toNat_lt
  have h2 : (s.get! (i + 1)).toNat < 256 := (s.get! (i + 1)).toNat_lt
  have h3 : (s.get! (i + 2)).toNat < 256 := (s.get! (i + 2)).toNat_lt
  have h4 : (s.get! (i + 3)).toNat < 256 := (s.get! (i + 3)).toNat_lt
  rw [Lib.decode_at]
  generalize (s.get! i).toNat = b0 at *
  generalize (s.get! (i + 1)).toNat = b1 at *
  generalize (s.get! (i + 2)).toNat = b2 at *
  generalize (s.get! (i + 3)).toNat = b3 at *
  unfold Lib.decodeN
  repeat' split
  all_goals (simp only; omega)

theorem escP_next {i : Nat} (h : i < s.size) : i ≤ (escP s i).2.1 ∧ (escP s i).2.1 ≤ s.size ∧ ((escP s i).2.2 = true → i < (escP s i).2.1 ∧ Lib.validRune (escP s i).1 = true) := by
  unfold escP
  split
  · exact ⟨by simp only; omega, Nat.le_refl _, fun h => by cases h⟩
  · rename_i k hk
    have hlt : i + 1 < s.size := by
      rcases Nat.lt_or_ge (i + 1) s.size with h | h
      · exact h
      · rw [get_ge s h] at hk; cases hk
    have hv : Lib.validRune (k.toNat : Int) = true := by
      have := k.toNat_lt
      unfold Lib.validRune
      rw [decide_eq_true (by omega)]
    repeat' split
    all_goals first
      | exact ⟨by simp only; omega, by simp only; omega, fun _ => ⟨by simp only; omega, by first | (simp only; decide) | exact hv⟩⟩
      | (have := hexF_next s i 4 (i + 2) 0 (by omega) (by omega); exact ⟨this.1, this.2.1, fun h => ⟨by have := (this.2.2 h).1; omega, (this.2.2 h).2⟩⟩)
      | exact ⟨Nat.le_refl _, by simp only; omega, fun h => by cases h⟩

theorem dec_valid (i : Nat) : Lib.validRune ((Utf8.decode s i).1 : Int) = true := by
  have h1 : (s.get! i).toNat < 256 := (s.get! i).toNat_lt
  have h2 : (s.get! (i + 1)).toNat < 256 := (s.get! (i + 1)).toNat_lt
  have h3 : (s.get! (i + 2)).toNat < 256 := (s.get! (i + 2)).toNat_lt
  have h4 : (s.get! (i + 3)).toNat < 256 := (s.get! (i + 3)).toNat_lt
  rw [Lib.decode_at]
  generalize (s.get! i).toNat = b0 at *
  generalize (s.get! (i + 1)).toNat = b1 at *
  generalize (s.get! (i + 2)).toNat = b2 at *
  generalize (s.get! (i + 3)).toNat = b3 at *
  have key : ∀ n : Nat, (n < 55296 ∨ (57343 < n ∧ n ≤ 1114111)) → Lib.validRune (n : Int) = true := fun n hn => by
    unfold Lib.validRune
    rw [decide_eq_true (by omega)]
  unfold Lib.decodeN
  repeat' split
  all_goals (apply key; simp only; omega)

theorem charP_next {i : Nat} (h : i ≤ s.size) : i ≤ (charP s i).2.1 ∧ (charP s i).2.1 ≤ s.size ∧ ((charP s i).2.2 = true → i < (charP s i).2.1 ∧ Lib.validRune (charP s i).1 = true) := by
  unfold charP
  split
  · exact ⟨Nat.le_refl _, h, fun h => by cases h⟩
  · rename_i b hb
    have hlt : i < s.size := by
      rcases Nat.lt_or_ge i s.size with h | h
      · exact h
      · rw [get_ge s h] at hb; cases hb
    split
    · exact ⟨Nat.le_refl _, h, fun h => by cases h⟩
    · split
      · exact escP_next s hlt
      · split
        · exact ⟨Nat.le_refl _, h, fun h => by cases h⟩
        · have h1 := dec_pos s hlt
          have h2 := dec_le s hlt
          exact ⟨by simp only; omega, by simp only; omega, fun _ => ⟨by simp only; omega, dec_valid s i⟩⟩

theorem textF_next : ∀ (n i : Nat) (acc : List UInt8), i ≤ s.size → i ≤ (textF s n i acc).2.1 ∧ (textF s n i acc).2.1 ≤ s.size ∧ (textF s n i acc).1.length ≤ acc.length + 4 * (s.size - i)
  | 0, i, acc, h => by unfold textF; exact ⟨Nat.le_refl _, h, by simp⟩
  | n + 1, i, acc, h => by
    unfold textF
    split
    · rename_i hs
      have := standsP_some s hs
      exact ⟨by simp only; omega, by simp only; omega, by simp only; omega⟩
    · have hc := charP_next s h
      split
      · rename_i hk
        obtain ⟨a, b, c⟩ := textF_next n (charP s i).2.1 (acc ++ Lib.encodeRune (charP s i).1) hc.2.1
        have h4 : (Lib.encodeRune (charP s i).1).length ≤ 4 := by
          unfold Lib.encodeRune Lib.encodeRuneZ
          repeat' split
          all_goals simp
        have h5 := (hc.2.2 hk).1
        rw [List.length_append] at c
        exact ⟨by omega, b, by omega⟩
      · exact ⟨hc.1, hc.2.1, by simp⟩

theorem textP_next {i : Nat} (h : i ≤ s.size) : i ≤ (textP s i).2.1 ∧ (textP s i).2.1 ≤ s.size ∧ (textP s i).1.length ≤ 4 * s.size := by
  unfold textP
  split
  · rename_i hs
    have := standsP_some s hs
    have h1 := textF_next s (s.size + 1 - (i + 1)) (i + 1) [] (by omega)
    simp only [List.length_nil] at h1
    exact ⟨by omega, h1.2.1, by omega⟩
  · exact ⟨Nat.le_refl _, h, by simp⟩

theorem digsP_le {i : Nat} (h : i ≤ s.size) : i + digsP s i ≤ s.size ∧ digsP s i ≤ 15 := by
  unfold digsP
  have h1 : ((s.data.toList.drop i).takeWhile isDig).length ≤ (s.data.toList.drop i).length := (List.takeWhile_sublist _).length_le
  rw [List.length_drop] at h1
  have : s.data.toList.length = s.size := by simp
  omega

theorem subL_le (i j k : Nat) (h : j - i ≤ k) : (subL s i j).length ≤ k := by
  unfold subL
  rw [List.length_take]
  omega

theorem numP_next {i : Nat} (h : i ≤ s.size) : i ≤ (numP s i).2.1 ∧ (numP s i).2.1 ≤ s.size ∧ (numP s i).1.length ≤ 16 := by
  unfold numP
  simp only
  split
  · rename_i hs
    simp only [Bool.and_eq_true] at hs
    have := standsP_some s hs.2
    exact ⟨by simp only; omega, by simp only; omega, by simp⟩
  · by_cases hm : standsP s i 45 = true
    · have := standsP_some s hm
      have hd := digsP_le s (show i + 1 ≤ s.size by omega)
      simp only [hm, if_true]
      split
      · split <;> exact ⟨by simp only; omega, by simp only; omega, by first | exact subL_le s _ _ 16 (by omega) | simp⟩
      · split <;> exact ⟨by simp only; omega, by simp only; omega, by first | exact subL_le s _ _ 16 (by omega) | simp⟩
    · have hd := digsP_le s h
      simp only [hm, Bool.false_eq_true, if_false]
      split
      · split <;> exact ⟨by simp only; omega, by simp only; omega, by first | exact subL_le s _ _ 16 (by omega) | simp⟩
      · split <;> exact ⟨by simp only; omega, by simp only; omega, by first | exact subL_le s _ _ 16 (by omega) | simp⟩

theorem valP_next {i : Nat} (h : i ≤ s.size) : i ≤ (valP s i).2.1 ∧ (valP s i).2.1 ≤ s.size ∧ (valP s i).1.length ≤ 4 * s.size + 16 := by
  have ht := textP_next s h
  have hn := numP_next s h
  unfold valP
  split
  · split
    · exact ⟨ht.1, ht.2.1, by simp only [List.length_cons]; omega⟩
    · exact ⟨ht.1, ht.2.1, by simp⟩
  · exact ⟨hn.1, hn.2.1, by omega⟩

end

end Go.Proofs.YtfiaaaflpjpnjaaGreatDoor
