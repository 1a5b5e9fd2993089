/-
  The document's characters: how many bytes the one has that begins there.
-/
import Derived.Test.YtfiaaaflpjpnjaaGreatDoorFRead2
namespace Go.Proofs.YtfiaaaflpjpnjaaGreatDoor
open Go.RowKit

/-- m bytes more. -/
def utF (s : ByteArray) (i : Nat) : Nat → Nat → Int → Option Int
  | _, 0, c => some c
  | k, m + 1, c => if u8i (s.data.toList.getD (i + k) 0) < 128 ∨ 192 ≤ u8i (s.data.toList.getD (i + k) 0) then none else utF s i (k + 1) m (64 * c + u8i (s.data.toList.getD (i + k) 0) - 128)

def utOk (c least : Int) : Bool := !(decide (c < least) || decide (1114111 < c) || (decide (55296 ≤ c) && decide (c ≤ 57343)))

def utN (s : ByteArray) (i n : Nat) (c least : Int) : Nat := if s.size < i + n then 0 else match utF s i 1 (n - 1) c with
  | none => 0
  | some z => if utOk z least then n else 0

/-- The document's UTF8. -/
def utR (s : ByteArray) (i : Nat) : Nat :=
  if 240 ≤ u8i (s.data.toList.getD i 0) ∧ u8i (s.data.toList.getD i 0) < 248 then utN s i 4 (u8i (s.data.toList.getD i 0) - 240) 65536
  else if 224 ≤ u8i (s.data.toList.getD i 0) ∧ u8i (s.data.toList.getD i 0) < 240 then utN s i 3 (u8i (s.data.toList.getD i 0) - 224) 2048
  else if 192 ≤ u8i (s.data.toList.getD i 0) ∧ u8i (s.data.toList.getD i 0) < 224 then utN s i 2 (u8i (s.data.toList.getD i 0) - 192) 128
  else if 128 ≤ u8i (s.data.toList.getD i 0) then 0
  else utN s i 1 (u8i (s.data.toList.getD i 0)) 0

theorem getD_is (s : ByteArray) (i : Nat) (h : i < s.size) : s.data.toList.getD i 0 = s[i]'h := by
  rw [List.getD, get_lt s h]
  rfl

/-- It is the character that is read there, if one is. -/
theorem utR_is (s : ByteArray) (i : Nat) (h : i < s.size) : utR s i = if (Utf8.decode s i).1 = 65533 ∧ (Utf8.decode s i).2 = 1 then 0 else (Utf8.decode s i).2 := by
  have e : ∀ j, s.data.toList.getD j 0 = s.get! j := fun j => by
    by_cases hj : j < s.size
    · rw [getD_is s j hj, Utf8W.get!_of_lt s j hj]
    · rw [List.getD, get_ge s (by omega)]
      show 0 = s.data[j]!
      rw [Array.getElem!_eq_getD, Array.getD]
      rw [dif_neg (by show ¬ j < s.size; exact hj)]
      rfl
  have h1 : (s.get! i).toNat < 256 := (s.get! i).toNat_lt
  have h2 : (s.get! (i + 1)).toNat < 256 := (s.get! (i + 1)).toNat_lt
  have h3 : (s.get! (i + 2)).toNat < 256 := (s.get! (i + 2)).toNat_lt
  have h4 : (s.get! (i + 3)).toNat < 256 := (s.get! (i + 3)).toNat_lt
  rw [Lib.decode_at]
  unfold utR utN
  simp only [utF, e, show 4 - 1 = 3 from rfl, show 3 - 1 = 2 from rfl, show 2 - 1 = 1 from rfl, show 1 - 1 = 0 from rfl, show 1 + 1 = 2 from rfl, show 2 + 1 = 3 from rfl]
  unfold u8i utOk
  generalize (s.get! i).toNat = b0 at *
  generalize (s.get! (i + 1)).toNat = b1 at *
  generalize (s.get! (i + 2)).toNat = b2 at *
  generalize (s.get! (i + 3)).toNat = b3 at *
  unfold Lib.decodeN
  by_cases a1 : b0 < 128
  · have qd1 : (b0 < 128) = True := eq_true (by omega)
    have qp240 : (240 ≤ (b0 : Int) ∧ (b0 : Int) < 248) = False := eq_false (by omega)
    have qp224 : (224 ≤ (b0 : Int) ∧ (b0 : Int) < 240) = False := eq_false (by omega)
    have qp192 : (192 ≤ (b0 : Int) ∧ (b0 : Int) < 224) = False := eq_false (by omega)
    have qp128 : (128 ≤ (b0 : Int)) = False := eq_false (by omega)
    have qz1 : (s.size < i + 1) = False := eq_false (by omega)
    simp only [qd1, qp240, qp224, qp192, qp128, qz1, if_true, if_false]
    split
    · rename_i v
      simp only [Bool.not_eq_true', Bool.or_eq_false_iff, Bool.and_eq_false_iff, decide_eq_false_iff_not] at v
      repeat' split
      all_goals first | omega | (exfalso; simp only at *; omega)
    · rename_i v
      simp only [Bool.not_eq_true', Bool.or_eq_false_iff, Bool.and_eq_false_iff, decide_eq_false_iff_not] at v
      repeat' split
      all_goals first | omega | (exfalso; simp only at *; omega)
  by_cases a2 : b0 < 192
  · have qp128 : (128 ≤ (b0 : Int)) = True := eq_true (by omega)
    have qp240 : (240 ≤ (b0 : Int) ∧ (b0 : Int) < 248) = False := eq_false (by omega)
    have qp224 : (224 ≤ (b0 : Int) ∧ (b0 : Int) < 240) = False := eq_false (by omega)
    have qp192 : (192 ≤ (b0 : Int) ∧ (b0 : Int) < 224) = False := eq_false (by omega)
    have qd1 : (b0 < 128) = False := eq_false (by omega)
    have qd2 : (b0 / 32 = 6 ∧ (1 < s.size - i ∧ b1 / 64 = 2)) = False := eq_false (by omega)
    have qd3 : (b0 / 16 = 14 ∧ (1 < s.size - i ∧ b1 / 64 = 2) ∧ (2 < s.size - i ∧ b2 / 64 = 2)) = False := eq_false (by omega)
    have qd4 : (b0 / 8 = 30 ∧ (1 < s.size - i ∧ b1 / 64 = 2) ∧ (2 < s.size - i ∧ b2 / 64 = 2) ∧ (3 < s.size - i ∧ b3 / 64 = 2)) = False := eq_false (by omega)
    simp only [qp128, qp240, qp224, qp192, qd1, qd2, qd3, qd4, if_true, if_false]
    simp
  by_cases a3 : b0 < 224
  · by_cases k1 : s.size < i + 2
    · have qp192 : (192 ≤ (b0 : Int) ∧ (b0 : Int) < 224) = True := eq_true (by omega)
      have qz2 : (s.size < i + 2) = True := eq_true (by omega)
      have qp240 : (240 ≤ (b0 : Int) ∧ (b0 : Int) < 248) = False := eq_false (by omega)
      have qp224 : (224 ≤ (b0 : Int) ∧ (b0 : Int) < 240) = False := eq_false (by omega)
      have qd1 : (b0 < 128) = False := eq_false (by omega)
      have qd2 : (b0 / 32 = 6 ∧ (1 < s.size - i ∧ b1 / 64 = 2)) = False := eq_false (by omega)
      have qd3 : (b0 / 16 = 14 ∧ (1 < s.size - i ∧ b1 / 64 = 2) ∧ (2 < s.size - i ∧ b2 / 64 = 2)) = False := eq_false (by omega)
      have qd4 : (b0 / 8 = 30 ∧ (1 < s.size - i ∧ b1 / 64 = 2) ∧ (2 < s.size - i ∧ b2 / 64 = 2) ∧ (3 < s.size - i ∧ b3 / 64 = 2)) = False := eq_false (by omega)
      simp only [qp192, qz2, qp240, qp224, qd1, qd2, qd3, qd4, if_true, if_false]
      simp
    by_cases c1 : b1 / 64 = 2
    · have qp192 : (192 ≤ (b0 : Int) ∧ (b0 : Int) < 224) = True := eq_true (by omega)
      have qd2 : (b0 / 32 = 6 ∧ (1 < s.size - i ∧ b1 / 64 = 2)) = True := eq_true (by omega)
      have qp240 : (240 ≤ (b0 : Int) ∧ (b0 : Int) < 248) = False := eq_false (by omega)
      have qp224 : (224 ≤ (b0 : Int) ∧ (b0 : Int) < 240) = False := eq_false (by omega)
      have qd1 : (b0 < 128) = False := eq_false (by omega)
      have qz2 : (s.size < i + 2) = False := eq_false (by omega)
      have qn1 : ((b1 : Int) < 128 ∨ 192 ≤ (b1 : Int)) = False := eq_false (by omega)
      simp only [qp192, qd2, qp240, qp224, qd1, qz2, qn1, if_true, if_false]
      split
      · rename_i v
        simp only [Bool.not_eq_true', Bool.or_eq_false_iff, Bool.and_eq_false_iff, decide_eq_false_iff_not] at v
        repeat' split
        all_goals first | omega | (exfalso; simp only at *; omega)
      · rename_i v
        simp only [Bool.not_eq_true', Bool.or_eq_false_iff, Bool.and_eq_false_iff, decide_eq_false_iff_not] at v
        repeat' split
        all_goals first | omega | (exfalso; simp only at *; omega)
    have qp192 : (192 ≤ (b0 : Int) ∧ (b0 : Int) < 224) = True := eq_true (by omega)
    have qn1 : ((b1 : Int) < 128 ∨ 192 ≤ (b1 : Int)) = True := eq_true (by omega)
    have qp240 : (240 ≤ (b0 : Int) ∧ (b0 : Int) < 248) = False := eq_false (by omega)
    have qp224 : (224 ≤ (b0 : Int) ∧ (b0 : Int) < 240) = False := eq_false (by omega)
    have qd1 : (b0 < 128) = False := eq_false (by omega)
    have qz2 : (s.size < i + 2) = False := eq_false (by omega)
    have qd2 : (b0 / 32 = 6 ∧ (1 < s.size - i ∧ b1 / 64 = 2)) = False := eq_false (by omega)
    have qd3 : (b0 / 16 = 14 ∧ (1 < s.size - i ∧ b1 / 64 = 2) ∧ (2 < s.size - i ∧ b2 / 64 = 2)) = False := eq_false (by omega)
    have qd4 : (b0 / 8 = 30 ∧ (1 < s.size - i ∧ b1 / 64 = 2) ∧ (2 < s.size - i ∧ b2 / 64 = 2) ∧ (3 < s.size - i ∧ b3 / 64 = 2)) = False := eq_false (by omega)
    simp only [qp192, qn1, qp240, qp224, qd1, qz2, qd2, qd3, qd4, if_true, if_false]
    simp
  by_cases a4 : b0 < 240
  · by_cases k1 : s.size < i + 3
    · have qp224 : (224 ≤ (b0 : Int) ∧ (b0 : Int) < 240) = True := eq_true (by omega)
      have qz3 : (s.size < i + 3) = True := eq_true (by omega)
      have qp240 : (240 ≤ (b0 : Int) ∧ (b0 : Int) < 248) = False := eq_false (by omega)
      have qd1 : (b0 < 128) = False := eq_false (by omega)
      have qd2 : (b0 / 32 = 6 ∧ (1 < s.size - i ∧ b1 / 64 = 2)) = False := eq_false (by omega)
      have qd3 : (b0 / 16 = 14 ∧ (1 < s.size - i ∧ b1 / 64 = 2) ∧ (2 < s.size - i ∧ b2 / 64 = 2)) = False := eq_false (by omega)
      have qd4 : (b0 / 8 = 30 ∧ (1 < s.size - i ∧ b1 / 64 = 2) ∧ (2 < s.size - i ∧ b2 / 64 = 2) ∧ (3 < s.size - i ∧ b3 / 64 = 2)) = False := eq_false (by omega)
      simp only [qp224, qz3, qp240, qd1, qd2, qd3, qd4, if_true, if_false]
      simp
    by_cases c1 : b1 / 64 = 2
    · by_cases c2 : b2 / 64 = 2
      · have qp224 : (224 ≤ (b0 : Int) ∧ (b0 : Int) < 240) = True := eq_true (by omega)
        have qd3 : (b0 / 16 = 14 ∧ (1 < s.size - i ∧ b1 / 64 = 2) ∧ (2 < s.size - i ∧ b2 / 64 = 2)) = True := eq_true (by omega)
        have qp240 : (240 ≤ (b0 : Int) ∧ (b0 : Int) < 248) = False := eq_false (by omega)
        have qd1 : (b0 < 128) = False := eq_false (by omega)
        have qd2 : (b0 / 32 = 6 ∧ (1 < s.size - i ∧ b1 / 64 = 2)) = False := eq_false (by omega)
        have qz3 : (s.size < i + 3) = False := eq_false (by omega)
        have qn1 : ((b1 : Int) < 128 ∨ 192 ≤ (b1 : Int)) = False := eq_false (by omega)
        have qn2 : ((b2 : Int) < 128 ∨ 192 ≤ (b2 : Int)) = False := eq_false (by omega)
        simp only [qp224, qd3, qp240, qd1, qd2, qz3, qn1, qn2, if_true, if_false]
        split
        · rename_i v
          simp only [Bool.not_eq_true', Bool.or_eq_false_iff, Bool.and_eq_false_iff, decide_eq_false_iff_not] at v
          repeat' split
          all_goals first | omega | (exfalso; simp only at *; omega)
        · rename_i v
          simp only [Bool.not_eq_true', Bool.or_eq_false_iff, Bool.and_eq_false_iff, decide_eq_false_iff_not] at v
          repeat' split
          all_goals first | omega | (exfalso; simp only at *; omega)
      have qp224 : (224 ≤ (b0 : Int) ∧ (b0 : Int) < 240) = True := eq_true (by omega)
      have qn2 : ((b2 : Int) < 128 ∨ 192 ≤ (b2 : Int)) = True := eq_true (by omega)
      have qp240 : (240 ≤ (b0 : Int) ∧ (b0 : Int) < 248) = False := eq_false (by omega)
      have qd1 : (b0 < 128) = False := eq_false (by omega)
      have qd2 : (b0 / 32 = 6 ∧ (1 < s.size - i ∧ b1 / 64 = 2)) = False := eq_false (by omega)
      have qd3 : (b0 / 16 = 14 ∧ (1 < s.size - i ∧ b1 / 64 = 2) ∧ (2 < s.size - i ∧ b2 / 64 = 2)) = False := eq_false (by omega)
      have qd4 : (b0 / 8 = 30 ∧ (1 < s.size - i ∧ b1 / 64 = 2) ∧ (2 < s.size - i ∧ b2 / 64 = 2) ∧ (3 < s.size - i ∧ b3 / 64 = 2)) = False := eq_false (by omega)
      have qz3 : (s.size < i + 3) = False := eq_false (by omega)
      have qn1 : ((b1 : Int) < 128 ∨ 192 ≤ (b1 : Int)) = False := eq_false (by omega)
      simp only [qp224, qn2, qp240, qd1, qd2, qd3, qd4, qz3, qn1, if_true, if_false]
      simp
    have qp224 : (224 ≤ (b0 : Int) ∧ (b0 : Int) < 240) = True := eq_true (by omega)
    have qn1 : ((b1 : Int) < 128 ∨ 192 ≤ (b1 : Int)) = True := eq_true (by omega)
    have qp240 : (240 ≤ (b0 : Int) ∧ (b0 : Int) < 248) = False := eq_false (by omega)
    have qd1 : (b0 < 128) = False := eq_false (by omega)
    have qd2 : (b0 / 32 = 6 ∧ (1 < s.size - i ∧ b1 / 64 = 2)) = False := eq_false (by omega)
    have qd3 : (b0 / 16 = 14 ∧ (1 < s.size - i ∧ b1 / 64 = 2) ∧ (2 < s.size - i ∧ b2 / 64 = 2)) = False := eq_false (by omega)
    have qd4 : (b0 / 8 = 30 ∧ (1 < s.size - i ∧ b1 / 64 = 2) ∧ (2 < s.size - i ∧ b2 / 64 = 2) ∧ (3 < s.size - i ∧ b3 / 64 = 2)) = False := eq_false (by omega)
    have qz3 : (s.size < i + 3) = False := eq_false (by omega)
    simp only [qp224, qn1, qp240, qd1, qd2, qd3, qd4, qz3, if_true, if_false]
    simp
  by_cases a5 : b0 < 248
  · by_cases k1 : s.size < i + 4
    · have qp240 : (240 ≤ (b0 : Int) ∧ (b0 : Int) < 248) = True := eq_true (by omega)
      have qz4 : (s.size < i + 4) = True := eq_true (by omega)
      have qd1 : (b0 < 128) = False := eq_false (by omega)
      have qd2 : (b0 / 32 = 6 ∧ (1 < s.size - i ∧ b1 / 64 = 2)) = False := eq_false (by omega)
      have qd3 : (b0 / 16 = 14 ∧ (1 < s.size - i ∧ b1 / 64 = 2) ∧ (2 < s.size - i ∧ b2 / 64 = 2)) = False := eq_false (by omega)
      have qd4 : (b0 / 8 = 30 ∧ (1 < s.size - i ∧ b1 / 64 = 2) ∧ (2 < s.size - i ∧ b2 / 64 = 2) ∧ (3 < s.size - i ∧ b3 / 64 = 2)) = False := eq_false (by omega)
      simp only [qp240, qz4, qd1, qd2, qd3, qd4, if_true, if_false]
      simp
    by_cases c1 : b1 / 64 = 2
    · by_cases c2 : b2 / 64 = 2
      · by_cases c3 : b3 / 64 = 2
        · have qp240 : (240 ≤ (b0 : Int) ∧ (b0 : Int) < 248) = True := eq_true (by omega)
          have qd4 : (b0 / 8 = 30 ∧ (1 < s.size - i ∧ b1 / 64 = 2) ∧ (2 < s.size - i ∧ b2 / 64 = 2) ∧ (3 < s.size - i ∧ b3 / 64 = 2)) = True := eq_true (by omega)
          have qd1 : (b0 < 128) = False := eq_false (by omega)
          have qd2 : (b0 / 32 = 6 ∧ (1 < s.size - i ∧ b1 / 64 = 2)) = False := eq_false (by omega)
          have qd3 : (b0 / 16 = 14 ∧ (1 < s.size - i ∧ b1 / 64 = 2) ∧ (2 < s.size - i ∧ b2 / 64 = 2)) = False := eq_false (by omega)
          have qz4 : (s.size < i + 4) = False := eq_false (by omega)
          have qn1 : ((b1 : Int) < 128 ∨ 192 ≤ (b1 : Int)) = False := eq_false (by omega)
          have qn2 : ((b2 : Int) < 128 ∨ 192 ≤ (b2 : Int)) = False := eq_false (by omega)
          have qn3 : ((b3 : Int) < 128 ∨ 192 ≤ (b3 : Int)) = False := eq_false (by omega)
          simp only [qp240, qd4, qd1, qd2, qd3, qz4, qn1, qn2, qn3, if_true, if_false]
          split
          · rename_i v
            simp only [Bool.not_eq_true', Bool.or_eq_false_iff, Bool.and_eq_false_iff, decide_eq_false_iff_not] at v
            repeat' split
            all_goals first | omega | (exfalso; simp only at *; omega)
          · rename_i v
            simp only [Bool.not_eq_true', Bool.or_eq_false_iff, Bool.and_eq_false_iff, decide_eq_false_iff_not] at v
            repeat' split
            all_goals first | omega | (exfalso; simp only at *; omega)
        have qp240 : (240 ≤ (b0 : Int) ∧ (b0 : Int) < 248) = True := eq_true (by omega)
        have qn3 : ((b3 : Int) < 128 ∨ 192 ≤ (b3 : Int)) = True := eq_true (by omega)
        have qd1 : (b0 < 128) = False := eq_false (by omega)
        have qd2 : (b0 / 32 = 6 ∧ (1 < s.size - i ∧ b1 / 64 = 2)) = False := eq_false (by omega)
        have qd3 : (b0 / 16 = 14 ∧ (1 < s.size - i ∧ b1 / 64 = 2) ∧ (2 < s.size - i ∧ b2 / 64 = 2)) = False := eq_false (by omega)
        have qd4 : (b0 / 8 = 30 ∧ (1 < s.size - i ∧ b1 / 64 = 2) ∧ (2 < s.size - i ∧ b2 / 64 = 2) ∧ (3 < s.size - i ∧ b3 / 64 = 2)) = False := eq_false (by omega)
        have qz4 : (s.size < i + 4) = False := eq_false (by omega)
        have qn1 : ((b1 : Int) < 128 ∨ 192 ≤ (b1 : Int)) = False := eq_false (by omega)
        have qn2 : ((b2 : Int) < 128 ∨ 192 ≤ (b2 : Int)) = False := eq_false (by omega)
        simp only [qp240, qn3, qd1, qd2, qd3, qd4, qz4, qn1, qn2, if_true, if_false]
        simp
      have qp240 : (240 ≤ (b0 : Int) ∧ (b0 : Int) < 248) = True := eq_true (by omega)
      have qn2 : ((b2 : Int) < 128 ∨ 192 ≤ (b2 : Int)) = True := eq_true (by omega)
      have qd1 : (b0 < 128) = False := eq_false (by omega)
      have qd2 : (b0 / 32 = 6 ∧ (1 < s.size - i ∧ b1 / 64 = 2)) = False := eq_false (by omega)
      have qd3 : (b0 / 16 = 14 ∧ (1 < s.size - i ∧ b1 / 64 = 2) ∧ (2 < s.size - i ∧ b2 / 64 = 2)) = False := eq_false (by omega)
      have qd4 : (b0 / 8 = 30 ∧ (1 < s.size - i ∧ b1 / 64 = 2) ∧ (2 < s.size - i ∧ b2 / 64 = 2) ∧ (3 < s.size - i ∧ b3 / 64 = 2)) = False := eq_false (by omega)
      have qz4 : (s.size < i + 4) = False := eq_false (by omega)
      have qn1 : ((b1 : Int) < 128 ∨ 192 ≤ (b1 : Int)) = False := eq_false (by omega)
      simp only [qp240, qn2, qd1, qd2, qd3, qd4, qz4, qn1, if_true, if_false]
      simp
    have qp240 : (240 ≤ (b0 : Int) ∧ (b0 : Int) < 248) = True := eq_true (by omega)
    have qn1 : ((b1 : Int) < 128 ∨ 192 ≤ (b1 : Int)) = True := eq_true (by omega)
    have qd1 : (b0 < 128) = False := eq_false (by omega)
    have qd2 : (b0 / 32 = 6 ∧ (1 < s.size - i ∧ b1 / 64 = 2)) = False := eq_false (by omega)
    have qd3 : (b0 / 16 = 14 ∧ (1 < s.size - i ∧ b1 / 64 = 2) ∧ (2 < s.size - i ∧ b2 / 64 = 2)) = False := eq_false (by omega)
    have qd4 : (b0 / 8 = 30 ∧ (1 < s.size - i ∧ b1 / 64 = 2) ∧ (2 < s.size - i ∧ b2 / 64 = 2) ∧ (3 < s.size - i ∧ b3 / 64 = 2)) = False := eq_false (by omega)
    have qz4 : (s.size < i + 4) = False := eq_false (by omega)
    simp only [qp240, qn1, qd1, qd2, qd3, qd4, qz4, if_true, if_false]
    simp
  have qp128 : (128 ≤ (b0 : Int)) = True := eq_true (by omega)
  have qp240 : (240 ≤ (b0 : Int) ∧ (b0 : Int) < 248) = False := eq_false (by omega)
  have qp224 : (224 ≤ (b0 : Int) ∧ (b0 : Int) < 240) = False := eq_false (by omega)
  have qp192 : (192 ≤ (b0 : Int) ∧ (b0 : Int) < 224) = False := eq_false (by omega)
  have qd1 : (b0 < 128) = False := eq_false (by omega)
  have qd2 : (b0 / 32 = 6 ∧ (1 < s.size - i ∧ b1 / 64 = 2)) = False := eq_false (by omega)
  have qd3 : (b0 / 16 = 14 ∧ (1 < s.size - i ∧ b1 / 64 = 2) ∧ (2 < s.size - i ∧ b2 / 64 = 2)) = False := eq_false (by omega)
  have qd4 : (b0 / 8 = 30 ∧ (1 < s.size - i ∧ b1 / 64 = 2) ∧ (2 < s.size - i ∧ b2 / 64 = 2) ∧ (3 < s.size - i ∧ b3 / 64 = 2)) = False := eq_false (by omega)
  simp only [qp128, qp240, qp224, qp192, qd1, qd2, qd3, qd4, if_true, if_false]
  simp

end Go.Proofs.YtfiaaaflpjpnjaaGreatDoor
