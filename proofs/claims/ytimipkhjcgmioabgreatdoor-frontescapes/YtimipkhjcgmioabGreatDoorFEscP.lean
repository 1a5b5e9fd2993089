/-
  An escape of four digits in a body of one field: what Object answers. Nothing here speaks of memory.
-/
import Derived.Test.YtimipkhjcgmioabGreatDoorFObjK
namespace Go.Proofs.YtimipkhjcgmioabGreatDoor
open Go.RowKit

/-- The body whose one text is an escape of the digits a, b, c, d. -/
def escB (a b c d : UInt8) : ByteArray := ⟨#[123, 34, 97, 34, 58, 34, 92, 117, a, b, c, d, 34, 125]⟩

section
variable (a b c d : UInt8) (x3 x2 x1 x0 : Nat)

theorem escB_char (h3 : hexD a = x3) (h2 : hexD b = x2) (h1 : hexD c = x1) (h0 : hexD d = x0) :
    charP (escB a b c d) 6 = if Lib.validRune ((((x3 * 16 + x2) * 16 + x1) * 16 + x0 : Nat) : Int) then (((((x3 * 16 + x2) * 16 + x1) * 16 + x0 : Nat) : Int), 12, true) else (0, 6, false) := by
  have e : charP (escB a b c d) 6 = hexF (escB a b c d) 6 4 8 0 := by kernel_rfl
  have n3 : ¬ hexD a < 0 := by omega
  have n2 : ¬ hexD b < 0 := by omega
  have n1 : ¬ hexD c < 0 := by omega
  have n0 : ¬ hexD d < 0 := by omega
  have g3 : (escB a b c d).data.toList[8]? = some a := rfl
  have g2 : (escB a b c d).data.toList[9]? = some b := rfl
  have g1 : (escB a b c d).data.toList[10]? = some c := rfl
  have g0 : (escB a b c d).data.toList[11]? = some d := rfl
  rw [e, hexF, g3]
  simp only [n3, if_false]
  rw [hexF, g2]
  simp only [n2, if_false]
  rw [hexF, g1]
  simp only [n1, if_false]
  rw [hexF, g0]
  simp only [n0, if_false]
  rw [hexF, h3, h2, h1, h0]
  have ez : ((((0 : Int) * 16 + (x3 : Int)) * 16 + (x2 : Int)) * 16 + (x1 : Int)) * 16 + (x0 : Int) = ((((x3 * 16 + x2) * 16 + x1) * 16 + x0 : Nat) : Int) := by omega
  rw [ez]

theorem escB_ok {n : Int} (hc : charP (escB a b c d) 6 = (n, 12, true)) : objP (escB a b c d) = ([([97], 34 :: Lib.encodeRune n)], 0, 0) := by
  have t1 : textP (escB a b c d) 1 = ([97], 4, true) := by kernel_rfl
  have t5 : textP (escB a b c d) 5 = (Lib.encodeRune n, 13, true) := by
    have e : textP (escB a b c d) 5 = textF (escB a b c d) 9 6 [] := by kernel_rfl
    have s6 : standsP (escB a b c d) 6 34 = false := by kernel_rfl
    have s12 : standsP (escB a b c d) 12 34 = true := by kernel_rfl
    rw [e, textF, s6]
    simp only [Bool.false_eq_true, if_false, hc, if_true, List.nil_append]
    rw [textF, s12]
    simp only [if_true]
  have e0 : objP (escB a b c d) = objF (escB a b c d) 17 [] 1 := by kernel_rfl
  have v5 : valP (escB a b c d) 5 = (34 :: Lib.encodeRune n, 13, true) := by
    have s5 : standsP (escB a b c d) 5 34 = true := by kernel_rfl
    unfold valP
    rw [s5, t5]
    simp only [if_true]
  have k5 : skipP (escB a b c d) (4 + 1) = 5 := by kernel_rfl
  have k13 : skipP (escB a b c d) 13 = 13 := by kernel_rfl
  have k4 : skipP (escB a b c d) 4 = 4 := by kernel_rfl
  have s4 : standsP (escB a b c d) 4 58 = true := by kernel_rfl
  have s13 : standsP (escB a b c d) 13 44 = false := by kernel_rfl
  have s13' : standsP (escB a b c d) 13 125 = true := by kernel_rfl
  have k14 : skipP (escB a b c d) (13 + 1) = (escB a b c d).size := by kernel_rfl
  rw [e0, objF_next, t1]
  simp only [Bool.not_true, Bool.false_eq_true, if_false]
  unfold namR
  rw [show (fieldP [] [97]).isSome = false by rfl]
  simp only [Bool.false_eq_true, if_false, List.length_nil, k4, s4, Bool.not_true]
  rw [if_neg (by decide)]
  unfold colR
  rw [k5, v5]
  simp only [Bool.not_true, Bool.false_eq_true, if_false, k13, s13, s13', if_true]
  unfold closeP
  rw [if_pos k14]
  rfl

theorem escB_no (hc : charP (escB a b c d) 6 = (0, 6, false)) : objP (escB a b c d) = ([], 6, 2) := by
  have t1 : textP (escB a b c d) 1 = ([97], 4, true) := by kernel_rfl
  have t5 : textP (escB a b c d) 5 = ([], 6, false) := by
    have e : textP (escB a b c d) 5 = textF (escB a b c d) 9 6 [] := by kernel_rfl
    have s6 : standsP (escB a b c d) 6 34 = false := by kernel_rfl
    rw [e, textF, s6]
    simp only [Bool.false_eq_true, if_false, hc]
  have e0 : objP (escB a b c d) = objF (escB a b c d) 17 [] 1 := by kernel_rfl
  have v5 : valP (escB a b c d) 5 = ([], 6, false) := by
    have s5 : standsP (escB a b c d) 5 34 = true := by kernel_rfl
    unfold valP
    rw [s5, t5]
    simp only [Bool.false_eq_true, if_false, if_true]
  have k5 : skipP (escB a b c d) (4 + 1) = 5 := by kernel_rfl
  have k4 : skipP (escB a b c d) 4 = 4 := by kernel_rfl
  have s4 : standsP (escB a b c d) 4 58 = true := by kernel_rfl
  rw [e0, objF_next, t1]
  simp only [Bool.not_true, Bool.false_eq_true, if_false]
  unfold namR
  rw [show (fieldP [] [97]).isSome = false by rfl]
  simp only [Bool.false_eq_true, if_false, List.length_nil, k4, s4, Bool.not_true]
  rw [if_neg (by decide)]
  unfold colR
  rw [k5, v5]
  simp only [Bool.not_false, if_true]

end

/-- The digits' signs, small or great. -/
def hexS (great : Bool) : List UInt8 := if great then [48, 49, 50, 51, 52, 53, 54, 55, 56, 57, 65, 66, 67, 68, 69, 70] else [48, 49, 50, 51, 52, 53, 54, 55, 56, 57, 97, 98, 99, 100, 101, 102]

theorem hexS_val (great : Bool) (k : Nat) (h : k < 16) : hexD ((hexS great).getD k 0) = k := by
  have h2 : ∀ (g : Bool) (k : Fin 16), hexD ((hexS g).getD k.1 0) = (k.1 : Int) := by decide +kernel
  exact h2 great ⟨k, h⟩

/-- The body that the law makes of n. -/
def escN (great : Bool) (n : Nat) : ByteArray := escB ((hexS great).getD (n / 4096 % 16) 0) ((hexS great).getD (n / 256 % 16) 0) ((hexS great).getD (n / 16 % 16) 0) ((hexS great).getD (n % 16) 0)

theorem esc_obj (great : Bool) (n : Nat) (h : n < 65536) : objP (escN great n) = if 55296 ≤ n ∧ n ≤ 57343 then ([], 6, 2) else ([([97], 34 :: Lib.encodeRune (n : Int))], 0, 0) := by
  have hc := escB_char ((hexS great).getD (n / 4096 % 16) 0) ((hexS great).getD (n / 256 % 16) 0) ((hexS great).getD (n / 16 % 16) 0) ((hexS great).getD (n % 16) 0) _ _ _ _ (hexS_val great _ (by omega)) (hexS_val great _ (by omega)) (hexS_val great _ (by omega)) (hexS_val great _ (by omega))
  rw [show ((n / 4096 % 16 * 16 + n / 256 % 16) * 16 + n / 16 % 16) * 16 + n % 16 = n by omega] at hc
  by_cases hs : 55296 ≤ n ∧ n ≤ 57343
  · rw [if_pos hs]
    have hv : Lib.validRune (n : Int) = false := by
      unfold Lib.validRune
      rw [decide_eq_false (by omega)]
    rw [hv] at hc
    exact escB_no _ _ _ _ hc
  · rw [if_neg hs]
    have hv : Lib.validRune (n : Int) = true := by
      unfold Lib.validRune
      rw [decide_eq_true (by omega)]
    rw [hv] at hc
    exact escB_ok _ _ _ _ hc

end Go.Proofs.YtimipkhjcgmioabGreatDoor
