/-
  The document's reader: a character of less than 2^16 as bytes.
-/
import Derived.Test.YtfogkbdbncfleaaGreatDoorFRdr3
import Derived.Test.YtfogkbdbncfleaaGreatDoorFRefQ
namespace Go.Proofs.YtfogkbdbncfleaaGreatDoor
open Go.RowKit

/-- The bytes of a character below 2^16. -/
theorem enc1 (n : Nat) (h : n < 128) : Lib.byteCells (Lib.encodeRune (n : Int)) = [.int .u8 (n : Int)] := by
  unfold Lib.encodeRune Lib.encodeRuneZ
  rw [if_pos ⟨by omega, by omega⟩]
  show [Value.int .u8 (((n : Int).toNat.toUInt8).toNat : Int)] = _
  rw [show (((n : Int).toNat.toUInt8).toNat : Int) = (n : Int) by simp [Nat.toUInt8]; omega]

theorem enc2 (n : Nat) (h : 128 ≤ n ∧ n < 2048) : Lib.byteCells (Lib.encodeRune (n : Int)) = [.int .u8 (192 + ((n / 64 : Nat) : Int)), .int .u8 (128 + ((n % 64 : Nat) : Int))] := by
  unfold Lib.encodeRune Lib.encodeRuneZ
  rw [if_neg (show ¬ (0 ≤ (n : Int) ∧ (n : Int) ≤ 127) by omega), if_pos (show 128 ≤ (n : Int) ∧ (n : Int) ≤ 2047 by omega)]
  show [Value.int .u8 (((192 + (n : Int) / 64).toNat.toUInt8).toNat : Int), Value.int .u8 (((128 + (n : Int) % 64).toNat.toUInt8).toNat : Int)] = _
  rw [show (192 + (n : Int) / 64).toNat = 192 + n / 64 by omega, show (128 + (n : Int) % 64).toNat = 128 + n % 64 by omega,
    show (((192 + n / 64).toUInt8).toNat : Int) = 192 + ((n / 64 : Nat) : Int) by simp [Nat.toUInt8]; omega, show (((128 + n % 64).toUInt8).toNat : Int) = 128 + ((n % 64 : Nat) : Int) by simp [Nat.toUInt8]; omega]

theorem enc3 (n : Nat) (h : 2048 ≤ n ∧ n < 65536) (hs : ¬ (55296 ≤ n ∧ n ≤ 57343)) : Lib.byteCells (Lib.encodeRune (n : Int)) = [.int .u8 (224 + ((n / 4096 : Nat) : Int)), .int .u8 (128 + ((n / 64 % 64 : Nat) : Int)), .int .u8 (128 + ((n % 64 : Nat) : Int))] := by
  unfold Lib.encodeRune Lib.encodeRuneZ
  rw [if_neg (show ¬ (0 ≤ (n : Int) ∧ (n : Int) ≤ 127) by omega), if_neg (show ¬ (128 ≤ (n : Int) ∧ (n : Int) ≤ 2047) by omega), if_pos (show (2048 ≤ (n : Int) ∧ (n : Int) < 55296) ∨ (57343 < (n : Int) ∧ (n : Int) ≤ 65535) by omega)]
  show [Value.int .u8 (((224 + (n : Int) / 4096).toNat.toUInt8).toNat : Int), Value.int .u8 (((128 + (n : Int) / 64 % 64).toNat.toUInt8).toNat : Int), Value.int .u8 (((128 + (n : Int) % 64).toNat.toUInt8).toNat : Int)] = _
  rw [show (224 + (n : Int) / 4096).toNat = 224 + n / 4096 by omega, show (128 + (n : Int) / 64 % 64).toNat = 128 + n / 64 % 64 by omega, show (128 + (n : Int) % 64).toNat = 128 + n % 64 by omega,
    show (((224 + n / 4096).toUInt8).toNat : Int) = 224 + ((n / 4096 : Nat) : Int) by simp [Nat.toUInt8]; omega, show (((128 + n / 64 % 64).toUInt8).toNat : Int) = 128 + ((n / 64 % 64 : Nat) : Int) by simp [Nat.toUInt8]; omega, show (((128 + n % 64).toUInt8).toNat : Int) = 128 + ((n % 64 : Nat) : Int) by simp [Nat.toUInt8]; omega]

set_option maxRecDepth 100000 in
theorem rchar_any (w : World) (n : Nat) (h : n < 65536) (hs : ¬ (55296 ≤ n ∧ n ≤ 57343)) :
    Calls Tryz.prog 74 #[.int .i64 (n : Int)] w fun e w' => e = .returned (.slice (some ⟨w.heap.size, 0, none⟩) (Lib.byteCells (Lib.encodeRune (n : Int))).length (Lib.byteCells (Lib.encodeRune (n : Int))).length) ∧ w' = w.alloc (.cells (Lib.byteCells (Lib.encodeRune (n : Int))).toArray 5) := by
  have q1 : Int.tdiv (n : Int) 64 = ((n / 64 : Nat) : Int) := by rw [Int.tdiv_eq_ediv_of_nonneg (by omega)]; omega
  have q2 : Int.tmod (n : Int) 64 = ((n % 64 : Nat) : Int) := by rw [Int.tmod_eq_emod_of_nonneg (by omega)]; omega
  have q3 : Int.tdiv (n : Int) 4096 = ((n / 4096 : Nat) : Int) := by rw [Int.tdiv_eq_ediv_of_nonneg (by omega)]; omega
  have q4 : Int.tmod ((n / 64 : Nat) : Int) 64 = ((n / 64 % 64 : Nat) : Int) := by rw [Int.tmod_eq_emod_of_nonneg (by omega)]; omega
  by_cases h1 : n < 128
  · rw [enc1 n h1]
    have e1 : (n : Int) < 128 := by omega
    have e2 : (0 : Int) ≤ (n : Int) := by omega
    clear q1 q2 q3 q4 h hs h1
    generalize ((n : Nat) : Int) = N at *
    go_enter Tryz.func74, Tryz.ntmps74
    go_wp2
    go_ret
    exact ⟨rfl, rfl⟩
  · by_cases h2 : n < 2048
    · rw [enc2 n ⟨by omega, h2⟩]
      have e1 : ¬ (n : Int) < 128 := by omega
      have e2 : (n : Int) < 2048 := by omega
      have a0 : (0 : Int) ≤ ((n / 64 : Nat) : Int) := by omega
      have a1 : ((n / 64 : Nat) : Int) ≤ 31 := by omega
      have b0 : (0 : Int) ≤ ((n % 64 : Nat) : Int) := by omega
      have b1 : ((n % 64 : Nat) : Int) ≤ 63 := by omega
      clear q3 q4 h hs h1 h2
      generalize ((n / 64 : Nat) : Int) = A at *
      generalize ((n % 64 : Nat) : Int) = B at *
      generalize ((n : Nat) : Int) = N at *
      go_enter Tryz.func74, Tryz.ntmps74
      go_wp2
      go_ret
      exact ⟨rfl, rfl⟩
    · rw [enc3 n ⟨by omega, h⟩ hs]
      have e1 : ¬ (n : Int) < 128 := by omega
      have e2 : ¬ (n : Int) < 2048 := by omega
      have a0 : (0 : Int) ≤ ((n / 4096 : Nat) : Int) := by omega
      have a1 : ((n / 4096 : Nat) : Int) ≤ 15 := by omega
      have b0 : (0 : Int) ≤ ((n / 64 % 64 : Nat) : Int) := by omega
      have b1 : ((n / 64 % 64 : Nat) : Int) ≤ 63 := by omega
      have d0 : (0 : Int) ≤ ((n / 64 : Nat) : Int) := by omega
      have d1 : ((n / 64 : Nat) : Int) ≤ 1023 := by omega
      have c0 : (0 : Int) ≤ ((n % 64 : Nat) : Int) := by omega
      have c1 : ((n % 64 : Nat) : Int) ≤ 63 := by omega
      clear h hs h1 h2
      generalize ((n / 64 % 64 : Nat) : Int) = B at *
      generalize ((n / 4096 : Nat) : Int) = A at *
      generalize ((n % 64 : Nat) : Int) = C at *
      generalize ((n / 64 : Nat) : Int) = D at *
      generalize ((n : Nat) : Int) = N at *
      go_enter Tryz.func74, Tryz.ntmps74
      go_wp2
      go_ret
      exact ⟨rfl, rfl⟩

end Go.Proofs.YtfogkbdbncfleaaGreatDoor
