/-
  The document's reader: digits of base 16.
-/
import Derived.Test.YtfogkbdbncfleaaGreatDoorFRdr2
namespace Go.Proofs.YtfogkbdbncfleaaGreatDoor
open Go.RowKit

def hexV (x : Int) : Int := if 48 ≤ x ∧ x ≤ 57 then x - 48 else if 97 ≤ x ∧ x ≤ 102 then x - 97 + 10 else if 65 ≤ x ∧ x ≤ 70 then x - 65 + 10 else -1

theorem hexV_is (c : UInt8) : hexV ((c.toNat : Nat) : Int) = hexD c := by
  have h : ∀ k : Fin 256, hexV ((k.1 : Nat) : Int) = hexD (UInt8.ofNat k.1) := by decide +kernel
  have := h ⟨c.toNat, c.toNat_lt⟩
  simpa using this

set_option maxRecDepth 100000 in
theorem rhexV_any (w : World) (x : Int) (h0 : 0 ≤ x) (h1 : x ≤ 255) : Calls Tryz.prog 73 #[.int .u8 x] w fun e w' => e = .returned (.int .i64 (hexV x)) ∧ w' = w := by
  by_cases hA : 48 ≤ x ∧ x ≤ 57
  · obtain ⟨l1, l2⟩ := hA
    have e0 : x ≥ 48 := by omega
    rw [show hexV x = x - 48 by unfold hexV; split <;> (try split) <;> (try split) <;> omega]
    go_enter Tryz.func73, Tryz.ntmps73
    go_wp2
    go_ret
    exact ⟨by first | rfl | go_num | (congr 2; omega), rfl⟩
  by_cases hB : 97 ≤ x ∧ x ≤ 102
  · obtain ⟨l1, l2⟩ := hB
    have e0 : x ≥ 48 := by omega
    have e1 : ¬ x ≤ 57 := by omega
    have e2 : x ≥ 97 := by omega
    rw [show hexV x = x - 97 + 10 by unfold hexV; split <;> (try split) <;> (try split) <;> omega]
    go_enter Tryz.func73, Tryz.ntmps73
    go_wp2
    go_ret
    exact ⟨by first | rfl | go_num | (congr 2; omega), rfl⟩
  by_cases hC : 65 ≤ x ∧ x ≤ 70
  · obtain ⟨l1, l2⟩ := hC
    have e0 : x ≥ 48 := by omega
    have e1 : ¬ x ≤ 57 := by omega
    have e2 : ¬ x ≥ 97 := by omega
    have e3 : x ≥ 65 := by omega
    rw [show hexV x = x - 65 + 10 by unfold hexV; split <;> (try split) <;> (try split) <;> omega]
    go_enter Tryz.func73, Tryz.ntmps73
    go_wp2
    go_ret
    exact ⟨by first | rfl | go_num | (congr 2; omega), rfl⟩
  by_cases hD : 0 ≤ x ∧ x ≤ 47
  · obtain ⟨l1, l2⟩ := hD
    have e0 : ¬ x ≥ 48 := by omega
    have e1 : ¬ x ≥ 97 := by omega
    have e2 : ¬ x ≥ 65 := by omega
    rw [show hexV x = -1 by unfold hexV; split <;> (try split) <;> (try split) <;> omega]
    go_enter Tryz.func73, Tryz.ntmps73
    go_wp2
    go_ret
    exact ⟨by first | rfl | go_num | (congr 2; omega), rfl⟩
  by_cases hE : 58 ≤ x ∧ x ≤ 64
  · obtain ⟨l1, l2⟩ := hE
    have e0 : x ≥ 48 := by omega
    have e1 : ¬ x ≤ 57 := by omega
    have e2 : ¬ x ≥ 97 := by omega
    have e3 : ¬ x ≥ 65 := by omega
    rw [show hexV x = -1 by unfold hexV; split <;> (try split) <;> (try split) <;> omega]
    go_enter Tryz.func73, Tryz.ntmps73
    go_wp2
    go_ret
    exact ⟨by first | rfl | go_num | (congr 2; omega), rfl⟩
  by_cases hF : 71 ≤ x ∧ x ≤ 96
  · obtain ⟨l1, l2⟩ := hF
    have e0 : x ≥ 48 := by omega
    have e1 : ¬ x ≤ 57 := by omega
    have e2 : ¬ x ≥ 97 := by omega
    have e3 : x ≥ 65 := by omega
    have e4 : ¬ x ≤ 70 := by omega
    rw [show hexV x = -1 by unfold hexV; split <;> (try split) <;> (try split) <;> omega]
    go_enter Tryz.func73, Tryz.ntmps73
    go_wp2
    go_ret
    exact ⟨by first | rfl | go_num | (congr 2; omega), rfl⟩
  by_cases hG : 103 ≤ x ∧ x ≤ 255
  · obtain ⟨l1, l2⟩ := hG
    have e0 : x ≥ 48 := by omega
    have e1 : ¬ x ≤ 57 := by omega
    have e2 : x ≥ 97 := by omega
    have e3 : ¬ x ≤ 102 := by omega
    have e4 : x ≥ 65 := by omega
    have e5 : ¬ x ≤ 70 := by omega
    rw [show hexV x = -1 by unfold hexV; split <;> (try split) <;> (try split) <;> omega]
    go_enter Tryz.func73, Tryz.ntmps73
    go_wp2
    go_ret
    exact ⟨by first | rfl | go_num | (congr 2; omega), rfl⟩
  omega

theorem rhex_any (w : World) (c : UInt8) : Calls Tryz.prog 73 #[.int .u8 ((c.toNat : Nat) : Int)] w fun e w' => e = .returned (.int .i64 (hexD c)) ∧ w' = w := by
  have h := rhexV_any w ((c.toNat : Nat) : Int) (by omega) (by have := c.toNat_lt; omega)
  rwa [hexV_is] at h

end Go.Proofs.YtfogkbdbncfleaaGreatDoor
