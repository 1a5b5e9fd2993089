/-
  The reference's names: named, Name, Flow.
-/
import Derived.Test.YtfjekjbkifmpfaaDoorG01
namespace Go.Proofs.YtfjekjbkifmpfaaDoor
open Go.RowKit

/-- A sign that a name may hold. -/
def chk (slash : Bool) (x : Int) : Bool := (decide (97 ≤ x) && decide (x ≤ 122)) || (decide (65 ≤ x) && decide (x ≤ 90)) || (decide (48 ≤ x) && decide (x ≤ 57)) || decide (x = 46) || decide (x = 45) || decide (x = 95) || (decide (x = 47) && slash)

theorem chk_letters (c : UInt8) : lettersB.data.toList.contains c = chk false ((c.toNat : Nat) : Int) := by
  have h : (List.range 256).all (fun n => lettersB.data.toList.contains n.toUInt8 == chk false (n : Int)) = true := by kernel_rfl
  have := List.all_eq_true.1 h c.toNat (List.mem_range.2 c.toNat_lt)
  simpa using this

theorem chk_flows (c : UInt8) : flowsB.data.toList.contains c = chk true ((c.toNat : Nat) : Int) := by
  have h : (List.range 256).all (fun n => flowsB.data.toList.contains n.toUInt8 == chk true (n : Int)) = true := by kernel_rfl
  have := List.all_eq_true.1 h c.toNat (List.mem_range.2 c.toNat_lt)
  simpa using this

def namP (s : ByteArray) (slash : Bool) (most : Int) : Bool := decide (1 ≤ s.size) && decide ((s.size : Int) ≤ most) && s.data.toList.all (fun c => chk slash ((c.toNat : Nat) : Int))

theorem nam_name (s : ByteArray) : namP s false 64 = nameP s := by
  unfold namP nameP madeP
  simp only [chk_letters]

theorem nam_flow (s : ByteArray) : namP s true 256 = flowP s := by
  unfold namP flowP madeP
  simp only [chk_flows]

theorem cls (x : Int) : x = 45 ∨ x = 46 ∨ x = 47 ∨ x = 95 ∨ (97 ≤ x ∧ x ≤ 122) ∨ (65 ≤ x ∧ x ≤ 90) ∨ (48 ≤ x ∧ x ≤ 57) ∨ x < 45 ∨ (58 ≤ x ∧ x ≤ 64) ∨ (91 ≤ x ∧ x ≤ 96 ∧ x ≠ 95) ∨ 123 ≤ x := by omega

set_option maxRecDepth 100000 in
set_option maxHeartbeats 8000000 in
theorem named_ref (w : World) (s : ByteArray) (slash : Bool) (most : Int) (hs : s.size ≤ maxLen) :
    Calls Tryd.prog 60 #[.string s, .bool slash, .int .i64 most] w fun e w' => e = .returned (.bool (namP s slash most)) ∧ w' = w := by
  have hM : s.size ≤ 9223372036854775807 := Nat.le_trans hs (by decide)
  clear hs
  go_enter Tryd.func60, Tryd.ntmps60
  go_wp2
  go_loopw [7, 8] (fun i _ wr => ∃ (k : Nat), k ≤ s.size ∧ i = .int .i64 k ∧ wr = w ∧ (s.data.toList.take k).all (fun c => chk slash ((c.toNat : Nat) : Int)) = true) (fun i _ _ => s.size - (intOf i).toNat)
  case atStart => exact ⟨0, Nat.zero_le _, rfl, rfl, rfl⟩
  case round =>
    obtain ⟨k, hk, rfl, hwr, hall⟩ := hrel
    subst hwr
    by_cases hlt : k < s.size
    · have hix : ∀ W, (Instr.index 9 (.string s) (.int .i64 (k : Int))).run Tryd.prog W = .ok (.int .u8 (((s[k]'hlt).toNat : Nat) : Int)) W := fun W => by
        rw [run_index_string W _ _ _ _ Tryd.underlying9]
        rw [dif_pos ⟨by omega, by omega⟩]
        simp
      have hnx := all_next s (fun c => chk slash ((c.toNat : Nat) : Int)) hlt
      rw [hall, Bool.true_and] at hnx
      have e0 : (k : Int) < (s.size : Int) := by omega
      generalize (((s[k]'hlt).toNat : Nat) : Int) = x at *
      have HA : Hid ((s.data.toList.take (k + 1)).all (fun c => chk slash ((c.toNat : Nat) : Int)) = chk slash x) := hnx
      clear hnx hall
      rcases cls x with h | h | h | h | h | h | h | h | h | h | h
      · subst h
        go_wp2
        go_roundw
        case rel => exact ⟨k + 1, by omega, by go_num, trivial, by rw [HA.out]; cases slash <;> rfl⟩
        case measure => simp [intOf]; omega
      · subst h
        go_wp2
        go_roundw
        case rel => exact ⟨k + 1, by omega, by go_num, trivial, by rw [HA.out]; cases slash <;> rfl⟩
        case measure => simp [intOf]; omega
      · subst h
        cases slash
        · go_wp2
          go_ret
          refine ⟨?_, rfl⟩
          unfold namP
          rw [all_ge _ _ (k + 1) (by rw [HA.out]; rfl)]
          simp
        · go_wp2
          go_roundw
          case rel => exact ⟨k + 1, by omega, by go_num, trivial, by rw [HA.out]; rfl⟩
          case measure => simp [intOf]; omega
      · subst h
        go_wp2
        go_roundw
        case rel => exact ⟨k + 1, by omega, by go_num, trivial, by rw [HA.out]; cases slash <;> rfl⟩
        case measure => simp [intOf]; omega
      · have HC : Hid (chk slash x = true) := by
          show chk slash x = true
          unfold chk; cases slash <;> simp <;> omega
        have a0 : 97 ≤ x := by omega
        have a1 : x ≤ 122 := by omega
        clear h
        go_wp2
        go_roundw
        case rel => exact ⟨k + 1, by omega, by go_num, trivial, by rw [HA.out]; exact HC.out⟩
        case measure => simp [intOf]; omega
      · have HC : Hid (chk slash x = true) := by
          show chk slash x = true
          unfold chk; cases slash <;> simp <;> omega
        have a0 : ¬ 97 ≤ x := by omega
        have a2 : 65 ≤ x := by omega
        have a3 : x ≤ 90 := by omega
        clear h
        go_wp2
        go_roundw
        case rel => exact ⟨k + 1, by omega, by go_num, trivial, by rw [HA.out]; exact HC.out⟩
        case measure => simp [intOf]; omega
      · have HC : Hid (chk slash x = true) := by
          show chk slash x = true
          unfold chk; cases slash <;> simp <;> omega
        have a0 : ¬ 97 ≤ x := by omega
        have a2 : ¬ 65 ≤ x := by omega
        have a4 : 48 ≤ x := by omega
        have a5 : x ≤ 57 := by omega
        clear h
        go_wp2
        go_roundw
        case rel => exact ⟨k + 1, by omega, by go_num, trivial, by rw [HA.out]; exact HC.out⟩
        case measure => simp [intOf]; omega
      · have HC : Hid (chk slash x = false) := by
          show chk slash x = false
          unfold chk; cases slash <;> simp <;> omega
        have a0 : ¬ 97 ≤ x := by omega
        have a2 : ¬ 65 ≤ x := by omega
        have a4 : ¬ 48 ≤ x := by omega
        have a6 : (x == 46) = false := by simp; omega
        have a7 : (x == 45) = false := by simp; omega
        have a8 : (x == 95) = false := by simp; omega
        have a9 : (x == 47) = false := by simp; omega
        clear h
        go_wp2
        go_ret
        refine ⟨?_, rfl⟩
        unfold namP
        rw [all_ge _ _ (k + 1) (by rw [HA.out]; exact HC.out)]
        simp
      · have HC : Hid (chk slash x = false) := by
          show chk slash x = false
          unfold chk; cases slash <;> simp <;> omega
        have a0 : ¬ 97 ≤ x := by omega
        have a2 : ¬ 65 ≤ x := by omega
        have a4 : 48 ≤ x := by omega
        have a5 : ¬ x ≤ 57 := by omega
        have a6 : (x == 46) = false := by simp; omega
        have a7 : (x == 45) = false := by simp; omega
        have a8 : (x == 95) = false := by simp; omega
        have a9 : (x == 47) = false := by simp; omega
        clear h
        go_wp2
        go_ret
        refine ⟨?_, rfl⟩
        unfold namP
        rw [all_ge _ _ (k + 1) (by rw [HA.out]; exact HC.out)]
        simp
      · have HC : Hid (chk slash x = false) := by
          show chk slash x = false
          unfold chk; cases slash <;> simp <;> omega
        have a0 : ¬ 97 ≤ x := by omega
        have a2 : 65 ≤ x := by omega
        have a3 : ¬ x ≤ 90 := by omega
        have a4 : 48 ≤ x := by omega
        have a5 : ¬ x ≤ 57 := by omega
        have a6 : (x == 46) = false := by simp; omega
        have a7 : (x == 45) = false := by simp; omega
        have a8 : (x == 95) = false := by simp; omega
        have a9 : (x == 47) = false := by simp; omega
        clear h
        go_wp2
        go_ret
        refine ⟨?_, rfl⟩
        unfold namP
        rw [all_ge _ _ (k + 1) (by rw [HA.out]; exact HC.out)]
        simp
      · have HC : Hid (chk slash x = false) := by
          show chk slash x = false
          unfold chk; cases slash <;> simp <;> omega
        have a0 : 97 ≤ x := by omega
        have a1 : ¬ x ≤ 122 := by omega
        have a2 : 65 ≤ x := by omega
        have a3 : ¬ x ≤ 90 := by omega
        have a4 : 48 ≤ x := by omega
        have a5 : ¬ x ≤ 57 := by omega
        have a6 : (x == 46) = false := by simp; omega
        have a7 : (x == 45) = false := by simp; omega
        have a8 : (x == 95) = false := by simp; omega
        have a9 : (x == 47) = false := by simp; omega
        clear h
        go_wp2
        go_ret
        refine ⟨?_, rfl⟩
        unfold namP
        rw [all_ge _ _ (k + 1) (by rw [HA.out]; exact HC.out)]
        simp
    · obtain rfl : k = s.size := by omega
      have e : s.data.toList.take s.size = s.data.toList := List.take_of_length_le (by simp)
      rw [e] at hall
      have HA : Hid (s.data.toList.all (fun c => chk slash ((c.toNat : Nat) : Int)) = true) := hall
      clear hall
      by_cases h1 : 1 ≤ s.size
      · have e1 : (1 : Int) ≤ (s.size : Int) := by omega
        by_cases h2 : (s.size : Int) ≤ most
        · go_wp2
          go_ret
          refine ⟨?_, rfl⟩
          unfold namP
          rw [HA.out]
          simp [h1, h2]
        · go_wp2
          go_ret
          refine ⟨?_, rfl⟩
          unfold namP
          rw [HA.out]
          simp [h1, h2]
      · have e1 : ¬ (1 : Int) ≤ (s.size : Int) := by omega
        go_wp2
        go_ret
        refine ⟨?_, rfl⟩
        unfold namP
        rw [HA.out]
        simp [h1]

end Go.Proofs.YtfjekjbkifmpfaaDoor
