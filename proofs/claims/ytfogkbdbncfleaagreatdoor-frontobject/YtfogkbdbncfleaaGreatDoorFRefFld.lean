/-
  The document's Field and Text.
-/
import Derived.Test.YtfogkbdbncfleaaGreatDoorFObjW
namespace Go.Proofs.YtfogkbdbncfleaaGreatDoor
open Go.RowKit

set_option maxRecDepth 100000 in
set_option maxHeartbeats 2000000 in
theorem rfield_any (w : World) (a : Option Addr) (c : Nat) (ps : List Pr) (k : List UInt8) (hP : PairsAt w a ps) (hm : ps.length ≤ 1000000) :
    Calls Tryz.prog 12 #[.slice a ps.length c, .string (mkB k)] w fun e w' => e = .returned (fldV (fieldP ps k)) ∧ w' = w := by
  go_enter Tryz.func12, Tryz.ntmps12
  go_wp2
  go_loopw [6] (fun v wr => ∃ (j : Nat), j ≤ ps.length ∧ v = .int .i64 (j : Int) ∧ wr = w ∧ fieldP (ps.drop j) k = fieldP ps k) (fun v _ => ps.length - (intOf v).toNat)
  case atStart => exact ⟨0, Nat.zero_le _, rfl, rfl, rfl⟩
  case round =>
    obtain ⟨j, hj, rfl, hwr, hF⟩ := hrel
    subst hwr
    have HF := hid hF
    clear hF
    by_cases hlt : j < ps.length
    · rcases hP with h0 | ⟨b, o, rfl, hcell⟩
      · rw [h0] at hlt; simp at hlt
      · obtain ⟨c0, c1⟩ := hcell j hlt
        have e0 : (j : Int) < (ps.length : Int) := by omega
        have hq := str_beq (ps[j]'hlt).1 k
        have HH : Hid (((ps[j]'hlt).1 == k) = true → fieldP (ps.drop j) k = some (ps[j]'hlt).2) := fieldP_hit hlt
        have HM : Hid (((ps[j]'hlt).1 == k) = false → fieldP (ps.drop j) k = fieldP (ps.drop (j + 1)) k) := fieldP_miss hlt
        clear hcell
        cases he : ((ps[j]'hlt).1 == k) with
        | true =>
          rw [he] at hq
          have HE : Hid (fieldP ps k = some (ps[j]'hlt).2) := by
            show fieldP ps k = _
            rw [← HF.out, HH.out he]
          clear he HH HM
          generalize mkB (ps[j]'hlt).1 = x at *
          generalize (ps[j]'hlt).2 = y at *
          generalize mkB k = kn at *
          go_wp2
          go_ret2
          refine ⟨?_, rfl⟩
          rw [HE.out]
          rfl
        | false =>
          rw [he] at hq
          have HE := hid (HM.out he)
          clear he HH HM
          generalize mkB (ps[j]'hlt).1 = x at *
          generalize mkB k = kn at *
          go_wp2
          go_roundw
          case rel => exact ⟨j + 1, by omega, by go_num, by trivial, by rw [← HE.out]; exact HF.out⟩
          case measure => first | (simp [intOf]; omega) | (simp [intOf]; done)
    · have e0 : ¬ (j : Int) < (ps.length : Int) := by omega
      have HE : Hid (fieldP ps k = none) := by
        show fieldP ps k = none
        rw [← HF.out, List.drop_of_length_le (by omega)]
        rfl
      go_wp2
      go_ret2
      refine ⟨?_, rfl⟩
      rw [HE.out]
      rfl

end Go.Proofs.YtfogkbdbncfleaaGreatDoor
