/-
  Pairs on the same data.
-/
import Derived.Test.YtdbplemcjnlfiaaGreatDoorFPairs
namespace Go.Proofs.YtdbplemcjnlfiaaGreatDoor
open Go.RowKit

set_option maxRecDepth 100000 in
set_option maxHeartbeats 2000000 in
theorem pairs_same (w : World) (a a2 : Option Addr) (c c2 : Nat) (ps : List Pr) (hP : PairsAt w a ps) (hQ : PairsAt w a2 ps) (hm : ps.length ≤ 1000000) :
    Calls Tryz.prog 10 #[.slice a ps.length c, .slice a2 ps.length c2] w fun e w' => e = .returned (.bool true) ∧ Kept (fun _ => False) w w' := by
  go_enter Tryz.func10, Tryz.ntmps10
  go_wp2
  go_loopw [5] (fun v wr => ∃ (j : Nat), j ≤ ps.length ∧ v = .int .i64 (j : Int) ∧ Kept (fun _ => False) w wr) (fun v _ => ps.length - (intOf v).toNat)
  case atStart => exact ⟨0, Nat.zero_le _, rfl, Kept.refl _ _⟩
  case round =>
    obtain ⟨j, hj, rfl, K⟩ := hrel
    have HK := hid K
    by_cases hlt : j < ps.length
    · rcases hP.kept K with h0 | ⟨b, o, rfl, hcell⟩
      · rw [h0] at hlt; simp at hlt
      · rcases hQ.kept K with h0 | ⟨b2, o2, rfl, hcell2⟩
        · rw [h0] at hlt; simp at hlt
        · obtain ⟨c0, c1⟩ := hcell j hlt
          obtain ⟨d0, d1⟩ := hcell2 j hlt
          have e0 : (j : Int) < (ps.length : Int) := by omega
          have q1 : ((mkB (ps[j]'hlt).1).toList == (mkB (ps[j]'hlt).1).toList) = true := by simp
          have q2 : ((mkB (ps[j]'hlt).2).toList == (mkB (ps[j]'hlt).2).toList) = true := by simp
          clear hcell hcell2 K hP hQ
          generalize mkB (ps[j]'hlt).1 = x at *
          generalize mkB (ps[j]'hlt).2 = y at *
          go_wp2_with (first | go_quiet (fail) | fail)
          go_roundw
          case rel => exact ⟨j + 1, by omega, by go_num, HK.out.and (Kept.drewN _ _ _)⟩
          case measure => first | (simp [intOf]; omega) | (simp [intOf]; done)
    · have e0 : ¬ (j : Int) < (ps.length : Int) := by omega
      clear K hP hQ
      go_wp2
      go_ret
      exact ⟨rfl, HK.out⟩

end Go.Proofs.YtdbplemcjnlfiaaGreatDoor
