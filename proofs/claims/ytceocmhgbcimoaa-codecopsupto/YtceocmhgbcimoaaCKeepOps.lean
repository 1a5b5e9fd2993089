/-
  Two rows of changes that are alike are found so.
-/
import Derived.Test.YtceocmhgbcimoaaCOpsP
namespace Go.Proofs.Ytceocmhgbcimoaa
open Go.RowKit

set_option maxRecDepth 100000 in
set_option maxHeartbeats 400000 in
theorem keepOps_any (w : World) (a1 a2 : Option Addr) (n c1 c2 : Nat) (ops : List OpD) (O1 : OpsAt w a1 n c1 ops) (O2 : OpsAt w a2 n c2 ops) (hn : n ≤ 1000000000) :
    Calls Try.prog 49 #[.slice a1 n c1, .slice a2 n c2] w fun e w' => e = .returned (.bool true) ∧ Kept (fun _ => False) w w' := by
  have hlen := O1.len
  have H1 : Hid (OpsAt w a1 n c1 ops) := O1
  have H2 : Hid (OpsAt w a2 n c2 ops) := O2
  clear O1 O2
  go_enter Try.func49, Try.ntmps49
  go_wp2
  go_loopw [5] (fun i wr => ∃ (k : Nat), i = .int .i64 k ∧ k ≤ n ∧ Kept (fun _ => False) w wr) (fun i _ => n - (intOf i).toNat)
  case atStart => exact ⟨0, rfl, Nat.zero_le _, Kept.refl _ _⟩
  case round =>
    obtain ⟨k, rfl, hk, K⟩ := hrel
    by_cases hkn : k = n
    · subst hkn
      have hc : ¬ ((k : Int) < (k : Int)) := by omega
      go_wp2
      go_ret
      exact ⟨rfl, K⟩
    · have hkl : k < ops.length := by omega
      obtain ⟨o, ho⟩ : ∃ o, ops[k]? = some o := ⟨ops[k], List.getElem?_eq_getElem hkl⟩
      obtain ⟨ok, ov, og⟩ := o
      cases a1 with
      | none => have := H1.out.nil rfl; omega
      | some ad1 =>
        cases a2 with
        | none => have := H2.out.nil rfl; omega
        | some ad2 =>
          obtain ⟨hs1, hc1⟩ := H1.out.cells ad1 rfl (by omega)
          obtain ⟨hs2, hc2⟩ := H2.out.cells ad2 rfl (by omega)
          obtain ⟨b1, o1, sp⟩ := ad1
          obtain rfl : sp = none := hs1
          obtain ⟨b2, o2, sp⟩ := ad2
          obtain rfl : sp = none := hs2
          obtain ⟨d0, d1, d2⟩ := hc1 k _ ho
          obtain ⟨g0, g1, g2⟩ := hc2 k _ ho
          simp only [] at d0 d1 d2 g0 g1 g2
          have x0 := (cell_keep K d0 (fun h => h)).1
          have x1 := (cell_keep K d1 (fun h => h)).1
          have x2 := (cell_keep K d2 (fun h => h)).1
          have y0 := (cell_keep K g0 (fun h => h)).1
          have y1 := (cell_keep K g1 (fun h => h)).1
          have y2 := (cell_keep K g2 (fun h => h)).1
          have hlt : (k : Int) < (n : Int) := by omega
          have hltn : k < n := by omega
          clear d0 d1 d2 g0 g1 g2 hc1 hc2
          go_wp2_with fail
          go_quiet (fail)
          go_wp2
          go_roundw
          case rel => exact ⟨k + 1, by simp, by omega, K.and (Kept.drewN _ _ _)⟩
          case measure => simp [intOf]; omega

end Go.Proofs.Ytceocmhgbcimoaa
