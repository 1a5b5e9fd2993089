/-
  DagNames holds for all texts: the law's call returns true and leaves its argument as it was. No condition; the listed variables are tied to the program's text.
-/
import Derived.Test.YtpamnmginddgdabDoorDCard
import Derived.Test.YtpamnmginddgdabDoorDRefName
import Derived.Deep.QuietTactic
import Derived.BigQuiet
namespace Go.Proofs.YtpamnmginddgdabDoor
open Go.ChangeShapes Go.WideShapes Go.ChangeAt Go.RowKit

set_option maxRecDepth 100000 in
set_option maxHeartbeats 1000000 in
theorem refName_any (w : World) (s : ByteArray) (hs : s.size ≤ maxLen) :
    Calls Tryd.prog 8 #[.string s] w fun e w' => e = .returned (.bool (nameP s)) ∧ w' = w := by
  have h := named_ref w s false 64 hs
  rw [nam_name] at h
  generalize nameP s = b at *
  go_enter Tryd.func8, Tryd.ntmps8
  go_wp2_with (first
    | (go_at_call 25; refine h.mono ?_; rintro e w1 ⟨rfl, rfl⟩; clear h)
    | fail)
  go_ret
  exact ⟨rfl, rfl⟩

set_option maxRecDepth 100000 in
set_option maxHeartbeats 1000000 in
theorem refFlow_any (w : World) (s : ByteArray) (hs : s.size ≤ maxLen) :
    Calls Tryd.prog 10 #[.string s] w fun e w' => e = .returned (.bool (flowP s)) ∧ w' = w := by
  have h := named_ref w s true 256 hs
  rw [nam_flow] at h
  generalize flowP s = b at *
  go_enter Tryd.func10, Tryd.ntmps10
  go_wp2_with (first
    | (go_at_call 25; refine h.mono ?_; rintro e w1 ⟨rfl, rfl⟩; clear h)
    | fail)
  go_ret
  exact ⟨rfl, rfl⟩

set_option maxRecDepth 100000 in
set_option maxHeartbeats 4000000 in
theorem dagNames_walk (a : Option Addr) (len cap : Nat) (S : Nat → ByteArray) (w : World) (hS : StrsAt w a len S) :
    Calls Tryd.prog 3 #[.slice a len cap] w fun e w' => e = .returned (.bool true) ∧ Below w.heap.size w w' := by
  have hW := fun V => wakes_any V
  go_enter Tryd.func3, Tryd.ntmps3
  go_wp2
  go_loopw [3] (fun i wr => ∃ (k m : Nat), k ≤ len ∧ k ≤ 60 ∧ i = .int .i64 k ∧ wr = w.drewN m) (fun i _ => len - (intOf i).toNat)
  case atStart => exact ⟨0, 0, Nat.zero_le _, by decide, rfl, rfl⟩
  case round =>
    obtain ⟨k, m, hk, hk60, rfl, rfl⟩ := hrel
    by_cases hlt : k < len
    · have e0 : (k : Int) < (len : Int) := by omega
      by_cases h60 : k < 60
      · have e2 : (k : Int) < 60 := by omega
        obtain ⟨b, o, rfl, hcell⟩ := hS.at hlt
        obtain ⟨x0, hs⟩ := hcell k hlt
        have N1 := fun V => name_any V (S k)
        have F1 := fun V => flow_any V (S k)
        have N2 := fun V => refName_any V (S k) hs
        have F2 := fun V => refFlow_any V (S k) hs
        generalize nameP (S k) = b1 at *
        generalize flowP (S k) = b2 at *
        generalize S k = s at *
        have q1 : (b1 != b1) = false := by simp
        have q2 : (b2 != b2) = false := by simp
        clear hcell hs hS
        go_wp2_with fail
        go_quiet (first
          | (go_at_call 7; exact (N1 _).mono fun _ _ ⟨he, hw⟩ => ⟨he, _, hw⟩)
          | (go_at_call 8; exact (N2 _).mono fun _ _ ⟨he, hw⟩ => ⟨he, _, hw⟩)
          | (go_at_call 9; exact (F1 _).mono fun _ _ ⟨he, hw⟩ => ⟨he, _, hw⟩)
          | (go_at_call 10; exact (F2 _).mono fun _ _ ⟨he, hw⟩ => ⟨he, _, hw⟩))
        go_wp2
        go_roundw
        case rel => exact ⟨k + 1, m + nq, by omega, by omega, by go_num, rfl⟩
        case measure => simp [intOf]; omega
      · have e2 : ¬ (k : Int) < 60 := by omega
        clear hS
        go_wp2_with (first
          | (go_at_call 11; refine (hW _).mono ?_; rintro e w1 ⟨rfl, K1⟩; clear hW)
          | fail)
        go_ret
        exact ⟨rfl, ((Kept.drewN _ _ _).and K1).none⟩
    · have e0 : ¬ (k : Int) < (len : Int) := by omega
      clear hS
      go_wp2_with (first
        | (go_at_call 11; refine (hW _).mono ?_; rintro e w1 ⟨rfl, K1⟩; clear hW)
        | fail)
      go_ret
      exact ⟨rfl, ((Kept.drewN _ _ _).and K1).none⟩

set_option maxRecDepth 100000 in
theorem dagNames_lifted (os : Os) (started : os.Started) (H : Type) (enc : TypeId × Value → H) :
    ReturnsInHanded {} Tryd.checked os 3 .any (fun w args => (Rows.dagNamesSpec.pre enc Tryd.prog Tryd.f3 [] false w args ∧ laidMetH Tryd.prog laidL w) ∧ sizedMet enc Tryd.prog Tryd.f3 (OpenSpec.ofChange Rows.dagNamesSpec) false w args)
      (Rows.dagNamesSpec.post enc Tryd.prog Tryd.f3 false true false false) := by
  refine returnsInHanded_of_change_and (C := Tryd.checked) (X := fun w _ => laidMetH Tryd.prog laidL w) (fun _ _ _ hh h => h.of_heap hh) Tryd.own started (by kernel_rfl) Tryd.func3
    (ChangeSpec.witness_shaped (enc := enc) (C := Tryd.checked) (os := os) (X := fun w _ => laidMetH Tryd.prog laidL w) false (World.doorLaid Tryd.prog 62 os) #[.slice none 0 0] 8 rfl (World.shaped_of_RefB (by kernel_rfl) (by kernel_rfl)) (by kernel_rfl) (by kernel_rfl) (by kernel_rfl) (door_met os _)) ?_
  intro W base args ds gs before hval0 hW _ _ hL _
  have hval : ∀ (j : Nat) t v, Tryd.f3.params[j]? = some t → args[j]? = some v → Value.okWide Tryd.prog W .any base t v := hval0
  have hW' := hW
  obtain ⟨p, q, hA0, hV, rfl, _, _⟩ := hW
  have hA : DataW.TrodAll enc Tryd.prog W 0 (fun _ => true) true Tryd.f3.params.toList args.toList ds p := hA0
  rw [Tryd.params3] at hA hval
  obtain ⟨v0, vs0, d0, ds0, p0, q0, hargs, rfl, rfl, h0, r0⟩ := trodAll_cons hA
  obtain ⟨rfl, rfl, rfl⟩ := trodAll_nil r0
  obtain rfl : args = #[v0] := by cases args; simp_all
  obtain ⟨rfl, rfl⟩ := trodVars_none hV
  have k0 := h0
  have lt0 : ∀ x ∈ p0, x.block < W.heap.size := by obtain ⟨m, hm⟩ := k0; exact DataW.trod_lt m _ _ _ hm
  obtain ⟨a0', len0', cap0', rfl⟩ := okWide_slice Tryd.underlying22 (hval 0 22 v0 rfl rfl)
  obtain ⟨a0, len0, cap0, S0, e0, _, _, w0⟩ : ∃ a len cap S, Value.slice a0' len0' cap0' = .slice a len cap ∧ len ≤ cap ∧ cap ≤ maxLen ∧ StrsAt W a len S := by
    obtain ⟨fuel, hf⟩ := h0
    exact strs_open Tryd.underlying22 Tryd.underlying9 (by kernel_rfl) hf
  simp only [Value.slice.injEq] at e0
  obtain ⟨rfl, rfl, rfl⟩ := e0
  clear hA0 hval0
  refine (dagNames_walk _ _ _ _ W w0).mono fun e W' ⟨he, bel⟩ => ?_
  subst he
  exact ⟨_, rfl, _, _, _, [], _, [], hW', trodAll_mk1 (shut_bool Tryd.underlying4 _), (trodAll_cons_mk (Below.trod Tryd.laidOut (by kernel_rfl) (of_decide_eq_true (by kernel_rfl)) k0 bel lt0) trodAll_mk0), rfl, bel.frame _, fun h => by cases h⟩

theorem dagNames_row : Rows.DagNamesSaid :=
  OpenClaim.holds_of_wide 3 Tryd.f3 rfl rfl rfl rfl rfl rfl rfl ⟨rfl, rfl, rfl, rfl, rfl⟩ rfl rfl rfl rfl rfl (by kernel_rfl) Tryd.func3 (by kernel_rfl)
    (of_decide_eq_true (by kernel_rfl)) (by unfold Func.isWrapper; first | (rw [if_pos (by decide +kernel)]; kernel_rfl) | (rw [if_neg (by decide +kernel)]; exact ⟨rfl, rfl⟩))
    (fun os started H enc _ => dagNames_lifted os started H enc)

theorem dagNames_holds : Rows.DagNamesCardSaid :=
  Claim7.holds_tied_plain_at .later [] [.data, .data, .data, .sentinel, .sentinel] true Rows.dagNamesCard.stood.harness true
    dagNames_row (fun _ h => by cases h) (by kernel_rfl) (fun _ h => by cases h) dagNames_row_tie rfl ⟨rfl, rfl⟩ (by kernel_rfl) rfl
    (fun f fn hf hfn => by
      obtain rfl : f = 3 := Option.some.inj ((show Tryd.prog.funcNamed "tiller/tillerlaw08.DagNames" = some 3 by kernel_rfl).symm.trans hf) |>.symm
      obtain rfl : fn = Tryd.f3 := (Option.some.inj (Tryd.func3.symm.trans hfn)).symm
      exact ⟨by kernel_rfl, fun j t ht => by
        rw [Tryd.params3] at ht
        have hm : t ∈ [22] := by simpa using Array.mem_of_getElem? ht
        have hall : ([22].all fun u => !Tryd.prog.wantsStandIn u) = true := by kernel_rfl
        exact (show Tryd.prog.wantsStandIn t = false by simpa using List.all_eq_true.1 hall t hm)⟩)
    (by kernel_rfl)

end Go.Proofs.YtpamnmginddgdabDoor
