/-
  RingPoints holds for all texts: the law's call returns true and leaves its argument as it was. No condition; the listed tables are tied to the program's text.
-/
import Derived.Test.YtnhmdeglaoilcaaDoorRCard
import Derived.Test.YtnhmdeglaoilcaaDoorRShard
import Derived.Test.YtnhmdeglaoilcaaDoorRPts13
namespace Go.Proofs.YtnhmdeglaoilcaaDoor
open Go.ChangeShapes Go.WideShapes Go.ChangeAt Go.RowKit

theorem pkept {w w' : World} {b : Nat} {z : Pt} (K : Kept (fun _ => False) w w') (h : w.cell? ⟨b, 0, none⟩ = some (.int .i64 z.1) ∧ w.cell? ⟨b, 1, none⟩ = some (.int .i64 z.2)) : w'.cell? ⟨b, 0, none⟩ = some (.int .i64 z.1) ∧ w'.cell? ⟨b, 1, none⟩ = some (.int .i64 z.2) :=
  ⟨cellKp K h.1, cellKp K h.2⟩

theorem pnew (w : World) (T : TypeId) (z : Pt) : (w.alloc (.cells #[.int .i64 z.1, .int .i64 z.2] T)).cell? ⟨w.heap.size, 0, none⟩ = some (.int .i64 z.1) ∧ (w.alloc (.cells #[.int .i64 z.1, .int .i64 z.2] T)).cell? ⟨w.heap.size, 1, none⟩ = some (.int .i64 z.2) :=
  ⟨(PAt.new w T z.1 z.2).c0, (PAt.new w T z.1 z.2).c1⟩

set_option maxRecDepth 100000 in
set_option maxHeartbeats 4000000 in
theorem ringPoints_walk (a : Option Addr) (len cap : Nat) (S : Nat → ByteArray) (w : World) (hS : StrsAt w a len S) :
    Calls Tryd.prog 3 #[.slice a len cap] w fun e w' => e = .returned (.bool true) ∧ Below w.heap.size w w' := by
  have hW := fun V => wakes_any V
  go_enter Tryd.func3, Tryd.ntmps3
  go_wp2
  go_loopw [3] (fun i wr => ∃ (k : Nat), k ≤ len ∧ k ≤ 20 ∧ i = .int .i64 k ∧ Kept (fun _ => False) w wr) (fun i _ => len - (intOf i).toNat)
  case atStart => exact ⟨0, Nat.zero_le _, by decide, rfl, Kept.refl _ _⟩
  case round =>
    obtain ⟨k, hk, hk20, rfl, K⟩ := hrel
    by_cases hlt : k < len
    · have e0 : (k : Int) < (len : Int) := by omega
      by_cases h20 : k < 20
      · obtain ⟨b, o, rfl, hcell⟩ := hS.at hlt
        have x0 := cellKept K (hcell k hlt)
        have C := fun V => clip_any V (S k)
        have hsz := clipS_size (S k)
        have A := fun V => point_any V (clipS (S k)) (by omega)
        have R := fun V => refPoint_any V (clipS (S k)) (by omega)
        have hz := point_in (clipS (S k)).data.toList
        generalize point (clipS (S k)).data.toList = z at *
        generalize clipS (S k) = s at *
        unfold cx at A
        unfold pv at R
        have HC : Hid (∀ i, i < len → w.cell? ⟨b, o + i, none⟩ = some (.string (S i))) := hcell
        clear hcell hsz
        go_wp2_with (first
          | (go_at_call 10; refine (C _).mono ?_; rintro e w1 ⟨rfl, hw1⟩; subst w1)
          | (go_at_call 9; refine (R _).mono ?_; rintro e w1 ⟨rfl, K1⟩; have KA := Kept.alloc (fun _ => False) w1 (.cells #[.int .i64 z.1, .int .i64 z.2] 24); have x1 := cellKept ((K.and K1).and KA) (HC.out k hlt); clear R)
          | (go_at_call 11; refine (A _).mono ?_; rintro e w2 ⟨rfl, hw2⟩; subst w2; clear A)
          | fail)
        have P1 := pnew w1 24 z
        refine wp_onlyN (points6 _ hz P1.1 P1.2 ?_)
        intro v31 v32 v33 v34 v35 v36 v37 v38 v39 v40 v41 v42 v43 v44 v45 v46 v47 v48 v49 v50 v51 v52 v53 v54 v55 v56 v57 v58 v59 v60 w2 K2
        have KB : Kept (fun _ => False) w w2 := ((((K.and K1).and KA).and (Kept.drew _ _))).and K2
        have P2 := pkept (((Kept.drew _ _)).and K2) P1
        have HP : Hid (w2.cell? ⟨w1.heap.size, 0, none⟩ = some (.int .i64 z.1) ∧ w2.cell? ⟨w1.heap.size, 1, none⟩ = some (.int .i64 z.2)) := P2
        clear P1 P2 x0 x1 K K1 KA K2 C
        go_wp2
        go_loopw [6] (fun i wr' => ∃ (q : Nat), q ≤ k ∧ i = .int .i64 q ∧ Kept (fun _ => False) w2 wr') (fun i _ => k - (intOf i).toNat)
        case atStart => exact ⟨0, Nat.zero_le _, rfl, Kept.refl _ _⟩
        case round =>
          obtain ⟨q, hq, rfl, K3⟩ := hrel
          by_cases hqk : q < k
          · have e1 : (q : Int) < (k : Int) := by omega
            have e2 : (q : Int) < (len : Int) := by omega
            have hql : q < len := by omega
            have x0 := cellKept (KB.and K3) (HC.out q hql)
            have C := fun V => clip_any V (S q)
            have hsz := clipS_size (S q)
            have A := fun V => point_any V (clipS (S q)) (by omega)
            have R := fun V => refPoint_any V (clipS (S q)) (by omega)
            have hy := point_in (clipS (S q)).data.toList
            generalize point (clipS (S q)).data.toList = y at *
            generalize clipS (S q) = s2 at *
            unfold cx at A
            unfold pv at R
            clear hsz hW
            go_wp2_with (first
              | (go_at_call 10; refine (C _).mono ?_; rintro e w3 ⟨rfl, hw3⟩; subst w3)
              | (go_at_call 9; refine (R _).mono ?_; rintro e w3 ⟨rfl, K4⟩; have KA := Kept.alloc (fun _ => False) w3 (.cells #[.int .i64 y.1, .int .i64 y.2] 24); have x1 := cellKept (((KB.and K3).and K4).and KA) (HC.out q hql); clear R)
              | (go_at_call 11; refine (A _).mono ?_; rintro e w4 ⟨rfl, hw4⟩; subst w4; clear A)
              | fail)
            have P1 := pkept ((K3.and K4).and KA) HP.out
            have P2 := pnew w3 24 y
            refine wp_onlyN (points13 _ hz hy P1.1 P1.2 P2.1 P2.2 ?_)
            intro v79 v80 v81 v82 v83 v84 v85 v86 v87 v88 v89 v90 v91 v92 v93 v94 v95 v96 v97 v98 w5 K5
            clear P1 P2 x0 x1 C
            go_wp2
            go_roundw
            case rel => exact ⟨q + 1, by omega, by go_num, ((((K3.and K4).and KA).and (Kept.drew _ _))).and K5⟩
            case measure => simp [intOf]; omega
          · have e1 : ¬ (q : Int) < (k : Int) := by omega
            go_wp2
            go_roundw
            case rel => exact ⟨k + 1, by omega, by omega, by go_num, KB.and K3⟩
            case measure => simp [intOf]; omega
      · have e3 : ¬ (k : Int) < 20 := by omega
        go_wp2_with (first
          | (go_at_call 16; refine (hW _).mono ?_; rintro e w1 ⟨rfl, K1⟩)
          | fail)
        go_ret
        exact ⟨rfl, (K.and K1).none⟩
    · have e3 : ¬ (k : Int) < (len : Int) := by omega
      go_wp2_with (first
        | (go_at_call 16; refine (hW _).mono ?_; rintro e w1 ⟨rfl, K1⟩)
        | fail)
      go_ret
      exact ⟨rfl, (K.and K1).none⟩

set_option maxRecDepth 100000 in
theorem ringPoints_lifted (os : Os) (started : os.Started) (H : Type) (enc : TypeId × Value → H) :
    ReturnsInHanded {} Tryd.checked os 3 .any (fun w args => (Rows.ringPointsSpec.pre enc Tryd.prog Tryd.f3 [] false w args ∧ laidMetH Tryd.prog laidL w) ∧ sizedMet enc Tryd.prog Tryd.f3 (OpenSpec.ofChange Rows.ringPointsSpec) false w args)
      (Rows.ringPointsSpec.post enc Tryd.prog Tryd.f3 false true false false) := by
  refine returnsInHanded_of_change_and (C := Tryd.checked) (X := fun w _ => laidMetH Tryd.prog laidL w) (fun _ _ _ hh h => h.of_heap hh) Tryd.own started (by kernel_rfl) Tryd.func3
    (ChangeSpec.witness_shaped (enc := enc) (C := Tryd.checked) (os := os) (X := fun w _ => laidMetH Tryd.prog laidL w) false (World.doorLaid Tryd.prog 24 os) #[.slice none 0 0] 8 rfl (World.shaped_of_RefB (by kernel_rfl) (by kernel_rfl)) (by kernel_rfl) (by kernel_rfl) (by kernel_rfl) (door_met os _)) ?_
  intro W base args ds gs before hval0 hW _ _ hL _
  have hval : ∀ (j : Nat) t v, Tryd.f3.params[j]? = some t → args[j]? = some v → Value.okWide Tryd.prog W .any base t v := hval0
  have hW' := hW
  obtain ⟨p, q, hA0, hV, rfl, _, _⟩ := hW
  have hA : DataW.TrodAll enc Tryd.prog W 0 (fun _ => true) true Tryd.f3.params.toList args.toList ds p := hA0
  rw [Tryd.params3] at hA hval
  obtain ⟨v0, vs0, d0, ds0, p0, q0, hargs, rfl, rfl, h0, r0⟩ := trodAll_cons hA
  obtain ⟨rfl, rfl, rfl⟩ := trodAll_nil r0
  obtain rfl : args = #[v0] := by cases args; simp_all
  obtain ⟨rfl, rfl⟩ := trodVars_none hV
  have k0 := h0
  have lt0 : ∀ x ∈ p0, x.block < W.heap.size := by obtain ⟨m, hm⟩ := k0; exact DataW.trod_lt m _ _ _ hm
  obtain ⟨a0', len0', cap0', rfl⟩ := okWide_slice Tryd.underlying22 (hval 0 22 v0 rfl rfl)
  obtain ⟨a0, len0, cap0, S0, e0, _, _, w0⟩ : ∃ a len cap S, Value.slice a0' len0' cap0' = .slice a len cap ∧ len ≤ cap ∧ cap ≤ maxLen ∧ StrsAt W a len S := by
    obtain ⟨fuel, hf⟩ := h0
    exact strs_open Tryd.underlying22 Tryd.underlying9 (by kernel_rfl) hf
  simp only [Value.slice.injEq] at e0
  obtain ⟨rfl, rfl, rfl⟩ := e0
  clear hA0 hval0
  refine (ringPoints_walk _ _ _ S0 W w0).mono fun e W' ⟨he, bel⟩ => ?_
  subst he
  exact ⟨_, rfl, _, _, _, [], _, [], hW', trodAll_mk1 (shut_bool Tryd.underlying4 _), (trodAll_cons_mk (Below.trod Tryd.laidOut (by kernel_rfl) (of_decide_eq_true (by kernel_rfl)) k0 bel lt0) trodAll_mk0), rfl, bel.frame _, fun h => by cases h⟩

theorem ringPoints_row : Rows.RingPointsSaid :=
  OpenClaim.holds_of_wide 3 Tryd.f3 rfl rfl rfl rfl rfl rfl rfl ⟨rfl, rfl, rfl, rfl, rfl⟩ rfl rfl rfl rfl rfl (by kernel_rfl) Tryd.func3 (by kernel_rfl)
    (of_decide_eq_true (by kernel_rfl)) (by unfold Func.isWrapper; first | (rw [if_pos (by decide +kernel)]; kernel_rfl) | (rw [if_neg (by decide +kernel)]; exact ⟨rfl, rfl⟩))
    (fun os started H enc _ => ringPoints_lifted os started H enc)

theorem ringPoints_holds : Rows.RingPointsCardSaid :=
  Claim7.holds_tied_plain_at .later [] [.data, .data, .data] true Rows.ringPointsCard.stood.harness false
    ringPoints_row (fun _ h => by cases h) (by kernel_rfl) (fun _ h => by cases h) ringPoints_row_tie rfl ⟨rfl, rfl⟩ (by kernel_rfl) rfl
    (fun f fn hf hfn => by
      obtain rfl : f = 3 := Option.some.inj ((show Tryd.prog.funcNamed "tiller/tillerlaw06.RingPoints" = some 3 by kernel_rfl).symm.trans hf) |>.symm
      obtain rfl : fn = Tryd.f3 := (Option.some.inj (Tryd.func3.symm.trans hfn)).symm
      exact ⟨by kernel_rfl, fun j t ht => by
        rw [Tryd.params3] at ht
        have hm : t ∈ [22] := by simpa using Array.mem_of_getElem? ht
        have hall : ([22].all fun u => !Tryd.prog.wantsStandIn u) = true := by kernel_rfl
        exact (show Tryd.prog.wantsStandIn t = false by simpa using List.all_eq_true.1 hall t hm)⟩)
    (by kernel_rfl)

end Go.Proofs.YtnhmdeglaoilcaaDoor
