/-
  The document's reader: a value.
-/
import Derived.Test.YtfogkbdbncfleaaGreatDoorFRdr9
import Derived.Test.YtfogkbdbncfleaaGreatDoorFRefD
namespace Go.Proofs.YtfogkbdbncfleaaGreatDoor
open Go.RowKit

theorem skipP_at {s : ByteArray} {i : Nat} (h : skipP s i < s.size) : blankB (s[skipP s i]'h) = false := by
  refine tw_end blankB (s.data.toList.drop i) _ ?_
  rw [List.getElem?_drop]
  exact get_lt s h

theorem skipP_idem (s : ByteArray) (i : Nat) : skipP s (skipP s i) = skipP s i := by
  rcases Nat.lt_or_ge (skipP s i) s.size with h | h
  · exact skipP_stop s h (skipP_at h)
  · exact skipP_end s h

theorem run_quo (W : World) (t : List UInt8) (h : t.length ≤ 4000000000000) : (Op.stringOp .add ⟨#[34]⟩ (mkB t)).run Tryz.prog W = .ok (.string (mkB (34 :: t))) W := by
  unfold Op.stringOp
  dsimp only
  rw [if_neg (by rw [show (⟨#[34]⟩ : ByteArray).size = 1 from rfl, mkB_size]; simp [IntKind.max, IntKind.signed, IntKind.bits]; omega)]
  have := cons_cat 34 t
  rw [show (⟨#[34]⟩ : ByteArray) = mkB [34] from rfl, this]
  rfl

set_option maxRecDepth 100000 in
set_option maxHeartbeats 8000000 in
theorem rvalBad_any (w : World) (g : Nat) (s : ByteArray) (i : Nat) (bad why : Int) (hs : s.size ≤ 1000000000000) (hi : i ≤ s.size) (hb : 0 ≤ bad) (R : RdrAt w g s i bad why) :
    Calls Tryz.prog 35 #[.pointer (some ⟨g, 0, none⟩)] w fun e w' => e = .returned (.string (mkB [])) ∧ RdrAt w' g s (skipP s i : Nat) bad why ∧ Kept (fun k => k = g) w w' := by
  have hS := rskip_any w g s i bad why (by omega) hi R
  have e0 : bad ≥ 0 := hb
  clear R
  go_enter Tryz.func35, Tryz.ntmps35
  go_wp2_with (first
    | (go_at_call 32; refine hS.mono ?_; rintro e w1 ⟨rfl, R1, K1⟩; clear hS; obtain ⟨c0, c1, c2, c3⟩ := R1.cells; have HR := hid R1; have HK := hid K1; clear R1 K1)
    | fail)
  go_ret
  exact ⟨rfl, HR.out, HK.out⟩

set_option maxRecDepth 100000 in
set_option maxHeartbeats 8000000 in
theorem rval_any (w : World) (g : Nat) (s : ByteArray) (i : Nat) (bad why : Int) (hs : s.size ≤ 1000000000000) (hi : i ≤ s.size) (hb : bad < 0) (R : RdrAt w g s i bad why) :
    Calls Tryz.prog 35 #[.pointer (some ⟨g, 0, none⟩)] w (ValPost w g s bad why (valR s (skipP s i))) := by
  have hS := rskip_any w g s i bad why (by omega) hi R
  have hj := skipP_le s hi
  have hid2 := skipP_idem s i
  have e0 : ¬ bad ≥ 0 := by omega
  clear R
  generalize skipP s i = j at *
  have HNO := hid (fun V (R : RdrAt V g s (j : Nat) bad why) => no_any V g s j bad why j 2 R)
  by_cases hlt : j < s.size
  · have hix := ix_str s hlt
    have e1 : ¬ (j : Int) ≥ (s.size : Int) := by omega
    have h34 := standsP_at hlt 34
    have h45 := standsP_at hlt 45
    change (standsP s j 34 = true ↔ (((s[j]'hlt).toNat : Nat) : Int) = 34) at h34
    change (standsP s j 45 = true ↔ (((s[j]'hlt).toNat : Nat) : Int) = 45) at h45
    have hdg := isDig_iff (s[j]'hlt)
    have HT := hid (fun V (R : RdrAt V g s (j : Nat) bad why) => rtext_any V g s j bad why hs hj hb R)
    have HN := hid (fun V (R : RdrAt V g s (j : Nat) bad why) => rnum_any V g s j bad why hs hlt hb R)
    rw [hid2] at HT
    by_cases q34 : standsP s j 34 = true
    · have HV : Hid (valR s j = if (textP s j).2.2 then (34 :: (textP s j).1, (textP s j).2.1, true) else ([], (textP s j).2.1, false)) := by
        show valR s j = _
        unfold valR
        rw [if_pos q34]
      have hlen := (textP_next s hj).2.2
      rw [h34.1 q34] at hix
      clear h34 h45 hdg HN q34 hid2
      generalize textP s j = r at *
      obtain ⟨l, nx, ok⟩ := r
      simp only at HV hlen
      have hcat := fun W => run_quo W l (by omega)
      have hcat0 := fun W => run_quo W [] (by simp)
      cases ok with
      | true =>
        have HT1 : Hid (∀ V, RdrAt V g s (j : Nat) bad why → Calls Tryz.prog 33 #[.pointer (some ⟨g, 0, none⟩)] V fun e w' => e = .returned (.string (mkB l)) ∧ RdrAt w' g s (nx : Int) bad why ∧ Kept (fun k => k = g) V w') := fun V R => (HT.out V R).mono fun e w' h => by
          rcases h.2 with ⟨_, h1, h2⟩ | ⟨h1, _⟩
          · exact ⟨h1, h2, h.1⟩
          · cases h1
        clear HT
        go_enter Tryz.func35, Tryz.ntmps35
        go_wp2_with (first
          | (go_at_call 32; refine hS.mono ?_; rintro e w1 ⟨rfl, R1, K1⟩; clear hS; obtain ⟨c0, c1, c2, c3⟩ := R1.cells; have HR := hid R1; have HK := hid K1; clear R1 K1)
          | (go_at_call 33; refine (HT1.out _ (HR.out.kept (Kept.drewN (fun _ => False) _ _) (fun h => h))).mono ?_; rintro e w2 ⟨rfl, R2, K2⟩; have HR2 := hid R2; have HK2 := hid K2; clear R2 K2)
          | go_quiet (fail)
          | fail)
        go_ret
        refine ⟨(HK.out.and (Kept.drewN _ _ _)).and HK2.out, .inl ⟨by rw [HV.out]; rfl, by rw [HV.out]; rfl, ?_⟩⟩
        rw [HV.out]
        exact HR2.out
      | false =>
        have HT1 : Hid (∀ V, RdrAt V g s (j : Nat) bad why → Calls Tryz.prog 33 #[.pointer (some ⟨g, 0, none⟩)] V fun e w' => e = .returned (.string (mkB [])) ∧ (∃ k : Nat, k ≤ s.size ∧ RdrAt w' g s (k : Int) (nx : Int) 2) ∧ Kept (fun k => k = g) V w') := fun V R => (HT.out V R).mono fun e w' h => by
          rcases h.2 with ⟨h1, _⟩ | ⟨_, h1, h2⟩
          · cases h1
          · exact ⟨h1, h2, h.1⟩
        clear HT
        go_enter Tryz.func35, Tryz.ntmps35
        go_wp2_with (first
          | (go_at_call 32; refine hS.mono ?_; rintro e w1 ⟨rfl, R1, K1⟩; clear hS; obtain ⟨c0, c1, c2, c3⟩ := R1.cells; have HR := hid R1; have HK := hid K1; clear R1 K1)
          | (go_at_call 33; refine (HT1.out _ (HR.out.kept (Kept.drewN (fun _ => False) _ _) (fun h => h))).mono ?_; rintro e w2 ⟨rfl, R2, K2⟩; have HR2 := hid R2; have HK2 := hid K2; clear R2 K2)
          | go_quiet (fail)
          | fail)
        go_ret
        refine ⟨(HK.out.and (Kept.drewN _ _ _)).and HK2.out, .inr ⟨by rw [HV.out]; rfl, ⟨_, rfl⟩, ?_⟩⟩
        rw [HV.out]
        exact HR2.out
    · have HV : Hid (valR s j = numR s j) := by
        show valR s j = _
        unfold valR
        rw [if_neg q34]
      have n34 : ((((s[j]'hlt).toNat : Nat) : Int) == 34) = false := by rw [beq_eq_false_iff_ne]; exact fun h => q34 (h34.2 h)
      have HNR := hid (numR_eq s j)
      have HST : Hid (standsP s j 48 = true → (((s[j]'hlt).toNat : Nat) : Int) = 48) := fun h => (standsP_at hlt 48).1 h
      have HRUN : Hid (1 ≤ digRun s j → isDig (s[j]'hlt) = true) := fun h => by
        obtain ⟨hl, h1⟩ := digRun_at s (f := j) (d := 0) (by omega)
        exact h1
      clear h34 q34 HT hid2
      by_cases q45 : standsP s j 45 = true
      · have hc : ((((s[j]'hlt).toNat : Nat) : Int)) = 45 := h45.1 q45
        rw [hc] at hix n34
        clear h45 hdg q45 hc HNR HST HRUN HNO
        go_enter Tryz.func35, Tryz.ntmps35
        go_wp2_with (first
          | (go_at_call 32; refine hS.mono ?_; rintro e w1 ⟨rfl, R1, K1⟩; clear hS; obtain ⟨c0, c1, c2, c3⟩ := R1.cells; have HR := hid R1; have HK := hid K1; clear R1 K1)
          | (go_at_call 58; refine (HN.out _ (HR.out.kept (Kept.drewN (fun _ => False) _ _) (fun h => h))).mono ?_; rintro e w2 ⟨K2, h2⟩; have HK2 := hid K2; have H2 := hid h2; clear K2 h2; have hret : ∃ y, e = .returned (.string y) := (by rcases H2.out with ⟨_, h, _⟩ | ⟨_, h, _⟩; exact ⟨_, h⟩; exact h); obtain ⟨y, rfl⟩ := hret)
          | go_quiet (fail)
          | fail)
        go_ret
        refine ⟨(HK.out.and (Kept.drewN _ _ _)).and HK2.out, ?_⟩
        rw [HV.out]
        exact H2.out
      · have n45 : ((((s[j]'hlt).toNat : Nat) : Int) == 45) = false := by rw [beq_eq_false_iff_ne]; exact fun h => q45 (h45.2 h)
        cases hd : isDig (s[j]'hlt) with
        | true =>
          obtain ⟨g1, g2⟩ := hdg.1 hd
          have g1' : (((s[j]'hlt).toNat : Nat) : Int) ≥ 48 := g1
          clear h45 hdg q45 HNR HST HRUN HNO hd g1
          generalize (((s[j]'hlt).toNat : Nat) : Int) = x at *
          go_enter Tryz.func35, Tryz.ntmps35
          go_wp2_with (first
            | (go_at_call 32; refine hS.mono ?_; rintro e w1 ⟨rfl, R1, K1⟩; clear hS; obtain ⟨c0, c1, c2, c3⟩ := R1.cells; have HR := hid R1; have HK := hid K1; clear R1 K1)
            | (go_at_call 58; refine (HN.out _ (HR.out.kept (Kept.drewN (fun _ => False) _ _) (fun h => h))).mono ?_; rintro e w2 ⟨K2, h2⟩; have HK2 := hid K2; have H2 := hid h2; clear K2 h2; have hret : ∃ y, e = .returned (.string y) := (by rcases H2.out with ⟨_, h, _⟩ | ⟨_, h, _⟩; exact ⟨_, h⟩; exact h); obtain ⟨y, rfl⟩ := hret)
            | go_quiet (fail)
            | fail)
          go_ret
          refine ⟨(HK.out.and (Kept.drewN _ _ _)).and HK2.out, ?_⟩
          rw [HV.out]
          exact H2.out
        | false =>
          have HQ : Hid (valR s j = ([], j, false)) := by
            show valR s j = _
            rw [HV.out, HNR.out, if_neg q45]
            unfold numT
            have h0 : digRun s j = 0 := by
              rcases Nat.eq_zero_or_pos (digRun s j) with h | h
              · exact h
              · have := HRUN.out h
                rw [hd] at this
                cases this
            rw [if_pos h0]
          rw [hd] at hdg
          clear h45 q45 HNR HST HRUN HV HN hd
          generalize (((s[j]'hlt).toNat : Nat) : Int) = x at *
          by_cases g1 : x ≥ 48
          · have g2 : ¬ x ≤ 57 := fun h => Bool.noConfusion (hdg.2 ⟨g1, h⟩)
            clear hdg
            go_enter Tryz.func35, Tryz.ntmps35
            go_wp2_with (first
              | (go_at_call 32; refine hS.mono ?_; rintro e w1 ⟨rfl, R1, K1⟩; clear hS; obtain ⟨c0, c1, c2, c3⟩ := R1.cells; have HR := hid R1; have HK := hid K1; clear R1 K1)
              | (go_at_call 34; refine (HNO.out _ (HR.out.kept (Kept.drewN (fun _ => False) _ _) (fun h => h))).mono ?_; rintro e w2 ⟨rfl, R2, K2⟩; rw [if_pos hb, if_pos hb] at R2; have HR2 := hid R2; have HK2 := hid K2; clear R2 K2)
              | go_quiet (fail)
              | fail)
            go_ret
            refine ⟨(HK.out.and (Kept.drewN _ _ _)).and HK2.out, .inr ⟨by rw [HQ.out], ⟨_, rfl⟩, j, hj, ?_⟩⟩
            rw [HQ.out]
            exact HR2.out
          · have g1' : decide (x ≥ 48) = false := by rw [decide_eq_false_iff_not]; exact g1
            clear hdg
            go_enter Tryz.func35, Tryz.ntmps35
            go_wp2_with (first
              | (go_at_call 32; refine hS.mono ?_; rintro e w1 ⟨rfl, R1, K1⟩; clear hS; obtain ⟨c0, c1, c2, c3⟩ := R1.cells; have HR := hid R1; have HK := hid K1; clear R1 K1)
              | (go_at_call 34; refine (HNO.out _ (HR.out.kept (Kept.drewN (fun _ => False) _ _) (fun h => h))).mono ?_; rintro e w2 ⟨rfl, R2, K2⟩; rw [if_pos hb, if_pos hb] at R2; have HR2 := hid R2; have HK2 := hid K2; clear R2 K2)
              | go_quiet (fail)
              | fail)
            go_ret
            refine ⟨(HK.out.and (Kept.drewN _ _ _)).and HK2.out, .inr ⟨by rw [HQ.out], ⟨_, rfl⟩, j, hj, ?_⟩⟩
            rw [HQ.out]
            exact HR2.out
  · have HQ : Hid (valR s j = ([], j, false)) := by
      show valR s j = _
      unfold valR
      rw [if_neg (by rw [standsP_ge s (by omega)]; decide), numR_eq, standsP_ge s (by omega)]
      simp only [Bool.false_eq_true, if_false]
      unfold numT
      have := digRun_le s hj
      rw [if_pos (by omega)]
    have e1 : (j : Int) ≥ (s.size : Int) := by omega
    clear hid2
    go_enter Tryz.func35, Tryz.ntmps35
    go_wp2_with (first
      | (go_at_call 32; refine hS.mono ?_; rintro e w1 ⟨rfl, R1, K1⟩; clear hS; obtain ⟨c0, c1, c2, c3⟩ := R1.cells; have HR := hid R1; have HK := hid K1; clear R1 K1)
      | (go_at_call 34; refine (HNO.out _ (HR.out.kept (Kept.drewN (fun _ => False) _ _) (fun h => h))).mono ?_; rintro e w2 ⟨rfl, R2, K2⟩; rw [if_pos hb, if_pos hb] at R2; have HR2 := hid R2; have HK2 := hid K2; clear R2 K2)
      | go_quiet (fail)
      | fail)
    go_ret
    refine ⟨(HK.out.and (Kept.drewN _ _ _)).and HK2.out, .inr ⟨by rw [HQ.out], ⟨_, rfl⟩, j, hj, ?_⟩⟩
    rw [HQ.out]
    exact HR2.out

end Go.Proofs.YtfogkbdbncfleaaGreatDoor
