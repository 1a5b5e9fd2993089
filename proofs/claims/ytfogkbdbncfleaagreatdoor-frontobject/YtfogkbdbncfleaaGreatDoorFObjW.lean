/-
  The document's Object, walked.
-/
import Derived.Test.YtfogkbdbncfleaaGreatDoorFObjR
namespace Go.Proofs.YtfogkbdbncfleaaGreatDoor
open Go.RowKit

theorem LSt.of {w W : World} {v : Value} {ps : List Pr} {n : Nat} {a : Option Addr} {c : Nat} (hl : ps.length = n) (hv : v = .slice a n c) (ho : W.ownsRow w.heap.size 37 2 (.slice a n c) n (prF ps)) (K : Kept (fun _ => False) w W) : LSt w W v ps := by
  subst hl
  exact ⟨a, c, hv, ho, K⟩

def lenOf : Value → Nat
  | .slice _ n _ => n
  | _ => 0

/-- Ahead of each round of Object. -/
def RObjJ (w1 : World) (g : Nat) (s : ByteArray) (goal : List Pr × Nat × Int) (v : Value) (W : World) : Prop :=
  (∃ (ps : List Pr) (n q : Nat) (a : Option Addr) (c : Nat), v = .slice a ps.length c ∧ ps.length + n = 17 ∧ 1 ≤ n ∧ q ≤ s.size ∧ RdrAt W g s (q : Int) (-1) 0 ∧ PSt w1 g W (.slice a ps.length c) ps.length (prF ps) ∧ topR s n ps q = goal) ∨
  (∃ p : Nat, v = .slice none 0 0 ∧ RefAt W g s (p : Int) 2 ∧ Kept (fun k => k = g) w1 W ∧ (([], p, 2) : List Pr × Nat × Int) = goal)

/-- Between the rounds over the names. -/
def RNamJ (W0 : World) (g : Nat) (s : ByteArray) (ps : List Pr) (nm : List UInt8) (i0 a1 : Nat) (v : Value) (W : World) : Prop :=
  ∃ j : Nat, j ≤ ps.length ∧ v = .int .i64 (j : Int) ∧ Kept (fun k => k = g) W0 W ∧ ((RdrAt W g s (a1 : Int) (-1) 0 ∧ fieldP (ps.drop j) nm = fieldP ps nm) ∨ (RdrAt W g s (a1 : Int) (i0 : Int) 16 ∧ (fieldP ps nm).isSome = true))

set_option maxRecDepth 100000 in
set_option maxHeartbeats 16000000 in
theorem robj_any (w : World) (s : ByteArray) (hs : s.size ≤ 1000000000000) :
    Calls Tryz.prog 9 #[.string s] w (ObjPost w (objP s)) := by
  obtain ⟨i0, hi0, hz0, hz1, hz2⟩ := info_parts Tryz.info37
  obtain ⟨w1, hw1⟩ : ∃ w1, w1 = w.alloc (.cells #[.string s, .int .i64 0, .int .i64 (-1), .int .i64 0] 61) := ⟨_, rfl⟩
  obtain ⟨g, hg⟩ : ∃ g, g = w.heap.size := ⟨_, rfl⟩
  obtain ⟨goal, hgoal⟩ : ∃ goal, goal = objP s := ⟨_, rfl⟩
  have hgw : g < w1.heap.size := by rw [hw1, hg, World.size_alloc]; omega
  have R0 : RdrAt w1 g s ((0 : Nat) : Int) (-1) 0 := by
    unfold RdrAt
    rw [hw1, hg]
    exact heap_alloc_new w _
  have HW1 : Hid (∀ W, Kept (fun k => k = g) w1 W → Kept (fun _ => False) w W) := fun W K => by
    have K0 : Kept (fun _ => False) w w1 := by rw [hw1]; exact Kept.alloc _ _ _
    exact K0.trans K (fun k h => .inr (by omega))
  have HLW : Hid (w.heap.size ≤ w1.heap.size) := by show w.heap.size ≤ w1.heap.size; omega
  have hE := eat_any w1 g s 0 (-1) 0 123 (by omega) (Nat.zero_le _) (by decide) R0
  have HJ0 : Hid (∀ W, (if standsP s (skipP s 0) 123 then RdrAt W g s ((skipP s 0 + 1 : Nat) : Int) (-1) 0 else RdrAt W g s ((skipP s 0 : Nat) : Int) ((skipP s 0 : Nat) : Int) 2) → Kept (fun k => k = g) w1 W → RObjJ w1 g s goal (.slice none 0 0) W) := fun W h K => by
    rw [hgoal, objP_top]
    have hle := skipP_le s (Nat.zero_le s.size)
    split at h
    · rename_i hst
      have := standsP_some s hst
      rw [if_pos hst]
      exact .inl ⟨[], 17, _, none, 0, rfl, rfl, by omega, by omega, h, ⟨World.ownsRow_nil _ _ _ _, K⟩, rfl⟩
    · rename_i hst
      rw [if_neg hst]
      exact .inr ⟨_, rfl, ⟨_, hle, h⟩, K, rfl⟩
  rw [← hgoal]
  clear R0 hgoal
  have HWE := hid hw1
  go_enter Tryz.func9, Tryz.ntmps9
  go_wp2_with (first
    | (go_at_call 30; rw [← hg, ← hw1]; refine hE.mono ?_; rintro e w2 ⟨rfl, h2, K2⟩; clear hE; have HJ := hid (HJ0.out w2 h2 K2); clear h2 K2 HJ0)
    | fail)
  clear hw1 HWE
  rw [← hg]
  clear hg
  go_loopw [6, 7, 8, 9, 10] (fun v _ _ _ _ wr => RObjJ w1 g s goal v wr) (fun v _ _ _ _ _ => 17 - lenOf v)
  case atStart => exact HJ.out
  case round =>
    clear HJ
    rcases hrel with ⟨ps, n, q, av, cv, rfl, hn, hn1, hq, R, S, hT⟩ | ⟨p, rfl, R, K, hT⟩
    · obtain ⟨m, rfl⟩ : ∃ m, n = m + 1 := ⟨n - 1, by omega⟩
      obtain ⟨j0, hj0⟩ : ∃ j0, j0 = skipP s q := ⟨_, rfl⟩
      have hj0le : j0 ≤ s.size := by rw [hj0]; exact skipP_le s hq
      have hidem : skipP s j0 = j0 := by rw [hj0]; exact skipP_idem s q
      have HT := hid hT
      have HR := hid R
      have HPS := hid S
      have HTX : Hid (∀ V, RdrAt V g s (j0 : Int) (-1) 0 → Calls Tryz.prog 33 #[.pointer (some ⟨g, 0, none⟩)] V (TxtPost V g s (-1) 0 (textP s j0))) := fun V R => by
        have h := rtext_any V g s j0 (-1) 0 hs hj0le (by decide) R
        rwa [hidem] at h
      obtain ⟨c0, c1, c2, c3⟩ := R.cells
      have f1 := R.free 1
      clear R S hT
      by_cases hps : ps = []
      · have HSK := hid (fun V (R : RdrAt V g s (j0 : Int) (-1) 0) => skipTo V g s j0 hs (by omega) R j0 (by exact hidem.symm))
        have hl0 : ps.length = 0 := by rw [hps]; rfl
        rw [hl0] at HPS ⊢
        have HLP : Hid (ps.length = 0) := hl0
        have HLEN : Hid (ps.length = 0) := hl0
        clear hl0
        unfold topR at HT
        rw [if_pos hps, ← hj0] at HT
        have HJ0 := hid hj0
        cases hst125 : standsP s j0 125 with
        | true =>
          have HGC : Hid (goal = closeP s ps j0) := by
            show goal = _
            rw [← HT.out, if_pos hst125, hps]
          have hkidem := hidem
          clear hps HSK HTX HT hidem hj0
          obtain ⟨k2, hk2⟩ : ∃ k2, k2 = skipP s (j0 + 1) := ⟨_, rfl⟩
          have hkl := standsP_some s hst125
          have hk2le : k2 ≤ s.size := by rw [hk2]; exact skipP_le s (by omega)
          have HK2 := hid hk2
          have HKI := hid hkidem
          clear hk2 hkidem
          by_cases hend : k2 = s.size
          · have HGL : Hid (goal = (ps, 0, 0)) := by
              show goal = _
              rw [HGC.out]
              unfold closeP
              rw [← HK2.out, if_pos hend]
            have e9 : ¬ (k2 : Int) < (s.size : Int) := by omega
            clear hend
            go_wp2_with (first
              | (go_at_call 31; refine (isIt _ g s q 125 hs hq HR.out j0 HJ0.out true hst125).mono ?_; rintro e w9 ⟨rfl, R9, K9⟩; replace HR := hid R9; replace HPS := hid (HPS.out.next hgw K9); clear c0 c1 c2 c3 f1; obtain ⟨c0, c1, c2, c3⟩ := R9.cells; have f1 := R9.free 1; clear R9 K9)
              | (go_at_call 30; refine (eatYes _ g s j0 125 hs (by omega) HR.out j0 HKI.out.symm hst125).mono ?_; rintro e w9 ⟨rfl, R9, K9⟩; replace HR := hid R9; replace HPS := hid (HPS.out.next hgw K9); clear c0 c1 c2 c3 f1; obtain ⟨c0, c1, c2, c3⟩ := R9.cells; have f1 := R9.free 1; clear R9 K9)
              | (go_at_call 32; refine (skipTo _ g s (j0 + 1) hs (by omega) HR.out k2 HK2.out).mono ?_; rintro e w9 ⟨rfl, R9, K9⟩; replace HR := hid R9; replace HPS := hid (HPS.out.next hgw K9); clear c0 c1 c2 c3 f1; obtain ⟨c0, c1, c2, c3⟩ := R9.cells; have f1 := R9.free 1; clear R9 K9)
              | fail)
            go_ret3
            refine ⟨_, by rw [HGL.out]; rfl, ?_⟩
            rw [HGL.out]
            exact LSt.of (ps := ps) HLEN.out rfl (ownsRow_lower HPS.out.own HLW.out) (HW1.out _ HPS.out.kept)
          · have HGL : Hid (goal = ([], k2, 2)) := by
              show goal = _
              rw [HGC.out]
              unfold closeP
              rw [← HK2.out, if_neg hend]
            have e9 : (k2 : Int) < (s.size : Int) := by omega
            clear hend
            obtain ⟨pp, hpp0⟩ : ∃ pp : Int, pp = ((k2 : Nat) : Int) := ⟨_, rfl⟩
            have HFIN : Hid (∀ W e, Kept (fun k => k = g) w1 W → e = .returned (.tuple #[.slice none 0 0, .int .i64 pp, .int .i64 2]) → ObjPost w goal e W) := fun W e K he => ⟨.slice none 0 0, by rw [he, HGL.out, hpp0], by rw [HGL.out]; exact LSt.nil _ _ (HW1.out W K)⟩
            have hpp : 0 ≤ pp := by omega
            have r0 : ¬ pp < 0 := by omega
            have r1 : pp ≥ 0 := by omega
            have r2 : decide (pp < 0) = false := by rw [decide_eq_false_iff_not]; omega
            have no2 := fun V (R : RdrAt V g s (k2 : Int) (-1) 0) => noRef V g s k2 pp 2 hk2le R
            rw [hpp0] at no2 HFIN
            clear hpp0
            go_wp2_with (first
              | (go_at_call 31; refine (isIt _ g s q 125 hs hq HR.out j0 HJ0.out true hst125).mono ?_; rintro e w9 ⟨rfl, R9, K9⟩; replace HR := hid R9; replace HPS := hid (HPS.out.next hgw K9); clear c0 c1 c2 c3 f1; obtain ⟨c0, c1, c2, c3⟩ := R9.cells; have f1 := R9.free 1; clear R9 K9)
              | (go_at_call 30; refine (eatYes _ g s j0 125 hs (by omega) HR.out j0 HKI.out.symm hst125).mono ?_; rintro e w9 ⟨rfl, R9, K9⟩; replace HR := hid R9; replace HPS := hid (HPS.out.next hgw K9); clear c0 c1 c2 c3 f1; obtain ⟨c0, c1, c2, c3⟩ := R9.cells; have f1 := R9.free 1; clear R9 K9)
              | (go_at_call 32; refine (skipTo _ g s (j0 + 1) hs (by omega) HR.out k2 HK2.out).mono ?_; rintro e w9 ⟨rfl, R9, K9⟩; replace HR := hid R9; replace HPS := hid (HPS.out.next hgw K9); clear c0 c1 c2 c3 f1; obtain ⟨c0, c1, c2, c3⟩ := R9.cells; have f1 := R9.free 1; clear R9 K9)
              | (go_at_call 34; refine (no2 _ HR.out).mono ?_; rintro e w9 ⟨rfl, _, R9, K9⟩; have HRF := hid R9; replace HPS := hid (HPS.out.next hgw K9); clear R9 K9; clear HR; obtain ⟨x2, x3⟩ := HRF.out.cells)
              | fail)
            go_quiet (fail)
            go_wp2
            go_ret3
            exact HFIN.out _ _ (HPS.out.kept.and (Kept.drewN _ _ _)) rfl
        | false =>
          rw [if_neg (by rw [hst125]; decide), ← hps] at HT
          rw [objF_next] at HT
          have htn := textP_next s hj0le
          clear hps hidem hj0
          generalize textP s j0 = r at *
          obtain ⟨nm, a1, tb⟩ := r
          simp only at HT htn
          have ha1 : a1 ≤ s.size := htn.2.1
          clear htn
          cases tb with
          | false =>
            have HGL : Hid (goal = ([], a1, 2)) := by
              show goal = _
              rw [← HT.out]
              rfl
            obtain ⟨pp, hpp0⟩ : ∃ pp : Int, pp = ((a1 : Nat) : Int) := ⟨_, rfl⟩
            have HFIN : Hid (∀ W e, Kept (fun k => k = g) w1 W → e = .returned (.tuple #[.slice none 0 0, .int .i64 pp, .int .i64 2]) → ObjPost w goal e W) := fun W e K he => ⟨.slice none 0 0, by rw [he, HGL.out, hpp0], by rw [HGL.out]; exact LSt.nil _ _ (HW1.out W K)⟩
            have hpp : 0 ≤ pp := by omega
            have r0 : ¬ pp < 0 := by omega
            have r1 : pp ≥ 0 := by omega
            have r2 : decide (pp < 0) = false := by rw [decide_eq_false_iff_not]; omega
            obtain ⟨knm, hknm⟩ : ∃ knm, knm = mkB [] := ⟨_, rfl⟩
            have HTX0 : Hid (∀ V, RdrAt V g s (j0 : Int) (-1) 0 → Calls Tryz.prog 33 #[.pointer (some ⟨g, 0, none⟩)] V fun e w' => e = .returned (.string knm) ∧ RefAt w' g s pp 2 ∧ Kept (fun k => k = g) V w') := fun V R => (HTX.out V R).mono fun e w' h => by
              rcases h.2 with ⟨h1, _⟩ | ⟨_, h1, h2⟩
              · cases h1
              · rw [hknm, hpp0]
                exact ⟨h1, h2, h.1⟩
            clear HTX HT hknm hpp0
            go_wp2_with (first
              | (go_at_call 31; refine (isIt _ g s q 125 hs hq HR.out j0 HJ0.out false hst125).mono ?_; rintro e w9 ⟨rfl, R9, K9⟩; replace HR := hid R9; replace HPS := hid (HPS.out.next hgw K9); clear c0 c1 c2 c3 f1; obtain ⟨c0, c1, c2, c3⟩ := R9.cells; have f1 := R9.free 1; clear R9 K9)
              | (go_at_call 32; refine (HSK.out _ HR.out).mono ?_; rintro e w9 ⟨rfl, R9, K9⟩; replace HR := hid R9; replace HPS := hid (HPS.out.next hgw K9); clear c0 c1 c2 c3 f1; obtain ⟨c0, c1, c2, c3⟩ := R9.cells; have f1 := R9.free 1; clear R9 K9)
              | (go_at_call 33; refine (HTX0.out _ HR.out).mono ?_; rintro e w9 ⟨rfl, R9, K9⟩; have HRF := hid R9; replace HPS := hid (HPS.out.next hgw K9); clear R9 K9; obtain ⟨x2, x3⟩ := HRF.out.cells)
              | fail)
            obtain ⟨WI, hWI⟩ : ∃ WI, WI = w9 := ⟨_, rfl⟩
            go_loopw [9] (fun v wr => v = .int .i64 0 ∧ wr = w9) (fun _ _ => 0)
            case atStart => exact ⟨rfl, rfl⟩
            case round =>
              obtain ⟨rfl, hwr⟩ := hrel
              subst hwr
              clear hWI
              go_wp2_with (first
                | (go_at_call 30; refine (eatRef _ g s pp 2 _ hs hpp HRF.out).mono ?_; rintro e w9 ⟨rfl, R9, K9⟩; replace HRF := hid R9; replace HPS := hid (HPS.out.next hgw K9); clear R9 K9)
                | (go_at_call 35; refine (valRef _ g s pp 2 hs hpp HRF.out).mono ?_; rintro e w9 ⟨⟨z9, rfl⟩, R9, K9⟩; replace HRF := hid R9; replace HPS := hid (HPS.out.next hgw K9); clear R9 K9)
                | (go_at_call 31; refine (isRef _ g s pp 2 _ hs hpp HRF.out).mono ?_; rintro e w9 ⟨rfl, R9, K9⟩; replace HRF := hid R9; replace HPS := hid (HPS.out.next hgw K9); clear R9 K9)
                | (at_builtin; have hrow := HPS.out; refine wpList_append_src _ rfl _ _ 24 rfl w1.heap.size 37 i0 _ 2 32 Tryz.underlying24 hi0 hz0 hz1 hz2 rfl (by decide) (.slice av 0 cv) 0 _ rfl (hrow.own.alloc _) _ rfl 1 [.string knm, .string z9] (.inl ⟨_, 1, rfl, rfl, World.news_of_block (heap_alloc_new _ _)⟩) (by intro u hu; simp at hu; rcases hu with rfl | rfl <;> rfl) (by unfold maxLen; omega) (by omega) (by rw [World.size_alloc]; exact Nat.le_trans hrow.kept.size (by omega)) ?_; intro a3 c3 w3 ho3 hg3 _ _; have KG := (Kept.alloc (fun k => w1.heap.size ≤ k) _ _).and (Kept.grown hg3 (fun k e => (hrow.own.lt k e).1)); replace HRF := hid (HRF.out.kept KG (by omega)); replace HPS := hid (hrow.push ho3 hg3); clear ho3 hg3 hrow KG)
                | (go_at_call 32; refine (skipRef _ g s pp 2 hs HRF.out).mono ?_; rintro e w9 ⟨rfl, R9, K9⟩; replace HRF := hid R9; replace HPS := hid (HPS.out.next hgw K9); clear R9 K9; obtain ⟨x2, x3⟩ := HRF.out.cells)
                | fail)
              go_quiet (fail)
              go_wp2
              go_ret3
              exact HFIN.out _ _ (HPS.out.kept.and (Kept.drewN _ _ _)) rfl
          | true =>
            have HTX1 : Hid (∀ V, RdrAt V g s (j0 : Int) (-1) 0 → Calls Tryz.prog 33 #[.pointer (some ⟨g, 0, none⟩)] V fun e w' => e = .returned (.string (mkB nm)) ∧ RdrAt w' g s (a1 : Int) (-1) 0 ∧ Kept (fun k => k = g) V w') := fun V R => (HTX.out V R).mono fun e w' h => by
              rcases h.2 with ⟨_, h1, h2⟩ | ⟨h1, _⟩
              · exact ⟨h1, h2, h.1⟩
              · cases h1
            clear HTX
            have HTN : Hid (namR s m ps nm j0 a1 = goal) := HT.out
            clear HT
            go_wp2_with (first
              | (go_at_call 31; refine (isIt _ g s q 125 hs hq HR.out j0 HJ0.out false hst125).mono ?_; rintro e w9 ⟨rfl, R9, K9⟩; replace HR := hid R9; replace HPS := hid (HPS.out.next hgw K9); clear c0 c1 c2 c3 f1; obtain ⟨c0, c1, c2, c3⟩ := R9.cells; have f1 := R9.free 1; clear R9 K9)
              | (go_at_call 32; refine (HSK.out _ HR.out).mono ?_; rintro e w9 ⟨rfl, R9, K9⟩; replace HR := hid R9; replace HPS := hid (HPS.out.next hgw K9); clear c0 c1 c2 c3 f1; obtain ⟨c0, c1, c2, c3⟩ := R9.cells; have f1 := R9.free 1; clear R9 K9)
              | (go_at_call 33; refine (HTX1.out _ HR.out).mono ?_; rintro e w9 ⟨rfl, R9, K9⟩; replace HR := hid R9; replace HPS := hid (HPS.out.next hgw K9); clear c0 c1 c2 c3 f1; obtain ⟨c0, c1, c2, c3⟩ := R9.cells; have f1 := R9.free 1; clear R9 K9)
              | fail)
            clear c0 c1 c2 c3 f1 HSK HTX1
            go_loopw [9] (fun v wr => RNamJ w9 g s ps nm j0 a1 v wr) (fun v _ => ps.length - (intOf v).toNat)
            case atStart => exact ⟨0, Nat.zero_le _, rfl, Kept.refl _ _, .inl ⟨HR.out, rfl⟩⟩
            case round =>
              obtain ⟨j, hj, rfl, KJ, hJ⟩ := hrel
              have KJ0 := KJ
              replace HPS := hid (HPS.out.next hgw KJ)
              clear HR KJ
              have HKJ := hid KJ0
              rcases hJ with ⟨RJ, hfJ⟩ | ⟨RJ, hfJ⟩
              · have HR := hid RJ
                obtain ⟨c0, c1, c2, c3⟩ := RJ.cells
                have f1 := RJ.free 1
                have HFJ := hid hfJ
                clear RJ hfJ
                by_cases hlt : j < ps.length
                · exact absurd hlt (by have := HLP.out; omega)
                · have e0 : ¬ (j : Int) < (0 : Int) := by have := HLP.out; omega
                  have hnone : fieldP ps nm = none := by
                    rw [← HFJ.out, List.drop_of_length_le (by omega)]
                    rfl
                  unfold namR at HTN
                  rw [hnone] at HTN
                  simp only [Option.isSome_none, Bool.false_eq_true, if_false] at HTN
                  clear hnone HFJ HKJ
                  have l16 : True := trivial
                  by_cases h16 : ps.length = 16
                  · exact absurd h16 (by have := HLP.out; omega)
                  · have q16 : ((0 : Int) == 16) = false := by rw [beq_eq_false_iff_ne]; have := HLP.out; omega
                    rw [if_neg h16] at HTN
                    obtain ⟨a2, ha2⟩ : ∃ a2, a2 = skipP s a1 := ⟨_, rfl⟩
                    have HA2 := hid ha2
                    rw [← ha2] at HTN
                    have ha2le : a2 ≤ s.size := by rw [ha2]; exact skipP_le s ha1
                    clear ha2 l16
                    cases hst58 : standsP s a2 58 with
                    | false =>
                      have HGL : Hid (goal = ([], a2, 2)) := by
                        show goal = _
                        rw [← HTN.out, hst58]
                        rfl
                      obtain ⟨pp, hpp0⟩ : ∃ pp : Int, pp = ((a2 : Nat) : Int) := ⟨_, rfl⟩
                      have HFIN : Hid (∀ W e, Kept (fun k => k = g) w1 W → e = .returned (.tuple #[.slice none 0 0, .int .i64 pp, .int .i64 2]) → ObjPost w goal e W) := fun W e K he => ⟨.slice none 0 0, by rw [he, HGL.out, hpp0], by rw [HGL.out]; exact LSt.nil _ _ (HW1.out W K)⟩
                      have hpp : 0 ≤ pp := by omega
                      have r0 : ¬ pp < 0 := by omega
                      have r1 : pp ≥ 0 := by omega
                      have r2 : decide (pp < 0) = false := by rw [decide_eq_false_iff_not]; omega
                      obtain ⟨knm, hknm⟩ : ∃ knm, knm = mkB nm := ⟨_, rfl⟩
                      have e58 := fun V (R : RdrAt V g s (a1 : Int) (-1) 0) => eatNo V g s a1 58 hs ha1 R a2 HA2.out hst58
                      have HPP := hid hpp0
                      rw [← hknm]
                      clear hpp0 hknm HTN hst58
                      go_wp2_with (first
                        | (go_at_call 30; refine (e58 _ HR.out).mono ?_; rintro e w9 ⟨rfl, R9, K9⟩; rw [← HPP.out] at R9; clear e58; have HRF := hid R9; replace HPS := hid (HPS.out.next hgw K9); clear R9 K9; clear HR; obtain ⟨x2, x3⟩ := HRF.out.cells)
                        | (go_at_call 30; refine (eatRef _ g s pp 2 _ hs hpp HRF.out).mono ?_; rintro e w9 ⟨rfl, R9, K9⟩; replace HRF := hid R9; replace HPS := hid (HPS.out.next hgw K9); clear R9 K9)
                        | (go_at_call 35; refine (valRef _ g s pp 2 hs hpp HRF.out).mono ?_; rintro e w9 ⟨⟨z9, rfl⟩, R9, K9⟩; replace HRF := hid R9; replace HPS := hid (HPS.out.next hgw K9); clear R9 K9)
                        | (go_at_call 31; refine (isRef _ g s pp 2 _ hs hpp HRF.out).mono ?_; rintro e w9 ⟨rfl, R9, K9⟩; replace HRF := hid R9; replace HPS := hid (HPS.out.next hgw K9); clear R9 K9)
                        | (at_builtin; have hrow := HPS.out; refine wpList_append_src _ rfl _ _ 24 rfl w1.heap.size 37 i0 _ 2 32 Tryz.underlying24 hi0 hz0 hz1 hz2 rfl (by decide) (.slice av 0 cv) 0 _ rfl (hrow.own.alloc _) _ rfl 1 [.string knm, .string z9] (.inl ⟨_, 1, rfl, rfl, World.news_of_block (heap_alloc_new _ _)⟩) (by intro u hu; simp at hu; rcases hu with rfl | rfl <;> rfl) (by unfold maxLen; omega) (by omega) (by rw [World.size_alloc]; exact Nat.le_trans hrow.kept.size (by omega)) ?_; intro a3 c3 w3 ho3 hg3 _ _; have KG := (Kept.alloc (fun k => w1.heap.size ≤ k) _ _).and (Kept.grown hg3 (fun k e => (hrow.own.lt k e).1)); replace HRF := hid (HRF.out.kept KG (by omega)); replace HPS := hid (hrow.push ho3 hg3); clear ho3 hg3 hrow KG)
                        | (go_at_call 32; refine (skipRef _ g s pp 2 hs HRF.out).mono ?_; rintro e w9 ⟨rfl, R9, K9⟩; replace HRF := hid R9; replace HPS := hid (HPS.out.next hgw K9); clear R9 K9; obtain ⟨x2, x3⟩ := HRF.out.cells)
                        | fail)
                      go_quiet (fail)
                      go_wp2
                      go_ret3
                      exact HFIN.out _ _ (HPS.out.kept.and (Kept.drewN _ _ _)) rfl
                    | true =>
                      have ha2lt := standsP_some s hst58
                      rw [hst58, colR_eq] at HTN
                      simp only [Bool.not_true, Bool.false_eq_true, if_false] at HTN
                      have e58 := fun V (R : RdrAt V g s (a1 : Int) (-1) 0) => eatYes V g s a1 58 hs ha1 R a2 HA2.out hst58
                      have HVA := hid (fun V (R : RdrAt V g s ((a2 + 1 : Nat) : Int) (-1) 0) => rval_any V g s (a2 + 1) (-1) 0 hs (by omega) (by decide) R)
                      have hvn := valR_next s (skipP_le s (show a2 + 1 ≤ s.size by omega))
                      clear hst58
                      generalize valR s (skipP s (a2 + 1)) = r at *
                      obtain ⟨vl, v1, vb⟩ := r
                      simp only at HTN hvn
                      have hv1 : v1 ≤ s.size := hvn
                      clear hvn
                      cases vb with
                      | false =>
                        have HGL : Hid (goal = ([], v1, 2)) := by
                          show goal = _
                          rw [← HTN.out]
                          rfl
                        obtain ⟨pp, hpp0⟩ : ∃ pp : Int, pp = ((v1 : Nat) : Int) := ⟨_, rfl⟩
                        have HFIN : Hid (∀ W e, Kept (fun k => k = g) w1 W → e = .returned (.tuple #[.slice none 0 0, .int .i64 pp, .int .i64 2]) → ObjPost w goal e W) := fun W e K he => ⟨.slice none 0 0, by rw [he, HGL.out, hpp0], by rw [HGL.out]; exact LSt.nil _ _ (HW1.out W K)⟩
                        have hpp : 0 ≤ pp := by omega
                        have r0 : ¬ pp < 0 := by omega
                        have r1 : pp ≥ 0 := by omega
                        have r2 : decide (pp < 0) = false := by rw [decide_eq_false_iff_not]; omega
                        obtain ⟨knm, hknm⟩ : ∃ knm, knm = mkB nm := ⟨_, rfl⟩
                        have HV0 : Hid (∀ V, RdrAt V g s ((a2 + 1 : Nat) : Int) (-1) 0 → Calls Tryz.prog 35 #[.pointer (some ⟨g, 0, none⟩)] V fun e w' => (∃ z, e = .returned (.string z)) ∧ RefAt w' g s pp 2 ∧ Kept (fun k => k = g) V w') := fun V R => (HVA.out V R).mono fun e w' h => by
                          rcases h.2 with ⟨h1, _⟩ | ⟨_, h1, h2⟩
                          · cases h1
                          · rw [hpp0]
                            exact ⟨h1, h2, h.1⟩
                        rw [← hknm]
                        clear hpp0 hknm HTN HVA
                        go_wp2_with (first
                          | (go_at_call 30; refine (e58 _ HR.out).mono ?_; rintro e w9 ⟨rfl, R9, K9⟩; clear e58; replace HR := hid R9; replace HPS := hid (HPS.out.next hgw K9); clear c0 c1 c2 c3 f1; obtain ⟨c0, c1, c2, c3⟩ := R9.cells; have f1 := R9.free 1; clear R9 K9)
                          | (go_at_call 35; refine (HV0.out _ HR.out).mono ?_; rintro e w9 ⟨⟨z9, rfl⟩, R9, K9⟩; clear HV0; have HRF := hid R9; replace HPS := hid (HPS.out.next hgw K9); clear R9 K9; clear HR; obtain ⟨x2, x3⟩ := HRF.out.cells)
                          | (go_at_call 30; refine (eatRef _ g s pp 2 _ hs hpp HRF.out).mono ?_; rintro e w9 ⟨rfl, R9, K9⟩; replace HRF := hid R9; replace HPS := hid (HPS.out.next hgw K9); clear R9 K9)
                          | (go_at_call 35; refine (valRef _ g s pp 2 hs hpp HRF.out).mono ?_; rintro e w9 ⟨⟨z9, rfl⟩, R9, K9⟩; replace HRF := hid R9; replace HPS := hid (HPS.out.next hgw K9); clear R9 K9)
                          | (go_at_call 31; refine (isRef _ g s pp 2 _ hs hpp HRF.out).mono ?_; rintro e w9 ⟨rfl, R9, K9⟩; replace HRF := hid R9; replace HPS := hid (HPS.out.next hgw K9); clear R9 K9)
                          | (at_builtin; have hrow := HPS.out; refine wpList_append_src _ rfl _ _ 24 rfl w1.heap.size 37 i0 _ 2 32 Tryz.underlying24 hi0 hz0 hz1 hz2 rfl (by decide) (.slice av 0 cv) 0 _ rfl (hrow.own.alloc _) _ rfl 1 [.string knm, .string z9] (.inl ⟨_, 1, rfl, rfl, World.news_of_block (heap_alloc_new _ _)⟩) (by intro u hu; simp at hu; rcases hu with rfl | rfl <;> rfl) (by unfold maxLen; omega) (by omega) (by rw [World.size_alloc]; exact Nat.le_trans hrow.kept.size (by omega)) ?_; intro a3 c3 w3 ho3 hg3 _ _; have KG := (Kept.alloc (fun k => w1.heap.size ≤ k) _ _).and (Kept.grown hg3 (fun k e => (hrow.own.lt k e).1)); replace HRF := hid (HRF.out.kept KG (by omega)); replace HPS := hid (hrow.push ho3 hg3); clear ho3 hg3 hrow KG)
                          | (go_at_call 32; refine (skipRef _ g s pp 2 hs HRF.out).mono ?_; rintro e w9 ⟨rfl, R9, K9⟩; replace HRF := hid R9; replace HPS := hid (HPS.out.next hgw K9); clear R9 K9; obtain ⟨x2, x3⟩ := HRF.out.cells)
                          | fail)
                        go_quiet (fail)
                        go_wp2
                        go_ret3
                        exact HFIN.out _ _ (HPS.out.kept.and (Kept.drewN _ _ _)) rfl
                      | true =>
                        have HV1 : Hid (∀ V, RdrAt V g s ((a2 + 1 : Nat) : Int) (-1) 0 → Calls Tryz.prog 35 #[.pointer (some ⟨g, 0, none⟩)] V fun e w' => e = .returned (.string (mkB vl)) ∧ RdrAt w' g s (v1 : Int) (-1) 0 ∧ Kept (fun k => k = g) V w') := fun V R => (HVA.out V R).mono fun e w' h => by
                          rcases h.2 with ⟨_, h1, h2⟩ | ⟨h1, _⟩
                          · exact ⟨h1, h2, h.1⟩
                          · cases h1
                        clear HVA
                        simp only [Bool.not_true, Bool.false_eq_true, if_false] at HTN
                        obtain ⟨a4, ha4⟩ : ∃ a4, a4 = skipP s v1 := ⟨_, rfl⟩
                        have HA4 := hid ha4
                        rw [← ha4] at HTN
                        have ha4le : a4 ≤ s.size := by rw [ha4]; exact skipP_le s hv1
                        have hkidem : skipP s a4 = a4 := by rw [ha4]; exact skipP_idem s v1
                        clear ha4
                        obtain ⟨kn, hkn⟩ : ∃ kn, kn = mkB nm := ⟨_, rfl⟩
                        obtain ⟨vn, hvn⟩ : ∃ vn, vn = mkB vl := ⟨_, rfl⟩
                        have HPN : Hid (∀ W v, PSt w1 g W v (0 + 1) (prF ps ++ [.string kn, .string vn]) → PSt w1 g W v (0 + 1) (prF (ps ++ [(nm, vl)]))) := fun W v S => by
                          rw [prF_snoc]
                          rw [hkn, hvn] at S
                          exact S
                        rw [← hkn]
                        rw [← hvn] at HV1
                        clear hkn hvn
                        cases hst44 : standsP s a4 44 with
                        | true =>
                          have hl4 := standsP_some s hst44
                          rw [if_pos hst44] at HTN
                          have HRN : Hid (∀ W v c, RdrAt W g s (a4 : Int) (-1) 0 → PSt w1 g W (.slice v (0 + 1) c) (0 + 1) (prF ps ++ [.string kn, .string vn]) → RObjJ w1 g s goal (.slice v (0 + 1) c) (W.setCell ⟨g, 1, none⟩ (.int .i64 ((a4 : Int) + 1)))) := fun W v c R S => by
                            have hl : (ps ++ [(nm, vl)]).length = 0 + 1 := by rw [List.length_append]; first | rfl | (rw [HLP.out]; rfl)
                            have hlp := HLP.out
                            have S2 := (HPN.out W _ S).next hgw (Kept.setCell (S := fun k => k = g) W ⟨g, 1, none⟩ (.int .i64 ((a4 : Int) + 1)) rfl)
                            refine .inl ⟨ps ++ [(nm, vl)], m, a4 + 1, v, c, by rw [hl], by omega, by omega, by omega, by have := R.set1 ((a4 : Int) + 1); rw [Int.natCast_add]; exact this, by rw [hl]; exact S2, ?_⟩
                            unfold topR
                            rw [if_neg (by simp)]
                            exact HTN.out
                          go_wp2_with (first
                            | (go_at_call 30; refine (e58 _ HR.out).mono ?_; rintro e w9 ⟨rfl, R9, K9⟩; clear e58; replace HR := hid R9; replace HPS := hid (HPS.out.next hgw K9); clear c0 c1 c2 c3 f1; obtain ⟨c0, c1, c2, c3⟩ := R9.cells; have f1 := R9.free 1; clear R9 K9)
                            | (go_at_call 35; refine (HV1.out _ HR.out).mono ?_; rintro e w9 ⟨rfl, R9, K9⟩; clear HV1; replace HR := hid R9; replace HPS := hid (HPS.out.next hgw K9); clear c0 c1 c2 c3 f1; obtain ⟨c0, c1, c2, c3⟩ := R9.cells; have f1 := R9.free 1; clear R9 K9)
                            | (at_builtin; have hrow := HPS.out; refine wpList_append_src _ rfl _ _ 24 rfl w1.heap.size 37 i0 _ 2 32 Tryz.underlying24 hi0 hz0 hz1 hz2 rfl (by decide) (.slice av 0 cv) 0 _ rfl (hrow.own.alloc _) _ rfl 1 [.string kn, .string vn] (.inl ⟨_, 1, rfl, rfl, World.news_of_block (heap_alloc_new _ _)⟩) (by intro u hu; simp at hu; rcases hu with rfl | rfl <;> rfl) (by unfold maxLen; omega) (by omega) (by rw [World.size_alloc]; exact Nat.le_trans hrow.kept.size (by omega)) ?_; intro a3 cp3 w3 ho3 hg3 _ _; have KG := (Kept.alloc (fun k => w1.heap.size ≤ k) _ _).and (Kept.grown hg3 (fun k e => (hrow.own.lt k e).1)); replace HR := hid (HR.out.kept KG (by omega)); replace HPS := hid (hrow.push ho3 hg3); clear KG; clear ho3 hg3 hrow)
                            | (go_at_call 31; refine (isIt _ g s v1 44 hs hv1 HR.out a4 HA4.out true hst44).mono ?_; rintro e w9 ⟨rfl, R9, K9⟩; replace HR := hid R9; replace HPS := hid (HPS.out.next hgw K9); clear c0 c1 c2 c3 f1; obtain ⟨c0, c1, c2, c3⟩ := R9.cells; have f1 := R9.free 1; clear R9 K9)
                            | fail)
                          go_roundw
                          case rel => exact HRN.out _ _ _ HR.out HPS.out
                          case measure => first | (simp [lenOf]; omega) | (simp [lenOf]; done) | (show 17 - _ < 17 - _; omega)
                        | false =>
                          rw [if_neg (by rw [hst44]; decide)] at HTN
                          cases hst125 : standsP s a4 125 with
                          | false =>
                            have HGL : Hid (goal = ([], a4, 2)) := by
                              show goal = _
                              rw [← HTN.out, hst125]
                              rfl
                            obtain ⟨pp, hpp0⟩ : ∃ pp : Int, pp = ((a4 : Nat) : Int) := ⟨_, rfl⟩
                            have HFIN : Hid (∀ W e, Kept (fun k => k = g) w1 W → e = .returned (.tuple #[.slice none 0 0, .int .i64 pp, .int .i64 2]) → ObjPost w goal e W) := fun W e K he => ⟨.slice none 0 0, by rw [he, HGL.out, hpp0], by rw [HGL.out]; exact LSt.nil _ _ (HW1.out W K)⟩
                            have hpp : 0 ≤ pp := by omega
                            have r0 : ¬ pp < 0 := by omega
                            have r1 : pp ≥ 0 := by omega
                            have r2 : decide (pp < 0) = false := by rw [decide_eq_false_iff_not]; omega
                            have e125 := fun V (R : RdrAt V g s (a4 : Int) (-1) 0) => eatNo V g s a4 125 hs ha4le R a4 hkidem.symm hst125
                            have HPP := hid hpp0
                            clear hpp0 HTN hst125 hkidem
                            go_wp2_with (first
                              | (go_at_call 30; refine (e58 _ HR.out).mono ?_; rintro e w9 ⟨rfl, R9, K9⟩; clear e58; replace HR := hid R9; replace HPS := hid (HPS.out.next hgw K9); clear c0 c1 c2 c3 f1; obtain ⟨c0, c1, c2, c3⟩ := R9.cells; have f1 := R9.free 1; clear R9 K9)
                              | (go_at_call 35; refine (HV1.out _ HR.out).mono ?_; rintro e w9 ⟨rfl, R9, K9⟩; clear HV1; replace HR := hid R9; replace HPS := hid (HPS.out.next hgw K9); clear c0 c1 c2 c3 f1; obtain ⟨c0, c1, c2, c3⟩ := R9.cells; have f1 := R9.free 1; clear R9 K9)
                              | (at_builtin; have hrow := HPS.out; refine wpList_append_src _ rfl _ _ 24 rfl w1.heap.size 37 i0 _ 2 32 Tryz.underlying24 hi0 hz0 hz1 hz2 rfl (by decide) (.slice av 0 cv) 0 _ rfl (hrow.own.alloc _) _ rfl 1 [.string kn, .string vn] (.inl ⟨_, 1, rfl, rfl, World.news_of_block (heap_alloc_new _ _)⟩) (by intro u hu; simp at hu; rcases hu with rfl | rfl <;> rfl) (by unfold maxLen; omega) (by omega) (by rw [World.size_alloc]; exact Nat.le_trans hrow.kept.size (by omega)) ?_; intro a3 cp3 w3 ho3 hg3 _ _; have KG := (Kept.alloc (fun k => w1.heap.size ≤ k) _ _).and (Kept.grown hg3 (fun k e => (hrow.own.lt k e).1)); replace HR := hid (HR.out.kept KG (by omega)); replace HPS := hid (hrow.push ho3 hg3); clear KG; clear ho3 hg3 hrow)
                              | (go_at_call 31; refine (isIt _ g s v1 44 hs hv1 HR.out a4 HA4.out false hst44).mono ?_; rintro e w9 ⟨rfl, R9, K9⟩; replace HR := hid R9; replace HPS := hid (HPS.out.next hgw K9); clear c0 c1 c2 c3 f1; obtain ⟨c0, c1, c2, c3⟩ := R9.cells; have f1 := R9.free 1; clear R9 K9)
                              | (go_at_call 30; refine (e125 _ HR.out).mono ?_; rintro e w9 ⟨rfl, R9, K9⟩; rw [← HPP.out] at R9; clear e125; have HRF := hid R9; replace HPS := hid (HPS.out.next hgw K9); clear R9 K9; clear HR)
                              | (go_at_call 32; refine (skipRef _ g s pp 2 hs HRF.out).mono ?_; rintro e w9 ⟨rfl, R9, K9⟩; replace HRF := hid R9; replace HPS := hid (HPS.out.next hgw K9); clear R9 K9; obtain ⟨x2, x3⟩ := HRF.out.cells)
                              | fail)
                            go_quiet (fail)
                            go_wp2
                            go_ret3
                            exact HFIN.out _ _ (HPS.out.kept.and (Kept.drewN _ _ _)) rfl
                          | true =>
                            have HGC : Hid (goal = closeP s (ps ++ [(nm, vl)]) a4) := by
                              show goal = _
                              rw [← HTN.out, if_pos hst125]
                            clear HTN
                            have HLEN : Hid ((ps ++ [(nm, vl)]).length = 0 + 1) := by
                              show (ps ++ [(nm, vl)]).length = _
                              rw [List.length_append]
                              first | rfl | (rw [HLP.out]; rfl)
                            obtain ⟨k2, hk2⟩ : ∃ k2, k2 = skipP s (a4 + 1) := ⟨_, rfl⟩
                            have hkl := standsP_some s hst125
                            have hk2le : k2 ≤ s.size := by rw [hk2]; exact skipP_le s (by omega)
                            have HK2 := hid hk2
                            have HKI := hid hkidem
                            clear hk2 hkidem
                            by_cases hend : k2 = s.size
                            · have HGL : Hid (goal = ((ps ++ [(nm, vl)]), 0, 0)) := by
                                show goal = _
                                rw [HGC.out]
                                unfold closeP
                                rw [← HK2.out, if_pos hend]
                              have e9 : ¬ (k2 : Int) < (s.size : Int) := by omega
                              clear hend
                              go_wp2_with (first
                                | (go_at_call 30; refine (e58 _ HR.out).mono ?_; rintro e w9 ⟨rfl, R9, K9⟩; clear e58; replace HR := hid R9; replace HPS := hid (HPS.out.next hgw K9); clear c0 c1 c2 c3 f1; obtain ⟨c0, c1, c2, c3⟩ := R9.cells; have f1 := R9.free 1; clear R9 K9)
                                | (go_at_call 35; refine (HV1.out _ HR.out).mono ?_; rintro e w9 ⟨rfl, R9, K9⟩; clear HV1; replace HR := hid R9; replace HPS := hid (HPS.out.next hgw K9); clear c0 c1 c2 c3 f1; obtain ⟨c0, c1, c2, c3⟩ := R9.cells; have f1 := R9.free 1; clear R9 K9)
                                | (at_builtin; have hrow := HPS.out; refine wpList_append_src _ rfl _ _ 24 rfl w1.heap.size 37 i0 _ 2 32 Tryz.underlying24 hi0 hz0 hz1 hz2 rfl (by decide) (.slice av 0 cv) 0 _ rfl (hrow.own.alloc _) _ rfl 1 [.string kn, .string vn] (.inl ⟨_, 1, rfl, rfl, World.news_of_block (heap_alloc_new _ _)⟩) (by intro u hu; simp at hu; rcases hu with rfl | rfl <;> rfl) (by unfold maxLen; omega) (by omega) (by rw [World.size_alloc]; exact Nat.le_trans hrow.kept.size (by omega)) ?_; intro a3 cp3 w3 ho3 hg3 _ _; have KG := (Kept.alloc (fun k => w1.heap.size ≤ k) _ _).and (Kept.grown hg3 (fun k e => (hrow.own.lt k e).1)); replace HR := hid (HR.out.kept KG (by omega)); replace HPS := hid (hrow.push ho3 hg3); clear KG; clear ho3 hg3 hrow)
                                | (go_at_call 31; refine (isIt _ g s v1 44 hs hv1 HR.out a4 HA4.out false hst44).mono ?_; rintro e w9 ⟨rfl, R9, K9⟩; replace HR := hid R9; replace HPS := hid (HPS.out.next hgw K9); clear c0 c1 c2 c3 f1; obtain ⟨c0, c1, c2, c3⟩ := R9.cells; have f1 := R9.free 1; clear R9 K9)
                                | (go_at_call 30; refine (eatYes _ g s a4 125 hs (by omega) HR.out a4 HKI.out.symm hst125).mono ?_; rintro e w9 ⟨rfl, R9, K9⟩; replace HR := hid R9; replace HPS := hid (HPS.out.next hgw K9); clear c0 c1 c2 c3 f1; obtain ⟨c0, c1, c2, c3⟩ := R9.cells; have f1 := R9.free 1; clear R9 K9)
                                | (go_at_call 32; refine (skipTo _ g s (a4 + 1) hs (by omega) HR.out k2 HK2.out).mono ?_; rintro e w9 ⟨rfl, R9, K9⟩; replace HR := hid R9; replace HPS := hid (HPS.out.next hgw K9); clear c0 c1 c2 c3 f1; obtain ⟨c0, c1, c2, c3⟩ := R9.cells; have f1 := R9.free 1; clear R9 K9)
                                | fail)
                              go_ret3
                              refine ⟨_, by rw [HGL.out]; rfl, ?_⟩
                              rw [HGL.out]
                              exact LSt.of (ps := (ps ++ [(nm, vl)])) HLEN.out rfl (ownsRow_lower (HPN.out _ _ HPS.out).own HLW.out) (HW1.out _ HPS.out.kept)
                            · have HGL : Hid (goal = ([], k2, 2)) := by
                                show goal = _
                                rw [HGC.out]
                                unfold closeP
                                rw [← HK2.out, if_neg hend]
                              have e9 : (k2 : Int) < (s.size : Int) := by omega
                              clear hend
                              obtain ⟨pp, hpp0⟩ : ∃ pp : Int, pp = ((k2 : Nat) : Int) := ⟨_, rfl⟩
                              have HFIN : Hid (∀ W e, Kept (fun k => k = g) w1 W → e = .returned (.tuple #[.slice none 0 0, .int .i64 pp, .int .i64 2]) → ObjPost w goal e W) := fun W e K he => ⟨.slice none 0 0, by rw [he, HGL.out, hpp0], by rw [HGL.out]; exact LSt.nil _ _ (HW1.out W K)⟩
                              have hpp : 0 ≤ pp := by omega
                              have r0 : ¬ pp < 0 := by omega
                              have r1 : pp ≥ 0 := by omega
                              have r2 : decide (pp < 0) = false := by rw [decide_eq_false_iff_not]; omega
                              have no2 := fun V (R : RdrAt V g s (k2 : Int) (-1) 0) => noRef V g s k2 pp 2 hk2le R
                              rw [hpp0] at no2 HFIN
                              clear hpp0
                              go_wp2_with (first
                                | (go_at_call 30; refine (e58 _ HR.out).mono ?_; rintro e w9 ⟨rfl, R9, K9⟩; clear e58; replace HR := hid R9; replace HPS := hid (HPS.out.next hgw K9); clear c0 c1 c2 c3 f1; obtain ⟨c0, c1, c2, c3⟩ := R9.cells; have f1 := R9.free 1; clear R9 K9)
                                | (go_at_call 35; refine (HV1.out _ HR.out).mono ?_; rintro e w9 ⟨rfl, R9, K9⟩; clear HV1; replace HR := hid R9; replace HPS := hid (HPS.out.next hgw K9); clear c0 c1 c2 c3 f1; obtain ⟨c0, c1, c2, c3⟩ := R9.cells; have f1 := R9.free 1; clear R9 K9)
                                | (at_builtin; have hrow := HPS.out; refine wpList_append_src _ rfl _ _ 24 rfl w1.heap.size 37 i0 _ 2 32 Tryz.underlying24 hi0 hz0 hz1 hz2 rfl (by decide) (.slice av 0 cv) 0 _ rfl (hrow.own.alloc _) _ rfl 1 [.string kn, .string vn] (.inl ⟨_, 1, rfl, rfl, World.news_of_block (heap_alloc_new _ _)⟩) (by intro u hu; simp at hu; rcases hu with rfl | rfl <;> rfl) (by unfold maxLen; omega) (by omega) (by rw [World.size_alloc]; exact Nat.le_trans hrow.kept.size (by omega)) ?_; intro a3 cp3 w3 ho3 hg3 _ _; have KG := (Kept.alloc (fun k => w1.heap.size ≤ k) _ _).and (Kept.grown hg3 (fun k e => (hrow.own.lt k e).1)); replace HR := hid (HR.out.kept KG (by omega)); replace HPS := hid (hrow.push ho3 hg3); clear KG; clear ho3 hg3 hrow)
                                | (go_at_call 31; refine (isIt _ g s v1 44 hs hv1 HR.out a4 HA4.out false hst44).mono ?_; rintro e w9 ⟨rfl, R9, K9⟩; replace HR := hid R9; replace HPS := hid (HPS.out.next hgw K9); clear c0 c1 c2 c3 f1; obtain ⟨c0, c1, c2, c3⟩ := R9.cells; have f1 := R9.free 1; clear R9 K9)
                                | (go_at_call 30; refine (eatYes _ g s a4 125 hs (by omega) HR.out a4 HKI.out.symm hst125).mono ?_; rintro e w9 ⟨rfl, R9, K9⟩; replace HR := hid R9; replace HPS := hid (HPS.out.next hgw K9); clear c0 c1 c2 c3 f1; obtain ⟨c0, c1, c2, c3⟩ := R9.cells; have f1 := R9.free 1; clear R9 K9)
                                | (go_at_call 32; refine (skipTo _ g s (a4 + 1) hs (by omega) HR.out k2 HK2.out).mono ?_; rintro e w9 ⟨rfl, R9, K9⟩; replace HR := hid R9; replace HPS := hid (HPS.out.next hgw K9); clear c0 c1 c2 c3 f1; obtain ⟨c0, c1, c2, c3⟩ := R9.cells; have f1 := R9.free 1; clear R9 K9)
                                | (go_at_call 34; refine (no2 _ HR.out).mono ?_; rintro e w9 ⟨rfl, _, R9, K9⟩; have HRF := hid R9; replace HPS := hid (HPS.out.next hgw K9); clear R9 K9; clear HR; obtain ⟨x2, x3⟩ := HRF.out.cells)
                                | fail)
                              go_quiet (fail)
                              go_wp2
                              go_ret3
                              exact HFIN.out _ _ (HPS.out.kept.and (Kept.drewN _ _ _)) rfl
              · have HGL : Hid (goal = ([], j0, 16)) := by
                  show goal = _
                  rw [← HTN.out]
                  unfold namR
                  rw [if_pos hfJ]
                obtain ⟨pp, hpp0⟩ : ∃ pp : Int, pp = ((j0 : Nat) : Int) := ⟨_, rfl⟩
                have HFIN : Hid (∀ W e, Kept (fun k => k = g) w1 W → e = .returned (.tuple #[.slice none 0 0, .int .i64 pp, .int .i64 16]) → ObjPost w goal e W) := fun W e K he => ⟨.slice none 0 0, by rw [he, HGL.out, hpp0], by rw [HGL.out]; exact LSt.nil _ _ (HW1.out W K)⟩
                have hpp : 0 ≤ pp := by omega
                have r0 : ¬ pp < 0 := by omega
                have r1 : pp ≥ 0 := by omega
                have r2 : decide (pp < 0) = false := by rw [decide_eq_false_iff_not]; omega
                obtain ⟨knm, hknm⟩ : ∃ knm, knm = mkB nm := ⟨_, rfl⟩
                have HRF : Hid (RefAt wr g s pp 16) := by
                  show RefAt wr g s pp 16
                  rw [hpp0]
                  exact ⟨_, ha1, RJ⟩
                obtain ⟨x2, x3⟩ := HRF.out.cells
                rw [← hknm]
                clear RJ hfJ hpp0 hknm HTN HKJ
                go_wp2_with (first
                  | (go_at_call 30; refine (eatRef _ g s pp 16 _ hs hpp HRF.out).mono ?_; rintro e w9 ⟨rfl, R9, K9⟩; replace HRF := hid R9; replace HPS := hid (HPS.out.next hgw K9); clear R9 K9)
                  | (go_at_call 35; refine (valRef _ g s pp 16 hs hpp HRF.out).mono ?_; rintro e w9 ⟨⟨z9, rfl⟩, R9, K9⟩; replace HRF := hid R9; replace HPS := hid (HPS.out.next hgw K9); clear R9 K9)
                  | (go_at_call 31; refine (isRef _ g s pp 16 _ hs hpp HRF.out).mono ?_; rintro e w9 ⟨rfl, R9, K9⟩; replace HRF := hid R9; replace HPS := hid (HPS.out.next hgw K9); clear R9 K9)
                  | (at_builtin; have hrow := HPS.out; refine wpList_append_src _ rfl _ _ 24 rfl w1.heap.size 37 i0 _ 2 32 Tryz.underlying24 hi0 hz0 hz1 hz2 rfl (by decide) (.slice av 0 cv) 0 _ rfl (hrow.own.alloc _) _ rfl 1 [.string knm, .string z9] (.inl ⟨_, 1, rfl, rfl, World.news_of_block (heap_alloc_new _ _)⟩) (by intro u hu; simp at hu; rcases hu with rfl | rfl <;> rfl) (by unfold maxLen; omega) (by omega) (by rw [World.size_alloc]; exact Nat.le_trans hrow.kept.size (by omega)) ?_; intro a3 c3 w3 ho3 hg3 _ _; have KG := (Kept.alloc (fun k => w1.heap.size ≤ k) _ _).and (Kept.grown hg3 (fun k e => (hrow.own.lt k e).1)); replace HRF := hid (HRF.out.kept KG (by omega)); replace HPS := hid (hrow.push ho3 hg3); clear ho3 hg3 hrow KG)
                  | (go_at_call 32; refine (skipRef _ g s pp 16 hs HRF.out).mono ?_; rintro e w9 ⟨rfl, R9, K9⟩; replace HRF := hid R9; replace HPS := hid (HPS.out.next hgw K9); clear R9 K9; obtain ⟨x2, x3⟩ := HRF.out.cells)
                  | fail)
                all_goals
                  go_quiet (fail)
                  go_wp2
                  go_ret3
                  exact HFIN.out _ _ (HPS.out.kept.and (Kept.drewN _ _ _)) rfl
      · have HSK := hid (fun V (R : RdrAt V g s (q : Int) (-1) 0) => skipTo V g s q hs (by omega) R j0 (by exact hj0))
        have HLP : Hid (ps.length = ps.length) := rfl
        have l1 : 0 < ps.length := List.length_pos_iff.2 hps
        have l2 : decide (0 < ps.length) = true := by rw [decide_eq_true_iff]; exact l1
        have l0 : (ps.length : Int) > 0 := by have : 0 < ps.length := List.length_pos_iff.2 hps; omega
        have l0d : decide ((ps.length : Int) > 0) = true := by rw [decide_eq_true_iff]; exact l0
        unfold topR at HT
        rw [if_neg hps, ← hj0] at HT
        rw [objF_next] at HT
        have htn := textP_next s hj0le
        clear hps hidem hj0
        generalize textP s j0 = r at *
        obtain ⟨nm, a1, tb⟩ := r
        simp only at HT htn
        have ha1 : a1 ≤ s.size := htn.2.1
        clear htn
        cases tb with
        | false =>
          have HGL : Hid (goal = ([], a1, 2)) := by
            show goal = _
            rw [← HT.out]
            rfl
          obtain ⟨pp, hpp0⟩ : ∃ pp : Int, pp = ((a1 : Nat) : Int) := ⟨_, rfl⟩
          have HFIN : Hid (∀ W e, Kept (fun k => k = g) w1 W → e = .returned (.tuple #[.slice none 0 0, .int .i64 pp, .int .i64 2]) → ObjPost w goal e W) := fun W e K he => ⟨.slice none 0 0, by rw [he, HGL.out, hpp0], by rw [HGL.out]; exact LSt.nil _ _ (HW1.out W K)⟩
          have hpp : 0 ≤ pp := by omega
          have r0 : ¬ pp < 0 := by omega
          have r1 : pp ≥ 0 := by omega
          have r2 : decide (pp < 0) = false := by rw [decide_eq_false_iff_not]; omega
          obtain ⟨knm, hknm⟩ : ∃ knm, knm = mkB [] := ⟨_, rfl⟩
          have HTX0 : Hid (∀ V, RdrAt V g s (j0 : Int) (-1) 0 → Calls Tryz.prog 33 #[.pointer (some ⟨g, 0, none⟩)] V fun e w' => e = .returned (.string knm) ∧ RefAt w' g s pp 2 ∧ Kept (fun k => k = g) V w') := fun V R => (HTX.out V R).mono fun e w' h => by
            rcases h.2 with ⟨h1, _⟩ | ⟨_, h1, h2⟩
            · cases h1
            · rw [hknm, hpp0]
              exact ⟨h1, h2, h.1⟩
          clear HTX HT hknm hpp0
          go_wp2_with (first
            | (go_at_call 32; refine (HSK.out _ HR.out).mono ?_; rintro e w9 ⟨rfl, R9, K9⟩; replace HR := hid R9; replace HPS := hid (HPS.out.next hgw K9); clear c0 c1 c2 c3 f1; obtain ⟨c0, c1, c2, c3⟩ := R9.cells; have f1 := R9.free 1; clear R9 K9)
            | (go_at_call 33; refine (HTX0.out _ HR.out).mono ?_; rintro e w9 ⟨rfl, R9, K9⟩; have HRF := hid R9; replace HPS := hid (HPS.out.next hgw K9); clear R9 K9; obtain ⟨x2, x3⟩ := HRF.out.cells)
            | fail)
          obtain ⟨WI, hWI⟩ : ∃ WI, WI = w9 := ⟨_, rfl⟩
          go_loopw [9] (fun v wr => v = .int .i64 0 ∧ wr = w9) (fun _ _ => 0)
          case atStart => exact ⟨rfl, rfl⟩
          case round =>
            obtain ⟨rfl, hwr⟩ := hrel
            subst hwr
            clear hWI
            go_wp2_with (first
              | (go_at_call 30; refine (eatRef _ g s pp 2 _ hs hpp HRF.out).mono ?_; rintro e w9 ⟨rfl, R9, K9⟩; replace HRF := hid R9; replace HPS := hid (HPS.out.next hgw K9); clear R9 K9)
              | (go_at_call 35; refine (valRef _ g s pp 2 hs hpp HRF.out).mono ?_; rintro e w9 ⟨⟨z9, rfl⟩, R9, K9⟩; replace HRF := hid R9; replace HPS := hid (HPS.out.next hgw K9); clear R9 K9)
              | (go_at_call 31; refine (isRef _ g s pp 2 _ hs hpp HRF.out).mono ?_; rintro e w9 ⟨rfl, R9, K9⟩; replace HRF := hid R9; replace HPS := hid (HPS.out.next hgw K9); clear R9 K9)
              | (at_builtin; have hrow := HPS.out; refine wpList_append_src _ rfl _ _ 24 rfl w1.heap.size 37 i0 _ 2 32 Tryz.underlying24 hi0 hz0 hz1 hz2 rfl (by decide) (.slice av ps.length cv) ps.length _ rfl (hrow.own.alloc _) _ rfl 1 [.string knm, .string z9] (.inl ⟨_, 1, rfl, rfl, World.news_of_block (heap_alloc_new _ _)⟩) (by intro u hu; simp at hu; rcases hu with rfl | rfl <;> rfl) (by unfold maxLen; omega) (by omega) (by rw [World.size_alloc]; exact Nat.le_trans hrow.kept.size (by omega)) ?_; intro a3 c3 w3 ho3 hg3 _ _; have KG := (Kept.alloc (fun k => w1.heap.size ≤ k) _ _).and (Kept.grown hg3 (fun k e => (hrow.own.lt k e).1)); replace HRF := hid (HRF.out.kept KG (by omega)); replace HPS := hid (hrow.push ho3 hg3); clear ho3 hg3 hrow KG)
              | (go_at_call 32; refine (skipRef _ g s pp 2 hs HRF.out).mono ?_; rintro e w9 ⟨rfl, R9, K9⟩; replace HRF := hid R9; replace HPS := hid (HPS.out.next hgw K9); clear R9 K9; obtain ⟨x2, x3⟩ := HRF.out.cells)
              | fail)
            go_quiet (fail)
            go_wp2
            go_ret3
            exact HFIN.out _ _ (HPS.out.kept.and (Kept.drewN _ _ _)) rfl
        | true =>
          have HTX1 : Hid (∀ V, RdrAt V g s (j0 : Int) (-1) 0 → Calls Tryz.prog 33 #[.pointer (some ⟨g, 0, none⟩)] V fun e w' => e = .returned (.string (mkB nm)) ∧ RdrAt w' g s (a1 : Int) (-1) 0 ∧ Kept (fun k => k = g) V w') := fun V R => (HTX.out V R).mono fun e w' h => by
            rcases h.2 with ⟨_, h1, h2⟩ | ⟨h1, _⟩
            · exact ⟨h1, h2, h.1⟩
            · cases h1
          clear HTX
          have HTN : Hid (namR s m ps nm j0 a1 = goal) := HT.out
          clear HT
          go_wp2_with (first
            | (go_at_call 32; refine (HSK.out _ HR.out).mono ?_; rintro e w9 ⟨rfl, R9, K9⟩; replace HR := hid R9; replace HPS := hid (HPS.out.next hgw K9); clear c0 c1 c2 c3 f1; obtain ⟨c0, c1, c2, c3⟩ := R9.cells; have f1 := R9.free 1; clear R9 K9)
            | (go_at_call 33; refine (HTX1.out _ HR.out).mono ?_; rintro e w9 ⟨rfl, R9, K9⟩; replace HR := hid R9; replace HPS := hid (HPS.out.next hgw K9); clear c0 c1 c2 c3 f1; obtain ⟨c0, c1, c2, c3⟩ := R9.cells; have f1 := R9.free 1; clear R9 K9)
            | fail)
          clear c0 c1 c2 c3 f1 HSK HTX1
          go_loopw [9] (fun v wr => RNamJ w9 g s ps nm j0 a1 v wr) (fun v _ => ps.length - (intOf v).toNat)
          case atStart => exact ⟨0, Nat.zero_le _, rfl, Kept.refl _ _, .inl ⟨HR.out, rfl⟩⟩
          case round =>
            obtain ⟨j, hj, rfl, KJ, hJ⟩ := hrel
            have KJ0 := KJ
            replace HPS := hid (HPS.out.next hgw KJ)
            clear HR KJ
            have HKJ := hid KJ0
            rcases hJ with ⟨RJ, hfJ⟩ | ⟨RJ, hfJ⟩
            · have HR := hid RJ
              obtain ⟨c0, c1, c2, c3⟩ := RJ.cells
              have f1 := RJ.free 1
              have HFJ := hid hfJ
              clear RJ hfJ
              by_cases hlt : j < ps.length
              · have e0 : (j : Int) < (ps.length : Int) := by have := HLP.out; omega
                rcases PairsAt.of_row HPS.out.own with h0 | ⟨b, o, rfl, hcell⟩
                · rw [h0] at hlt; simp at hlt
                · obtain ⟨d0, d1⟩ := hcell j hlt
                  have hq2 := str_beq (ps[j]'hlt).1 nm
                  have HH : Hid (((ps[j]'hlt).1 == nm) = true → fieldP (ps.drop j) nm = some (ps[j]'hlt).2) := fieldP_hit hlt
                  have HM : Hid (((ps[j]'hlt).1 == nm) = false → fieldP (ps.drop j) nm = fieldP (ps.drop (j + 1)) nm) := fieldP_miss hlt
                  clear hcell
                  cases he : ((ps[j]'hlt).1 == nm) with
                  | true =>
                    rw [he] at hq2
                    have HS2 : Hid ((fieldP ps nm).isSome = true) := by
                      show (fieldP ps nm).isSome = true
                      rw [← HFJ.out, HH.out he]
                      rfl
                    clear he HH HM d1
                    generalize mkB (ps[j]'hlt).1 = x at *
                    generalize mkB nm = kn at *
                    have no16 := fun V (R : RdrAt V g s (a1 : Int) (-1) 0) => noRef V g s a1 (j0 : Int) 16 ha1 R
                    go_wp2_with (first
                      | (go_at_call 34; refine (no16 _ HR.out).mono ?_; rintro e w7 ⟨rfl, R7, _, K7⟩; have HR7 := hid R7; have HK7 := hid K7; clear R7 K7)
                      | fail)
                    go_roundw
                    case rel => exact ⟨j + 1, by omega, by go_num, HKJ.out.and HK7.out, .inr ⟨HR7.out, HS2.out⟩⟩
                    case measure => first | (simp [intOf]; omega) | (simp [intOf]; done)
                  | false =>
                    rw [he] at hq2
                    have HN2 := hid (HM.out he)
                    clear he HH HM d1
                    generalize mkB (ps[j]'hlt).1 = x at *
                    generalize mkB nm = kn at *
                    go_wp2_with (first
                      | fail)
                    go_roundw
                    case rel => exact ⟨j + 1, by omega, by go_num, HKJ.out, .inl ⟨HR.out, by rw [← HN2.out]; exact HFJ.out⟩⟩
                    case measure => first | (simp [intOf]; omega) | (simp [intOf]; done)
              · have e0 : ¬ (j : Int) < (ps.length : Int) := by have := HLP.out; omega
                have hnone : fieldP ps nm = none := by
                  rw [← HFJ.out, List.drop_of_length_le (by omega)]
                  rfl
                unfold namR at HTN
                rw [hnone] at HTN
                simp only [Option.isSome_none, Bool.false_eq_true, if_false] at HTN
                clear hnone HFJ HKJ
                have l16 : True := trivial
                by_cases h16 : ps.length = 16
                · have HGL : Hid (goal = ([], j0, 10)) := by
                    show goal = _
                    rw [← HTN.out, if_pos h16]
                  obtain ⟨pp, hpp0⟩ : ∃ pp : Int, pp = ((j0 : Nat) : Int) := ⟨_, rfl⟩
                  have HFIN : Hid (∀ W e, Kept (fun k => k = g) w1 W → e = .returned (.tuple #[.slice none 0 0, .int .i64 pp, .int .i64 10]) → ObjPost w goal e W) := fun W e K he => ⟨.slice none 0 0, by rw [he, HGL.out, hpp0], by rw [HGL.out]; exact LSt.nil _ _ (HW1.out W K)⟩
                  have hpp : 0 ≤ pp := by omega
                  have r0 : ¬ pp < 0 := by omega
                  have r1 : pp ≥ 0 := by omega
                  have r2 : decide (pp < 0) = false := by rw [decide_eq_false_iff_not]; omega
                  obtain ⟨knm, hknm⟩ : ∃ knm, knm = mkB nm := ⟨_, rfl⟩
                  have q16 : ((ps.length : Int) == 16) = true := by rw [beq_iff_eq]; have := HLP.out; omega
                  have no10 := fun V (R : RdrAt V g s (a1 : Int) (-1) 0) => noRef V g s a1 pp 10 ha1 R
                  rw [hpp0] at no10
                  have HPP := hid hpp0
                  rw [← hknm]
                  clear hpp0 hknm HTN h16 l16
                  go_wp2_with (first
                    | (go_at_call 34; refine (no10 _ HR.out).mono ?_; rintro e w9 ⟨rfl, _, R9, K9⟩; rw [← HPP.out] at R9; clear no10; have HRF := hid R9; replace HPS := hid (HPS.out.next hgw K9); clear R9 K9; clear HR; obtain ⟨x2, x3⟩ := HRF.out.cells)
                    | (go_at_call 30; refine (eatRef _ g s pp 10 _ hs hpp HRF.out).mono ?_; rintro e w9 ⟨rfl, R9, K9⟩; replace HRF := hid R9; replace HPS := hid (HPS.out.next hgw K9); clear R9 K9)
                    | (go_at_call 35; refine (valRef _ g s pp 10 hs hpp HRF.out).mono ?_; rintro e w9 ⟨⟨z9, rfl⟩, R9, K9⟩; replace HRF := hid R9; replace HPS := hid (HPS.out.next hgw K9); clear R9 K9)
                    | (go_at_call 31; refine (isRef _ g s pp 10 _ hs hpp HRF.out).mono ?_; rintro e w9 ⟨rfl, R9, K9⟩; replace HRF := hid R9; replace HPS := hid (HPS.out.next hgw K9); clear R9 K9)
                    | (at_builtin; have hrow := HPS.out; refine wpList_append_src _ rfl _ _ 24 rfl w1.heap.size 37 i0 _ 2 32 Tryz.underlying24 hi0 hz0 hz1 hz2 rfl (by decide) (.slice av ps.length cv) ps.length _ rfl (hrow.own.alloc _) _ rfl 1 [.string knm, .string z9] (.inl ⟨_, 1, rfl, rfl, World.news_of_block (heap_alloc_new _ _)⟩) (by intro u hu; simp at hu; rcases hu with rfl | rfl <;> rfl) (by unfold maxLen; omega) (by omega) (by rw [World.size_alloc]; exact Nat.le_trans hrow.kept.size (by omega)) ?_; intro a3 c3 w3 ho3 hg3 _ _; have KG := (Kept.alloc (fun k => w1.heap.size ≤ k) _ _).and (Kept.grown hg3 (fun k e => (hrow.own.lt k e).1)); replace HRF := hid (HRF.out.kept KG (by omega)); replace HPS := hid (hrow.push ho3 hg3); clear ho3 hg3 hrow KG)
                    | (go_at_call 32; refine (skipRef _ g s pp 10 hs HRF.out).mono ?_; rintro e w9 ⟨rfl, R9, K9⟩; replace HRF := hid R9; replace HPS := hid (HPS.out.next hgw K9); clear R9 K9; obtain ⟨x2, x3⟩ := HRF.out.cells)
                    | fail)
                  go_quiet (fail)
                  go_wp2
                  go_ret3
                  exact HFIN.out _ _ (HPS.out.kept.and (Kept.drewN _ _ _)) rfl
                · have q16 : ((ps.length : Int) == 16) = false := by rw [beq_eq_false_iff_ne]; have := HLP.out; omega
                  rw [if_neg h16] at HTN
                  obtain ⟨a2, ha2⟩ : ∃ a2, a2 = skipP s a1 := ⟨_, rfl⟩
                  have HA2 := hid ha2
                  rw [← ha2] at HTN
                  have ha2le : a2 ≤ s.size := by rw [ha2]; exact skipP_le s ha1
                  clear ha2 l16
                  cases hst58 : standsP s a2 58 with
                  | false =>
                    have HGL : Hid (goal = ([], a2, 2)) := by
                      show goal = _
                      rw [← HTN.out, hst58]
                      rfl
                    obtain ⟨pp, hpp0⟩ : ∃ pp : Int, pp = ((a2 : Nat) : Int) := ⟨_, rfl⟩
                    have HFIN : Hid (∀ W e, Kept (fun k => k = g) w1 W → e = .returned (.tuple #[.slice none 0 0, .int .i64 pp, .int .i64 2]) → ObjPost w goal e W) := fun W e K he => ⟨.slice none 0 0, by rw [he, HGL.out, hpp0], by rw [HGL.out]; exact LSt.nil _ _ (HW1.out W K)⟩
                    have hpp : 0 ≤ pp := by omega
                    have r0 : ¬ pp < 0 := by omega
                    have r1 : pp ≥ 0 := by omega
                    have r2 : decide (pp < 0) = false := by rw [decide_eq_false_iff_not]; omega
                    obtain ⟨knm, hknm⟩ : ∃ knm, knm = mkB nm := ⟨_, rfl⟩
                    have e58 := fun V (R : RdrAt V g s (a1 : Int) (-1) 0) => eatNo V g s a1 58 hs ha1 R a2 HA2.out hst58
                    have HPP := hid hpp0
                    rw [← hknm]
                    clear hpp0 hknm HTN hst58
                    go_wp2_with (first
                      | (go_at_call 30; refine (e58 _ HR.out).mono ?_; rintro e w9 ⟨rfl, R9, K9⟩; rw [← HPP.out] at R9; clear e58; have HRF := hid R9; replace HPS := hid (HPS.out.next hgw K9); clear R9 K9; clear HR; obtain ⟨x2, x3⟩ := HRF.out.cells)
                      | (go_at_call 30; refine (eatRef _ g s pp 2 _ hs hpp HRF.out).mono ?_; rintro e w9 ⟨rfl, R9, K9⟩; replace HRF := hid R9; replace HPS := hid (HPS.out.next hgw K9); clear R9 K9)
                      | (go_at_call 35; refine (valRef _ g s pp 2 hs hpp HRF.out).mono ?_; rintro e w9 ⟨⟨z9, rfl⟩, R9, K9⟩; replace HRF := hid R9; replace HPS := hid (HPS.out.next hgw K9); clear R9 K9)
                      | (go_at_call 31; refine (isRef _ g s pp 2 _ hs hpp HRF.out).mono ?_; rintro e w9 ⟨rfl, R9, K9⟩; replace HRF := hid R9; replace HPS := hid (HPS.out.next hgw K9); clear R9 K9)
                      | (at_builtin; have hrow := HPS.out; refine wpList_append_src _ rfl _ _ 24 rfl w1.heap.size 37 i0 _ 2 32 Tryz.underlying24 hi0 hz0 hz1 hz2 rfl (by decide) (.slice av ps.length cv) ps.length _ rfl (hrow.own.alloc _) _ rfl 1 [.string knm, .string z9] (.inl ⟨_, 1, rfl, rfl, World.news_of_block (heap_alloc_new _ _)⟩) (by intro u hu; simp at hu; rcases hu with rfl | rfl <;> rfl) (by unfold maxLen; omega) (by omega) (by rw [World.size_alloc]; exact Nat.le_trans hrow.kept.size (by omega)) ?_; intro a3 c3 w3 ho3 hg3 _ _; have KG := (Kept.alloc (fun k => w1.heap.size ≤ k) _ _).and (Kept.grown hg3 (fun k e => (hrow.own.lt k e).1)); replace HRF := hid (HRF.out.kept KG (by omega)); replace HPS := hid (hrow.push ho3 hg3); clear ho3 hg3 hrow KG)
                      | (go_at_call 32; refine (skipRef _ g s pp 2 hs HRF.out).mono ?_; rintro e w9 ⟨rfl, R9, K9⟩; replace HRF := hid R9; replace HPS := hid (HPS.out.next hgw K9); clear R9 K9; obtain ⟨x2, x3⟩ := HRF.out.cells)
                      | fail)
                    go_quiet (fail)
                    go_wp2
                    go_ret3
                    exact HFIN.out _ _ (HPS.out.kept.and (Kept.drewN _ _ _)) rfl
                  | true =>
                    have ha2lt := standsP_some s hst58
                    rw [hst58, colR_eq] at HTN
                    simp only [Bool.not_true, Bool.false_eq_true, if_false] at HTN
                    have e58 := fun V (R : RdrAt V g s (a1 : Int) (-1) 0) => eatYes V g s a1 58 hs ha1 R a2 HA2.out hst58
                    have HVA := hid (fun V (R : RdrAt V g s ((a2 + 1 : Nat) : Int) (-1) 0) => rval_any V g s (a2 + 1) (-1) 0 hs (by omega) (by decide) R)
                    have hvn := valR_next s (skipP_le s (show a2 + 1 ≤ s.size by omega))
                    clear hst58
                    generalize valR s (skipP s (a2 + 1)) = r at *
                    obtain ⟨vl, v1, vb⟩ := r
                    simp only at HTN hvn
                    have hv1 : v1 ≤ s.size := hvn
                    clear hvn
                    cases vb with
                    | false =>
                      have HGL : Hid (goal = ([], v1, 2)) := by
                        show goal = _
                        rw [← HTN.out]
                        rfl
                      obtain ⟨pp, hpp0⟩ : ∃ pp : Int, pp = ((v1 : Nat) : Int) := ⟨_, rfl⟩
                      have HFIN : Hid (∀ W e, Kept (fun k => k = g) w1 W → e = .returned (.tuple #[.slice none 0 0, .int .i64 pp, .int .i64 2]) → ObjPost w goal e W) := fun W e K he => ⟨.slice none 0 0, by rw [he, HGL.out, hpp0], by rw [HGL.out]; exact LSt.nil _ _ (HW1.out W K)⟩
                      have hpp : 0 ≤ pp := by omega
                      have r0 : ¬ pp < 0 := by omega
                      have r1 : pp ≥ 0 := by omega
                      have r2 : decide (pp < 0) = false := by rw [decide_eq_false_iff_not]; omega
                      obtain ⟨knm, hknm⟩ : ∃ knm, knm = mkB nm := ⟨_, rfl⟩
                      have HV0 : Hid (∀ V, RdrAt V g s ((a2 + 1 : Nat) : Int) (-1) 0 → Calls Tryz.prog 35 #[.pointer (some ⟨g, 0, none⟩)] V fun e w' => (∃ z, e = .returned (.string z)) ∧ RefAt w' g s pp 2 ∧ Kept (fun k => k = g) V w') := fun V R => (HVA.out V R).mono fun e w' h => by
                        rcases h.2 with ⟨h1, _⟩ | ⟨_, h1, h2⟩
                        · cases h1
                        · rw [hpp0]
                          exact ⟨h1, h2, h.1⟩
                      rw [← hknm]
                      clear hpp0 hknm HTN HVA
                      go_wp2_with (first
                        | (go_at_call 30; refine (e58 _ HR.out).mono ?_; rintro e w9 ⟨rfl, R9, K9⟩; clear e58; replace HR := hid R9; replace HPS := hid (HPS.out.next hgw K9); clear c0 c1 c2 c3 f1; obtain ⟨c0, c1, c2, c3⟩ := R9.cells; have f1 := R9.free 1; clear R9 K9)
                        | (go_at_call 35; refine (HV0.out _ HR.out).mono ?_; rintro e w9 ⟨⟨z9, rfl⟩, R9, K9⟩; clear HV0; have HRF := hid R9; replace HPS := hid (HPS.out.next hgw K9); clear R9 K9; clear HR; obtain ⟨x2, x3⟩ := HRF.out.cells)
                        | (go_at_call 30; refine (eatRef _ g s pp 2 _ hs hpp HRF.out).mono ?_; rintro e w9 ⟨rfl, R9, K9⟩; replace HRF := hid R9; replace HPS := hid (HPS.out.next hgw K9); clear R9 K9)
                        | (go_at_call 35; refine (valRef _ g s pp 2 hs hpp HRF.out).mono ?_; rintro e w9 ⟨⟨z9, rfl⟩, R9, K9⟩; replace HRF := hid R9; replace HPS := hid (HPS.out.next hgw K9); clear R9 K9)
                        | (go_at_call 31; refine (isRef _ g s pp 2 _ hs hpp HRF.out).mono ?_; rintro e w9 ⟨rfl, R9, K9⟩; replace HRF := hid R9; replace HPS := hid (HPS.out.next hgw K9); clear R9 K9)
                        | (at_builtin; have hrow := HPS.out; refine wpList_append_src _ rfl _ _ 24 rfl w1.heap.size 37 i0 _ 2 32 Tryz.underlying24 hi0 hz0 hz1 hz2 rfl (by decide) (.slice av ps.length cv) ps.length _ rfl (hrow.own.alloc _) _ rfl 1 [.string knm, .string z9] (.inl ⟨_, 1, rfl, rfl, World.news_of_block (heap_alloc_new _ _)⟩) (by intro u hu; simp at hu; rcases hu with rfl | rfl <;> rfl) (by unfold maxLen; omega) (by omega) (by rw [World.size_alloc]; exact Nat.le_trans hrow.kept.size (by omega)) ?_; intro a3 c3 w3 ho3 hg3 _ _; have KG := (Kept.alloc (fun k => w1.heap.size ≤ k) _ _).and (Kept.grown hg3 (fun k e => (hrow.own.lt k e).1)); replace HRF := hid (HRF.out.kept KG (by omega)); replace HPS := hid (hrow.push ho3 hg3); clear ho3 hg3 hrow KG)
                        | (go_at_call 32; refine (skipRef _ g s pp 2 hs HRF.out).mono ?_; rintro e w9 ⟨rfl, R9, K9⟩; replace HRF := hid R9; replace HPS := hid (HPS.out.next hgw K9); clear R9 K9; obtain ⟨x2, x3⟩ := HRF.out.cells)
                        | fail)
                      go_quiet (fail)
                      go_wp2
                      go_ret3
                      exact HFIN.out _ _ (HPS.out.kept.and (Kept.drewN _ _ _)) rfl
                    | true =>
                      have HV1 : Hid (∀ V, RdrAt V g s ((a2 + 1 : Nat) : Int) (-1) 0 → Calls Tryz.prog 35 #[.pointer (some ⟨g, 0, none⟩)] V fun e w' => e = .returned (.string (mkB vl)) ∧ RdrAt w' g s (v1 : Int) (-1) 0 ∧ Kept (fun k => k = g) V w') := fun V R => (HVA.out V R).mono fun e w' h => by
                        rcases h.2 with ⟨_, h1, h2⟩ | ⟨h1, _⟩
                        · exact ⟨h1, h2, h.1⟩
                        · cases h1
                      clear HVA
                      simp only [Bool.not_true, Bool.false_eq_true, if_false] at HTN
                      obtain ⟨a4, ha4⟩ : ∃ a4, a4 = skipP s v1 := ⟨_, rfl⟩
                      have HA4 := hid ha4
                      rw [← ha4] at HTN
                      have ha4le : a4 ≤ s.size := by rw [ha4]; exact skipP_le s hv1
                      have hkidem : skipP s a4 = a4 := by rw [ha4]; exact skipP_idem s v1
                      clear ha4
                      obtain ⟨kn, hkn⟩ : ∃ kn, kn = mkB nm := ⟨_, rfl⟩
                      obtain ⟨vn, hvn⟩ : ∃ vn, vn = mkB vl := ⟨_, rfl⟩
                      have HPN : Hid (∀ W v, PSt w1 g W v (ps.length + 1) (prF ps ++ [.string kn, .string vn]) → PSt w1 g W v (ps.length + 1) (prF (ps ++ [(nm, vl)]))) := fun W v S => by
                        rw [prF_snoc]
                        rw [hkn, hvn] at S
                        exact S
                      rw [← hkn]
                      rw [← hvn] at HV1
                      clear hkn hvn
                      cases hst44 : standsP s a4 44 with
                      | true =>
                        have hl4 := standsP_some s hst44
                        rw [if_pos hst44] at HTN
                        have HRN : Hid (∀ W v c, RdrAt W g s (a4 : Int) (-1) 0 → PSt w1 g W (.slice v (ps.length + 1) c) (ps.length + 1) (prF ps ++ [.string kn, .string vn]) → RObjJ w1 g s goal (.slice v (ps.length + 1) c) (W.setCell ⟨g, 1, none⟩ (.int .i64 ((a4 : Int) + 1)))) := fun W v c R S => by
                          have hl : (ps ++ [(nm, vl)]).length = ps.length + 1 := by rw [List.length_append]; first | rfl | (rw [HLP.out]; rfl)
                          have hlp := HLP.out
                          have S2 := (HPN.out W _ S).next hgw (Kept.setCell (S := fun k => k = g) W ⟨g, 1, none⟩ (.int .i64 ((a4 : Int) + 1)) rfl)
                          refine .inl ⟨ps ++ [(nm, vl)], m, a4 + 1, v, c, by rw [hl], by omega, by omega, by omega, by have := R.set1 ((a4 : Int) + 1); rw [Int.natCast_add]; exact this, by rw [hl]; exact S2, ?_⟩
                          unfold topR
                          rw [if_neg (by simp)]
                          exact HTN.out
                        go_wp2_with (first
                          | (go_at_call 30; refine (e58 _ HR.out).mono ?_; rintro e w9 ⟨rfl, R9, K9⟩; clear e58; replace HR := hid R9; replace HPS := hid (HPS.out.next hgw K9); clear c0 c1 c2 c3 f1; obtain ⟨c0, c1, c2, c3⟩ := R9.cells; have f1 := R9.free 1; clear R9 K9)
                          | (go_at_call 35; refine (HV1.out _ HR.out).mono ?_; rintro e w9 ⟨rfl, R9, K9⟩; clear HV1; replace HR := hid R9; replace HPS := hid (HPS.out.next hgw K9); clear c0 c1 c2 c3 f1; obtain ⟨c0, c1, c2, c3⟩ := R9.cells; have f1 := R9.free 1; clear R9 K9)
                          | (at_builtin; have hrow := HPS.out; refine wpList_append_src _ rfl _ _ 24 rfl w1.heap.size 37 i0 _ 2 32 Tryz.underlying24 hi0 hz0 hz1 hz2 rfl (by decide) (.slice av ps.length cv) ps.length _ rfl (hrow.own.alloc _) _ rfl 1 [.string kn, .string vn] (.inl ⟨_, 1, rfl, rfl, World.news_of_block (heap_alloc_new _ _)⟩) (by intro u hu; simp at hu; rcases hu with rfl | rfl <;> rfl) (by unfold maxLen; omega) (by omega) (by rw [World.size_alloc]; exact Nat.le_trans hrow.kept.size (by omega)) ?_; intro a3 cp3 w3 ho3 hg3 _ _; have KG := (Kept.alloc (fun k => w1.heap.size ≤ k) _ _).and (Kept.grown hg3 (fun k e => (hrow.own.lt k e).1)); replace HR := hid (HR.out.kept KG (by omega)); replace HPS := hid (hrow.push ho3 hg3); clear KG; clear ho3 hg3 hrow)
                          | (go_at_call 31; refine (isIt _ g s v1 44 hs hv1 HR.out a4 HA4.out true hst44).mono ?_; rintro e w9 ⟨rfl, R9, K9⟩; replace HR := hid R9; replace HPS := hid (HPS.out.next hgw K9); clear c0 c1 c2 c3 f1; obtain ⟨c0, c1, c2, c3⟩ := R9.cells; have f1 := R9.free 1; clear R9 K9)
                          | fail)
                        go_roundw
                        case rel => exact HRN.out _ _ _ HR.out HPS.out
                        case measure => first | (simp [lenOf]; omega) | (simp [lenOf]; done) | (show 17 - _ < 17 - _; omega)
                      | false =>
                        rw [if_neg (by rw [hst44]; decide)] at HTN
                        cases hst125 : standsP s a4 125 with
                        | false =>
                          have HGL : Hid (goal = ([], a4, 2)) := by
                            show goal = _
                            rw [← HTN.out, hst125]
                            rfl
                          obtain ⟨pp, hpp0⟩ : ∃ pp : Int, pp = ((a4 : Nat) : Int) := ⟨_, rfl⟩
                          have HFIN : Hid (∀ W e, Kept (fun k => k = g) w1 W → e = .returned (.tuple #[.slice none 0 0, .int .i64 pp, .int .i64 2]) → ObjPost w goal e W) := fun W e K he => ⟨.slice none 0 0, by rw [he, HGL.out, hpp0], by rw [HGL.out]; exact LSt.nil _ _ (HW1.out W K)⟩
                          have hpp : 0 ≤ pp := by omega
                          have r0 : ¬ pp < 0 := by omega
                          have r1 : pp ≥ 0 := by omega
                          have r2 : decide (pp < 0) = false := by rw [decide_eq_false_iff_not]; omega
                          have e125 := fun V (R : RdrAt V g s (a4 : Int) (-1) 0) => eatNo V g s a4 125 hs ha4le R a4 hkidem.symm hst125
                          have HPP := hid hpp0
                          clear hpp0 HTN hst125 hkidem
                          go_wp2_with (first
                            | (go_at_call 30; refine (e58 _ HR.out).mono ?_; rintro e w9 ⟨rfl, R9, K9⟩; clear e58; replace HR := hid R9; replace HPS := hid (HPS.out.next hgw K9); clear c0 c1 c2 c3 f1; obtain ⟨c0, c1, c2, c3⟩ := R9.cells; have f1 := R9.free 1; clear R9 K9)
                            | (go_at_call 35; refine (HV1.out _ HR.out).mono ?_; rintro e w9 ⟨rfl, R9, K9⟩; clear HV1; replace HR := hid R9; replace HPS := hid (HPS.out.next hgw K9); clear c0 c1 c2 c3 f1; obtain ⟨c0, c1, c2, c3⟩ := R9.cells; have f1 := R9.free 1; clear R9 K9)
                            | (at_builtin; have hrow := HPS.out; refine wpList_append_src _ rfl _ _ 24 rfl w1.heap.size 37 i0 _ 2 32 Tryz.underlying24 hi0 hz0 hz1 hz2 rfl (by decide) (.slice av ps.length cv) ps.length _ rfl (hrow.own.alloc _) _ rfl 1 [.string kn, .string vn] (.inl ⟨_, 1, rfl, rfl, World.news_of_block (heap_alloc_new _ _)⟩) (by intro u hu; simp at hu; rcases hu with rfl | rfl <;> rfl) (by unfold maxLen; omega) (by omega) (by rw [World.size_alloc]; exact Nat.le_trans hrow.kept.size (by omega)) ?_; intro a3 cp3 w3 ho3 hg3 _ _; have KG := (Kept.alloc (fun k => w1.heap.size ≤ k) _ _).and (Kept.grown hg3 (fun k e => (hrow.own.lt k e).1)); replace HR := hid (HR.out.kept KG (by omega)); replace HPS := hid (hrow.push ho3 hg3); clear KG; clear ho3 hg3 hrow)
                            | (go_at_call 31; refine (isIt _ g s v1 44 hs hv1 HR.out a4 HA4.out false hst44).mono ?_; rintro e w9 ⟨rfl, R9, K9⟩; replace HR := hid R9; replace HPS := hid (HPS.out.next hgw K9); clear c0 c1 c2 c3 f1; obtain ⟨c0, c1, c2, c3⟩ := R9.cells; have f1 := R9.free 1; clear R9 K9)
                            | (go_at_call 30; refine (e125 _ HR.out).mono ?_; rintro e w9 ⟨rfl, R9, K9⟩; rw [← HPP.out] at R9; clear e125; have HRF := hid R9; replace HPS := hid (HPS.out.next hgw K9); clear R9 K9; clear HR)
                            | (go_at_call 32; refine (skipRef _ g s pp 2 hs HRF.out).mono ?_; rintro e w9 ⟨rfl, R9, K9⟩; replace HRF := hid R9; replace HPS := hid (HPS.out.next hgw K9); clear R9 K9; obtain ⟨x2, x3⟩ := HRF.out.cells)
                            | fail)
                          go_quiet (fail)
                          go_wp2
                          go_ret3
                          exact HFIN.out _ _ (HPS.out.kept.and (Kept.drewN _ _ _)) rfl
                        | true =>
                          have HGC : Hid (goal = closeP s (ps ++ [(nm, vl)]) a4) := by
                            show goal = _
                            rw [← HTN.out, if_pos hst125]
                          clear HTN
                          have HLEN : Hid ((ps ++ [(nm, vl)]).length = ps.length + 1) := by
                            show (ps ++ [(nm, vl)]).length = _
                            rw [List.length_append]
                            first | rfl | (rw [HLP.out]; rfl)
                          obtain ⟨k2, hk2⟩ : ∃ k2, k2 = skipP s (a4 + 1) := ⟨_, rfl⟩
                          have hkl := standsP_some s hst125
                          have hk2le : k2 ≤ s.size := by rw [hk2]; exact skipP_le s (by omega)
                          have HK2 := hid hk2
                          have HKI := hid hkidem
                          clear hk2 hkidem
                          by_cases hend : k2 = s.size
                          · have HGL : Hid (goal = ((ps ++ [(nm, vl)]), 0, 0)) := by
                              show goal = _
                              rw [HGC.out]
                              unfold closeP
                              rw [← HK2.out, if_pos hend]
                            have e9 : ¬ (k2 : Int) < (s.size : Int) := by omega
                            clear hend
                            go_wp2_with (first
                              | (go_at_call 30; refine (e58 _ HR.out).mono ?_; rintro e w9 ⟨rfl, R9, K9⟩; clear e58; replace HR := hid R9; replace HPS := hid (HPS.out.next hgw K9); clear c0 c1 c2 c3 f1; obtain ⟨c0, c1, c2, c3⟩ := R9.cells; have f1 := R9.free 1; clear R9 K9)
                              | (go_at_call 35; refine (HV1.out _ HR.out).mono ?_; rintro e w9 ⟨rfl, R9, K9⟩; clear HV1; replace HR := hid R9; replace HPS := hid (HPS.out.next hgw K9); clear c0 c1 c2 c3 f1; obtain ⟨c0, c1, c2, c3⟩ := R9.cells; have f1 := R9.free 1; clear R9 K9)
                              | (at_builtin; have hrow := HPS.out; refine wpList_append_src _ rfl _ _ 24 rfl w1.heap.size 37 i0 _ 2 32 Tryz.underlying24 hi0 hz0 hz1 hz2 rfl (by decide) (.slice av ps.length cv) ps.length _ rfl (hrow.own.alloc _) _ rfl 1 [.string kn, .string vn] (.inl ⟨_, 1, rfl, rfl, World.news_of_block (heap_alloc_new _ _)⟩) (by intro u hu; simp at hu; rcases hu with rfl | rfl <;> rfl) (by unfold maxLen; omega) (by omega) (by rw [World.size_alloc]; exact Nat.le_trans hrow.kept.size (by omega)) ?_; intro a3 cp3 w3 ho3 hg3 _ _; have KG := (Kept.alloc (fun k => w1.heap.size ≤ k) _ _).and (Kept.grown hg3 (fun k e => (hrow.own.lt k e).1)); replace HR := hid (HR.out.kept KG (by omega)); replace HPS := hid (hrow.push ho3 hg3); clear KG; clear ho3 hg3 hrow)
                              | (go_at_call 31; refine (isIt _ g s v1 44 hs hv1 HR.out a4 HA4.out false hst44).mono ?_; rintro e w9 ⟨rfl, R9, K9⟩; replace HR := hid R9; replace HPS := hid (HPS.out.next hgw K9); clear c0 c1 c2 c3 f1; obtain ⟨c0, c1, c2, c3⟩ := R9.cells; have f1 := R9.free 1; clear R9 K9)
                              | (go_at_call 30; refine (eatYes _ g s a4 125 hs (by omega) HR.out a4 HKI.out.symm hst125).mono ?_; rintro e w9 ⟨rfl, R9, K9⟩; replace HR := hid R9; replace HPS := hid (HPS.out.next hgw K9); clear c0 c1 c2 c3 f1; obtain ⟨c0, c1, c2, c3⟩ := R9.cells; have f1 := R9.free 1; clear R9 K9)
                              | (go_at_call 32; refine (skipTo _ g s (a4 + 1) hs (by omega) HR.out k2 HK2.out).mono ?_; rintro e w9 ⟨rfl, R9, K9⟩; replace HR := hid R9; replace HPS := hid (HPS.out.next hgw K9); clear c0 c1 c2 c3 f1; obtain ⟨c0, c1, c2, c3⟩ := R9.cells; have f1 := R9.free 1; clear R9 K9)
                              | fail)
                            go_ret3
                            refine ⟨_, by rw [HGL.out]; rfl, ?_⟩
                            rw [HGL.out]
                            exact LSt.of (ps := (ps ++ [(nm, vl)])) HLEN.out rfl (ownsRow_lower (HPN.out _ _ HPS.out).own HLW.out) (HW1.out _ HPS.out.kept)
                          · have HGL : Hid (goal = ([], k2, 2)) := by
                              show goal = _
                              rw [HGC.out]
                              unfold closeP
                              rw [← HK2.out, if_neg hend]
                            have e9 : (k2 : Int) < (s.size : Int) := by omega
                            clear hend
                            obtain ⟨pp, hpp0⟩ : ∃ pp : Int, pp = ((k2 : Nat) : Int) := ⟨_, rfl⟩
                            have HFIN : Hid (∀ W e, Kept (fun k => k = g) w1 W → e = .returned (.tuple #[.slice none 0 0, .int .i64 pp, .int .i64 2]) → ObjPost w goal e W) := fun W e K he => ⟨.slice none 0 0, by rw [he, HGL.out, hpp0], by rw [HGL.out]; exact LSt.nil _ _ (HW1.out W K)⟩
                            have hpp : 0 ≤ pp := by omega
                            have r0 : ¬ pp < 0 := by omega
                            have r1 : pp ≥ 0 := by omega
                            have r2 : decide (pp < 0) = false := by rw [decide_eq_false_iff_not]; omega
                            have no2 := fun V (R : RdrAt V g s (k2 : Int) (-1) 0) => noRef V g s k2 pp 2 hk2le R
                            rw [hpp0] at no2 HFIN
                            clear hpp0
                            go_wp2_with (first
                              | (go_at_call 30; refine (e58 _ HR.out).mono ?_; rintro e w9 ⟨rfl, R9, K9⟩; clear e58; replace HR := hid R9; replace HPS := hid (HPS.out.next hgw K9); clear c0 c1 c2 c3 f1; obtain ⟨c0, c1, c2, c3⟩ := R9.cells; have f1 := R9.free 1; clear R9 K9)
                              | (go_at_call 35; refine (HV1.out _ HR.out).mono ?_; rintro e w9 ⟨rfl, R9, K9⟩; clear HV1; replace HR := hid R9; replace HPS := hid (HPS.out.next hgw K9); clear c0 c1 c2 c3 f1; obtain ⟨c0, c1, c2, c3⟩ := R9.cells; have f1 := R9.free 1; clear R9 K9)
                              | (at_builtin; have hrow := HPS.out; refine wpList_append_src _ rfl _ _ 24 rfl w1.heap.size 37 i0 _ 2 32 Tryz.underlying24 hi0 hz0 hz1 hz2 rfl (by decide) (.slice av ps.length cv) ps.length _ rfl (hrow.own.alloc _) _ rfl 1 [.string kn, .string vn] (.inl ⟨_, 1, rfl, rfl, World.news_of_block (heap_alloc_new _ _)⟩) (by intro u hu; simp at hu; rcases hu with rfl | rfl <;> rfl) (by unfold maxLen; omega) (by omega) (by rw [World.size_alloc]; exact Nat.le_trans hrow.kept.size (by omega)) ?_; intro a3 cp3 w3 ho3 hg3 _ _; have KG := (Kept.alloc (fun k => w1.heap.size ≤ k) _ _).and (Kept.grown hg3 (fun k e => (hrow.own.lt k e).1)); replace HR := hid (HR.out.kept KG (by omega)); replace HPS := hid (hrow.push ho3 hg3); clear KG; clear ho3 hg3 hrow)
                              | (go_at_call 31; refine (isIt _ g s v1 44 hs hv1 HR.out a4 HA4.out false hst44).mono ?_; rintro e w9 ⟨rfl, R9, K9⟩; replace HR := hid R9; replace HPS := hid (HPS.out.next hgw K9); clear c0 c1 c2 c3 f1; obtain ⟨c0, c1, c2, c3⟩ := R9.cells; have f1 := R9.free 1; clear R9 K9)
                              | (go_at_call 30; refine (eatYes _ g s a4 125 hs (by omega) HR.out a4 HKI.out.symm hst125).mono ?_; rintro e w9 ⟨rfl, R9, K9⟩; replace HR := hid R9; replace HPS := hid (HPS.out.next hgw K9); clear c0 c1 c2 c3 f1; obtain ⟨c0, c1, c2, c3⟩ := R9.cells; have f1 := R9.free 1; clear R9 K9)
                              | (go_at_call 32; refine (skipTo _ g s (a4 + 1) hs (by omega) HR.out k2 HK2.out).mono ?_; rintro e w9 ⟨rfl, R9, K9⟩; replace HR := hid R9; replace HPS := hid (HPS.out.next hgw K9); clear c0 c1 c2 c3 f1; obtain ⟨c0, c1, c2, c3⟩ := R9.cells; have f1 := R9.free 1; clear R9 K9)
                              | (go_at_call 34; refine (no2 _ HR.out).mono ?_; rintro e w9 ⟨rfl, _, R9, K9⟩; have HRF := hid R9; replace HPS := hid (HPS.out.next hgw K9); clear R9 K9; clear HR; obtain ⟨x2, x3⟩ := HRF.out.cells)
                              | fail)
                            go_quiet (fail)
                            go_wp2
                            go_ret3
                            exact HFIN.out _ _ (HPS.out.kept.and (Kept.drewN _ _ _)) rfl
            · have HGL : Hid (goal = ([], j0, 16)) := by
                show goal = _
                rw [← HTN.out]
                unfold namR
                rw [if_pos hfJ]
              obtain ⟨pp, hpp0⟩ : ∃ pp : Int, pp = ((j0 : Nat) : Int) := ⟨_, rfl⟩
              have HFIN : Hid (∀ W e, Kept (fun k => k = g) w1 W → e = .returned (.tuple #[.slice none 0 0, .int .i64 pp, .int .i64 16]) → ObjPost w goal e W) := fun W e K he => ⟨.slice none 0 0, by rw [he, HGL.out, hpp0], by rw [HGL.out]; exact LSt.nil _ _ (HW1.out W K)⟩
              have hpp : 0 ≤ pp := by omega
              have r0 : ¬ pp < 0 := by omega
              have r1 : pp ≥ 0 := by omega
              have r2 : decide (pp < 0) = false := by rw [decide_eq_false_iff_not]; omega
              obtain ⟨knm, hknm⟩ : ∃ knm, knm = mkB nm := ⟨_, rfl⟩
              have HRF : Hid (RefAt wr g s pp 16) := by
                show RefAt wr g s pp 16
                rw [hpp0]
                exact ⟨_, ha1, RJ⟩
              obtain ⟨x2, x3⟩ := HRF.out.cells
              rw [← hknm]
              clear RJ hfJ hpp0 hknm HTN HKJ
              go_wp2_with (first
                | (go_at_call 30; refine (eatRef _ g s pp 16 _ hs hpp HRF.out).mono ?_; rintro e w9 ⟨rfl, R9, K9⟩; replace HRF := hid R9; replace HPS := hid (HPS.out.next hgw K9); clear R9 K9)
                | (go_at_call 35; refine (valRef _ g s pp 16 hs hpp HRF.out).mono ?_; rintro e w9 ⟨⟨z9, rfl⟩, R9, K9⟩; replace HRF := hid R9; replace HPS := hid (HPS.out.next hgw K9); clear R9 K9)
                | (go_at_call 31; refine (isRef _ g s pp 16 _ hs hpp HRF.out).mono ?_; rintro e w9 ⟨rfl, R9, K9⟩; replace HRF := hid R9; replace HPS := hid (HPS.out.next hgw K9); clear R9 K9)
                | (at_builtin; have hrow := HPS.out; refine wpList_append_src _ rfl _ _ 24 rfl w1.heap.size 37 i0 _ 2 32 Tryz.underlying24 hi0 hz0 hz1 hz2 rfl (by decide) (.slice av ps.length cv) ps.length _ rfl (hrow.own.alloc _) _ rfl 1 [.string knm, .string z9] (.inl ⟨_, 1, rfl, rfl, World.news_of_block (heap_alloc_new _ _)⟩) (by intro u hu; simp at hu; rcases hu with rfl | rfl <;> rfl) (by unfold maxLen; omega) (by omega) (by rw [World.size_alloc]; exact Nat.le_trans hrow.kept.size (by omega)) ?_; intro a3 c3 w3 ho3 hg3 _ _; have KG := (Kept.alloc (fun k => w1.heap.size ≤ k) _ _).and (Kept.grown hg3 (fun k e => (hrow.own.lt k e).1)); replace HRF := hid (HRF.out.kept KG (by omega)); replace HPS := hid (hrow.push ho3 hg3); clear ho3 hg3 hrow KG)
                | (go_at_call 32; refine (skipRef _ g s pp 16 hs HRF.out).mono ?_; rintro e w9 ⟨rfl, R9, K9⟩; replace HRF := hid R9; replace HPS := hid (HPS.out.next hgw K9); clear R9 K9; obtain ⟨x2, x3⟩ := HRF.out.cells)
                | fail)
              all_goals
                go_quiet (fail)
                go_wp2
                go_ret3
                exact HFIN.out _ _ (HPS.out.kept.and (Kept.drewN _ _ _)) rfl
    · have HGL : Hid (goal = ([], p, 2)) := hT.symm
      obtain ⟨pp, hpp0⟩ : ∃ pp : Int, pp = (p : Int) := ⟨_, rfl⟩
      have HFIN : Hid (∀ W e, Kept (fun k => k = g) w1 W → e = .returned (.tuple #[.slice none 0 0, .int .i64 pp, .int .i64 2]) → ObjPost w goal e W) := fun W e K he => ⟨.slice none 0 0, by rw [he, HGL.out, hpp0], by rw [HGL.out]; exact LSt.nil _ _ (HW1.out W K)⟩
      have hpp : 0 ≤ pp := by omega
      have q0 : ¬ pp < 0 := by omega
      have q1 : pp ≥ 0 := by omega
      have HRF := hid R
      rw [← hpp0] at HRF
      have HPS : Hid (PSt w1 g wr (.slice none 0 0) 0 []) := ⟨World.ownsRow_nil _ _ _ _, K⟩
      obtain ⟨x2, x3⟩ := HRF.out.cells
      clear R K hT hpp0 HGL
      go_wp2_with (first
        | (go_at_call 30; refine (eatRef _ g s pp 2 _ hs hpp HRF.out).mono ?_; rintro e w9 ⟨rfl, R9, K9⟩; replace HRF := hid R9; replace HPS := hid (HPS.out.next hgw K9); clear R9 K9)
        | (go_at_call 35; refine (valRef _ g s pp 2 hs hpp HRF.out).mono ?_; rintro e w9 ⟨⟨z9, rfl⟩, R9, K9⟩; replace HRF := hid R9; replace HPS := hid (HPS.out.next hgw K9); clear R9 K9)
        | (go_at_call 31; refine (isRef _ g s pp 2 _ hs hpp HRF.out).mono ?_; rintro e w9 ⟨rfl, R9, K9⟩; replace HRF := hid R9; replace HPS := hid (HPS.out.next hgw K9); clear R9 K9)
        | (go_at_call 32; refine (skipRef _ g s pp 2 hs HRF.out).mono ?_; rintro e w9 ⟨rfl, R9, K9⟩; replace HRF := hid R9; replace HPS := hid (HPS.out.next hgw K9); clear R9 K9; obtain ⟨x2, x3⟩ := HRF.out.cells)
        | fail)
      go_quiet (fail)
      go_wp2
      go_ret3
      exact HFIN.out _ _ (HPS.out.kept.and (Kept.drewN _ _ _)) rfl

end Go.Proofs.YtfogkbdbncfleaaGreatDoor
