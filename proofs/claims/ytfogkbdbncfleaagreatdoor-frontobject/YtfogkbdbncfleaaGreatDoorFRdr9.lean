/-
  The document's reader: a number.
-/
import Derived.Test.YtfogkbdbncfleaaGreatDoorFRdr8
import Derived.Test.YtfogkbdbncfleaaGreatDoorFNumP
namespace Go.Proofs.YtfogkbdbncfleaaGreatDoor
open Go.RowKit

/-- What number and value leave. -/
def ValPost (w : World) (g : Nat) (s : ByteArray) (bad why : Int) (r : List UInt8 × Nat × Bool) (e : Ending) (w' : World) : Prop :=
  Kept (fun k => k = g) w w' ∧ ((r.2.2 = true ∧ e = .returned (.string (mkB r.1)) ∧ RdrAt w' g s (r.2.1 : Int) bad why) ∨ (r.2.2 = false ∧ (∃ x, e = .returned (.string x)) ∧ ∃ k : Nat, k ≤ s.size ∧ RdrAt w' g s (k : Int) (r.2.1 : Int) 2))

/-- Between the rounds of number. -/
def NumJ (w : World) (g : Nat) (s : ByteArray) (bad why : Int) (i f : Nat) (W : World) : Prop :=
  ∃ d p : Nat, p = f + d ∧ d ≤ digRun s f ∧ d ≤ 15 ∧ (standsP s f 48 = true → d ≤ 1 ∧ (i < f → d = 0)) ∧ RdrAt W g s (p : Int) bad why ∧ Kept (fun k => k = g) w W

theorem isDig_iff (c : UInt8) : isDig c = true ↔ (48 ≤ ((c.toNat : Nat) : Int) ∧ ((c.toNat : Nat) : Int) ≤ 57) := by
  unfold isDig
  simp only [Bool.and_eq_true, decide_eq_true_eq]
  omega

theorem numJ_next {w wr : World} {g : Nat} {s : ByteArray} {bad why : Int} {i f d p : Nat} (hp : p = f + d) (hd : d < digRun s f) (h15 : d < 15) (hz : standsP s f 48 = true → d = 0 ∧ ¬ i < f) (R : RdrAt wr g s (p : Int) bad why) (K : Kept (fun k => k = g) w wr) (hs : p < s.size) (n : Nat) :
    NumJ w g s bad why i f ((wr.drewN n).setCell ⟨g, 1, none⟩ (.int .i64 ((p : Int) + 1))) ∧ s.size - rdrPlace ((wr.drewN n).setCell ⟨g, 1, none⟩ (.int .i64 ((p : Int) + 1))) g < s.size - rdrPlace wr g := by
  have R2 : RdrAt ((wr.drewN n).setCell ⟨g, 1, none⟩ (.int .i64 ((p : Int) + 1))) g s ((p + 1 : Nat) : Int) bad why := (R.kept (Kept.drewN (fun _ => False) wr n) (fun h => h)).set1 _
  refine ⟨⟨d + 1, p + 1, by omega, by omega, by omega, fun h => ⟨by have := (hz h).1; omega, fun h2 => absurd h2 (hz h).2⟩, R2, K.and ((Kept.drewN _ _ _).and (Kept.setCell (S := fun k => k = g) _ ⟨g, 1, none⟩ _ rfl))⟩, ?_⟩
  rw [R2.place, R.place]
  omega

set_option maxRecDepth 100000 in
set_option maxHeartbeats 8000000 in
theorem rnumP_any (w : World) (g : Nat) (s : ByteArray) (i : Nat) (bad why : Int) (hs : s.size ≤ 1000000000000) (hi : i < s.size) (hb : bad < 0) (R : RdrAt w g s i bad why) (hm : standsP s i 45 = false) :
    Calls Tryz.prog 58 #[.pointer (some ⟨g, 0, none⟩)] w (ValPost w g s bad why (numT s i i)) := by
  obtain ⟨c0, c1, c2, c3⟩ := R.cells
  have f1 := R.free 1
  have HR := hid R
  have hix := ix_str s hi
  have hib : (i : Int) ≤ 281474976710656 := by omega
  have hst := standsP_at hi 45
  rw [hm] at hst
  change (false = true ↔ (((s[i]'hi).toNat : Nat) : Int) = 45) at hst
  have hrl := digRun_le s (f := i) (by omega)
  clear R hm
  generalize (((s[i]'hi).toNat : Nat) : Int) = cc at *
  have n45 : (cc == 45) = false := by rw [beq_eq_false_iff_ne]; exact fun h => Bool.noConfusion (hst.2 h)
  have HJ : Hid (∀ n, (True → NumJ w g s bad why i i (w.drewN n)) ∧ True) := fun n => ⟨fun _ => ⟨0, i, rfl, Nat.zero_le _, by omega, fun _ => ⟨by omega, fun _ => rfl⟩, HR.out.kept (Kept.drewN (fun _ => False) _ _) (fun h => h), Kept.drewN _ _ _⟩, trivial⟩
  clear hst
  go_enter Tryz.func58, Tryz.ntmps58
  go_wp2_with (first | go_quiet (fail) | fail)
  go_loopw [] (fun wr => NumJ w g s bad why i i wr) (fun wr => s.size - rdrPlace wr g)
  case atStart => exact (HJ.out _).1 trivial
  case round =>
    obtain ⟨d, p, hp, hd, h15, hz, R, K⟩ := hrel
    clear HJ HR c0 c1 c2 c3 f1 hix
    obtain ⟨c0, c1, c2, c3⟩ := R.cells
    have f1 := R.free 1
    have HR := hid R
    have HK := hid K
    have HP := hid hp
    have HZ := hid hz
    have HNO := hid (fun V (R : RdrAt V g s (p : Int) bad why) => no_any V g s (p : Int) bad why (p : Int) 2 R)
    have hpb : (p : Int) ≤ 281474976710656 := by omega
    clear R K hz
    by_cases hlt : d < digRun s i
    · obtain ⟨hl, hdg⟩ := digRun_at s hlt
      have hps : p < s.size := by omega
      have hdp : isDig (s[p]'hps) = true := by subst hp; exact hdg
      have hix := ix_str s hps
      obtain ⟨g1, g2⟩ := (isDig_iff _).1 hdp
      have e0 : (p : Int) < (s.size : Int) := by omega
      have g1' : (((s[p]'hps).toNat : Nat) : Int) ≥ 48 := g1
      have hfl : i < s.size := by omega
      have hixf : ∀ W, (Instr.index 9 (.string s) (.int .i64 (i : Int))).run Tryz.prog W = .ok (.int .u8 (((s[i]'hfl).toNat : Nat) : Int)) W := ix_str s hfl
      have HS := hid (standsP_at hfl 48)
      change Hid (standsP s i 48 = true ↔ (((s[i]'hfl).toNat : Nat) : Int) = 48) at HS
      have HLT := hid hlt
      clear hdg hdp hl hlt hp g1
      generalize (((s[i]'hfl).toNat : Nat) : Int) = z at *
      generalize (((s[p]'hps).toNat : Nat) : Int) = x at *
      by_cases hd0 : d = 0
      · have q1 : ¬ (p : Int) > (i : Int) := by have := HP.out; omega
        have q2 : ((p : Int) == (i : Int)) = true := by rw [beq_iff_eq]; have := HP.out; omega
        have q5 : ¬ (p : Int) - (i : Int) ≥ 15 := by have := HP.out; omega
        have q3 : ¬ (i : Int) > (i : Int) := by omega
        have HN := hid (fun n => numJ_next (w := w) (wr := wr) (i := i) HP.out HLT.out (by omega) (fun h => ⟨hd0, by omega⟩) HR.out HK.out hps n)
        clear HS HZ hd0
        go_wp2_with (first | go_quiet (fail) | fail)
        exact HN.out _
      · have q1 : (p : Int) > (i : Int) := by have := HP.out; omega
        have q2 : ((p : Int) == (i : Int)) = false := by rw [beq_eq_false_iff_ne]; have := HP.out; omega
        by_cases h48 : z = 48
        · have HQ : Hid (numT s i i = ([], p, false)) := by
            show numT s i i = _
            have h1 := HLT.out
            have h2 := HP.out
            obtain ⟨h3, h4⟩ := HZ.out (HS.out.2 h48)
            unfold numT
            rw [if_neg (by omega), if_pos (HS.out.2 h48), if_neg (by omega), if_neg (by omega), show p = i + 1 by omega]
          clear HS HZ
          subst h48
          go_wp2_with (first | (go_at_call 34; refine (HNO.out _ (HR.out.kept (Kept.drewN (fun _ => False) _ _) (fun h => h))).mono ?_; rintro e w2 ⟨rfl, R2, K2⟩; rw [if_pos hb, if_pos hb] at R2; obtain ⟨d0, d1, d2, d3⟩ := R2.cells; have HR2 := hid R2; have HK2 := hid K2; clear R2 K2) | (go_at_call 34; refine (HNO.out _ HR.out).mono ?_; rintro e w2 ⟨rfl, R2, K2⟩; rw [if_pos hb, if_pos hb] at R2; obtain ⟨d0, d1, d2, d3⟩ := R2.cells; have HR2 := hid R2; have HK2 := hid K2; clear R2 K2) | go_quiet (fail) | fail)
          go_ret
          refine ⟨(HK.out.and (Kept.drewN _ _ _)).and HK2.out, .inr ⟨by rw [HQ.out], ⟨_, rfl⟩, p, by omega, ?_⟩⟩
          rw [HQ.out]
          exact HR2.out
        · have z48 : (z == 48) = false := by rw [beq_eq_false_iff_ne]; exact h48
          by_cases hd15 : d = 15
          · have HQ : Hid (numT s i i = ([], p, false)) := by
              show numT s i i = _
              have h1 := HLT.out
              have h2 := HP.out
              unfold numT
              rw [if_neg (by omega), if_neg (fun h => h48 (HS.out.1 h)), if_neg (by omega), show p = i + 15 by omega]
            have q5 : (p : Int) - (i : Int) ≥ 15 := by have := HP.out; omega
            clear HS HZ h48
            go_wp2_with (first | (go_at_call 34; refine (HNO.out _ (HR.out.kept (Kept.drewN (fun _ => False) _ _) (fun h => h))).mono ?_; rintro e w2 ⟨rfl, R2, K2⟩; rw [if_pos hb, if_pos hb] at R2; obtain ⟨d0, d1, d2, d3⟩ := R2.cells; have HR2 := hid R2; have HK2 := hid K2; clear R2 K2) | (go_at_call 34; refine (HNO.out _ HR.out).mono ?_; rintro e w2 ⟨rfl, R2, K2⟩; rw [if_pos hb, if_pos hb] at R2; obtain ⟨d0, d1, d2, d3⟩ := R2.cells; have HR2 := hid R2; have HK2 := hid K2; clear R2 K2) | go_quiet (fail) | fail)
            go_ret
            refine ⟨(HK.out.and (Kept.drewN _ _ _)).and HK2.out, .inr ⟨by rw [HQ.out], ⟨_, rfl⟩, p, by omega, ?_⟩⟩
            rw [HQ.out]
            exact HR2.out
          · have q5 : ¬ (p : Int) - (i : Int) ≥ 15 := by have := HP.out; omega
            have HN := hid (fun n => numJ_next (w := w) (wr := wr) (i := i) HP.out HLT.out (by omega) (fun h => absurd (HS.out.1 h) h48) HR.out HK.out hps n)
            clear HS HZ h48
            go_wp2_with (first | go_quiet (fail) | fail)
            exact HN.out _
    · have hde : d = digRun s i := by omega
      have hpl : p ≤ s.size := by omega
      have hsl : ∀ W, (Instr.slice 9 (.string s) (some (.int .i64 (i : Int))) (some (.int .i64 (p : Int))) none).run Tryz.prog W = .ok (.string (mkB (subL s i p))) W := fun W => by
        rw [run_slice_string W _ _ _ _ _ _ Tryz.underlying9 (by omega) (by omega) (by omega)]
        rw [show ((i : Int)).toNat = i by omega, show ((p : Int)).toNat = p by omega, sub_extract]
      have HEX := hid (sub_extract s i p)
      have s1 : (0 : Int) ≤ (p : Int) := by omega
      have s2 : (p : Int) ≤ (s.size : Int) := by omega
      have s3 : (i : Int) ≤ (p : Int) := by omega
      have HD := hid hde
      by_cases hd0 : d = 0
      · have HQ : Hid (numT s i i = ([], p, false)) := by
          show numT s i i = _
          have h2 := HP.out
          unfold numT
          rw [if_pos (by omega), show p = i by omega]
        have q2 : ((p : Int) == (i : Int)) = true := by rw [beq_iff_eq]; omega
        by_cases hps : p < s.size
        · have e0 : (p : Int) < (s.size : Int) := by omega
          have hnd : isDig (s[p]'hps) = false := by subst hp; subst hde; exact digRun_end s hps
          have hix := ix_str s hps
          have hnn := (isDig_iff (s[p]'hps))
          rw [hnd] at hnn
          have HSP : Hid (numT s i i = numT s i i) := rfl
          clear HSP HZ hp hde hd0 hnd
          generalize (((s[p]'hps).toNat : Nat) : Int) = x at *
          by_cases g1 : x ≥ 48
          · have g2 : ¬ x ≤ 57 := fun h => Bool.noConfusion (hnn.2 ⟨g1, h⟩)
            clear hnn
            go_wp2_with (first | (go_at_call 34; refine (HNO.out _ (HR.out.kept (Kept.drewN (fun _ => False) _ _) (fun h => h))).mono ?_; rintro e w2 ⟨rfl, R2, K2⟩; rw [if_pos hb, if_pos hb] at R2; obtain ⟨d0, d1, d2, d3⟩ := R2.cells; have HR2 := hid R2; have HK2 := hid K2; clear R2 K2) | (go_at_call 34; refine (HNO.out _ HR.out).mono ?_; rintro e w2 ⟨rfl, R2, K2⟩; rw [if_pos hb, if_pos hb] at R2; obtain ⟨d0, d1, d2, d3⟩ := R2.cells; have HR2 := hid R2; have HK2 := hid K2; clear R2 K2) | go_quiet (fail) | fail)
            go_ret
            refine ⟨(HK.out.and (Kept.drewN _ _ _)).and (HK2.out.and (Kept.drewN _ _ _)), .inr ⟨by rw [HQ.out], ⟨_, rfl⟩, p, by omega, ?_⟩⟩
            rw [HQ.out]
            exact HR2.out.kept (Kept.drewN (fun _ => False) _ _) (fun h => h)
          · clear hnn
            go_wp2_with (first | (go_at_call 34; refine (HNO.out _ (HR.out.kept (Kept.drewN (fun _ => False) _ _) (fun h => h))).mono ?_; rintro e w2 ⟨rfl, R2, K2⟩; rw [if_pos hb, if_pos hb] at R2; obtain ⟨d0, d1, d2, d3⟩ := R2.cells; have HR2 := hid R2; have HK2 := hid K2; clear R2 K2) | (go_at_call 34; refine (HNO.out _ HR.out).mono ?_; rintro e w2 ⟨rfl, R2, K2⟩; rw [if_pos hb, if_pos hb] at R2; obtain ⟨d0, d1, d2, d3⟩ := R2.cells; have HR2 := hid R2; have HK2 := hid K2; clear R2 K2) | go_quiet (fail) | fail)
            go_ret
            refine ⟨(HK.out.and (Kept.drewN _ _ _)).and (HK2.out.and (Kept.drewN _ _ _)), .inr ⟨by rw [HQ.out], ⟨_, rfl⟩, p, by omega, ?_⟩⟩
            rw [HQ.out]
            exact HR2.out.kept (Kept.drewN (fun _ => False) _ _) (fun h => h)
        · have e0 : ¬ (p : Int) < (s.size : Int) := by omega
          clear HZ hp hde hd0
          go_wp2_with (first | (go_at_call 34; refine (HNO.out _ (HR.out.kept (Kept.drewN (fun _ => False) _ _) (fun h => h))).mono ?_; rintro e w2 ⟨rfl, R2, K2⟩; rw [if_pos hb, if_pos hb] at R2; obtain ⟨d0, d1, d2, d3⟩ := R2.cells; have HR2 := hid R2; have HK2 := hid K2; clear R2 K2) | (go_at_call 34; refine (HNO.out _ HR.out).mono ?_; rintro e w2 ⟨rfl, R2, K2⟩; rw [if_pos hb, if_pos hb] at R2; obtain ⟨d0, d1, d2, d3⟩ := R2.cells; have HR2 := hid R2; have HK2 := hid K2; clear R2 K2) | go_quiet (fail) | fail)
          go_ret
          refine ⟨(HK.out.and (Kept.drewN _ _ _)).and (HK2.out.and (Kept.drewN _ _ _)), .inr ⟨by rw [HQ.out], ⟨_, rfl⟩, p, by omega, ?_⟩⟩
          rw [HQ.out]
          exact HR2.out.kept (Kept.drewN (fun _ => False) _ _) (fun h => h)
      · have HQ : Hid (numT s i i = (subL s i p, p, true)) := by
          show numT s i i = _
          have h2 := HP.out
          unfold numT
          rw [if_neg (by omega)]
          by_cases hst : standsP s i 48 = true
          · obtain ⟨h3, h4⟩ := HZ.out hst
            rw [if_pos hst, if_neg (by omega), if_pos (by omega), show p = i + 1 by omega]
          · rw [if_neg hst, if_pos (by omega), show p = i + digRun s i by omega]
        have q2 : ((p : Int) == (i : Int)) = false := by rw [beq_eq_false_iff_ne]; omega
        by_cases hps : p < s.size
        · have e0 : (p : Int) < (s.size : Int) := by omega
          have hnd : isDig (s[p]'hps) = false := by subst hp; subst hde; exact digRun_end s hps
          have hix := ix_str s hps
          have hnn := (isDig_iff (s[p]'hps))
          rw [hnd] at hnn
          have HSP : Hid (numT s i i = numT s i i) := rfl
          clear HSP HZ hp hde hd0 hnd
          generalize (((s[p]'hps).toNat : Nat) : Int) = x at *
          by_cases g1 : x ≥ 48
          · have g2 : ¬ x ≤ 57 := fun h => Bool.noConfusion (hnn.2 ⟨g1, h⟩)
            clear hnn
            go_wp2_with (first | go_quiet (fail) | fail)
            go_ret
            refine ⟨HK.out.and (Kept.drewN _ _ _), .inl ⟨by rw [HQ.out], by rw [HQ.out]; rfl, ?_⟩⟩
            rw [HQ.out]
            exact HR.out.kept (Kept.drewN (fun _ => False) _ _) (fun h => h)
          · clear hnn
            go_wp2_with (first | go_quiet (fail) | fail)
            go_ret
            refine ⟨HK.out.and (Kept.drewN _ _ _), .inl ⟨by rw [HQ.out], by rw [HQ.out]; rfl, ?_⟩⟩
            rw [HQ.out]
            exact HR.out.kept (Kept.drewN (fun _ => False) _ _) (fun h => h)
        · have e0 : ¬ (p : Int) < (s.size : Int) := by omega
          clear HZ hp hde hd0
          go_wp2_with (first | go_quiet (fail) | fail)
          go_ret
          refine ⟨HK.out.and (Kept.drewN _ _ _), .inl ⟨by rw [HQ.out], by rw [HQ.out]; rfl, ?_⟩⟩
          rw [HQ.out]
          exact HR.out.kept (Kept.drewN (fun _ => False) _ _) (fun h => h)

set_option maxRecDepth 100000 in
set_option maxHeartbeats 8000000 in
theorem rnumM_any (w : World) (g : Nat) (s : ByteArray) (i : Nat) (bad why : Int) (hs : s.size ≤ 1000000000000) (hi : i < s.size) (hb : bad < 0) (R : RdrAt w g s i bad why) (hm : standsP s i 45 = true) :
    Calls Tryz.prog 58 #[.pointer (some ⟨g, 0, none⟩)] w (ValPost w g s bad why (numT s i (i + 1))) := by
  obtain ⟨c0, c1, c2, c3⟩ := R.cells
  have f1 := R.free 1
  have HR := hid R
  have hix := ix_str s hi
  have hib : (i : Int) ≤ 281474976710656 := by omega
  have hst := standsP_at hi 45
  rw [hm] at hst
  change (true = true ↔ (((s[i]'hi).toNat : Nat) : Int) = 45) at hst
  have hrl := digRun_le s (f := (i + 1)) (by omega)
  clear R hm
  generalize (((s[i]'hi).toNat : Nat) : Int) = cc at *
  obtain rfl : cc = 45 := hst.1 rfl
  have HJ : Hid (∀ n, True ∧ (True → NumJ w g s bad why i (i + 1) ((w.drewN n).setCell ⟨g, 1, none⟩ (.int .i64 ((i : Int) + 1))))) := fun n => ⟨trivial, fun _ => ⟨0, i + 1, rfl, Nat.zero_le _, by omega, fun _ => ⟨by omega, fun _ => rfl⟩, (HR.out.kept (Kept.drewN (fun _ => False) _ _) (fun h => h)).set1 _, (Kept.drewN _ _ _).and (Kept.setCell (S := fun k => k = g) _ ⟨g, 1, none⟩ _ rfl)⟩⟩
  have R1 := hid ((HR.out.kept (Kept.drewN (fun _ => False) w 0) (fun h => h)).set1 ((i : Int) + 1))
  clear hst R1
  go_enter Tryz.func58, Tryz.ntmps58
  go_wp2_with (first | go_quiet (fail) | fail)
  go_loopw [] (fun wr => NumJ w g s bad why i (i + 1) wr) (fun wr => s.size - rdrPlace wr g)
  case atStart => exact (HJ.out _).2 trivial
  case round =>
    obtain ⟨d, p, hp, hd, h15, hz, R, K⟩ := hrel
    clear HJ HR c0 c1 c2 c3 f1 hix
    obtain ⟨c0, c1, c2, c3⟩ := R.cells
    have f1 := R.free 1
    have HR := hid R
    have HK := hid K
    have HP := hid hp
    have HZ := hid hz
    have HNO := hid (fun V (R : RdrAt V g s (p : Int) bad why) => no_any V g s (p : Int) bad why (p : Int) 2 R)
    have hpb : (p : Int) ≤ 281474976710656 := by omega
    clear R K hz
    by_cases hlt : d < digRun s (i + 1)
    · obtain ⟨hl, hdg⟩ := digRun_at s hlt
      have hps : p < s.size := by omega
      have hdp : isDig (s[p]'hps) = true := by subst hp; exact hdg
      have hix := ix_str s hps
      obtain ⟨g1, g2⟩ := (isDig_iff _).1 hdp
      have e0 : (p : Int) < (s.size : Int) := by omega
      have g1' : (((s[p]'hps).toNat : Nat) : Int) ≥ 48 := g1
      have hfl : (i + 1) < s.size := by omega
      have hixf : ∀ W, (Instr.index 9 (.string s) (.int .i64 ((i : Int) + 1))).run Tryz.prog W = .ok (.int .u8 (((s[(i + 1)]'hfl).toNat : Nat) : Int)) W := ix_str s hfl
      have HS := hid (standsP_at hfl 48)
      change Hid (standsP s (i + 1) 48 = true ↔ (((s[(i + 1)]'hfl).toNat : Nat) : Int) = 48) at HS
      have HLT := hid hlt
      clear hdg hdp hl hlt hp g1
      generalize (((s[(i + 1)]'hfl).toNat : Nat) : Int) = z at *
      generalize (((s[p]'hps).toNat : Nat) : Int) = x at *
      by_cases hd0 : d = 0
      · have q1 : ¬ (p : Int) > ((i : Int) + 1) := by have := HP.out; omega
        have q2 : ((p : Int) == ((i : Int) + 1)) = true := by rw [beq_iff_eq]; have := HP.out; omega
        have q5 : ¬ (p : Int) - ((i : Int) + 1) ≥ 15 := by have := HP.out; omega
        have q3 : ((i : Int) + 1) > (i : Int) := by omega
        by_cases h48 : z = 48
        · have HQ : Hid (numT s i (i + 1) = ([], p, false)) := by
            show numT s i (i + 1) = _
            have h1 := HLT.out
            have h2 := HP.out
            unfold numT
            rw [if_neg (by omega), if_pos (HS.out.2 h48), if_pos (by omega), show p = i + 1 by omega]
          clear HS HZ
          subst h48
          go_wp2_with (first | (go_at_call 34; refine (HNO.out _ (HR.out.kept (Kept.drewN (fun _ => False) _ _) (fun h => h))).mono ?_; rintro e w2 ⟨rfl, R2, K2⟩; rw [if_pos hb, if_pos hb] at R2; obtain ⟨d0, d1, d2, d3⟩ := R2.cells; have HR2 := hid R2; have HK2 := hid K2; clear R2 K2) | (go_at_call 34; refine (HNO.out _ HR.out).mono ?_; rintro e w2 ⟨rfl, R2, K2⟩; rw [if_pos hb, if_pos hb] at R2; obtain ⟨d0, d1, d2, d3⟩ := R2.cells; have HR2 := hid R2; have HK2 := hid K2; clear R2 K2) | go_quiet (fail) | fail)
          go_ret
          refine ⟨(HK.out.and (Kept.drewN _ _ _)).and HK2.out, .inr ⟨by rw [HQ.out], ⟨_, rfl⟩, p, by omega, ?_⟩⟩
          rw [HQ.out]
          exact HR2.out
        · have z48 : (z == 48) = false := by rw [beq_eq_false_iff_ne]; exact h48
          have HN := hid (fun n => numJ_next (w := w) (wr := wr) (i := i) HP.out HLT.out (by omega) (fun h => absurd (HS.out.1 h) h48) HR.out HK.out hps n)
          clear HS HZ h48
          go_wp2_with (first | go_quiet (fail) | fail)
          exact HN.out _
      · have q1 : (p : Int) > ((i : Int) + 1) := by have := HP.out; omega
        have q2 : ((p : Int) == ((i : Int) + 1)) = false := by rw [beq_eq_false_iff_ne]; have := HP.out; omega
        by_cases h48 : z = 48
        · have HQ : Hid (numT s i (i + 1) = ([], p, false)) := by
            show numT s i (i + 1) = _
            have h1 := HLT.out
            have h2 := HP.out
            obtain ⟨h3, h4⟩ := HZ.out (HS.out.2 h48)
            unfold numT
            rw [if_neg (by omega), if_pos (HS.out.2 h48), if_neg (by omega), if_neg (by omega), show p = (i + 1) + 1 by omega]
          clear HS HZ
          subst h48
          go_wp2_with (first | (go_at_call 34; refine (HNO.out _ (HR.out.kept (Kept.drewN (fun _ => False) _ _) (fun h => h))).mono ?_; rintro e w2 ⟨rfl, R2, K2⟩; rw [if_pos hb, if_pos hb] at R2; obtain ⟨d0, d1, d2, d3⟩ := R2.cells; have HR2 := hid R2; have HK2 := hid K2; clear R2 K2) | (go_at_call 34; refine (HNO.out _ HR.out).mono ?_; rintro e w2 ⟨rfl, R2, K2⟩; rw [if_pos hb, if_pos hb] at R2; obtain ⟨d0, d1, d2, d3⟩ := R2.cells; have HR2 := hid R2; have HK2 := hid K2; clear R2 K2) | go_quiet (fail) | fail)
          go_ret
          refine ⟨(HK.out.and (Kept.drewN _ _ _)).and HK2.out, .inr ⟨by rw [HQ.out], ⟨_, rfl⟩, p, by omega, ?_⟩⟩
          rw [HQ.out]
          exact HR2.out
        · have z48 : (z == 48) = false := by rw [beq_eq_false_iff_ne]; exact h48
          by_cases hd15 : d = 15
          · have HQ : Hid (numT s i (i + 1) = ([], p, false)) := by
              show numT s i (i + 1) = _
              have h1 := HLT.out
              have h2 := HP.out
              unfold numT
              rw [if_neg (by omega), if_neg (fun h => h48 (HS.out.1 h)), if_neg (by omega), show p = (i + 1) + 15 by omega]
            have q5 : (p : Int) - ((i : Int) + 1) ≥ 15 := by have := HP.out; omega
            clear HS HZ h48
            go_wp2_with (first | (go_at_call 34; refine (HNO.out _ (HR.out.kept (Kept.drewN (fun _ => False) _ _) (fun h => h))).mono ?_; rintro e w2 ⟨rfl, R2, K2⟩; rw [if_pos hb, if_pos hb] at R2; obtain ⟨d0, d1, d2, d3⟩ := R2.cells; have HR2 := hid R2; have HK2 := hid K2; clear R2 K2) | (go_at_call 34; refine (HNO.out _ HR.out).mono ?_; rintro e w2 ⟨rfl, R2, K2⟩; rw [if_pos hb, if_pos hb] at R2; obtain ⟨d0, d1, d2, d3⟩ := R2.cells; have HR2 := hid R2; have HK2 := hid K2; clear R2 K2) | go_quiet (fail) | fail)
            go_ret
            refine ⟨(HK.out.and (Kept.drewN _ _ _)).and HK2.out, .inr ⟨by rw [HQ.out], ⟨_, rfl⟩, p, by omega, ?_⟩⟩
            rw [HQ.out]
            exact HR2.out
          · have q5 : ¬ (p : Int) - ((i : Int) + 1) ≥ 15 := by have := HP.out; omega
            have HN := hid (fun n => numJ_next (w := w) (wr := wr) (i := i) HP.out HLT.out (by omega) (fun h => absurd (HS.out.1 h) h48) HR.out HK.out hps n)
            clear HS HZ h48
            go_wp2_with (first | go_quiet (fail) | fail)
            exact HN.out _
    · have hde : d = digRun s (i + 1) := by omega
      have hpl : p ≤ s.size := by omega
      have hsl : ∀ W, (Instr.slice 9 (.string s) (some (.int .i64 (i : Int))) (some (.int .i64 (p : Int))) none).run Tryz.prog W = .ok (.string (mkB (subL s i p))) W := fun W => by
        rw [run_slice_string W _ _ _ _ _ _ Tryz.underlying9 (by omega) (by omega) (by omega)]
        rw [show ((i : Int)).toNat = i by omega, show ((p : Int)).toNat = p by omega, sub_extract]
      have HEX := hid (sub_extract s i p)
      have s1 : (0 : Int) ≤ (p : Int) := by omega
      have s2 : (p : Int) ≤ (s.size : Int) := by omega
      have s3 : (i : Int) ≤ (p : Int) := by omega
      have HD := hid hde
      by_cases hd0 : d = 0
      · have HQ : Hid (numT s i (i + 1) = ([], p, false)) := by
          show numT s i (i + 1) = _
          have h2 := HP.out
          unfold numT
          rw [if_pos (by omega), show p = (i + 1) by omega]
        have q2 : ((p : Int) == ((i : Int) + 1)) = true := by rw [beq_iff_eq]; omega
        by_cases hps : p < s.size
        · have e0 : (p : Int) < (s.size : Int) := by omega
          have hnd : isDig (s[p]'hps) = false := by subst hp; subst hde; exact digRun_end s hps
          have hix := ix_str s hps
          have hnn := (isDig_iff (s[p]'hps))
          rw [hnd] at hnn
          have HSP : Hid (numT s i (i + 1) = numT s i (i + 1)) := rfl
          clear HSP HZ hp hde hd0 hnd
          generalize (((s[p]'hps).toNat : Nat) : Int) = x at *
          by_cases g1 : x ≥ 48
          · have g2 : ¬ x ≤ 57 := fun h => Bool.noConfusion (hnn.2 ⟨g1, h⟩)
            clear hnn
            go_wp2_with (first | (go_at_call 34; refine (HNO.out _ (HR.out.kept (Kept.drewN (fun _ => False) _ _) (fun h => h))).mono ?_; rintro e w2 ⟨rfl, R2, K2⟩; rw [if_pos hb, if_pos hb] at R2; obtain ⟨d0, d1, d2, d3⟩ := R2.cells; have HR2 := hid R2; have HK2 := hid K2; clear R2 K2) | (go_at_call 34; refine (HNO.out _ HR.out).mono ?_; rintro e w2 ⟨rfl, R2, K2⟩; rw [if_pos hb, if_pos hb] at R2; obtain ⟨d0, d1, d2, d3⟩ := R2.cells; have HR2 := hid R2; have HK2 := hid K2; clear R2 K2) | go_quiet (fail) | fail)
            go_ret
            refine ⟨(HK.out.and (Kept.drewN _ _ _)).and (HK2.out.and (Kept.drewN _ _ _)), .inr ⟨by rw [HQ.out], ⟨_, rfl⟩, p, by omega, ?_⟩⟩
            rw [HQ.out]
            exact HR2.out.kept (Kept.drewN (fun _ => False) _ _) (fun h => h)
          · clear hnn
            go_wp2_with (first | (go_at_call 34; refine (HNO.out _ (HR.out.kept (Kept.drewN (fun _ => False) _ _) (fun h => h))).mono ?_; rintro e w2 ⟨rfl, R2, K2⟩; rw [if_pos hb, if_pos hb] at R2; obtain ⟨d0, d1, d2, d3⟩ := R2.cells; have HR2 := hid R2; have HK2 := hid K2; clear R2 K2) | (go_at_call 34; refine (HNO.out _ HR.out).mono ?_; rintro e w2 ⟨rfl, R2, K2⟩; rw [if_pos hb, if_pos hb] at R2; obtain ⟨d0, d1, d2, d3⟩ := R2.cells; have HR2 := hid R2; have HK2 := hid K2; clear R2 K2) | go_quiet (fail) | fail)
            go_ret
            refine ⟨(HK.out.and (Kept.drewN _ _ _)).and (HK2.out.and (Kept.drewN _ _ _)), .inr ⟨by rw [HQ.out], ⟨_, rfl⟩, p, by omega, ?_⟩⟩
            rw [HQ.out]
            exact HR2.out.kept (Kept.drewN (fun _ => False) _ _) (fun h => h)
        · have e0 : ¬ (p : Int) < (s.size : Int) := by omega
          clear HZ hp hde hd0
          go_wp2_with (first | (go_at_call 34; refine (HNO.out _ (HR.out.kept (Kept.drewN (fun _ => False) _ _) (fun h => h))).mono ?_; rintro e w2 ⟨rfl, R2, K2⟩; rw [if_pos hb, if_pos hb] at R2; obtain ⟨d0, d1, d2, d3⟩ := R2.cells; have HR2 := hid R2; have HK2 := hid K2; clear R2 K2) | (go_at_call 34; refine (HNO.out _ HR.out).mono ?_; rintro e w2 ⟨rfl, R2, K2⟩; rw [if_pos hb, if_pos hb] at R2; obtain ⟨d0, d1, d2, d3⟩ := R2.cells; have HR2 := hid R2; have HK2 := hid K2; clear R2 K2) | go_quiet (fail) | fail)
          go_ret
          refine ⟨(HK.out.and (Kept.drewN _ _ _)).and (HK2.out.and (Kept.drewN _ _ _)), .inr ⟨by rw [HQ.out], ⟨_, rfl⟩, p, by omega, ?_⟩⟩
          rw [HQ.out]
          exact HR2.out.kept (Kept.drewN (fun _ => False) _ _) (fun h => h)
      · have HQ : Hid (numT s i (i + 1) = (subL s i p, p, true)) := by
          show numT s i (i + 1) = _
          have h2 := HP.out
          unfold numT
          rw [if_neg (by omega)]
          by_cases hst : standsP s (i + 1) 48 = true
          · obtain ⟨h3, h4⟩ := HZ.out hst
            rw [if_pos hst, if_neg (by omega), if_pos (by omega), show p = (i + 1) + 1 by omega]
          · rw [if_neg hst, if_pos (by omega), show p = (i + 1) + digRun s (i + 1) by omega]
        have q2 : ((p : Int) == ((i : Int) + 1)) = false := by rw [beq_eq_false_iff_ne]; omega
        by_cases hps : p < s.size
        · have e0 : (p : Int) < (s.size : Int) := by omega
          have hnd : isDig (s[p]'hps) = false := by subst hp; subst hde; exact digRun_end s hps
          have hix := ix_str s hps
          have hnn := (isDig_iff (s[p]'hps))
          rw [hnd] at hnn
          have HSP : Hid (numT s i (i + 1) = numT s i (i + 1)) := rfl
          clear HSP HZ hp hde hd0 hnd
          generalize (((s[p]'hps).toNat : Nat) : Int) = x at *
          by_cases g1 : x ≥ 48
          · have g2 : ¬ x ≤ 57 := fun h => Bool.noConfusion (hnn.2 ⟨g1, h⟩)
            clear hnn
            go_wp2_with (first | go_quiet (fail) | fail)
            go_ret
            refine ⟨HK.out.and (Kept.drewN _ _ _), .inl ⟨by rw [HQ.out], by rw [HQ.out]; rfl, ?_⟩⟩
            rw [HQ.out]
            exact HR.out.kept (Kept.drewN (fun _ => False) _ _) (fun h => h)
          · clear hnn
            go_wp2_with (first | go_quiet (fail) | fail)
            go_ret
            refine ⟨HK.out.and (Kept.drewN _ _ _), .inl ⟨by rw [HQ.out], by rw [HQ.out]; rfl, ?_⟩⟩
            rw [HQ.out]
            exact HR.out.kept (Kept.drewN (fun _ => False) _ _) (fun h => h)
        · have e0 : ¬ (p : Int) < (s.size : Int) := by omega
          clear HZ hp hde hd0
          go_wp2_with (first | go_quiet (fail) | fail)
          go_ret
          refine ⟨HK.out.and (Kept.drewN _ _ _), .inl ⟨by rw [HQ.out], by rw [HQ.out]; rfl, ?_⟩⟩
          rw [HQ.out]
          exact HR.out.kept (Kept.drewN (fun _ => False) _ _) (fun h => h)

theorem rnum_any (w : World) (g : Nat) (s : ByteArray) (i : Nat) (bad why : Int) (hs : s.size ≤ 1000000000000) (hi : i < s.size) (hb : bad < 0) (R : RdrAt w g s i bad why) :
    Calls Tryz.prog 58 #[.pointer (some ⟨g, 0, none⟩)] w (ValPost w g s bad why (numR s i)) := by
  rw [numR_eq]
  cases hm : standsP s i 45 with
  | false => exact rnumP_any w g s i bad why hs hi hb R hm
  | true => exact rnumM_any w g s i bad why hs hi hb R hm

end Go.Proofs.YtfogkbdbncfleaaGreatDoor
