/-
  The document's reader: an escape, whole.
-/
import Derived.Test.YtfogkbdbncfleaaGreatDoorFRdr5
import Derived.Test.YtfogkbdbncfleaaGreatDoorFRead2
namespace Go.Proofs.YtfogkbdbncfleaaGreatDoor
open Go.RowKit

/-- What escape leaves. -/
def EscPost (w : World) (g : Nat) (s : ByteArray) (bad why : Int) (r : Int × Nat × Bool) (e : Ending) (w' : World) : Prop :=
  (r.2.2 = true ∧ EscOk w g s bad why (Lib.byteCells (Lib.encodeRune r.1)) r.2.1 e w') ∨ (r.2.2 = false ∧ EscNo w g s r.2.1 e w')

theorem validRune_small (n : Nat) (h : n < 65536) : Lib.validRune (n : Int) = true ↔ ¬ (55296 ≤ n ∧ n ≤ 57343) := by
  unfold Lib.validRune
  simp only [decide_eq_true_eq]
  omega

theorem pow16_le (j : Nat) (h : j ≤ 4) : 16 ^ j ≤ 65536 := by
  match j, h with
  | 0, _ => decide
  | 1, _ => decide
  | 2, _ => decide
  | 3, _ => decide
  | 4, _ => decide

set_option maxRecDepth 100000 in
set_option maxHeartbeats 8000000 in
theorem escU_any (w : World) (g : Nat) (s : ByteArray) (i : Nat) (bad why : Int) (hs : s.size ≤ 281474976710656) (hi : i + 1 < s.size) (hc : (((s[i + 1]'hi).toNat : Nat) : Int) = 117) (hb : bad < 0) (R : RdrAt w g s i bad why) :
    Calls Tryz.prog 57 #[.pointer (some ⟨g, 0, none⟩)] w (EscPost w g s bad why (hexF s i 4 (i + 2) 0)) := by
  obtain ⟨c0, c1, c2, c3⟩ := R.cells
  have f1 := R.free 1
  have R1 := R.set1 ((i : Int) + 1)
  obtain ⟨d0, d1, d2, d3⟩ := R1.cells
  have f2 := R1.free 1
  have HR1 := hid R1
  clear R R1
  have e0 : ¬ (i : Int) + 1 ≥ (s.size : Int) := by omega
  have hib : (i : Int) ≤ 281474976710656 := by omega
  have hix : ∀ W, (Instr.index 9 (.string s) (.int .i64 ((i : Int) + 1))).run Tryz.prog W = .ok (.int .u8 117) W := fun W => by
    have := ix_str s hi W
    rw [hc] at this
    exact this
  clear hc
  go_enter Tryz.func57, Tryz.ntmps57
  go_wp2_with (first | go_quiet (fail) | fail)
  go_loopw [5, 6, 7] (fun c v _ wr => ∃ (k j p n : Nat), p = i + 2 + j ∧ j + k = 4 ∧ p ≤ s.size ∧ c = .int .i64 (n : Int) ∧ v = .int .i64 (j : Int) ∧ RdrAt wr g s (p : Int) bad why ∧ Kept (fun k => k = g) w wr ∧ wr.heap.size = w.heap.size ∧ n < 16 ^ j ∧ hexF s i k p (n : Int) = hexF s i 4 (i + 2) 0) (fun _ v _ _ => 4 - (intOf v).toNat)
  case atStart => exact ⟨4, 0, i + 2, 0, rfl, rfl, by omega, rfl, rfl, (HR1.out.kept (Kept.drewN (fun _ => False) _ _) (fun h => h)).set1 _, ((Kept.setCell (S := fun k => k = g) _ ⟨g, 1, none⟩ _ rfl).and (Kept.drewN _ _ _)).and (Kept.setCell (S := fun k => k = g) _ ⟨g, 1, none⟩ _ rfl), by simp, by decide, rfl⟩
  case round =>
    obtain ⟨k, j, p, n, hp, hkj, hj, rfl, rfl, R, K, hz, hn, hF⟩ := hrel
    clear c0 c1 c2 c3 f1 d0 d1 d2 d3 f2 HR1 hix e0
    have HP := hid hp
    have HF := hid hF
    have HZ := hid hz
    have HK := hid K
    have HN := hid (fun V (R : RdrAt V g s (p : Int) bad why) => no_any V g s (p : Int) bad why (i : Int) 2 R)
    have HNE := hid (fun V (R : RdrAt V g s (p : Int) bad why) => no_any V g s (p : Int) bad why ((s.size : Nat) : Int) 2 R)
    obtain ⟨c0, c1, c2, c3⟩ := R.cells
    have f1 := R.free 1
    have HR := hid R
    have hn2 : n < 65536 := Nat.lt_of_lt_of_le hn (pow16_le j (by omega))
    clear hF hz K R
    cases k with
    | zero =>
      obtain rfl : j = 4 := by omega
      clear hp hkj
      have HE : Hid (hexF s i 0 p (n : Int) = if Lib.validRune (n : Int) then ((n : Int), p, true) else (0, i, false)) := rfl
      have hV := validRune_small n hn2
      by_cases hv : 55296 ≤ n ∧ n ≤ 57343
      · have HQ : Hid (hexF s i 4 (i + 2) 0 = (0, i, false)) := by
          show hexF s i 4 (i + 2) 0 = _
          rw [← HF.out, HE.out, if_neg (fun h => hV.1 h hv)]
        have q1 : ¬ (n : Int) < 55296 := by omega
        have q2 : ¬ (n : Int) > 57343 := by omega
        clear hV HE hn
        have HNN : Hid (hexF s i 0 p (n : Int) = hexF s i 4 (i + 2) 0) := HF.out
        clear HF
        generalize (n : Int) = z at *
        go_wp2_with (first
          | (go_at_call 34; refine (HN.out _ HR.out).mono ?_; rintro e w2 ⟨rfl, R2, K2⟩; rw [if_pos hb, if_pos hb] at R2)
          | fail)
        go_ret
        refine .inr ⟨by rw [HQ.out], ?_⟩
        rw [HQ.out]
        exact ⟨rfl, HK.out.and K2, p, hj, R2⟩
      · have HQ : Hid (hexF s i 4 (i + 2) 0 = ((n : Int), p, true)) := by
          show hexF s i 4 (i + 2) 0 = _
          rw [← HF.out, HE.out, if_pos (hV.2 hv)]
        have hC := fun W => rchar_any W n hn2 hv
        by_cases h1 : n < 55296
        · have q1 : (n : Int) < 55296 := by omega
          clear hV HE hn hv HF h1
          generalize (n : Int) = z at *
          go_wp2_with (first
            | (go_at_call 74; refine (hC _).mono ?_; rintro e w2 ⟨rfl, hw⟩; subst w2; clear hC)
            | fail)
          go_ret
          refine .inl ⟨by rw [HQ.out], ?_⟩
          rw [HQ.out]
          exact ⟨_, HK.out, HZ.out, (by rw [HZ.out]; rfl), rfl, HR.out⟩
        · have q1 : ¬ (n : Int) < 55296 := by omega
          have q2 : (n : Int) > 57343 := by omega
          clear hV HE hn hv HF h1
          generalize (n : Int) = z at *
          go_wp2_with (first
            | (go_at_call 74; refine (hC _).mono ?_; rintro e w2 ⟨rfl, hw⟩; subst w2; clear hC)
            | fail)
          go_ret
          refine .inl ⟨by rw [HQ.out], ?_⟩
          rw [HQ.out]
          exact ⟨_, HK.out, HZ.out, (by rw [HZ.out]; rfl), rfl, HR.out⟩
    | succ k =>
      have e0 : (j : Int) < 4 := by omega
      have HJ := hid hkj
      clear hp hkj
      by_cases hlt : p < s.size
      · have hix := ix_str s hlt
        have e1 : ¬ (p : Int) ≥ (s.size : Int) := by omega
        have hH := fun W => rhex_any W (s[p]'hlt)
        have hr := hexD_range (s[p]'hlt)
        have HG : Hid (¬ hexD (s[p]'hlt) < 0 → hexF s i (k + 1) p (n : Int) = hexF s i k (p + 1) ((n : Int) * 16 + hexD (s[p]'hlt))) := hexF_some hlt
        have HB : Hid (hexD (s[p]'hlt) < 0 → hexF s i (k + 1) p (n : Int) = (0, i, false)) := hexF_bad hlt
        have hpb : (p : Int) ≤ 281474976710656 := by omega
        have hnb : (n : Int) < 65536 := by omega
        generalize hexD (s[p]'hlt) = d at *
        generalize (((s[p]'hlt).toNat : Nat) : Int) = cc at *
        by_cases hd : d < 0
        · go_wp2_with (first
            | (go_at_call 34; refine (HN.out _ (HR.out.kept (Kept.drewN (fun _ => False) _ _) (fun h => h))).mono ?_; rintro e w2 ⟨rfl, R2, K2⟩; rw [if_pos hb, if_pos hb] at R2)
            | go_quiet (first | (go_at_call 73; exact (hH _).mono fun _ _ ⟨he, hw⟩ => ⟨he, _, hw⟩) | fail)
            | fail)
          go_ret
          refine .inr ⟨by rw [← HF.out, HB.out hd], ?_⟩
          rw [← HF.out, HB.out hd]
          exact ⟨rfl, (HK.out.and (Kept.drewN _ _ _)).and K2, p, hj, R2⟩
        · have hd0 : 0 ≤ d := by omega
          go_wp2_with (first
            | go_quiet (first | (go_at_call 73; exact (hH _).mono fun _ _ ⟨he, hw⟩ => ⟨he, _, hw⟩) | fail)
            | fail)
          go_roundw
          case rel =>
            have hdn : d = ((d.toNat : Nat) : Int) := by omega
            refine ⟨k, j + 1, p + 1, 16 * n + d.toNat, by have := HP.out; omega, by have := HJ.out; omega, by omega, ?_, by go_num, (HR.out.kept (Kept.drewN (fun _ => False) _ _) (fun h => h)).set1 _, (HK.out.and (Kept.drewN _ _ _)).and (Kept.setCell (S := fun k => k = g) _ ⟨g, 1, none⟩ _ rfl), by simpa using HZ.out, ?_, ?_⟩
            · congr 1; omega
            · rw [Nat.pow_succ]; omega
            · rw [← HF.out, HG.out hd]
              congr 1
              omega
          case measure => simp [intOf]; omega
      · have e1 : (p : Int) ≥ (s.size : Int) := by omega
        go_wp2_with (first
          | (go_at_call 34; refine (HNE.out _ (HR.out.kept (Kept.drewN (fun _ => False) _ _) (fun h => h))).mono ?_; rintro e w2 ⟨rfl, R2, K2⟩; rw [if_pos hb, if_pos hb] at R2)
          | go_quiet (fail)
          | fail)
        go_ret
        have hps : p = s.size := by omega
        refine .inr ⟨by rw [← HF.out, hexF_none (by omega)], ?_⟩
        rw [← HF.out, hexF_none (by omega)]
        exact ⟨rfl, (HK.out.and (Kept.drewN _ _ _)).and K2, p, hj, by rw [hps] at R2 ⊢; exact R2⟩

/-- An escape of one byte. -/
theorem enc_byte (v : Int) (h0 : 0 ≤ v) (h1 : v < 128) : Lib.byteCells (Lib.encodeRune v) = [.int .u8 v] := by
  have := enc1 v.toNat (by omega)
  rwa [show ((v.toNat : Nat) : Int) = v by omega] at this

theorem escape_any (w : World) (g : Nat) (s : ByteArray) (i : Nat) (bad why : Int) (hs : s.size ≤ 281474976710656) (hi : i < s.size) (hb : bad < 0) (R : RdrAt w g s i bad why) :
    Calls Tryz.prog 57 #[.pointer (some ⟨g, 0, none⟩)] w (EscPost w g s bad why (escP s i)) := by
  rcases Nat.lt_or_ge (i + 1) s.size with hlt | hge
  · have one : ∀ (v : Int), 0 ≤ v → v < 128 → escP s i = (v, i + 2, true) → ((((s[i + 1]'hlt).toNat : Nat) : Int) = 34 ∧ v = 34) ∨ ((((s[i + 1]'hlt).toNat : Nat) : Int) = 92 ∧ v = 92) ∨ ((((s[i + 1]'hlt).toNat : Nat) : Int) = 47 ∧ v = 47) ∨ ((((s[i + 1]'hlt).toNat : Nat) : Int) = 98 ∧ v = 8) ∨ ((((s[i + 1]'hlt).toNat : Nat) : Int) = 102 ∧ v = 12) ∨ ((((s[i + 1]'hlt).toNat : Nat) : Int) = 110 ∧ v = 10) ∨ ((((s[i + 1]'hlt).toNat : Nat) : Int) = 114 ∧ v = 13) ∨ ((((s[i + 1]'hlt).toNat : Nat) : Int) = 116 ∧ v = 9) → Calls Tryz.prog 57 #[.pointer (some ⟨g, 0, none⟩)] w (EscPost w g s bad why (escP s i)) := by
      intro v h0 h1 he hv
      refine (escOne_any w g s i bad why _ hs hlt rfl R v hv).mono fun e w' h => .inl ⟨by rw [he], ?_⟩
      rw [he]
      show EscOk w g s bad why (Lib.byteCells (Lib.encodeRune v)) (i + 2) e w'
      rw [enc_byte v h0 h1]
      exact h
    have hE : escP s i = if s[i + 1]'hlt = 34 ∨ s[i + 1]'hlt = 92 ∨ s[i + 1]'hlt = 47 then (((s[i + 1]'hlt).toNat : Int), i + 2, true)
      else if s[i + 1]'hlt = 98 then (8, i + 2, true) else if s[i + 1]'hlt = 102 then (12, i + 2, true) else if s[i + 1]'hlt = 110 then (10, i + 2, true)
      else if s[i + 1]'hlt = 114 then (13, i + 2, true) else if s[i + 1]'hlt = 116 then (9, i + 2, true) else if s[i + 1]'hlt = 117 then hexF s i 4 (i + 2) 0 else (0, i, false) := by
      unfold escP
      rw [get_lt s hlt]
    have hn := fun c : UInt8 => @UInt8.toNat_inj (s[i + 1]'hlt) c
    by_cases a1 : s[i + 1]'hlt = 34
    · exact one 34 (by decide) (by decide) (by rw [hE, if_pos (.inl a1), a1]; rfl) (.inl ⟨by rw [a1]; rfl, rfl⟩)
    by_cases a2 : s[i + 1]'hlt = 92
    · exact one 92 (by decide) (by decide) (by rw [hE, if_pos (.inr (.inl a2)), a2]; rfl) (.inr (.inl ⟨by rw [a2]; rfl, rfl⟩))
    by_cases a3 : s[i + 1]'hlt = 47
    · exact one 47 (by decide) (by decide) (by rw [hE, if_pos (.inr (.inr a3)), a3]; rfl) (.inr (.inr (.inl ⟨by rw [a3]; rfl, rfl⟩)))
    rw [if_neg (by rintro (h | h | h) <;> contradiction)] at hE
    by_cases a4 : s[i + 1]'hlt = 98
    · exact one 8 (by decide) (by decide) (by rw [hE, if_pos a4]) (.inr (.inr (.inr (.inl ⟨by rw [a4]; rfl, rfl⟩))))
    rw [if_neg a4] at hE
    by_cases a5 : s[i + 1]'hlt = 102
    · exact one 12 (by decide) (by decide) (by rw [hE, if_pos a5]) (.inr (.inr (.inr (.inr (.inl ⟨by rw [a5]; rfl, rfl⟩)))))
    rw [if_neg a5] at hE
    by_cases a6 : s[i + 1]'hlt = 110
    · exact one 10 (by decide) (by decide) (by rw [hE, if_pos a6]) (.inr (.inr (.inr (.inr (.inr (.inl ⟨by rw [a6]; rfl, rfl⟩))))))
    rw [if_neg a6] at hE
    by_cases a7 : s[i + 1]'hlt = 114
    · exact one 13 (by decide) (by decide) (by rw [hE, if_pos a7]) (.inr (.inr (.inr (.inr (.inr (.inr (.inl ⟨by rw [a7]; rfl, rfl⟩)))))))
    rw [if_neg a7] at hE
    by_cases a8 : s[i + 1]'hlt = 116
    · exact one 9 (by decide) (by decide) (by rw [hE, if_pos a8]) (.inr (.inr (.inr (.inr (.inr (.inr (.inr ⟨by rw [a8]; rfl, rfl⟩)))))))
    rw [if_neg a8] at hE
    by_cases a9 : s[i + 1]'hlt = 117
    · rw [if_pos a9] at hE
      rw [hE]
      exact escU_any w g s i bad why hs hlt (by rw [a9]; rfl) hb R
    rw [if_neg a9] at hE
    have ne : ∀ c : UInt8, s[i + 1]'hlt ≠ c → (((s[i + 1]'hlt).toNat : Nat) : Int) ≠ ((c.toNat : Nat) : Int) := fun c h e => h (UInt8.toNat_inj.1 (by omega))
    refine (escNone_any w g s i bad why _ hs hlt rfl hb R ⟨ne 34 a1, ne 92 a2, ne 47 a3, ne 98 a4, ne 102 a5, ne 110 a6, ne 114 a7, ne 116 a8, ne 117 a9⟩).mono fun e w' h => .inr ⟨by rw [hE], ?_⟩
    rw [hE]
    exact h
  · have hE : escP s i = (0, s.size, false) := by
      unfold escP
      rw [get_ge s hge]
    refine (escEnd_any w g s i bad why hs (by omega) hb R).mono fun e w' h => .inr ⟨by rw [hE], ?_⟩
    rw [hE]
    exact h

end Go.Proofs.YtfogkbdbncfleaaGreatDoor
