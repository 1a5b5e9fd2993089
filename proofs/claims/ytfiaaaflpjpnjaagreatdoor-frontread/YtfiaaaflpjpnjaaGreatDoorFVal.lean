/-
  utf8.Valid: for all bytes, whether they are UTF-8.
-/
import Derived.Test.YtfiaaaflpjpnjaaGreatDoorWM4
import Derived.Test.YtfiaaaflpjpnjaaGreatDoorFVl8t
import Derived.Test.YtfiaaaflpjpnjaaGreatDoorFVl8f
import Derived.Test.YtfiaaaflpjpnjaaGreatDoorFVl10t
import Derived.Test.YtfiaaaflpjpnjaaGreatDoorFVl10f
import Derived.Test.YtfiaaaflpjpnjaaGreatDoorFVl18a
import Derived.Test.YtfiaaaflpjpnjaaGreatDoorFVl18b
import Derived.Test.YtfiaaaflpjpnjaaGreatDoorFVl18c
import Derived.Test.YtfiaaaflpjpnjaaGreatDoorFVl18d
import Derived.Test.YtfiaaaflpjpnjaaGreatDoorFVl22a
import Derived.Test.YtfiaaaflpjpnjaaGreatDoorFVl22b
import Derived.Test.YtfiaaaflpjpnjaaGreatDoorFVl22c
import Derived.Test.YtfiaaaflpjpnjaaGreatDoorFVl22d
import Derived.Test.YtfiaaaflpjpnjaaGreatDoorFVl22e
import Derived.Test.YtfiaaaflpjpnjaaGreatDoorFVl22f
import Derived.Test.YtfiaaaflpjpnjaaGreatDoorFVl26a
import Derived.Test.YtfiaaaflpjpnjaaGreatDoorFVl26b
import Derived.Test.YtfiaaaflpjpnjaaGreatDoorFVl26c
import Derived.Test.YtfiaaaflpjpnjaaGreatDoorFVl26d
import Derived.Test.YtfiaaaflpjpnjaaGreatDoorFVl26e
import Derived.Test.YtfiaaaflpjpnjaaGreatDoorFVl26f
import Derived.Test.YtfiaaaflpjpnjaaGreatDoorFVl26g
import Derived.Test.YtfiaaaflpjpnjaaGreatDoorFVl26h
import Derived.Deep.LoopGhost
import Derived.Deep.CutRange
namespace Go.Proofs.YtfiaaaflpjpnjaaGreatDoor
open Go.RowKit

theorem cellKept5 {w w' : World} (K : Kept (fun _ => False) w w') {b o : Nat} {v : Value} (h : w.cell? ⟨b, o, none⟩ = some v) : w'.cell? ⟨b, o, none⟩ = some v :=
  (World.cell?_of_block (K.block b (World.block_lt_of_cell? w _ h) (fun h => h))).trans h

/-- The word there. -/
def wd (s : ByteArray) (k : Nat) : Nat := wordN (atB s k) (atB s (k + 1)) (atB s (k + 2)) (atB s (k + 3)) (atB s (k + 4)) (atB s (k + 5)) (atB s (k + 6)) (atB s (k + 7))

theorem wd_lt (s : ByteArray) (k : Nat) : wd s k < 18446744073709551616 := wordN_lt (atB_lt _ _) (atB_lt _ _) (atB_lt _ _) (atB_lt _ _) (atB_lt _ _) (atB_lt _ _) (atB_lt _ _) (atB_lt _ _)

theorem wd_low {s : ByteArray} {k : Nat} (h : wd s k &&& 9259542123273814144 = 0) (hk : k + 8 ≤ s.size) (j : Nat) (hj : j < 8) : ∃ h : k + j < s.size, (s[k + j]'h).toNat < 128 := by
  obtain ⟨a0, a1, a2, a3, a4, a5, a6, a7⟩ := word_low (atB_lt _ _) (atB_lt _ _) (atB_lt _ _) (atB_lt _ _) (atB_lt _ _) (atB_lt _ _) (atB_lt _ _) (atB_lt _ _) h
  refine ⟨by omega, ?_⟩
  rw [atB_is]
  have : j = 0 ∨ j = 1 ∨ j = 2 ∨ j = 3 ∨ j = 4 ∨ j = 5 ∨ j = 6 ∨ j = 7 := by omega
  rcases this with rfl | rfl | rfl | rfl | rfl | rfl | rfl | rfl <;> assumption

theorem low_nat {a : Nat} (ha : a < 18446744073709551616) (h : (bits BinOp.and IntKind.u64 (a : Int) 9259542123273814144 == 0) = true) : a &&& 9259542123273814144 = 0 := by
  have e := bits_and_u64_nat a 9259542123273814144 ha (by decide)
  rw [beq_iff_eq] at h
  have h2 := e.symm.trans h
  exact Int.ofNat_eq_zero.1 h2

theorem low1 {s : ByteArray} {k : Nat} (h : (bits BinOp.and IntKind.u64 ((wd s k : Nat) : Int) 9259542123273814144 == 0) = true) (hk : k + 8 ≤ s.size) (j : Nat) (hj : j < 8) : ∃ h : k + j < s.size, (s[k + j]'h).toNat < 128 := wd_low (low_nat (wd_lt _ _) h) hk j hj

theorem or64 {a c : Nat} (ha : a < 18446744073709551616) (hc : c < 18446744073709551616) : bits .or .u64 (a : Int) (c : Int) = ((a ||| c : Nat) : Int) ∧ a ||| c < 18446744073709551616 := by
  refine ⟨bits_or_u64_nat a c ha hc, ?_⟩
  have := Nat.or_lt_two_pow (n := 64) (x := a) (y := c) (by omega) (by omega)
  omega

theorem low2 {s : ByteArray} {k : Nat} (h : (bits BinOp.and IntKind.u64 (bits .or .u64 ((wd s k : Nat) : Int) ((wd s (k + 8) : Nat) : Int)) 9259542123273814144 == 0) = true) (hk : k + 16 ≤ s.size) (j : Nat) (hj : j < 16) : ∃ h : k + j < s.size, (s[k + j]'h).toNat < 128 := by
  have e := or64 (wd_lt s k) (wd_lt s (k + 8))
  rw [e.1] at h
  obtain ⟨h1, h2⟩ := or_low (low_nat e.2 h)
  by_cases hj8 : j < 8
  · exact wd_low h1 (by omega) j hj8
  · have := wd_low h2 (by omega) (j - 8) (by omega)
    rwa [show k + 8 + (j - 8) = k + j by omega] at this

theorem low4 {s : ByteArray} {k : Nat} (h : (bits BinOp.and IntKind.u64 (bits .or .u64 (bits .or .u64 ((wd s k : Nat) : Int) ((wd s (k + 8) : Nat) : Int)) (bits .or .u64 ((wd s (k + 16) : Nat) : Int) ((wd s (k + 24) : Nat) : Int))) 9259542123273814144 == 0) = true) (hk : k + 32 ≤ s.size) (j : Nat) (hj : j < 32) : ∃ h : k + j < s.size, (s[k + j]'h).toNat < 128 := by
  have e := or64 (wd_lt s k) (wd_lt s (k + 8))
  have f := or64 (wd_lt s (k + 16)) (wd_lt s (k + 24))
  have g := or64 e.2 f.2
  rw [e.1, f.1, g.1] at h
  obtain ⟨h1, h2⟩ := or_low (low_nat g.2 h)
  obtain ⟨h3, h4⟩ := or_low h1
  obtain ⟨h5, h6⟩ := or_low h2
  by_cases j8 : j < 8
  · exact wd_low h3 (by omega) j j8
  by_cases j16 : j < 16
  · have := wd_low h4 (by omega) (j - 8) (by omega)
    rwa [show k + 8 + (j - 8) = k + j by omega] at this
  by_cases j24 : j < 24
  · have := wd_low h5 (by omega) (j - 16) (by omega)
    rwa [show k + 16 + (j - 16) = k + j by omega] at this
  · have := wd_low h6 (by omega) (j - 24) (by omega)
    rwa [show k + 24 + (j - 24) = k + j by omega] at this

/-- Bytes that lie somewhere. -/
def BsAt (w : World) (b o : Nat) (s : ByteArray) : Prop := ∀ j, j < s.size → w.cell? ⟨b, o + j, none⟩ = some (.int .u8 ((atB s j : Nat) : Int))

theorem BsAt.kept {w w' : World} {b o : Nat} {s : ByteArray} (h : BsAt w b o s) (K : Kept (fun _ => False) w w') : BsAt w' b o s := fun j hj => cellKept5 K (h j hj)

theorem word_at {w W : World} {b o n q k : Nat} {s : ByteArray} (B : BsAt w b o s) (K : Kept (fun _ => False) w W) (hn : 8 ≤ n) (hk : k + 8 ≤ s.size) (hq : q = o + k) :
    Calls Tryz.prog 41 #[.slice (some ⟨b, q, none⟩) n n] W fun e w' => e = .returned (.int .u64 ((wd s k : Nat) : Int)) ∧ Kept (fun _ => False) W w' := by
  subst hq
  have B2 := B.kept K
  have c : ∀ j, j < 8 → W.cell? ⟨b, o + k + j, none⟩ = some (.int .u8 ((atB s (k + j) : Nat) : Int)) := fun j hj => by
    rw [Nat.add_assoc]
    exact B2 (k + j) (by omega)
  refine (word_any W b (o + k) n _ _ _ _ _ _ _ _ hn (atB_lt _ _) (atB_lt _ _) (atB_lt _ _) (atB_lt _ _) (atB_lt _ _) (atB_lt _ _) (atB_lt _ _) (atB_lt _ _) (c 0 (by decide)) (c 1 (by decide)) (c 2 (by decide)) (c 3 (by decide)) (c 4 (by decide)) (c 5 (by decide)) (c 6 (by decide)) (c 7 (by decide))).mono fun e w' ⟨he, n', hw⟩ => ⟨he, ?_⟩
  rw [hw]
  exact Kept.drewN _ _ _

set_option maxRecDepth 100000 in
set_option maxHeartbeats 16000000 in
theorem valid8_any (w : World) (ad : Option Addr) (cp b o : Nat) (s : ByteArray) (had : 0 < s.size → ad = some ⟨b, o, none⟩) (hcp : s.size ≤ cp) (B : BsAt w b o s) (T : Utf8At w) :
    Calls Tryz.prog 15 #[.slice ad s.size cp] w fun e w' => e = .returned (.bool (vf s 0)) ∧ Kept (fun _ => False) w w' := by
  have HB := hid B
  have HT := hid T
  have hcp1 : ((s.size : Nat) : Int) ≤ (cp : Int) := by omega
  clear B T
  go_enter Tryz.func15, Tryz.ntmps15
  go_wp2
  go_loopg [0, 3, 4, 5, 6] s.size (fun gk v v3 v4 v5 v6 wr => ∃ (k m : Nat) (a1 : Option Addr), k + m = s.size ∧ gk = m ∧ v = .slice a1 m m ∧ (0 < m → a1 = some ⟨b, o + k, none⟩) ∧ vf s k = vf s 0 ∧ Kept (fun _ => False) w wr)
  case atStart => exact ⟨0, s.size, _, by omega, rfl, rfl, fun h => by simpa using had h, rfl, Kept.refl _ _⟩
  case round =>
    obtain ⟨k, m, a1, hkm, hgk, rfl, ha1, hv, Kr⟩ := hrel
    have HV := hid hv
    have HKr := hid Kr
    clear hv Kr
    rcases Nat.eq_zero_or_pos m with h0 | h0
    · subst h0
      have HF := hid (vf_end (s := s) (k := k) (by omega))
      go_wp2
      go_ret
      exact ⟨by rw [← HV.out, HF.out]; rfl, HKr.out⟩
    · obtain rfl := ha1 h0
      have e1 : (0 : Int) < (m : Int) := by omega
      have c0 := HB.out.kept HKr.out k (by omega)
      obtain ⟨p0, hp0⟩ : ∃ p0, p0 = atB s k := ⟨_, rfl⟩
      have hp256 : p0 < 256 := by rw [hp0]; exact atB_lt _ _
      have HP0 : Hid (atB s k = p0) := hp0.symm
      rw [← hp0] at c0
      clear hp0
      by_cases h128 : p0 < 128
      · have h128' : atB s k < 128 := by rw [HP0.out]; exact h128
        have e0 : ((p0 : Nat) : Int) < 128 := by omega
        have f1 : (1 : Int) ≤ (m : Int) := by omega
        have HV1 := hid ((vf_ascii (s := s) (k := k) (by omega) (by rw [atB_is (by omega)]; exact h128')).symm.trans HV.out)
        by_cases hm1 : m = 1
        · subst hm1
          go_wp2
          go_roundg 0
          case measure => omega
          case rel => exact ⟨k + 1, 0, _, by omega, rfl, rfl, fun h => absurd h (by decide), HV1.out, HKr.out⟩
        · obtain ⟨m1, hm1e⟩ : ∃ m1, m1 = m - 1 := ⟨_, rfl⟩
          obtain ⟨q1, hq1⟩ : ∃ q1, q1 = o + (k + 1) := ⟨_, rfl⟩
          have HM1 := hid hm1e
          have HQ1 := hid hq1
          have HM1P : Hid (0 < m1 ∧ k + 1 + m1 = s.size) := by show _ ∧ _; omega
          clear hm1e hq1
          have z1 : ¬ m = 1 := hm1
          go_upto_region 5 with fail
          go_cut [0] from 13 to 187 (fun v wx => v = .slice (some ⟨b, q1, none⟩) m1 m1 ∧ wx = wr)
          case first =>
            go_wp2_with fail
            go_meet
            case rel => exact ⟨by rw [HQ1.out, HM1.out]; rfl, rfl⟩
          case rest =>
            obtain ⟨hc0, hcw⟩ := hcut
            subst wc
            subst hc0
            obtain ⟨hp1, hp2⟩ := HM1P.out
            by_cases h8 : 8 < m1
            · have hm8 : (8 : Int) < (m1 : Int) := by omega
              have z8 : ¬ m1 = 8 := by omega
              have f8 : (8 : Int) ≤ (m1 : Int) := by omega
              obtain ⟨c1, hc1⟩ : ∃ c1, (bits BinOp.and IntKind.u64 ((wd s (k + 1) : Nat) : Int) 9259542123273814144 == 0) = c1 := ⟨_, rfl⟩
              have HC1 : Hid (c1 = true → vf s (k + 1) = vf s (k + 1 + 8)) := fun hc => vf_run 8 (k + 1) (fun j hj => low1 (hc1.trans hc) (by omega) j hj)
              have hW1 : Calls Tryz.prog 41 #[.slice (some ⟨b, q1, none⟩) m1 m1] wr fun e w' => e = .returned (.int .u64 ((wd s (k + 1) : Nat) : Int)) ∧ Kept (fun _ => False) wr w' := word_at HB.out HKr.out (k := k + 1) (by omega) (by omega) HQ1.out
              cases c1 with
              | false =>
                go_wp2_with (first
                  | (go_at_call 41; refine hW1.mono ?_; rintro e w4 ⟨rfl, K4⟩; clear hW1; have HK4 := hid (HKr.out.and K4); clear K4)
                  | fail)
                go_roundg m1
                case measure => omega
                case rel => exact ⟨k + 1, m1, _, by omega, rfl, rfl, fun _ => by rw [HQ1.out], HV1.out, HK4.out⟩
              | true =>
                have HV2' := hid ((HC1.out rfl).symm.trans HV1.out)
                go_upto_region 8 with (first
                  | (go_at_call 41; refine hW1.mono ?_; rintro e w4 ⟨rfl, K4⟩; clear hW1; have HK4 := hid (HKr.out.and K4); clear K4)
                  | fail)
                clear hc1
                by_cases h16 : 16 < m1 - 8
                · have hm16 : (16 : Int) < ((m1 - 8 : Nat) : Int) := by omega
                  obtain ⟨c2, hc2⟩ : ∃ c2, (bits BinOp.and IntKind.u64 (bits .or .u64 ((wd s (k + 1 + 8) : Nat) : Int) ((wd s (k + 1 + 16) : Nat) : Int)) 9259542123273814144 == 0) = c2 := ⟨_, rfl⟩
                  have HC2 : Hid (c2 = true → vf s (k + 1 + 8) = vf s (k + 1 + 8 + 16)) := fun hc => vf_run 16 (k + 1 + 8) (fun j hj => low2 (hc2.trans hc) (by omega) j hj)
                  refine wp_onlyN (val8t (W := w4) _ (fun _ _ => trivial) hm16 (fun V KV => word_at HB.out (HK4.out.and KV) (k := k + 1 + 8) (by omega) (by omega) (by rw [HQ1.out]; omega)) (fun V KV => word_at HB.out (HK4.out.and KV) (k := k + 1 + 16) (by omega) (by omega) (by rw [HQ1.out]; omega)) hc2 ?_)
                  intro v34 v35 v36 v37 v38 v39 v40 v41 v42 v43 v44 v45 w5 K5
                  have HK3 := hid (HK4.out.and K5)
                  clear K5
                  have z16 : ¬ m1 - 8 = 16 := by omega
                  have f16 : (16 : Int) ≤ ((m1 - 8 : Nat) : Int) := by omega
                  cases c2 with
                  | false =>
                    go_wp2
                    go_roundg (m1 - 8)
                    case measure => omega
                    case rel => exact ⟨k + 1 + 8, m1 - 8, _, by omega, rfl, rfl, fun _ => by rw [show o + (k + 1 + 8) = o + (k + 1) + 8 by omega, HQ1.out], HV2'.out, HK3.out⟩
                  | true =>
                    have HV3 := hid ((HC2.out rfl).symm.trans HV2'.out)
                    go_wp2
                    go_loopg [0] (m1 - 8 - 16) (fun gk v wx => ∃ (k2 m2 : Nat) (ad2 : Option Addr), k2 + m2 = s.size ∧ gk = m2 ∧ k + 1 ≤ k2 ∧ v = .slice ad2 m2 m2 ∧ (0 < m2 → ad2 = some ⟨b, o + k2, none⟩) ∧ vf s k2 = vf s 0 ∧ Kept (fun _ => False) w wx)
                    case atStart => exact ⟨k + 1 + 8 + 16, m1 - 8 - 16, _, by omega, rfl, by omega, rfl, fun _ => by rw [show o + (k + 1 + 8 + 16) = o + (k + 1) + 8 + 16 by omega, HQ1.out], HV3.out, HK3.out⟩
                    case round =>
                      obtain ⟨k2, m2, ad2, hkm2, hgk2, hk2, rfl, had2, hv2, Kr2⟩ := hrel
                      have HKr2 := hid Kr2
                      have HV2 := hid hv2
                      clear Kr2 hv2
                      by_cases h32 : 32 < m2
                      · obtain rfl := had2 (by omega)
                        have hm32 : (32 : Int) < (m2 : Int) := by omega
                        obtain ⟨c3, hc3⟩ : ∃ c3, (bits BinOp.and IntKind.u64 (bits .or .u64 (bits .or .u64 ((wd s k2 : Nat) : Int) ((wd s (k2 + 8) : Nat) : Int)) (bits .or .u64 ((wd s (k2 + 16) : Nat) : Int) ((wd s (k2 + 24) : Nat) : Int))) 9259542123273814144 == 0) = c3 := ⟨_, rfl⟩
                        have HC3 : Hid (c3 = true → vf s k2 = vf s (k2 + 32)) := fun hc => vf_run 32 k2 (fun j hj => low4 (hc3.trans hc) (by omega) j hj)
                        go_wp2
                        refine wp_onlyN (val10t (W := wr) _ (fun _ _ => trivial) hm32 (fun V KV => word_at HB.out (HKr2.out.and KV) (k := k2) (by omega) (by omega) rfl) (fun V KV => word_at HB.out (HKr2.out.and KV) (k := k2 + 8) (by omega) (by omega) (by omega)) (fun V KV => word_at HB.out (HKr2.out.and KV) (k := k2 + 16) (by omega) (by omega) (by omega)) (fun V KV => word_at HB.out (HKr2.out.and KV) (k := k2 + 24) (by omega) (by omega) (by omega)) hc3 ?_)
                        intro v49 v50 v51 v52 v53 v54 v55 v56 v57 v58 v59 v60 v61 v62 v63 v64 v65 v66 v67 v68 w8 K8
                        have HK8 := hid (HKr2.out.and K8)
                        clear K8
                        have z32 : ¬ m2 = 32 := by omega
                        have f32 : (32 : Int) ≤ (m2 : Int) := by omega
                        cases c3 with
                        | true =>
                          go_wp2
                          go_roundg (m2 - 32)
                          case measure => omega
                          case rel => exact ⟨k2 + 32, m2 - 32, _, by omega, by omega, by omega, rfl, fun _ => by rw [show o + (k2 + 32) = o + k2 + 32 by omega], (HC3.out trivial).symm.trans HV2.out, HK8.out⟩
                        | false =>
                          go_wp2
                          go_roundg m2
                          case measure => omega
                          case rel => exact ⟨k2, m2, _, by omega, by omega, rfl, fun _ => rfl, HV2.out, HK8.out⟩
                      · have hm32' : ¬ (32 : Int) < (m2 : Int) := by omega
                        go_wp2
                        have hm32 : ¬ (32 : Int) < (m2 : Int) := by omega
                        refine wp_onlyN (val10f (W := wr) _ (fun _ _ => trivial) hm32 ?_)
                        intro v49 v50 v51 v52 v53 v54 v55 v56 v57 v58 v59 v60 v61 v62 v63 v64 v65 v66 v67 v68 w8 K8
                        have HK8 := hid (HKr2.out.and K8)
                        clear K8
                        go_wp2
                        go_roundg m2
                        case measure => omega
                        case rel => exact ⟨k2, m2, _, by omega, by omega, rfl, had2, HV2.out, HK8.out⟩
                · have hm16 : ¬ (16 : Int) < ((m1 - 8 : Nat) : Int) := by omega
                  refine wp_onlyN (val8f (W := w4) _ (fun _ _ => trivial) hm16 ?_)
                  intro v34 v35 v36 v37 v38 v39 v40 v41 v42 v43 v44 v45 w5 K5
                  have HK3 := hid (HK4.out.and K5)
                  clear K5
                  go_wp2
                  go_roundg (m1 - 8)
                  case measure => omega
                  case rel => exact ⟨k + 1 + 8, m1 - 8, _, by omega, rfl, rfl, fun _ => by rw [show o + (k + 1 + 8) = o + (k + 1) + 8 by omega, HQ1.out], HV2'.out, HK3.out⟩
            · have hm8 : ¬ (8 : Int) < (m1 : Int) := by omega
              go_wp2
              go_roundg m1
              case measure => omega
              case rel => exact ⟨k + 1, m1, _, by omega, rfl, rfl, fun _ => by rw [HQ1.out], HV1.out, HKr.out⟩
      · skip
        have e0 : ¬ ((p0 : Nat) : Int) < 128 := by omega
        have t0 := (HT.out.kept HKr.out).1 p0 hp256
        dsimp only [Tryz.decodeL_ren] at t0
        rcases lead p0 (by omega) hp256 with ⟨hx, hbad⟩ | ⟨sz, ai, hx, hsz, hai, hslow⟩
        · rw [hx] at t0
          obtain ⟨t1, t2⟩ := (HT.out.kept HKr.out).2 15 (by decide)
          dsimp only [Tryz.decodeL_ren] at t1 t2
          have HF : Hid (vf s k = false) := vf_wrong (by omega) (by rw [HP0.out]; exact hbad _ _ _ _)
          have ba : bits BinOp.and IntKind.u8 241 7 = 1 := by decide
          go_wp2
          go_ret
          exact ⟨by rw [HV.out.symm.trans HF.out]; rfl, HKr.out.and (Kept.alloc _ _ _)⟩
        · have t1 := (HT.out.kept HKr.out).2 ai (by omega)
          dsimp only [Tryz.decodeL_ren] at t1
          obtain ⟨t1, t2⟩ := t1
          obtain ⟨lo, hlo⟩ : ∃ lo, lo = Lib.accLo ai := ⟨_, rfl⟩
          obtain ⟨hi, hhi⟩ : ∃ hi, hi = Lib.accHi ai := ⟨_, rfl⟩
          rw [← hlo] at t1
          rw [← hhi] at t2
          have HCH := vf_char (s := s) (k := k) (sz := sz) (lo := lo) (hi := hi) (by omega) (by omega) (by omega) (by rw [hlo, hhi, HP0.out]; exact hslow _ _ _ _ (by omega) (atB_lt _ _) (atB_lt _ _) (atB_lt _ _))
          rw [show s.size - k = m by omega] at HCH
          have HBad := hid HCH.1
          have HGood := hid HCH.2
          obtain ⟨X, hX⟩ : ∃ X, X = ai * 16 + sz := ⟨_, rfl⟩
          rw [hx, ← hX] at t0
          have o1 : 2 * ai = X / 16 * 2 := by omega
          rw [o1] at t1 t2
          have x8 : ((X : Nat) : Int) % 8 = (sz : Int) := by omega
          have x16 : X / 16 < 16 := by omega
          have x16' : ((X : Nat) : Int) / 16 < 16 := by omega
          clear hslow hlo hhi HCH hX hx o1
          rcases hsz with rfl | rfl | rfl
          · go_upto_region 18 with fail
            have HK4 := hid (HKr.out.and (Kept.alloc (fun _ => False) wr (.cells #[.int .u8 (lo : Int), .int .u8 (hi : Int)] 65)))
            have hbx := heap_alloc_new wr (.cells #[.int .u8 (lo : Int), .int .u8 (hi : Int)] 65)
            generalize wr.alloc (.cells #[.int .u8 (lo : Int), .int .u8 (hi : Int)] 65) = w4 at *
            generalize wr.heap.size = ga at *
            have HBX := hid hbx
            clear hbx t0 t1 t2 c0 x8 x16 x16'
            by_cases p0 : m < 2
            · have q0 : (m : Int) < 2 := by omega
              have HF := hid (HBad.out (by unfold badN; omega))
              refine wp_onlyN (val18a (W := w4) _ (fun _ _ => trivial) (q0 := q0) (h := ?_))
              intro v85 v86 v87 v88 v89 v90 v91 v92 v93 v94 v95 v96 v97 v98 v99 v100 v101 v102 w9 K9
              have HK9 := hid (HK4.out.and K9)
              clear K9
              go_wp2
              go_ret
              exact ⟨by rw [HV.out.symm.trans HF.out]; rfl, HK9.out⟩
            · have q0 : ¬ (m : Int) < 2 := by omega
              have HSt : Hid (∀ V, Kept (fun _ => False) w4 V → V.cell? ⟨b, o + k + 1, none⟩ = some (.int .u8 ((atB s (k + 1) : Nat) : Int)) ∧ V.cell? ⟨ga, 0, none⟩ = some (.int .u8 (lo : Int)) ∧ V.cell? ⟨ga, 1, none⟩ = some (.int .u8 (hi : Int))) := fun V KV => ⟨by rw [Nat.add_assoc]; exact HB.out.kept (HK4.out.and KV) (k + 1) (by omega), cellKept5 KV (by simp [World.cell?, HBX.out]), cellKept5 KV (by simp [World.cell?, HBX.out])⟩
              have e1 : (1 : Int) < (m : Int) := by omega
              by_cases p1 : atB s (k + 1) < lo
              · have q1 : ((atB s (k + 1) : Nat) : Int) < (lo : Int) := by omega
                have HF := hid (HBad.out (by unfold badN; omega))
                refine wp_onlyN (val18b (W := w4) _ HSt.out (q0 := q0) (q1 := q1) (e1 := e1) (h := ?_))
                intro v85 v86 v87 v88 v89 v90 v91 v92 v93 v94 v95 v96 v97 v98 v99 v100 v101 v102 w9 K9
                have HK9 := hid (HK4.out.and K9)
                clear K9
                go_wp2
                go_ret
                exact ⟨by rw [HV.out.symm.trans HF.out]; rfl, HK9.out⟩
              · have q1 : ¬ ((atB s (k + 1) : Nat) : Int) < (lo : Int) := by omega
                by_cases p2 : hi < atB s (k + 1)
                · have q2 : (hi : Int) < ((atB s (k + 1) : Nat) : Int) := by omega
                  have HF := hid (HBad.out (by unfold badN; omega))
                  refine wp_onlyN (val18c (W := w4) _ HSt.out (q0 := q0) (q1 := q1) (q2 := q2) (e1 := e1) (h := ?_))
                  intro v85 v86 v87 v88 v89 v90 v91 v92 v93 v94 v95 v96 v97 v98 v99 v100 v101 v102 w9 K9
                  have HK9 := hid (HK4.out.and K9)
                  clear K9
                  go_wp2
                  go_ret
                  exact ⟨by rw [HV.out.symm.trans HF.out]; rfl, HK9.out⟩
                · have q2 : ¬ (hi : Int) < ((atB s (k + 1) : Nat) : Int) := by omega
                  have HG := hid ((HGood.out (by unfold badN; omega)).symm.trans HV.out)
                  refine wp_onlyN (val18d (W := w4) _ HSt.out (q0 := q0) (q1 := q1) (q2 := q2) (e1 := e1) (h := ?_))
                  intro v85 v86 v87 v88 v89 v90 v91 v92 v93 v94 v95 v96 v97 v98 v99 v100 v101 v102 w9 K9
                  have HK9 := hid (HK4.out.and K9)
                  clear K9
                  have f2 : (2 : Int) ≤ (m : Int) := by omega
                  by_cases hmk : m = 2
                  · subst hmk
                    go_wp2
                    go_roundg 0
                    case measure => omega
                    case rel => exact ⟨k + 2, 0, _, by omega, rfl, rfl, fun h => absurd h (by decide), HG.out, HK9.out⟩
                  · go_wp2
                    go_roundg (m - 2)
                    case measure => omega
                    case rel => exact ⟨k + 2, m - 2, _, by omega, rfl, rfl, fun _ => by rw [show o + (k + 2) = o + k + 2 by omega], HG.out, HK9.out⟩
          · go_upto_region 22 with fail
            have HK4 := hid (HKr.out.and (Kept.alloc (fun _ => False) wr (.cells #[.int .u8 (lo : Int), .int .u8 (hi : Int)] 65)))
            have hbx := heap_alloc_new wr (.cells #[.int .u8 (lo : Int), .int .u8 (hi : Int)] 65)
            generalize wr.alloc (.cells #[.int .u8 (lo : Int), .int .u8 (hi : Int)] 65) = w4 at *
            generalize wr.heap.size = ga at *
            have HBX := hid hbx
            clear hbx t0 t1 t2 c0 x8 x16 x16'
            by_cases p0 : m < 3
            · have q0 : (m : Int) < 3 := by omega
              have HF := hid (HBad.out (by unfold badN; omega))
              refine wp_onlyN (val22a (W := w4) _ (fun _ _ => trivial) (q0 := q0) (h := ?_))
              intro v108 v109 v110 v111 v112 v113 v114 v115 v116 v117 v118 v119 v120 v121 v122 v123 v124 v125 v126 v127 v128 v129 v130 v131 v132 v133 v134 v135 v136 v137 w9 K9
              have HK9 := hid (HK4.out.and K9)
              clear K9
              go_wp2
              go_ret
              exact ⟨by rw [HV.out.symm.trans HF.out]; rfl, HK9.out⟩
            · have q0 : ¬ (m : Int) < 3 := by omega
              have HSt : Hid (∀ V, Kept (fun _ => False) w4 V → V.cell? ⟨b, o + k + 1, none⟩ = some (.int .u8 ((atB s (k + 1) : Nat) : Int)) ∧ V.cell? ⟨b, o + k + 2, none⟩ = some (.int .u8 ((atB s (k + 2) : Nat) : Int)) ∧ V.cell? ⟨ga, 0, none⟩ = some (.int .u8 (lo : Int)) ∧ V.cell? ⟨ga, 1, none⟩ = some (.int .u8 (hi : Int))) := fun V KV => ⟨by rw [Nat.add_assoc]; exact HB.out.kept (HK4.out.and KV) (k + 1) (by omega), by rw [Nat.add_assoc]; exact HB.out.kept (HK4.out.and KV) (k + 2) (by omega), cellKept5 KV (by simp [World.cell?, HBX.out]), cellKept5 KV (by simp [World.cell?, HBX.out])⟩
              have e1 : (1 : Int) < (m : Int) := by omega
              by_cases p1 : atB s (k + 1) < lo
              · have q1 : ((atB s (k + 1) : Nat) : Int) < (lo : Int) := by omega
                have HF := hid (HBad.out (by unfold badN; omega))
                refine wp_onlyN (val22b (W := w4) _ HSt.out (q0 := q0) (q1 := q1) (e1 := e1) (h := ?_))
                intro v108 v109 v110 v111 v112 v113 v114 v115 v116 v117 v118 v119 v120 v121 v122 v123 v124 v125 v126 v127 v128 v129 v130 v131 v132 v133 v134 v135 v136 v137 w9 K9
                have HK9 := hid (HK4.out.and K9)
                clear K9
                go_wp2
                go_ret
                exact ⟨by rw [HV.out.symm.trans HF.out]; rfl, HK9.out⟩
              · have q1 : ¬ ((atB s (k + 1) : Nat) : Int) < (lo : Int) := by omega
                by_cases p2 : hi < atB s (k + 1)
                · have q2 : (hi : Int) < ((atB s (k + 1) : Nat) : Int) := by omega
                  have HF := hid (HBad.out (by unfold badN; omega))
                  refine wp_onlyN (val22c (W := w4) _ HSt.out (q0 := q0) (q1 := q1) (q2 := q2) (e1 := e1) (h := ?_))
                  intro v108 v109 v110 v111 v112 v113 v114 v115 v116 v117 v118 v119 v120 v121 v122 v123 v124 v125 v126 v127 v128 v129 v130 v131 v132 v133 v134 v135 v136 v137 w9 K9
                  have HK9 := hid (HK4.out.and K9)
                  clear K9
                  go_wp2
                  go_ret
                  exact ⟨by rw [HV.out.symm.trans HF.out]; rfl, HK9.out⟩
                · have q2 : ¬ (hi : Int) < ((atB s (k + 1) : Nat) : Int) := by omega
                  have e2 : (2 : Int) < (m : Int) := by omega
                  by_cases p3 : atB s (k + 2) < 128
                  · have q3 : ((atB s (k + 2) : Nat) : Int) < 128 := by omega
                    have HF := hid (HBad.out (by unfold badN; omega))
                    refine wp_onlyN (val22d (W := w4) _ HSt.out (q0 := q0) (q1 := q1) (q2 := q2) (q3 := q3) (e1 := e1) (e2 := e2) (h := ?_))
                    intro v108 v109 v110 v111 v112 v113 v114 v115 v116 v117 v118 v119 v120 v121 v122 v123 v124 v125 v126 v127 v128 v129 v130 v131 v132 v133 v134 v135 v136 v137 w9 K9
                    have HK9 := hid (HK4.out.and K9)
                    clear K9
                    go_wp2
                    go_ret
                    exact ⟨by rw [HV.out.symm.trans HF.out]; rfl, HK9.out⟩
                  · have q3 : ¬ ((atB s (k + 2) : Nat) : Int) < 128 := by omega
                    by_cases p4 : 191 < atB s (k + 2)
                    · have q4 : 191 < ((atB s (k + 2) : Nat) : Int) := by omega
                      have HF := hid (HBad.out (by unfold badN; omega))
                      refine wp_onlyN (val22e (W := w4) _ HSt.out (q0 := q0) (q1 := q1) (q2 := q2) (q3 := q3) (q4 := q4) (e1 := e1) (e2 := e2) (h := ?_))
                      intro v108 v109 v110 v111 v112 v113 v114 v115 v116 v117 v118 v119 v120 v121 v122 v123 v124 v125 v126 v127 v128 v129 v130 v131 v132 v133 v134 v135 v136 v137 w9 K9
                      have HK9 := hid (HK4.out.and K9)
                      clear K9
                      go_wp2
                      go_ret
                      exact ⟨by rw [HV.out.symm.trans HF.out]; rfl, HK9.out⟩
                    · have q4 : ¬ 191 < ((atB s (k + 2) : Nat) : Int) := by omega
                      have HG := hid ((HGood.out (by unfold badN; omega)).symm.trans HV.out)
                      refine wp_onlyN (val22f (W := w4) _ HSt.out (q0 := q0) (q1 := q1) (q2 := q2) (q3 := q3) (q4 := q4) (e1 := e1) (e2 := e2) (h := ?_))
                      intro v108 v109 v110 v111 v112 v113 v114 v115 v116 v117 v118 v119 v120 v121 v122 v123 v124 v125 v126 v127 v128 v129 v130 v131 v132 v133 v134 v135 v136 v137 w9 K9
                      have HK9 := hid (HK4.out.and K9)
                      clear K9
                      have f3 : (3 : Int) ≤ (m : Int) := by omega
                      by_cases hmk : m = 3
                      · subst hmk
                        go_wp2
                        go_roundg 0
                        case measure => omega
                        case rel => exact ⟨k + 3, 0, _, by omega, rfl, rfl, fun h => absurd h (by decide), HG.out, HK9.out⟩
                      · go_wp2
                        go_roundg (m - 3)
                        case measure => omega
                        case rel => exact ⟨k + 3, m - 3, _, by omega, rfl, rfl, fun _ => by rw [show o + (k + 3) = o + k + 3 by omega], HG.out, HK9.out⟩
          · go_upto_region 26 with fail
            have HK4 := hid (HKr.out.and (Kept.alloc (fun _ => False) wr (.cells #[.int .u8 (lo : Int), .int .u8 (hi : Int)] 65)))
            have hbx := heap_alloc_new wr (.cells #[.int .u8 (lo : Int), .int .u8 (hi : Int)] 65)
            generalize wr.alloc (.cells #[.int .u8 (lo : Int), .int .u8 (hi : Int)] 65) = w4 at *
            generalize wr.heap.size = ga at *
            have HBX := hid hbx
            clear hbx t0 t1 t2 c0 x8 x16 x16'
            by_cases p0 : m < 4
            · have q0 : (m : Int) < 4 := by omega
              have HF := hid (HBad.out (by unfold badN; omega))
              refine wp_onlyN (val26a (W := w4) _ (fun _ _ => trivial) (q0 := q0) (h := ?_))
              intro v143 v144 v145 v146 v147 v148 v149 v150 v151 v152 v153 v154 v155 v156 v157 v158 v159 v160 v161 v162 v163 v164 v165 v166 v167 v168 v169 v170 v171 v172 v173 v174 v175 v176 v177 v178 v179 v180 v181 v182 v183 v184 w9 K9
              have HK9 := hid (HK4.out.and K9)
              clear K9
              go_wp2
              go_ret
              exact ⟨by rw [HV.out.symm.trans HF.out]; rfl, HK9.out⟩
            · have q0 : ¬ (m : Int) < 4 := by omega
              have HSt : Hid (∀ V, Kept (fun _ => False) w4 V → V.cell? ⟨b, o + k + 1, none⟩ = some (.int .u8 ((atB s (k + 1) : Nat) : Int)) ∧ V.cell? ⟨b, o + k + 2, none⟩ = some (.int .u8 ((atB s (k + 2) : Nat) : Int)) ∧ V.cell? ⟨b, o + k + 3, none⟩ = some (.int .u8 ((atB s (k + 3) : Nat) : Int)) ∧ V.cell? ⟨ga, 0, none⟩ = some (.int .u8 (lo : Int)) ∧ V.cell? ⟨ga, 1, none⟩ = some (.int .u8 (hi : Int))) := fun V KV => ⟨by rw [Nat.add_assoc]; exact HB.out.kept (HK4.out.and KV) (k + 1) (by omega), by rw [Nat.add_assoc]; exact HB.out.kept (HK4.out.and KV) (k + 2) (by omega), by rw [Nat.add_assoc]; exact HB.out.kept (HK4.out.and KV) (k + 3) (by omega), cellKept5 KV (by simp [World.cell?, HBX.out]), cellKept5 KV (by simp [World.cell?, HBX.out])⟩
              have e1 : (1 : Int) < (m : Int) := by omega
              by_cases p1 : atB s (k + 1) < lo
              · have q1 : ((atB s (k + 1) : Nat) : Int) < (lo : Int) := by omega
                have HF := hid (HBad.out (by unfold badN; omega))
                refine wp_onlyN (val26b (W := w4) _ HSt.out (q0 := q0) (q1 := q1) (e1 := e1) (h := ?_))
                intro v143 v144 v145 v146 v147 v148 v149 v150 v151 v152 v153 v154 v155 v156 v157 v158 v159 v160 v161 v162 v163 v164 v165 v166 v167 v168 v169 v170 v171 v172 v173 v174 v175 v176 v177 v178 v179 v180 v181 v182 v183 v184 w9 K9
                have HK9 := hid (HK4.out.and K9)
                clear K9
                go_wp2
                go_ret
                exact ⟨by rw [HV.out.symm.trans HF.out]; rfl, HK9.out⟩
              · have q1 : ¬ ((atB s (k + 1) : Nat) : Int) < (lo : Int) := by omega
                by_cases p2 : hi < atB s (k + 1)
                · have q2 : (hi : Int) < ((atB s (k + 1) : Nat) : Int) := by omega
                  have HF := hid (HBad.out (by unfold badN; omega))
                  refine wp_onlyN (val26c (W := w4) _ HSt.out (q0 := q0) (q1 := q1) (q2 := q2) (e1 := e1) (h := ?_))
                  intro v143 v144 v145 v146 v147 v148 v149 v150 v151 v152 v153 v154 v155 v156 v157 v158 v159 v160 v161 v162 v163 v164 v165 v166 v167 v168 v169 v170 v171 v172 v173 v174 v175 v176 v177 v178 v179 v180 v181 v182 v183 v184 w9 K9
                  have HK9 := hid (HK4.out.and K9)
                  clear K9
                  go_wp2
                  go_ret
                  exact ⟨by rw [HV.out.symm.trans HF.out]; rfl, HK9.out⟩
                · have q2 : ¬ (hi : Int) < ((atB s (k + 1) : Nat) : Int) := by omega
                  have e2 : (2 : Int) < (m : Int) := by omega
                  by_cases p3 : atB s (k + 2) < 128
                  · have q3 : ((atB s (k + 2) : Nat) : Int) < 128 := by omega
                    have HF := hid (HBad.out (by unfold badN; omega))
                    refine wp_onlyN (val26d (W := w4) _ HSt.out (q0 := q0) (q1 := q1) (q2 := q2) (q3 := q3) (e1 := e1) (e2 := e2) (h := ?_))
                    intro v143 v144 v145 v146 v147 v148 v149 v150 v151 v152 v153 v154 v155 v156 v157 v158 v159 v160 v161 v162 v163 v164 v165 v166 v167 v168 v169 v170 v171 v172 v173 v174 v175 v176 v177 v178 v179 v180 v181 v182 v183 v184 w9 K9
                    have HK9 := hid (HK4.out.and K9)
                    clear K9
                    go_wp2
                    go_ret
                    exact ⟨by rw [HV.out.symm.trans HF.out]; rfl, HK9.out⟩
                  · have q3 : ¬ ((atB s (k + 2) : Nat) : Int) < 128 := by omega
                    by_cases p4 : 191 < atB s (k + 2)
                    · have q4 : 191 < ((atB s (k + 2) : Nat) : Int) := by omega
                      have HF := hid (HBad.out (by unfold badN; omega))
                      refine wp_onlyN (val26e (W := w4) _ HSt.out (q0 := q0) (q1 := q1) (q2 := q2) (q3 := q3) (q4 := q4) (e1 := e1) (e2 := e2) (h := ?_))
                      intro v143 v144 v145 v146 v147 v148 v149 v150 v151 v152 v153 v154 v155 v156 v157 v158 v159 v160 v161 v162 v163 v164 v165 v166 v167 v168 v169 v170 v171 v172 v173 v174 v175 v176 v177 v178 v179 v180 v181 v182 v183 v184 w9 K9
                      have HK9 := hid (HK4.out.and K9)
                      clear K9
                      go_wp2
                      go_ret
                      exact ⟨by rw [HV.out.symm.trans HF.out]; rfl, HK9.out⟩
                    · have q4 : ¬ 191 < ((atB s (k + 2) : Nat) : Int) := by omega
                      have e3 : (3 : Int) < (m : Int) := by omega
                      by_cases p5 : atB s (k + 3) < 128
                      · have q5 : ((atB s (k + 3) : Nat) : Int) < 128 := by omega
                        have HF := hid (HBad.out (by unfold badN; omega))
                        refine wp_onlyN (val26f (W := w4) _ HSt.out (q0 := q0) (q1 := q1) (q2 := q2) (q3 := q3) (q4 := q4) (q5 := q5) (e1 := e1) (e2 := e2) (e3 := e3) (h := ?_))
                        intro v143 v144 v145 v146 v147 v148 v149 v150 v151 v152 v153 v154 v155 v156 v157 v158 v159 v160 v161 v162 v163 v164 v165 v166 v167 v168 v169 v170 v171 v172 v173 v174 v175 v176 v177 v178 v179 v180 v181 v182 v183 v184 w9 K9
                        have HK9 := hid (HK4.out.and K9)
                        clear K9
                        go_wp2
                        go_ret
                        exact ⟨by rw [HV.out.symm.trans HF.out]; rfl, HK9.out⟩
                      · have q5 : ¬ ((atB s (k + 3) : Nat) : Int) < 128 := by omega
                        by_cases p6 : 191 < atB s (k + 3)
                        · have q6 : 191 < ((atB s (k + 3) : Nat) : Int) := by omega
                          have HF := hid (HBad.out (by unfold badN; omega))
                          refine wp_onlyN (val26g (W := w4) _ HSt.out (q0 := q0) (q1 := q1) (q2 := q2) (q3 := q3) (q4 := q4) (q5 := q5) (q6 := q6) (e1 := e1) (e2 := e2) (e3 := e3) (h := ?_))
                          intro v143 v144 v145 v146 v147 v148 v149 v150 v151 v152 v153 v154 v155 v156 v157 v158 v159 v160 v161 v162 v163 v164 v165 v166 v167 v168 v169 v170 v171 v172 v173 v174 v175 v176 v177 v178 v179 v180 v181 v182 v183 v184 w9 K9
                          have HK9 := hid (HK4.out.and K9)
                          clear K9
                          go_wp2
                          go_ret
                          exact ⟨by rw [HV.out.symm.trans HF.out]; rfl, HK9.out⟩
                        · have q6 : ¬ 191 < ((atB s (k + 3) : Nat) : Int) := by omega
                          have HG := hid ((HGood.out (by unfold badN; omega)).symm.trans HV.out)
                          refine wp_onlyN (val26h (W := w4) _ HSt.out (q0 := q0) (q1 := q1) (q2 := q2) (q3 := q3) (q4 := q4) (q5 := q5) (q6 := q6) (e1 := e1) (e2 := e2) (e3 := e3) (h := ?_))
                          intro v143 v144 v145 v146 v147 v148 v149 v150 v151 v152 v153 v154 v155 v156 v157 v158 v159 v160 v161 v162 v163 v164 v165 v166 v167 v168 v169 v170 v171 v172 v173 v174 v175 v176 v177 v178 v179 v180 v181 v182 v183 v184 w9 K9
                          have HK9 := hid (HK4.out.and K9)
                          clear K9
                          have f4 : (4 : Int) ≤ (m : Int) := by omega
                          by_cases hmk : m = 4
                          · subst hmk
                            go_wp2
                            go_roundg 0
                            case measure => omega
                            case rel => exact ⟨k + 4, 0, _, by omega, rfl, rfl, fun h => absurd h (by decide), HG.out, HK9.out⟩
                          · go_wp2
                            go_roundg (m - 4)
                            case measure => omega
                            case rel => exact ⟨k + 4, m - 4, _, by omega, rfl, rfl, fun _ => by rw [show o + (k + 4) = o + k + 4 by omega], HG.out, HK9.out⟩

end Go.Proofs.YtfiaaaflpjpnjaaGreatDoor
