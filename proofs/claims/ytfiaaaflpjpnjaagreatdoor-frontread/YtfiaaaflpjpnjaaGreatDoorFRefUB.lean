/-
  The document's UTF8, for greater texts.
-/
import Derived.Test.YtfiaaaflpjpnjaaGreatDoorFRefUW
namespace Go.Proofs.YtfiaaaflpjpnjaaGreatDoor
open Go.RowKit

set_option maxRecDepth 100000 in
set_option maxHeartbeats 4000000 in
theorem utf8_big (w : World) (s : ByteArray) (i : Nat) (hs : s.size ≤ 281474976710656) (hi : i < s.size) :
    Calls Tryz.prog 42 #[.string s, .int .i64 (i : Int)] w fun e w' => e = .returned (.int .i64 ((utR s i : Nat) : Int)) ∧ w' = w := by
  have hix := ix_u8 s i hi
  have hbd := u8i_bd (s.data.toList.getD i 0)
  obtain ⟨bd0, bd1⟩ := hbd
  have HU : Hid (utR s i = if 240 ≤ u8i (s.data.toList.getD i 0) ∧ u8i (s.data.toList.getD i 0) < 248 then utN s i 4 (u8i (s.data.toList.getD i 0) - 240) 65536
    else if 224 ≤ u8i (s.data.toList.getD i 0) ∧ u8i (s.data.toList.getD i 0) < 240 then utN s i 3 (u8i (s.data.toList.getD i 0) - 224) 2048
    else if 192 ≤ u8i (s.data.toList.getD i 0) ∧ u8i (s.data.toList.getD i 0) < 224 then utN s i 2 (u8i (s.data.toList.getD i 0) - 192) 128
    else if 128 ≤ u8i (s.data.toList.getD i 0) then 0
    else utN s i 1 (u8i (s.data.toList.getD i 0)) 0) := rfl
  generalize u8i (s.data.toList.getD i 0) = b at *
  have hI : (i : Int) ≤ 281474976710656 := by omega
  by_cases p4 : (240 : Int) ≤ b ∧ b < 248
  · have f1 : (240 : Int) ≤ b := p4.1
    have f2 : b < 248 := p4.2
    have HV : Hid (utR s i = utN s i 4 (b - 240) 65536) := by
      show utR s i = _
      rw [HU.out]
      rw [if_pos p4]
    clear HU
    by_cases hz : s.size < i + 4
    · have z1 : (s.size : Int) < (i : Int) + 4 := by omega
      have HE : Hid (utR s i = 0) := by
        show utR s i = 0
        rw [HV.out]
        unfold utN
        rw [if_pos hz]
      go_enter Tryz.func42, Tryz.ntmps42
      go_wp2
      go_ret
      refine ⟨?_, rfl⟩
      rw [HE.out]
      rfl
    · have z1 : ¬ (s.size : Int) < (i : Int) + 4 := by omega
      have HE : Hid (∀ o, utF s i 1 3 (b - 240) = o → utR s i = match o with | none => 0 | some z => if utOk z 65536 then 4 else 0) := fun o ho => by
        rw [HV.out]
        unfold utN
        rw [if_neg hz, show 4 - 1 = 3 from rfl, ho]
        cases o <;> rfl
      go_enter Tryz.func42, Tryz.ntmps42
      go_wp2
      go_loopw [7, 9, 10] (fun c v _ wr => ∃ (k m : Nat) (z : Int), 1 ≤ k ∧ k + m = 4 ∧ v = .int .i64 (k : Int) ∧ c = .int .i64 z ∧ 0 ≤ z ∧ z < 256 * 64 ^ k ∧ wr = w ∧ utF s i k m z = utF s i 1 3 (b - 240)) (fun _ v _ _ => 4 - (intOf v).toNat)
      case atStart => exact ⟨1, 3, b - 240, by decide, by decide, rfl, by go_num, by omega, by omega, rfl, rfl⟩
      case round =>
        obtain ⟨k, m, z, hk, hkm, rfl, rfl, z0, zz, hwr, hF⟩ := hrel
        subst wr
        have HF := hid hF
        have hz64 : z < 5000000000 := Int.lt_of_lt_of_le zz (by
          have : k ≤ 4 := by omega
          match k, this with
          | 0, _ => decide
          | 1, _ => decide
          | 2, _ => decide
          | 3, _ => decide
          | 4, _ => decide)
        clear hF
        cases m with
        | zero =>
          have hk2 : k = 4 := by omega
          subst hk2
          have HG : Hid (utR s i = if utOk z 65536 then 4 else 0) := by
            show utR s i = _
            rw [HE.out (some z) (by rw [← HF.out, utF_zero])]
          clear HE
          by_cases g1 : z < 65536
          · have HX : Hid (utOk z 65536 = false) := by show utOk z _ = false; unfold utOk; rw [decide_eq_true g1]; rfl
            go_wp2
            go_ret
            refine ⟨?_, rfl⟩
            rw [HG.out, HX.out]
            rfl
          · by_cases g2 : (1114111 : Int) < z
            · have HX : Hid (utOk z 65536 = false) := by show utOk z _ = false; unfold utOk; rw [decide_eq_false g1, decide_eq_true g2]; rfl
              go_wp2
              go_ret
              refine ⟨?_, rfl⟩
              rw [HG.out, HX.out]
              rfl
            · by_cases g3 : (55296 : Int) ≤ z
              · by_cases g4 : z ≤ (57343 : Int)
                · have HX : Hid (utOk z 65536 = false) := by show utOk z _ = false; unfold utOk; rw [decide_eq_false g1, decide_eq_false g2, decide_eq_true g3, decide_eq_true g4]; rfl
                  go_wp2
                  go_ret
                  refine ⟨?_, rfl⟩
                  rw [HG.out, HX.out]
                  rfl
                · have HX : Hid (utOk z 65536 = true) := by show utOk z _ = true; unfold utOk; rw [decide_eq_false g1, decide_eq_false g2, decide_eq_true g3, decide_eq_false g4]; rfl
                  go_wp2
                  go_ret
                  refine ⟨?_, rfl⟩
                  rw [HG.out, HX.out]
                  rfl
              · have HX : Hid (utOk z 65536 = true) := by show utOk z _ = true; unfold utOk; rw [decide_eq_false g1, decide_eq_false g2, decide_eq_false g3]; rfl
                go_wp2
                go_ret
                refine ⟨?_, rfl⟩
                rw [HG.out, HX.out]
                rfl
        | succ m =>
          have e0 : (k : Int) < 4 := by omega
          have hik : i + k < s.size := by omega
          have hix2 := ix_u8 s (i + k) hik
          rw [show (((i + k : Nat) : Int)) = (i : Int) + (k : Int) by omega] at hix2
          have hb2 := u8i_bd (s.data.toList.getD (i + k) 0)
          obtain ⟨b20, b21⟩ := hb2
          have HN : Hid ((u8i (s.data.toList.getD (i + k) 0) < 128 ∨ 192 ≤ u8i (s.data.toList.getD (i + k) 0)) → utF s i k (m + 1) z = none) := utF_none
          have HM : Hid (¬ (u8i (s.data.toList.getD (i + k) 0) < 128 ∨ 192 ≤ u8i (s.data.toList.getD (i + k) 0)) → utF s i k (m + 1) z = utF s i (k + 1) m (64 * z + u8i (s.data.toList.getD (i + k) 0) - 128)) := utF_more
          generalize u8i (s.data.toList.getD (i + k) 0) = y at *
          by_cases y1 : y < 128
          · have HX : Hid (utR s i = 0) := by show utR s i = 0; rw [HE.out none (by rw [← HF.out, HN.out (.inl y1)])]
            go_wp2
            go_ret
            refine ⟨?_, rfl⟩
            rw [HX.out]
            rfl
          · by_cases y2 : (192 : Int) ≤ y
            · have HX : Hid (utR s i = 0) := by show utR s i = 0; rw [HE.out none (by rw [← HF.out, HN.out (.inr y2)])]
              go_wp2
              go_ret
              refine ⟨?_, rfl⟩
              rw [HX.out]
              rfl
            · have HY : Hid (utF s i k (m + 1) z = utF s i (k + 1) m (64 * z + y - 128)) := HM.out (by omega)
              clear HN HM HE
              go_wp2
              go_roundw
              case rel =>
                refine ⟨k + 1, m, 64 * z + y - 128, by omega, by omega, by go_num, by go_num, by omega, ?_, trivial, ?_⟩
                · rw [Int.pow_succ]; omega
                · rw [← HY.out]; exact HF.out
              case measure => simp [intOf]; omega
  · by_cases p3 : (224 : Int) ≤ b ∧ b < 240
    · have f1 : ¬ (240 : Int) ≤ b := by omega
      have f2 : (224 : Int) ≤ b := p3.1
      have f3 : b < 240 := p3.2
      have HV : Hid (utR s i = utN s i 3 (b - 224) 2048) := by
        show utR s i = _
        rw [HU.out]
        rw [if_neg p4, if_pos p3]
      clear HU
      by_cases hz : s.size < i + 3
      · have z1 : (s.size : Int) < (i : Int) + 3 := by omega
        have HE : Hid (utR s i = 0) := by
          show utR s i = 0
          rw [HV.out]
          unfold utN
          rw [if_pos hz]
        go_enter Tryz.func42, Tryz.ntmps42
        go_wp2
        go_ret
        refine ⟨?_, rfl⟩
        rw [HE.out]
        rfl
      · have z1 : ¬ (s.size : Int) < (i : Int) + 3 := by omega
        have HE : Hid (∀ o, utF s i 1 2 (b - 224) = o → utR s i = match o with | none => 0 | some z => if utOk z 2048 then 3 else 0) := fun o ho => by
          rw [HV.out]
          unfold utN
          rw [if_neg hz, show 3 - 1 = 2 from rfl, ho]
          cases o <;> rfl
        go_enter Tryz.func42, Tryz.ntmps42
        go_wp2
        go_loopw [7, 9, 10] (fun c v _ wr => ∃ (k m : Nat) (z : Int), 1 ≤ k ∧ k + m = 3 ∧ v = .int .i64 (k : Int) ∧ c = .int .i64 z ∧ 0 ≤ z ∧ z < 256 * 64 ^ k ∧ wr = w ∧ utF s i k m z = utF s i 1 2 (b - 224)) (fun _ v _ _ => 3 - (intOf v).toNat)
        case atStart => exact ⟨1, 2, b - 224, by decide, by decide, rfl, by go_num, by omega, by omega, rfl, rfl⟩
        case round =>
          obtain ⟨k, m, z, hk, hkm, rfl, rfl, z0, zz, hwr, hF⟩ := hrel
          subst wr
          have HF := hid hF
          have hz64 : z < 5000000000 := Int.lt_of_lt_of_le zz (by
            have : k ≤ 4 := by omega
            match k, this with
            | 0, _ => decide
            | 1, _ => decide
            | 2, _ => decide
            | 3, _ => decide
            | 4, _ => decide)
          clear hF
          cases m with
          | zero =>
            have hk2 : k = 3 := by omega
            subst hk2
            have HG : Hid (utR s i = if utOk z 2048 then 3 else 0) := by
              show utR s i = _
              rw [HE.out (some z) (by rw [← HF.out, utF_zero])]
            clear HE
            by_cases g1 : z < 2048
            · have HX : Hid (utOk z 2048 = false) := by show utOk z _ = false; unfold utOk; rw [decide_eq_true g1]; rfl
              go_wp2
              go_ret
              refine ⟨?_, rfl⟩
              rw [HG.out, HX.out]
              rfl
            · by_cases g2 : (1114111 : Int) < z
              · have HX : Hid (utOk z 2048 = false) := by show utOk z _ = false; unfold utOk; rw [decide_eq_false g1, decide_eq_true g2]; rfl
                go_wp2
                go_ret
                refine ⟨?_, rfl⟩
                rw [HG.out, HX.out]
                rfl
              · by_cases g3 : (55296 : Int) ≤ z
                · by_cases g4 : z ≤ (57343 : Int)
                  · have HX : Hid (utOk z 2048 = false) := by show utOk z _ = false; unfold utOk; rw [decide_eq_false g1, decide_eq_false g2, decide_eq_true g3, decide_eq_true g4]; rfl
                    go_wp2
                    go_ret
                    refine ⟨?_, rfl⟩
                    rw [HG.out, HX.out]
                    rfl
                  · have HX : Hid (utOk z 2048 = true) := by show utOk z _ = true; unfold utOk; rw [decide_eq_false g1, decide_eq_false g2, decide_eq_true g3, decide_eq_false g4]; rfl
                    go_wp2
                    go_ret
                    refine ⟨?_, rfl⟩
                    rw [HG.out, HX.out]
                    rfl
                · have HX : Hid (utOk z 2048 = true) := by show utOk z _ = true; unfold utOk; rw [decide_eq_false g1, decide_eq_false g2, decide_eq_false g3]; rfl
                  go_wp2
                  go_ret
                  refine ⟨?_, rfl⟩
                  rw [HG.out, HX.out]
                  rfl
          | succ m =>
            have e0 : (k : Int) < 3 := by omega
            have hik : i + k < s.size := by omega
            have hix2 := ix_u8 s (i + k) hik
            rw [show (((i + k : Nat) : Int)) = (i : Int) + (k : Int) by omega] at hix2
            have hb2 := u8i_bd (s.data.toList.getD (i + k) 0)
            obtain ⟨b20, b21⟩ := hb2
            have HN : Hid ((u8i (s.data.toList.getD (i + k) 0) < 128 ∨ 192 ≤ u8i (s.data.toList.getD (i + k) 0)) → utF s i k (m + 1) z = none) := utF_none
            have HM : Hid (¬ (u8i (s.data.toList.getD (i + k) 0) < 128 ∨ 192 ≤ u8i (s.data.toList.getD (i + k) 0)) → utF s i k (m + 1) z = utF s i (k + 1) m (64 * z + u8i (s.data.toList.getD (i + k) 0) - 128)) := utF_more
            generalize u8i (s.data.toList.getD (i + k) 0) = y at *
            by_cases y1 : y < 128
            · have HX : Hid (utR s i = 0) := by show utR s i = 0; rw [HE.out none (by rw [← HF.out, HN.out (.inl y1)])]
              go_wp2
              go_ret
              refine ⟨?_, rfl⟩
              rw [HX.out]
              rfl
            · by_cases y2 : (192 : Int) ≤ y
              · have HX : Hid (utR s i = 0) := by show utR s i = 0; rw [HE.out none (by rw [← HF.out, HN.out (.inr y2)])]
                go_wp2
                go_ret
                refine ⟨?_, rfl⟩
                rw [HX.out]
                rfl
              · have HY : Hid (utF s i k (m + 1) z = utF s i (k + 1) m (64 * z + y - 128)) := HM.out (by omega)
                clear HN HM HE
                go_wp2
                go_roundw
                case rel =>
                  refine ⟨k + 1, m, 64 * z + y - 128, by omega, by omega, by go_num, by go_num, by omega, ?_, trivial, ?_⟩
                  · rw [Int.pow_succ]; omega
                  · rw [← HY.out]; exact HF.out
                case measure => simp [intOf]; omega
    · by_cases p2 : (192 : Int) ≤ b ∧ b < 224
      · have f1 : ¬ (240 : Int) ≤ b := by omega
        have f2 : ¬ (224 : Int) ≤ b := by omega
        have f3 : (192 : Int) ≤ b := p2.1
        have f4 : b < 224 := p2.2
        have HV : Hid (utR s i = utN s i 2 (b - 192) 128) := by
          show utR s i = _
          rw [HU.out]
          rw [if_neg p4, if_neg p3, if_pos p2]
        clear HU
        by_cases hz : s.size < i + 2
        · have z1 : (s.size : Int) < (i : Int) + 2 := by omega
          have HE : Hid (utR s i = 0) := by
            show utR s i = 0
            rw [HV.out]
            unfold utN
            rw [if_pos hz]
          go_enter Tryz.func42, Tryz.ntmps42
          go_wp2
          go_ret
          refine ⟨?_, rfl⟩
          rw [HE.out]
          rfl
        · have z1 : ¬ (s.size : Int) < (i : Int) + 2 := by omega
          have HE : Hid (∀ o, utF s i 1 1 (b - 192) = o → utR s i = match o with | none => 0 | some z => if utOk z 128 then 2 else 0) := fun o ho => by
            rw [HV.out]
            unfold utN
            rw [if_neg hz, show 2 - 1 = 1 from rfl, ho]
            cases o <;> rfl
          go_enter Tryz.func42, Tryz.ntmps42
          go_wp2
          go_loopw [7, 9, 10] (fun c v _ wr => ∃ (k m : Nat) (z : Int), 1 ≤ k ∧ k + m = 2 ∧ v = .int .i64 (k : Int) ∧ c = .int .i64 z ∧ 0 ≤ z ∧ z < 256 * 64 ^ k ∧ wr = w ∧ utF s i k m z = utF s i 1 1 (b - 192)) (fun _ v _ _ => 2 - (intOf v).toNat)
          case atStart => exact ⟨1, 1, b - 192, by decide, by decide, rfl, by go_num, by omega, by omega, rfl, rfl⟩
          case round =>
            obtain ⟨k, m, z, hk, hkm, rfl, rfl, z0, zz, hwr, hF⟩ := hrel
            subst wr
            have HF := hid hF
            have hz64 : z < 5000000000 := Int.lt_of_lt_of_le zz (by
              have : k ≤ 4 := by omega
              match k, this with
              | 0, _ => decide
              | 1, _ => decide
              | 2, _ => decide
              | 3, _ => decide
              | 4, _ => decide)
            clear hF
            cases m with
            | zero =>
              have hk2 : k = 2 := by omega
              subst hk2
              have HG : Hid (utR s i = if utOk z 128 then 2 else 0) := by
                show utR s i = _
                rw [HE.out (some z) (by rw [← HF.out, utF_zero])]
              clear HE
              by_cases g1 : z < 128
              · have HX : Hid (utOk z 128 = false) := by show utOk z _ = false; unfold utOk; rw [decide_eq_true g1]; rfl
                go_wp2
                go_ret
                refine ⟨?_, rfl⟩
                rw [HG.out, HX.out]
                rfl
              · by_cases g2 : (1114111 : Int) < z
                · have HX : Hid (utOk z 128 = false) := by show utOk z _ = false; unfold utOk; rw [decide_eq_false g1, decide_eq_true g2]; rfl
                  go_wp2
                  go_ret
                  refine ⟨?_, rfl⟩
                  rw [HG.out, HX.out]
                  rfl
                · by_cases g3 : (55296 : Int) ≤ z
                  · by_cases g4 : z ≤ (57343 : Int)
                    · have HX : Hid (utOk z 128 = false) := by show utOk z _ = false; unfold utOk; rw [decide_eq_false g1, decide_eq_false g2, decide_eq_true g3, decide_eq_true g4]; rfl
                      go_wp2
                      go_ret
                      refine ⟨?_, rfl⟩
                      rw [HG.out, HX.out]
                      rfl
                    · have HX : Hid (utOk z 128 = true) := by show utOk z _ = true; unfold utOk; rw [decide_eq_false g1, decide_eq_false g2, decide_eq_true g3, decide_eq_false g4]; rfl
                      go_wp2
                      go_ret
                      refine ⟨?_, rfl⟩
                      rw [HG.out, HX.out]
                      rfl
                  · have HX : Hid (utOk z 128 = true) := by show utOk z _ = true; unfold utOk; rw [decide_eq_false g1, decide_eq_false g2, decide_eq_false g3]; rfl
                    go_wp2
                    go_ret
                    refine ⟨?_, rfl⟩
                    rw [HG.out, HX.out]
                    rfl
            | succ m =>
              have e0 : (k : Int) < 2 := by omega
              have hik : i + k < s.size := by omega
              have hix2 := ix_u8 s (i + k) hik
              rw [show (((i + k : Nat) : Int)) = (i : Int) + (k : Int) by omega] at hix2
              have hb2 := u8i_bd (s.data.toList.getD (i + k) 0)
              obtain ⟨b20, b21⟩ := hb2
              have HN : Hid ((u8i (s.data.toList.getD (i + k) 0) < 128 ∨ 192 ≤ u8i (s.data.toList.getD (i + k) 0)) → utF s i k (m + 1) z = none) := utF_none
              have HM : Hid (¬ (u8i (s.data.toList.getD (i + k) 0) < 128 ∨ 192 ≤ u8i (s.data.toList.getD (i + k) 0)) → utF s i k (m + 1) z = utF s i (k + 1) m (64 * z + u8i (s.data.toList.getD (i + k) 0) - 128)) := utF_more
              generalize u8i (s.data.toList.getD (i + k) 0) = y at *
              by_cases y1 : y < 128
              · have HX : Hid (utR s i = 0) := by show utR s i = 0; rw [HE.out none (by rw [← HF.out, HN.out (.inl y1)])]
                go_wp2
                go_ret
                refine ⟨?_, rfl⟩
                rw [HX.out]
                rfl
              · by_cases y2 : (192 : Int) ≤ y
                · have HX : Hid (utR s i = 0) := by show utR s i = 0; rw [HE.out none (by rw [← HF.out, HN.out (.inr y2)])]
                  go_wp2
                  go_ret
                  refine ⟨?_, rfl⟩
                  rw [HX.out]
                  rfl
                · have HY : Hid (utF s i k (m + 1) z = utF s i (k + 1) m (64 * z + y - 128)) := HM.out (by omega)
                  clear HN HM HE
                  go_wp2
                  go_roundw
                  case rel =>
                    refine ⟨k + 1, m, 64 * z + y - 128, by omega, by omega, by go_num, by go_num, by omega, ?_, trivial, ?_⟩
                    · rw [Int.pow_succ]; omega
                    · rw [← HY.out]; exact HF.out
                  case measure => simp [intOf]; omega
      · by_cases p1 : (128 : Int) ≤ b
        · have HX : Hid (utR s i = 0) := by
            show utR s i = 0
            rw [HU.out]
            rw [if_neg p4, if_neg p3, if_neg p2, if_pos p1]
          have g1 : (¬ (240 : Int) ≤ b) ∨ ((240 : Int) ≤ b ∧ ¬ b < 248) := by omega
          rcases g1 with g1 | ⟨g1, g2⟩
          · have f2 : ¬ (224 : Int) ≤ b := by omega
            have f3 : ¬ (192 : Int) ≤ b := by omega
            go_enter Tryz.func42, Tryz.ntmps42
            go_wp2
            go_ret
            refine ⟨?_, rfl⟩
            rw [HX.out]
            rfl
          · have f2 : (224 : Int) ≤ b := by omega
            have f3 : ¬ b < 240 := by omega
            have f4 : (192 : Int) ≤ b := by omega
            have f5 : ¬ b < 224 := by omega
            go_enter Tryz.func42, Tryz.ntmps42
            go_wp2
            go_ret
            refine ⟨?_, rfl⟩
            rw [HX.out]
            rfl
        · have f1 : ¬ (240 : Int) ≤ b := by omega
          have f2 : ¬ (224 : Int) ≤ b := by omega
          have f3 : ¬ (192 : Int) ≤ b := by omega
          have HV : Hid (utR s i = utN s i 1 (b) 0) := by
            show utR s i = _
            rw [HU.out]
            rw [if_neg p4, if_neg p3, if_neg p2, if_neg p1]
          clear HU
          by_cases hz : s.size < i + 1
          · have z1 : (s.size : Int) < (i : Int) + 1 := by omega
            have HE : Hid (utR s i = 0) := by
              show utR s i = 0
              rw [HV.out]
              unfold utN
              rw [if_pos hz]
            go_enter Tryz.func42, Tryz.ntmps42
            go_wp2
            go_ret
            refine ⟨?_, rfl⟩
            rw [HE.out]
            rfl
          · have z1 : ¬ (s.size : Int) < (i : Int) + 1 := by omega
            have HE : Hid (∀ o, utF s i 1 0 (b) = o → utR s i = match o with | none => 0 | some z => if utOk z 0 then 1 else 0) := fun o ho => by
              rw [HV.out]
              unfold utN
              rw [if_neg hz, show 1 - 1 = 0 from rfl, ho]
              cases o <;> rfl
            go_enter Tryz.func42, Tryz.ntmps42
            go_wp2
            go_loopw [7, 9, 10] (fun c v _ wr => ∃ (k m : Nat) (z : Int), 1 ≤ k ∧ k + m = 1 ∧ v = .int .i64 (k : Int) ∧ c = .int .i64 z ∧ 0 ≤ z ∧ z < 256 * 64 ^ k ∧ wr = w ∧ utF s i k m z = utF s i 1 0 (b)) (fun _ v _ _ => 1 - (intOf v).toNat)
            case atStart => exact ⟨1, 0, b, by decide, by decide, rfl, by go_num, by omega, by omega, rfl, rfl⟩
            case round =>
              obtain ⟨k, m, z, hk, hkm, rfl, rfl, z0, zz, hwr, hF⟩ := hrel
              subst wr
              have HF := hid hF
              have hz64 : z < 5000000000 := Int.lt_of_lt_of_le zz (by
                have : k ≤ 4 := by omega
                match k, this with
                | 0, _ => decide
                | 1, _ => decide
                | 2, _ => decide
                | 3, _ => decide
                | 4, _ => decide)
              clear hF
              cases m with
              | zero =>
                have hk2 : k = 1 := by omega
                subst hk2
                have HG : Hid (utR s i = if utOk z 0 then 1 else 0) := by
                  show utR s i = _
                  rw [HE.out (some z) (by rw [← HF.out, utF_zero])]
                clear HE
                by_cases g1 : z < 0
                · have HX : Hid (utOk z 0 = false) := by show utOk z _ = false; unfold utOk; rw [decide_eq_true g1]; rfl
                  go_wp2
                  go_ret
                  refine ⟨?_, rfl⟩
                  rw [HG.out, HX.out]
                  rfl
                · by_cases g2 : (1114111 : Int) < z
                  · have HX : Hid (utOk z 0 = false) := by show utOk z _ = false; unfold utOk; rw [decide_eq_false g1, decide_eq_true g2]; rfl
                    go_wp2
                    go_ret
                    refine ⟨?_, rfl⟩
                    rw [HG.out, HX.out]
                    rfl
                  · by_cases g3 : (55296 : Int) ≤ z
                    · by_cases g4 : z ≤ (57343 : Int)
                      · have HX : Hid (utOk z 0 = false) := by show utOk z _ = false; unfold utOk; rw [decide_eq_false g1, decide_eq_false g2, decide_eq_true g3, decide_eq_true g4]; rfl
                        go_wp2
                        go_ret
                        refine ⟨?_, rfl⟩
                        rw [HG.out, HX.out]
                        rfl
                      · have HX : Hid (utOk z 0 = true) := by show utOk z _ = true; unfold utOk; rw [decide_eq_false g1, decide_eq_false g2, decide_eq_true g3, decide_eq_false g4]; rfl
                        go_wp2
                        go_ret
                        refine ⟨?_, rfl⟩
                        rw [HG.out, HX.out]
                        rfl
                    · have HX : Hid (utOk z 0 = true) := by show utOk z _ = true; unfold utOk; rw [decide_eq_false g1, decide_eq_false g2, decide_eq_false g3]; rfl
                      go_wp2
                      go_ret
                      refine ⟨?_, rfl⟩
                      rw [HG.out, HX.out]
                      rfl
              | succ m =>
                have e0 : (k : Int) < 1 := by omega
                have hik : i + k < s.size := by omega
                have hix2 := ix_u8 s (i + k) hik
                rw [show (((i + k : Nat) : Int)) = (i : Int) + (k : Int) by omega] at hix2
                have hb2 := u8i_bd (s.data.toList.getD (i + k) 0)
                obtain ⟨b20, b21⟩ := hb2
                have HN : Hid ((u8i (s.data.toList.getD (i + k) 0) < 128 ∨ 192 ≤ u8i (s.data.toList.getD (i + k) 0)) → utF s i k (m + 1) z = none) := utF_none
                have HM : Hid (¬ (u8i (s.data.toList.getD (i + k) 0) < 128 ∨ 192 ≤ u8i (s.data.toList.getD (i + k) 0)) → utF s i k (m + 1) z = utF s i (k + 1) m (64 * z + u8i (s.data.toList.getD (i + k) 0) - 128)) := utF_more
                generalize u8i (s.data.toList.getD (i + k) 0) = y at *
                by_cases y1 : y < 128
                · have HX : Hid (utR s i = 0) := by show utR s i = 0; rw [HE.out none (by rw [← HF.out, HN.out (.inl y1)])]
                  go_wp2
                  go_ret
                  refine ⟨?_, rfl⟩
                  rw [HX.out]
                  rfl
                · by_cases y2 : (192 : Int) ≤ y
                  · have HX : Hid (utR s i = 0) := by show utR s i = 0; rw [HE.out none (by rw [← HF.out, HN.out (.inr y2)])]
                    go_wp2
                    go_ret
                    refine ⟨?_, rfl⟩
                    rw [HX.out]
                    rfl
                  · have HY : Hid (utF s i k (m + 1) z = utF s i (k + 1) m (64 * z + y - 128)) := HM.out (by omega)
                    clear HN HM HE
                    go_wp2
                    go_roundw
                    case rel =>
                      refine ⟨k + 1, m, 64 * z + y - 128, by omega, by omega, by go_num, by go_num, by omega, ?_, trivial, ?_⟩
                      · rw [Int.pow_succ]; omega
                      · rw [← HY.out]; exact HF.out
                    case measure => simp [intOf]; omega

end Go.Proofs.YtfiaaaflpjpnjaaGreatDoor
