/-
  Read: any bytes, read as the data say.
-/
import Derived.Test.YtfiaaaflpjpnjaaGreatDoorWM1
import Derived.Test.YtfiaaaflpjpnjaaGreatDoorFBld
import Derived.Test.YtfiaaaflpjpnjaaGreatDoorFCard
import Derived.Test.YtfiaaaflpjpnjaaGreatDoorFWakes
import Derived.Deep.CutRange
import Derived.Deep.Strs
import Derived.Laws.Cover4
import Derived.Lib.FrozenHead
import Derived.SizedLaws
namespace Go.Proofs.YtfiaaaflpjpnjaaGreatDoor
open Go.RowKit

set_option maxRecDepth 100000 in
set_option maxHeartbeats 16000000 in
theorem read_any (w : World) (ad : Option Addr) (cp b o : Nat) (s : ByteArray) (had : 0 < s.size → ad = some ⟨b, o, none⟩) (hcp : s.size ≤ cp) (hs : s.size ≤ 1000000) (B : BsAt w b o s) (T : Utf8At w) (MX : MaxAt w) :
    Calls Tryz.prog 7 #[.slice ad s.size cp] w fun e w' => e = .returned (rdV (rdP s)) ∧ Kept (fun _ => False) w w' := by
  have HB := hid B
  have HT := hid T
  have HM := hid MX
  have HK1 : Hid (Kept (fun _ => False) w (w.alloc (.cells #[.int .u8 13, .int .u8 10, .int .u8 13, .int .u8 10] 5 (4, 5)))) := Kept.alloc _ _ _
  have hcc := Lib.run_convert_bytes_const w 23 5 #[.int .u8 13, .int .u8 10, .int .u8 13, .int .u8 10] 4 4 Tryz.underlying23 Tryz.underlying5
  obtain ⟨M, hM⟩ : ∃ M, M = min s.size 4096 := ⟨_, rfl⟩
  have hI := index_any (w.alloc (.cells #[.int .u8 13, .int .u8 10, .int .u8 13, .int .u8 10] 5 (4, 5))) ad M cp b o w.heap.size s had hM hcp (B.kept HK1.out) (MX.kept HK1.out) (heap_alloc_new w (.cells #[.int .u8 13, .int .u8 10, .int .u8 13, .int .u8 10] 5 (4, 5)))
  have hmin : min ((s.size : Nat) : Int) 4096 = ((M : Nat) : Int) := by omega
  have hMc : ((M : Nat) : Int) ≤ ((cp : Nat) : Int) := by omega
  clear hM B T MX
  by_cases h0 : 0 ≤ cutAt s
  · go_enter Tryz.func7, Tryz.ntmps7
    have hroom := cutAt_room h0
    obtain ⟨hd, hhd⟩ : ∃ hd, hd = s.extract 0 (cutAt s).toNat := ⟨_, rfl⟩
    have hhz : hd.size = (cutAt s).toNat := by rw [hhd, ByteArray.size_extract]; omega
    have hhB : BsAt w b o hd := by
      rw [hhd]
      have := HB.out.sub (k := 0) (n := (cutAt s).toNat) (by omega)
      rwa [Nat.add_zero] at this
    have hcv : ∀ W, Kept (fun _ => False) w W → (convert 23 9 (.slice ad hd.size cp)).run Tryz.prog W = .ok (.string hd) W := fun W K => bs_str (fun h => had (by omega)) (by omega) (hhB.kept K)
    have HHd : Hid (s.extract 0 (cutAt s).toNat = hd) := hhd.symm
    obtain ⟨z, hz⟩ : ∃ z : Int, z = cutAt s := ⟨_, rfl⟩
    have hza : z = ((hd.size : Nat) : Int) := by omega
    have c0 : ¬ ((hd.size : Nat) : Int) < 0 := by omega
    have c1 : ((hd.size : Nat) : Int) ≤ ((cp : Nat) : Int) := by omega
    have hI2 : Calls Tryz.prog 13 #[.slice ad M cp, .slice (some ⟨w.heap.size, 0, none⟩) 4 4] (w.alloc (.cells #[.int .u8 13, .int .u8 10, .int .u8 13, .int .u8 10] 5 (4, 5))) fun e w' => e = .returned (.int .i64 ((hd.size : Nat) : Int)) ∧ Kept (fun _ => False) (w.alloc (.cells #[.int .u8 13, .int .u8 10, .int .u8 13, .int .u8 10] 5 (4, 5))) w' := by
      rw [← hza, hz]; exact hI
    have hHd0 := fun V (K : Kept (fun _ => False) w V) => head_any V hd (by omega) (HM.out.kept K)
    have HHd0 := hid hHd0
    have HCV := hid hcv
    have HX := hid hza
    clear hI hhB hhz hhd hcv hHd0 hza
    go_upto_region 2 with (first
      | (go_at_call 13; refine hI2.mono ?_; rintro e w3 ⟨rfl, K3⟩; clear hI2 hcc; have HK3 := hid (HK1.out.and K3); clear K3)
      | fail)
    have cv := HCV.out w3 HK3.out
    have hHd := HHd0.out w3 HK3.out
    clear HHd0 HCV HK1
    cases hx : hdP hd with
    | none =>
      rw [hx] at hHd
      have HG : Hid (rdP s = (⟨#[]⟩, ⟨#[]⟩, ⟨#[]⟩, 400)) := by
        show _ = _
        unfold rdP
        rw [if_neg (by omega), HHd.out, hx]
      clear hx
      have hHd2 : Calls Tryz.prog 14 #[.string hd] w3 fun e w' => e = .returned (.tuple #[.agg #[.string ⟨#[]⟩, .string ⟨#[]⟩, .int .i64 0], .bool false]) ∧ Kept (fun _ => False) w3 w' := hHd
      clear hHd
      go_upto_region 8 with (first
        | (go_at_call 14; refine hHd2.mono ?_; rintro e w4 ⟨rfl, K4⟩; clear hHd2; have HK4 := hid ((HK3.out.and K4).and (Kept.alloc (fun _ => False) w4 (.cells #[.string ⟨#[]⟩, .string ⟨#[]⟩, .int .i64 0] 35))); clear K4)
        | fail)
      go_wp2
      refine bodyPost_ret (by simp [results, Tryz.results7, go_sem]; try rfl) rfl ?_
      exact ⟨by rw [HG.out]; rfl, HK4.out⟩
    | some x =>
      obtain ⟨m, p, n⟩ := x
      rw [hx] at hHd
      have hHd2 : Calls Tryz.prog 14 #[.string hd] w3 fun e w' => e = .returned (.tuple #[.agg #[.string m, .string p, .int .i64 ((n : Nat) : Int)], .bool true]) ∧ Kept (fun _ => False) w3 w' := hHd
      clear hHd
      have HG1 : Hid (rdP s = if (m.data.toList == [71, 69, 84]) = false ∧ (m.data.toList == [80, 79, 83, 84]) = false then (⟨#[]⟩, ⟨#[]⟩, ⟨#[]⟩, 405) else if 4096 < n then (⟨#[]⟩, ⟨#[]⟩, ⟨#[]⟩, 413) else if (s.extract ((cutAt s).toNat + 4) s.size).size ≠ n ∨ vf (s.extract ((cutAt s).toNat + 4) s.size) 0 = false then (⟨#[]⟩, ⟨#[]⟩, ⟨#[]⟩, 400) else (m, p, s.extract ((cutAt s).toNat + 4) s.size, 200)) := by
        show _ = _
        unfold rdP
        rw [if_neg (by omega), HHd.out, hx]
      clear hx
      go_upto_region 9 with (first
        | (go_at_call 14; refine hHd2.mono ?_; rintro e w4 ⟨rfl, K4⟩; clear hHd2; have HK4 := hid (HK3.out.and K4); clear K4)
        | fail)
      have HK5 := hid (HK4.out.and (Kept.alloc (fun _ => False) w4 (.cells #[.string m, .string p, .int .i64 ((n : Nat) : Int)] 35)))
      have hb5 := heap_alloc_new w4 (.cells #[.string m, .string p, .int .i64 ((n : Nat) : Int)] 35)
      have hsz5 : w.heap.size ≤ w4.heap.size := HK4.out.size
      generalize w4.alloc (.cells #[.string m, .string p, .int .i64 ((n : Nat) : Int)] 35) = w5 at *
      generalize w4.heap.size = hb at *
      obtain ⟨⟨y0, y1, y2⟩, _⟩ := three_cells hb5
      have HB5 := hid hb5
      clear hb5 hsz5
      cases hg1 : (m.data.toList == [71, 69, 84]) with
      | true =>
        have g1 : (m.toList == [71, 69, 84]) = true := by rw [Lib.toList_data]; exact hg1
        by_cases hn4 : 4096 < n
        · have n1 : (4096 : Int) < ((n : Nat) : Int) := by omega
          have HG : Hid (rdP s = (⟨#[]⟩, ⟨#[]⟩, ⟨#[]⟩, 413)) := by
            show _ = _
            rw [HG1.out, if_neg (by rw [hg1]; simp), if_pos hn4]
          clear hn4 hg1
          go_wp2
          refine bodyPost_ret (by simp [results, Tryz.results7, go_sem]; try rfl) rfl ?_
          exact ⟨by rw [HG.out]; rfl, HK5.out⟩
        · have n1 : ¬ (4096 : Int) < ((n : Nat) : Int) := by omega
          have HG2 : Hid (rdP s = if (s.extract ((cutAt s).toNat + 4) s.size).size ≠ n ∨ vf (s.extract ((cutAt s).toNat + 4) s.size) 0 = false then (⟨#[]⟩, ⟨#[]⟩, ⟨#[]⟩, 400) else (m, p, s.extract ((cutAt s).toNat + 4) s.size, 200)) := by
            show _ = _
            rw [HG1.out, if_neg (by rw [hg1]; simp), if_neg hn4]
          clear hn4 hg1 HG1
          have hroom := cutAt_room h0
          obtain ⟨rest, hrest⟩ : ∃ rest, rest = s.extract ((cutAt s).toNat + 4) s.size := ⟨_, rfl⟩
          have hrz : rest.size = s.size - ((cutAt s).toNat + 4) := by rw [hrest, ByteArray.size_extract]; omega
          have HRB : Hid (BsAt w b (o + ((cutAt s).toNat + 4)) rest) := by
            show BsAt w b (o + ((cutAt s).toNat + 4)) rest
            rw [hrest]
            exact HB.out.sub (Nat.le_refl _)
          have HRE := hid hrest
          have HRZ := hid hrz
          clear hrest hrz
          have HAA : Hid ((cutAt s).toNat = hd.size) := by show _ = _; have := HX.out; omega
          have hA4 : hd.size + 4 ≤ s.size := by have := HAA.out; omega
          have had0 := had (by omega)
          subst had0
          have hcpA : ((hd.size : Nat) : Int) + 4 ≤ ((s.size : Nat) : Int) := by omega
          have hwr : IntKind.i64.wrap (((hd.size : Nat) : Int) + 4) = ((hd.size : Nat) : Int) + 4 := by rw [IntKind.wrap_i64]; omega
          have HRL : Hid (s.size - (hd.size + 4) = rest.size) := by
            show _ = _
            have h1 := HRZ.out
            have h2 := HAA.out
            omega
          go_upto_region 13 with fail
          go_cut [0, 9] from 44 (fun v0 v wx => (∃ ad2 c2, v = .slice ad2 rest.size c2 ∧ rest.size ≤ c2 ∧ (0 < rest.size → ad2 = some ⟨b, o + ((cutAt s).toNat + 4), none⟩)) ∧ wx = w5)
          case first =>
            by_cases hca : cp = hd.size + 4
            · subst hca
              go_wp2_with fail
              go_meet
              case rel =>
                have hr0 : rest.size = 0 := by have := HRL.out; omega
                exact ⟨⟨_, _, by rw [hr0], by rw [hr0]; exact Nat.le_refl _, fun h => absurd h (by rw [hr0]; decide)⟩, rfl⟩
            · go_wp2_with fail
              go_meet
              case rel => exact ⟨⟨_, _, by rw [← HRL.out], by have := HRL.out; omega, fun _ => by rw [HAA.out]⟩, rfl⟩
          case rest =>
            obtain ⟨⟨ad2, c2, hc1, hc2, had2⟩, hcw⟩ := hcut
            subst wc
            subst hc1
            have hV := valid8_any w5 ad2 c2 b (o + ((cutAt s).toNat + 4)) rest had2 hc2 (HRB.out.kept HK5.out) (HT.out.kept HK5.out)
            have hcv2 : ∀ W, Kept (fun _ => False) w W → (convert 23 9 (.slice ad2 rest.size c2)).run Tryz.prog W = .ok (.string rest) W := fun W K => bs_str had2 hc2 (HRB.out.kept K)
            have HCV := hid hcv2
            clear hcv2 had2 hc2
            by_cases hn : rest.size = n
            · have z1 : (((rest.size : Nat) : Int) != ((n : Nat) : Int)) = false := by rw [hn]; simp
              cases hvf : vf rest 0 with
              | true =>
                rw [hvf] at hV
                have HG : Hid (rdP s = (m, p, rest, 200)) := by
                  show _ = _
                  rw [HG2.out, ← HRE.out, if_neg]
                  rintro (h1 | h1)
                  · exact h1 hn
                  · rw [hvf] at h1; cases h1
                clear hvf hn
                go_upto_region 16 with (first
                  | (go_at_call 15; refine hV.mono ?_; rintro e w6 ⟨rfl, K6⟩; clear hV; have HK6 := hid (HK5.out.and K6); have K65 := hid K6; clear K6)
                  | fail)
                obtain ⟨⟨y0, y1, y2⟩, _⟩ := three_cells (((K65.out.block _ (Array.getElem?_eq_some_iff.1 HB5.out).1 (fun h => h)).trans HB5.out))
                have cv1 := HCV.out w6 HK6.out
                have cv2 := HCV.out w6.drew (HK6.out.and (Kept.drew _ _))
                go_region
                go_wp2
                refine bodyPost_ret (by simp [results, Tryz.results7, go_sem]; try rfl) rfl ?_
                exact ⟨by rw [HG.out]; rfl, HK6.out.and (Kept.drew _ _)⟩
              | false =>
                rw [hvf] at hV
                have HG : Hid (rdP s = (⟨#[]⟩, ⟨#[]⟩, ⟨#[]⟩, 400)) := by
                  show _ = _
                  rw [HG2.out, ← HRE.out, if_pos (.inr hvf)]
                clear hvf hn
                go_upto_region 15 with (first
                  | (go_at_call 15; refine hV.mono ?_; rintro e w6 ⟨rfl, K6⟩; clear hV; have HK6 := hid (HK5.out.and K6); clear K6)
                  | fail)
                go_wp2
                refine bodyPost_ret (by simp [results, Tryz.results7, go_sem]; try rfl) rfl ?_
                exact ⟨by rw [HG.out]; rfl, HK6.out⟩
            · have z1 : (((rest.size : Nat) : Int) != ((n : Nat) : Int)) = true := by rw [bne_iff_ne]; omega
              have HG : Hid (rdP s = (⟨#[]⟩, ⟨#[]⟩, ⟨#[]⟩, 400)) := by
                show _ = _
                rw [HG2.out, ← HRE.out, if_pos (.inl hn)]
              clear hn hV
              go_wp2
              refine bodyPost_ret (by simp [results, Tryz.results7, go_sem]; try rfl) rfl ?_
              exact ⟨by rw [HG.out]; rfl, HK5.out⟩
      | false =>
        have g1 : (m.toList == [71, 69, 84]) = false := by rw [Lib.toList_data]; exact hg1
        cases hg2 : (m.data.toList == [80, 79, 83, 84]) with
        | false =>
          have g2 : (m.toList == [80, 79, 83, 84]) = false := by rw [Lib.toList_data]; exact hg2
          have HG : Hid (rdP s = (⟨#[]⟩, ⟨#[]⟩, ⟨#[]⟩, 405)) := by
            show _ = _
            rw [HG1.out, if_pos ⟨hg1, hg2⟩]
          clear hg1 hg2
          go_wp2
          refine bodyPost_ret (by simp [results, Tryz.results7, go_sem]; try rfl) rfl ?_
          exact ⟨by rw [HG.out]; rfl, HK5.out⟩
        | true =>
          have g2 : (m.toList == [80, 79, 83, 84]) = true := by rw [Lib.toList_data]; exact hg2
          by_cases hn4 : 4096 < n
          · have n1 : (4096 : Int) < ((n : Nat) : Int) := by omega
            have HG : Hid (rdP s = (⟨#[]⟩, ⟨#[]⟩, ⟨#[]⟩, 413)) := by
              show _ = _
              rw [HG1.out, if_neg (by rw [hg1, hg2]; simp), if_pos hn4]
            clear hn4 hg1 hg2
            go_wp2
            refine bodyPost_ret (by simp [results, Tryz.results7, go_sem]; try rfl) rfl ?_
            exact ⟨by rw [HG.out]; rfl, HK5.out⟩
          · have n1 : ¬ (4096 : Int) < ((n : Nat) : Int) := by omega
            have HG2 : Hid (rdP s = if (s.extract ((cutAt s).toNat + 4) s.size).size ≠ n ∨ vf (s.extract ((cutAt s).toNat + 4) s.size) 0 = false then (⟨#[]⟩, ⟨#[]⟩, ⟨#[]⟩, 400) else (m, p, s.extract ((cutAt s).toNat + 4) s.size, 200)) := by
              show _ = _
              rw [HG1.out, if_neg (by rw [hg1, hg2]; simp), if_neg hn4]
            clear hn4 hg1 hg2 HG1
            have hroom := cutAt_room h0
            obtain ⟨rest, hrest⟩ : ∃ rest, rest = s.extract ((cutAt s).toNat + 4) s.size := ⟨_, rfl⟩
            have hrz : rest.size = s.size - ((cutAt s).toNat + 4) := by rw [hrest, ByteArray.size_extract]; omega
            have HRB : Hid (BsAt w b (o + ((cutAt s).toNat + 4)) rest) := by
              show BsAt w b (o + ((cutAt s).toNat + 4)) rest
              rw [hrest]
              exact HB.out.sub (Nat.le_refl _)
            have HRE := hid hrest
            have HRZ := hid hrz
            clear hrest hrz
            have HAA : Hid ((cutAt s).toNat = hd.size) := by show _ = _; have := HX.out; omega
            have hA4 : hd.size + 4 ≤ s.size := by have := HAA.out; omega
            have had0 := had (by omega)
            subst had0
            have hcpA : ((hd.size : Nat) : Int) + 4 ≤ ((s.size : Nat) : Int) := by omega
            have hwr : IntKind.i64.wrap (((hd.size : Nat) : Int) + 4) = ((hd.size : Nat) : Int) + 4 := by rw [IntKind.wrap_i64]; omega
            have HRL : Hid (s.size - (hd.size + 4) = rest.size) := by
              show _ = _
              have h1 := HRZ.out
              have h2 := HAA.out
              omega
            go_upto_region 13 with fail
            go_cut [0, 9] from 44 (fun v0 v wx => (∃ ad2 c2, v = .slice ad2 rest.size c2 ∧ rest.size ≤ c2 ∧ (0 < rest.size → ad2 = some ⟨b, o + ((cutAt s).toNat + 4), none⟩)) ∧ wx = w5)
            case first =>
              by_cases hca : cp = hd.size + 4
              · subst hca
                go_wp2_with fail
                go_meet
                case rel =>
                  have hr0 : rest.size = 0 := by have := HRL.out; omega
                  exact ⟨⟨_, _, by rw [hr0], by rw [hr0]; exact Nat.le_refl _, fun h => absurd h (by rw [hr0]; decide)⟩, rfl⟩
              · go_wp2_with fail
                go_meet
                case rel => exact ⟨⟨_, _, by rw [← HRL.out], by have := HRL.out; omega, fun _ => by rw [HAA.out]⟩, rfl⟩
            case rest =>
              obtain ⟨⟨ad2, c2, hc1, hc2, had2⟩, hcw⟩ := hcut
              subst wc
              subst hc1
              have hV := valid8_any w5 ad2 c2 b (o + ((cutAt s).toNat + 4)) rest had2 hc2 (HRB.out.kept HK5.out) (HT.out.kept HK5.out)
              have hcv2 : ∀ W, Kept (fun _ => False) w W → (convert 23 9 (.slice ad2 rest.size c2)).run Tryz.prog W = .ok (.string rest) W := fun W K => bs_str had2 hc2 (HRB.out.kept K)
              have HCV := hid hcv2
              clear hcv2 had2 hc2
              by_cases hn : rest.size = n
              · have z1 : (((rest.size : Nat) : Int) != ((n : Nat) : Int)) = false := by rw [hn]; simp
                cases hvf : vf rest 0 with
                | true =>
                  rw [hvf] at hV
                  have HG : Hid (rdP s = (m, p, rest, 200)) := by
                    show _ = _
                    rw [HG2.out, ← HRE.out, if_neg]
                    rintro (h1 | h1)
                    · exact h1 hn
                    · rw [hvf] at h1; cases h1
                  clear hvf hn
                  go_upto_region 16 with (first
                    | (go_at_call 15; refine hV.mono ?_; rintro e w6 ⟨rfl, K6⟩; clear hV; have HK6 := hid (HK5.out.and K6); have K65 := hid K6; clear K6)
                    | fail)
                  obtain ⟨⟨y0, y1, y2⟩, _⟩ := three_cells (((K65.out.block _ (Array.getElem?_eq_some_iff.1 HB5.out).1 (fun h => h)).trans HB5.out))
                  have cv1 := HCV.out w6 HK6.out
                  have cv2 := HCV.out w6.drew (HK6.out.and (Kept.drew _ _))
                  go_region
                  go_wp2
                  refine bodyPost_ret (by simp [results, Tryz.results7, go_sem]; try rfl) rfl ?_
                  exact ⟨by rw [HG.out]; rfl, HK6.out.and (Kept.drew _ _)⟩
                | false =>
                  rw [hvf] at hV
                  have HG : Hid (rdP s = (⟨#[]⟩, ⟨#[]⟩, ⟨#[]⟩, 400)) := by
                    show _ = _
                    rw [HG2.out, ← HRE.out, if_pos (.inr hvf)]
                  clear hvf hn
                  go_upto_region 15 with (first
                    | (go_at_call 15; refine hV.mono ?_; rintro e w6 ⟨rfl, K6⟩; clear hV; have HK6 := hid (HK5.out.and K6); clear K6)
                    | fail)
                  go_wp2
                  refine bodyPost_ret (by simp [results, Tryz.results7, go_sem]; try rfl) rfl ?_
                  exact ⟨by rw [HG.out]; rfl, HK6.out⟩
              · have z1 : (((rest.size : Nat) : Int) != ((n : Nat) : Int)) = true := by rw [bne_iff_ne]; omega
                have HG : Hid (rdP s = (⟨#[]⟩, ⟨#[]⟩, ⟨#[]⟩, 400)) := by
                  show _ = _
                  rw [HG2.out, ← HRE.out, if_pos (.inl hn)]
                clear hn hV
                go_wp2
                refine bodyPost_ret (by simp [results, Tryz.results7, go_sem]; try rfl) rfl ?_
                exact ⟨by rw [HG.out]; rfl, HK5.out⟩
  · go_enter Tryz.func7, Tryz.ntmps7
    have c0 : cutAt s < 0 := by omega
    have hz : cutAt s = -1 := by have := cutAt_ge s; omega
    rw [hz] at hI
    by_cases hbig : 4096 ≤ s.size
    · have g1 : ((s.size : Nat) : Int) ≥ 4096 := by omega
      have HG : Hid (rdP s = (⟨#[]⟩, ⟨#[]⟩, ⟨#[]⟩, 431)) := by
        show _ = _
        unfold rdP
        rw [if_pos c0, if_pos hbig]
      clear c0 hz hbig
      go_upto_region 4 with (first
        | (go_at_call 13; refine hI.mono ?_; rintro e w3 ⟨rfl, K3⟩; clear hI hcc; have HK3 := hid (HK1.out.and K3); clear K3)
        | fail)
      go_wp2
      refine bodyPost_ret (by simp [results, Tryz.results7, go_sem]; try rfl) rfl ?_
      exact ⟨by rw [HG.out]; rfl, HK3.out⟩
    · have g1 : ¬ ((s.size : Nat) : Int) ≥ 4096 := by omega
      have HG : Hid (rdP s = (⟨#[]⟩, ⟨#[]⟩, ⟨#[]⟩, 400)) := by
        show _ = _
        unfold rdP
        rw [if_pos c0, if_neg hbig]
      clear c0 hz hbig
      go_upto_region 5 with (first
        | (go_at_call 13; refine hI.mono ?_; rintro e w3 ⟨rfl, K3⟩; clear hI hcc; have HK3 := hid (HK1.out.and K3); clear K3)
        | fail)
      go_wp2
      refine bodyPost_ret (by simp [results, Tryz.results7, go_sem]; try rfl) rfl ?_
      exact ⟨by rw [HG.out]; rfl, HK3.out⟩

end Go.Proofs.YtfiaaaflpjpnjaaGreatDoor

/-
  Texts that are handed in to a law, and the law's cut of a text.
-/
namespace Go.Proofs.YtfiaaaflpjpnjaaGreatDoor
open Go.ChangeShapes Go.WideShapes Go.ChangeAt Go.RowKit Go.Deep

/-- Texts that are handed in. -/
def StrsAt (w : World) (a : Option Addr) (len : Nat) (S : Nat → ByteArray) : Prop :=
  len = 0 ∨ ∃ b o, a = some ⟨b, o, none⟩ ∧ ∀ i, i < len → w.cell? ⟨b, o + i, none⟩ = some (.string (S i)) ∧ (S i).size ≤ maxLen

theorem strs_open {H : Type} {enc : TypeId × Value → H} {P : Program} {w : World} {base : Nat} {held : Bool} {t e : TypeId} {fuel : Nat} {v : Value} {x : DataW H × List MemPlace} (ht : P.underlying t = some (.slice e)) (he : P.underlying e = some .string) (hc : P.cellsOf e = 1)
    (h : DataW.trod enc P w base (fun _ => true) held fuel t [v] = some x) : ∃ a len cap S, v = .slice a len cap ∧ len ≤ cap ∧ cap ≤ maxLen ∧ StrsAt w a len S := by
  rcases open_strs ht he hc h with ⟨hcs, _⟩ | ⟨a, l, c, m, S, hcs, _, hl, hm, hmm, _, hcell⟩
  · simp only [List.cons.injEq, and_true] at hcs
    exact ⟨_, _, _, fun _ => ByteArray.empty, hcs, Nat.le_refl _, Nat.zero_le _, .inl rfl⟩
  · simp only [List.cons.injEq, and_true] at hcs
    simp only [if_true] at hmm
    subst hmm
    rcases Nat.eq_zero_or_pos l with h0 | h0
    · exact ⟨_, _, _, S, hcs, hl, hm, .inl h0⟩
    · obtain ⟨b, o, rfl⟩ := addr_form (hcell 0 (by omega)).1
      exact ⟨_, _, _, S, hcs, hl, hm, .inr ⟨b, o, rfl, fun i hi => by have := hcell i (by omega); rw [Addr.add_lit] at this; exact this⟩⟩

theorem StrsAt.kept {w w' : World} {a : Option Addr} {len : Nat} {S : Nat → ByteArray} (h : StrsAt w a len S) (K : Kept (fun _ => False) w w') : StrsAt w' a len S := by
  rcases h with h0 | ⟨b, o, rfl, hc⟩
  · exact .inl h0
  · refine .inr ⟨b, o, rfl, fun i hi => ?_⟩
    have h := hc i hi
    rw [World.cell?_of_block (w := w) (K.block _ (World.block_lt_of_cell? w _ h.1) (fun h => h))]
    exact h


theorem wf_bounds {n : Int} (h : (Lit.int .i64 n).wf = true) : -9223372036854775808 ≤ n ∧ n ≤ 9223372036854775807 := by
  simp only [Lit.wf, Bool.and_eq_true, decide_eq_true_eq] at h
  exact ⟨h.1, h.2⟩

end Go.Proofs.YtfiaaaflpjpnjaaGreatDoor

/-
  FrontLimits: the requests at the bounds, read, as data.
-/
namespace Go.Proofs.YtfiaaaflpjpnjaaGreatDoor
open Go.RowKit

theorem idx_run_none {d : UInt8} {sub t : List UInt8} : ∀ (l : List UInt8), (∀ c ∈ l, c ≠ d) → Lib.index t (d :: sub) = -1 → Lib.index (l ++ t) (d :: sub) = -1
  | [], _, h0 => h0
  | c :: l, h, h0 => by
    have h1 := idx_run_none l (fun x hx => h x (List.mem_cons_of_mem _ hx)) h0
    have hc := h c List.mem_cons_self
    rw [List.cons_append]
    conv => lhs; unfold Lib.index
    rw [if_neg (by simp [List.isPrefixOf, Ne.symm hc]), if_pos (by rw [h1]; rfl)]

theorem vf_asc (l : List UInt8) (h : ∀ c ∈ l, c.toNat < 128) : vf (mkB l) 0 = true := by
  have hz : (mkB l).size = l.length := mkB_size l
  rw [vf_run (s := mkB l) l.length 0 (fun j hj => ⟨by omega, h _ (by
    show (mkB l)[0 + j] ∈ l
    have : ∀ (k : Nat) (hk : k < (mkB l).size), (mkB l)[k]'hk ∈ l := fun k hk => by
      have h2 : k < l.length := by omega
      have h3 : (mkB l)[k]'hk = l[k]'h2 := by
        show l.toArray[k] = l[k]
        simp
      rw [h3]
      exact List.getElem_mem h2
    exact this _ _)⟩), vf_end (by omega)]

def xs (n : Nat) : List UInt8 := List.replicate n 120

theorem xs_mem {n : Nat} {c : UInt8} (h : c ∈ xs n) : c = 120 := (List.mem_replicate.1 h).2

/-- Content-Length, in the law's letters. -/
def clT (n : Nat) : List UInt8 := [67, 111, 110, 116, 101, 110, 116, 45, 76, 101, 110, 103, 116, 104, 58, 32] ++ Lib.decDigits n

theorem clT_line (n : Nat) : lineR (clT n) = some (some (32 :: Lib.decDigits n)) := by
  have h0 : Lib.index (58 :: 32 :: Lib.decDigits n) [58] = 0 := idx_zero (by simp [List.isPrefixOf]) (by simp)
  have h1 : Lib.index (clT n) [58] = 14 := by
    show Lib.index ([67, 111, 110, 116, 101, 110, 116, 45, 76, 101, 110, 103, 116, 104] ++ 58 :: 32 :: Lib.decDigits n) [58] = 14
    rw [idx_run _ (by decide) (by rw [h0]; omega), h0]
    rfl
  have hc : Lib.cut (clT n) [58] = ([67, 111, 110, 116, 101, 110, 116, 45, 76, 101, 110, 103, 116, 104], 32 :: Lib.decDigits n, true) := by
    unfold Lib.cut
    rw [h1, if_pos (by decide)]
    rfl
  obtain ⟨hd, _⟩ := dec_all n
  have hv : allP valB (32 :: Lib.decDigits n) = true := by
    unfold allP
    rw [Bool.and_eq_true, List.all_eq_true]
    refine ⟨fun c hc => ?_, rfl⟩
    rcases List.mem_cons.1 hc with h | h
    · subst h; decide
    · have := dig_range (hd c h)
      unfold valB
      simp only [Bool.and_eq_true, decide_eq_true_eq]
      omega
  unfold lineR
  rw [hc]
  dsimp only
  rw [if_neg (by decide), if_neg (by decide), if_neg (by rw [hv]; rintro ⟨_, h⟩; cases h), if_neg (by decide)]

theorem clT_ok (n : Nat) (hn : n < 1000000) : okLine (clT n) ∧ (clT n).length ≤ 65 := by
  obtain ⟨hd, _⟩ := dec_all n
  have hl := digs_le 5 n (by omega)
  refine ⟨⟨by simp [clT], fun c hc => ?_⟩, by unfold clT; rw [List.length_append]; simp only [List.length_cons, List.length_nil]; omega⟩
  unfold clT at hc
  rcases List.mem_append.1 hc with h | h
  · have hh : ∀ x ∈ ([67, 111, 110, 116, 101, 110, 116, 45, 76, 101, 110, 103, 116, 104, 58, 32] : List UInt8), x ≠ 13 := by decide
    exact hh c h
  · have := dig_range (hd c h)
    intro e
    rw [e] at this
    exact absurd this.1 (by decide)

def postL : List UInt8 := [80, 79, 83, 84] ++ 32 :: ([47] ++ 32 :: versL)

/-- A body at the bound. -/
theorem lim_body (n : Nat) (hn : n < 1000000) : rdP (mkB (joinL [postL, clT n] ++ 13 :: 10 :: 13 :: 10 :: xs n)) = if n ≤ 4096 then (mkB [80, 79, 83, 84], mkB [47], mkB (xs n), 200) else (⟨#[]⟩, ⟨#[]⟩, ⟨#[]⟩, 413) := by
  obtain ⟨ck, cl⟩ := clT_ok n hn
  have hf : okLine postL ∧ postL.length ≤ 65 := by unfold okLine; decide
  have hall : ∀ x ∈ [postL, clT n], okLine x ∧ x.length ≤ 65 := fun x hx => by
    simp only [List.mem_cons, List.not_mem_nil, or_false] at hx
    rcases hx with h | h
    · subst h; exact hf
    · subst h; exact ⟨ck, cl⟩
  have hlen := join_len postL [clT n] (fun x hx => (hall x hx).2)
  simp only [List.length_cons, List.length_nil] at hlen
  obtain ⟨c1, c2, c3⟩ := cut_join (b := xs n) (fun x hx => (hall x hx).1) (by omega)
  have hx : lenP (Lib.trimB (32 :: Lib.decDigits n) 32) = some n := by
    obtain ⟨hd, _⟩ := dec_all n
    rw [trim_one (fun c hc => by have := dig_range (hd c hc); intro e; rw [e] at this; exact absurd this.1 (by decide)), lenP_dec n hn]
  have h2 : hdF ([clT n].map mkB) false 0 = some n := by
    show hdF [mkB (clT n)] false 0 = some n
    rw [hdF_len1 (v := 32 :: Lib.decDigits n) (by rw [mkB_list]; exact clT_line n) hx]
    rfl
  have hh : hdP (mkB (joinL [postL, clT n])) = some (mkB [80, 79, 83, 84], mkB [47], n) := by
    have h1 := hdP_join (m := [80, 79, 83, 84]) (p := [47]) (v := versL) (r := [clT n]) (by decide) (by decide) (by decide) hf.1 (fun x hx => (hall x (List.mem_cons_of_mem _ hx)).1) (by decide)
    rw [h2] at h1
    exact h1
  have hsz : (mkB (xs n)).size = n := by rw [mkB_size]; exact List.length_replicate
  unfold rdP
  rw [c1, if_neg (by omega), Int.toNat_natCast, c2, hh]
  dsimp only
  rw [c3, if_neg (by decide)]
  by_cases h : n ≤ 4096
  · rw [if_neg (by omega), if_pos h, if_neg]
    rw [vf_asc (xs n) (fun c hc => by rw [xs_mem hc]; decide), hsz]
    simp
  · rw [if_pos (by omega), if_neg h]

def getL (r : Nat) : List UInt8 := [71, 69, 84] ++ 32 :: ((47 :: xs r) ++ 32 :: versL)

theorem getL_ne (r : Nat) : ∀ c ∈ getL r, c ≠ 13 := by
  intro c hc
  unfold getL at hc
  rcases List.mem_append.1 hc with h | h
  · have hh : ∀ x ∈ ([71, 69, 84] : List UInt8), x ≠ 13 := by decide
    exact hh c h
  · rcases List.mem_cons.1 h with h | h
    · subst h; decide
    · rcases List.mem_append.1 h with h | h
      · rcases List.mem_cons.1 h with h | h
        · subst h; decide
        · rw [xs_mem h]; decide
      · have hh : ∀ x ∈ 32 :: versL, x ≠ 13 := by decide
        exact hh c h

theorem getL_len (r : Nat) : (getL r).length = r + 14 := by
  unfold getL xs
  simp only [List.length_append, List.length_cons, List.length_nil, List.length_replicate, show versL.length = 8 from rfl]
  omega

/-- A head at the bound. -/
theorem lim_head (r : Nat) (hr : r + 18 ≤ 4098) : rdP (mkB (getL r ++ [13, 10, 13, 10])) = if r + 18 ≤ 4096 then (mkB [71, 69, 84], mkB (47 :: xs r), ⟨#[]⟩, 200) else (⟨#[]⟩, ⟨#[]⟩, ⟨#[]⟩, 431) := by
  have hl := getL_len r
  have hok : okLine (getL r) := ⟨by intro h; rw [h] at hl; simp at hl, getL_ne r⟩
  by_cases h : r + 18 ≤ 4096
  · rw [if_pos h]
    obtain ⟨c1, c2, c3⟩ := cut_join (l := getL r) (r := []) (b := []) (fun x hx => by simp only [List.mem_cons, List.not_mem_nil, or_false] at hx; subst hx; exact hok) (by show (getL r).length + 4 ≤ 4096; omega)
    have hp : pathP (47 :: xs r) = true := by
      unfold pathP
      rw [Bool.and_eq_true, Bool.or_eq_true, List.all_eq_true]
      exact ⟨rfl, .inr fun c hc => by rw [xs_mem hc]; decide⟩
    have hg : goodW [mkB [71, 69, 84], mkB (47 :: xs r), mkB versL] = true := by
      show (allP capB [71, 69, 84] && pathP (47 :: xs r) && (versL == [72, 84, 84, 80, 47, 49, 46, 49])) = true
      rw [hp]
      decide
    have hp32 : ∀ c ∈ 47 :: xs r, c ≠ 32 := fun c hc => by
      rcases List.mem_cons.1 hc with h | h
      · subst h; decide
      · rw [xs_mem h]; decide
    have hh : hdP (mkB (joinL [getL r])) = some (mkB [71, 69, 84], mkB (47 :: xs r), 0) := by
      have h1 := hdP_join (m := [71, 69, 84]) (p := 47 :: xs r) (v := versL) (r := []) (by decide) hp32 (by decide) hok (fun x hx => by cases hx) hg
      exact h1
    have e : getL r ++ [13, 10, 13, 10] = joinL [getL r] ++ 13 :: 10 :: 13 :: 10 :: [] := rfl
    rw [e]
    unfold rdP
    rw [c1, if_neg (by omega), Int.toNat_natCast, c2, hh]
    dsimp only
    rw [c3, if_neg (by rw [mkB_list]; decide), if_neg (by decide), if_neg (by decide)]
    rfl
  · rw [if_neg h]
    have hc : cutAt (mkB (getL r ++ [13, 10, 13, 10])) = -1 := by
      unfold cutAt
      rw [mkB_list, List.take_append, List.take_of_length_le (by omega), hl]
      have : r = 4080 ∨ r = 4079 := by omega
      rcases this with h | h
      · subst h
        exact idx_run_none _ (getL_ne 4080) (by decide)
      · subst h
        exact idx_run_none _ (getL_ne 4079) (by decide)
    unfold rdP
    rw [hc, if_pos (by decide), if_pos]
    rw [mkB_size, List.length_append, hl]
    simp only [List.length_cons, List.length_nil]
    omega

end Go.Proofs.YtfiaaaflpjpnjaaGreatDoor

/-
  A row of bytes that is made of a text ([]byte(s): it is marked behind its end), and append of one byte onto it.
-/
namespace Go.Proofs.YtfiaaaflpjpnjaaGreatDoor
open Go.RowKit

/-- A row in a block of one's own, none of whose cells is frozen. -/
def RowT (w : World) (base : Nat) (e : TypeId) (v : Value) (n : Nat) (xs : List Value) : Prop :=
  xs.length = n ∧ ∃ g cap cur fz, v = .slice (some ⟨g, 0, none⟩) n cap ∧ base ≤ g ∧ w.heap[g]? = some (.cells cur e fz) ∧ (cap ≤ fz.1 ∨ fz.2 = 0) ∧ n ≤ cap ∧ cap ≤ maxLen ∧ cur.size = cap ∧ cur.toList.take n = xs

theorem RowT.lt {w : World} {base : Nat} {e : TypeId} {v : Value} {n : Nat} {xs : List Value} (R : RowT w base e v n xs) : ∀ k, v.ownBlock = some k → base ≤ k ∧ k < w.heap.size := by
  obtain ⟨_, g, cap, cur, fz, rfl, hb, hg, _⟩ := R
  intro k hk
  have hk' : g = k := by simpa [Value.ownBlock] using hk
  subst hk'
  exact ⟨hb, (Array.getElem?_eq_some_iff.1 hg).1⟩

theorem RowT.shape {w : World} {base : Nat} {e : TypeId} {v : Value} {n : Nat} {xs : List Value} (R : RowT w base e v n xs) : ∃ a c, v = .slice a n c := by
  obtain ⟨_, g, cap, _, _, hv, _⟩ := R
  exact ⟨_, _, hv⟩

theorem RowT.keep {w w' : World} {base : Nat} {e : TypeId} {v : Value} {n : Nat} {xs : List Value} (R : RowT w base e v n xs) (K : Kept (fun _ => False) w w') : RowT w' base e v n xs := by
  obtain ⟨hl, g, cap, cur, fz, hv, hb, hg, h⟩ := R
  exact ⟨hl, g, cap, cur, fz, hv, hb, by rw [K.block g (Array.getElem?_eq_some_iff.1 hg).1 (fun h => h)]; exact hg, h⟩

theorem RowT.of {w : World} {base : Nat} {e : TypeId} {v : Value} {n : Nat} {xs : List Value} (h : w.ownsRow base e 1 v n xs) (hn : 0 < n) : RowT w base e v n xs := by
  obtain ⟨hl, h | ⟨g, cap, cur, hv, hb, hg, hnc, hcm, hcs, ht⟩⟩ := h
  · omega
  · rw [Nat.mul_one] at hl hcs ht
    exact ⟨hl, g, cap, cur, (0, 0), hv, hb, hg, .inr rfl, hnc, hcm, hcs, ht⟩

theorem RowT.cells {w : World} {base : Nat} {e : TypeId} {v : Value} {n : Nat} {xs : List Value} (R : RowT w base e v n xs) : ∃ g cap, v = .slice (some ⟨g, 0, none⟩) n cap ∧ n ≤ cap ∧ ∀ j u, xs[j]? = some u → w.cell? ⟨g, j, none⟩ = some u := by
  obtain ⟨hl, g, cap, cur, fz, hv, hb, hg, _, hnc, _, hcs, ht⟩ := R
  refine ⟨g, cap, hv, hnc, fun j u hu => ?_⟩
  rw [← ht] at hu
  have hj : j < n := by
    have := (List.getElem?_eq_some_iff.1 hu).1
    rw [List.length_take] at this
    omega
  rw [List.getElem?_take_of_lt hj] at hu
  simp only [World.cell?, hg]
  rw [← Array.getElem?_toList]
  exact hu

/-- One byte is appended. -/
theorem run_append_one {P : Program} (w : World) (base : Nat) (t ty e : TypeId) (i : TypeInfo) (ht : P.underlying t = some (.slice e)) (hi : P.info? e = some i) (hz : i.zero = some (.int .u8 0)) (hsize : i.size = 1) (hby : i.bytes = 1)
    (v : Value) (n : Nat) (xs : List Value) (R : RowT w base e v n xs) (a : Addr) (c : Nat) (u : Value) (hu : w.cell? a = some u) (h1 : u.oneCell' = true) (hn : n ≤ 1000000000000) (hbase : base ≤ w.heap.size) :
    ∃ v' w', (Builtin.append_ #[t, t] ty #[v, .slice (some a) 1 c]).run P w = .ok v' w' ∧ RowT w' base e v' (n + 1) (xs ++ [u]) ∧ w.grownBy w' v.ownBlock := by
  obtain ⟨hl, g, cap, cur, fz, rfl, hb, hg, hfz, hnc, hcm, hcs, hta⟩ := R
  have hnews : ∀ j x, [u][j]? = some x → w.cell? (a.add j) = some x := fun j x hx => by
    cases j with
    | zero => simp only [List.getElem?_cons_zero, Option.some.injEq] at hx; subst hx; exact hu
    | succ j => simp at hx
  have hl1 : ([u] : List Value).length = 1 * i.size := by rw [hsize]; rfl
  have hlen : (xs ++ [u]).length = n + 1 := by rw [List.length_append, hl]; rfl
  by_cases hroom : n + 1 ≤ cap
  · have hlt : n < cur.size := by omega
    have hf := run_firstCells_some (P := P) w i.size 1 a 1 c [u] hl1 hnews
    have hcell : w.cell? ⟨g, n, none⟩ = some cur[n] := by simp [World.cell?, hg, hlt]
    have hfro : w.frozen? ⟨g, n, none⟩ = false := by
      obtain ⟨lo, hi'⟩ := fz
      simp only [World.frozen?, hg, Bool.and_eq_false_iff, decide_eq_false_iff_not]
      simp only at hfz
      omega
    have hst : (store ⟨g, n, none⟩ u).run P w = .ok () (w.setRow g (cur.setIfInBounds n u)) := by
      rw [run_store P w _ u _ h1, hcell]
      simp [hfro, setCell_eq_setRow w g n cur e fz u hg]
    have hr : (Builtin.append_ #[t, t] ty #[.slice (some ⟨g, 0, none⟩) n cap, .slice (some a) 1 c]).run P w = .ok (.slice (some ⟨g, 0, none⟩) (n + 1) cap) (w.setRow g (cur.setIfInBounds n u)) := by
      rw [hsize] at hf
      simp [Builtin.append_, run_underlying ht, sizeOf, typeInfo, hi, hsize, Builtin.lenOf, hroom, hf, Addr.add_lit, storeCells, hst]
    refine ⟨_, _, hr, ⟨hlen, g, cap, _, fz, rfl, hb, setRow_heap w g cur _ e _ hg, hfz, hroom, hcm, by simp [hcs], ?_⟩, ⟨rfl, rfl, rfl, by simp, fun k _ hk => setRow_other w g k _ (fun e => hk (by simp [Value.ownBlock, e]))⟩⟩
    rw [Array.toList_setIfInBounds, List.take_add_one, List.take_set_of_le (Nat.le_refl _), hta]
    simp [hlt]
  · have holds : ∀ j x, xs[j]? = some x → w.cell? ((⟨g, 0, none⟩ : Addr).add j) = some x := fun j x hx => by
      rw [Addr.add_lit, Nat.zero_add]
      rw [← hta] at hx
      have hj : j < n := by
        have := (List.getElem?_eq_some_iff.1 hx).1
        rw [List.length_take] at this
        omega
      rw [List.getElem?_take_of_lt hj] at hx
      simp only [World.cell?, hg]
      rw [← Array.getElem?_toList]
      exact hx
    have hr := run_append_grow (P := P) w t ty e i (.int .u8 0) ht hi hz ⟨g, 0, none⟩ n cap xs (by rw [hsize, hl, Nat.mul_one]) holds a 1 c [u] hl1 hnews (by omega) (by omega) (growslice_fits (by omega) (by rw [hby]; omega))
    have hge := grownCap_ge w (n + 1) cap e
    have hcm2 : grownCap w (n + 1) cap e ≤ maxLen := grownCap_le_maxLen w (n + 1) cap e (by unfold maxLen; omega)
    refine ⟨_, _, hr, ⟨hlen, w.heap.size, _, _, (0, 0), rfl, hbase, heap_alloc_new w.drew _, .inr rfl, hge, hcm2, ?_, ?_⟩, ⟨rfl, rfl, rfl, by simp, fun k hk _ => heap_alloc_old w.drew _ hk⟩⟩
    · have hz1 : (Value.int IntKind.u8 0).cells.size = 1 := rfl
      simp only [Array.size_append, List.size_toArray, size_zeroCells, hz1, hl, List.length_cons, List.length_nil]
      omega
    · simp only [Array.toList_append, List.append_assoc]
      rw [← List.append_assoc, ← hlen]
      exact List.take_left

/-- Its bytes, as Read wants them. -/
theorem RowT.at {W : World} {base : Nat} {v : Value} {n : Nat} {l : List UInt8} (R : RowT W base 5 v n (Lib.byteCells l)) : ∃ g cap, v = .slice (some ⟨g, 0, none⟩) (mkB l).size cap ∧ (mkB l).size ≤ cap ∧ base ≤ g ∧ BsAt W g 0 (mkB l) := by
  have hl := R.1
  obtain ⟨g, cap, rfl, hn, hc⟩ := R.cells
  have hb := (R.lt g rfl).1
  unfold Lib.byteCells at hl
  rw [List.length_map] at hl
  subst hl
  refine ⟨g, cap, by rw [mkB_size], by rw [mkB_size]; exact hn, hb, fun j hj => ?_⟩
  rw [Nat.zero_add]
  refine hc j _ ?_
  have hj2 : j < l.length := by rw [mkB_size] at hj; exact hj
  unfold Lib.byteCells
  rw [List.getElem?_map, List.getElem?_eq_getElem hj2, ← atB_is hj]
  have : (mkB l)[j]'hj = l[j]'hj2 := by
    show l.toArray[j] = l[j]
    simp
  rw [this]
  rfl

theorem cells_snoc (l : List UInt8) (c : UInt8) : Lib.byteCells l ++ [.int .u8 (c.toNat : Int)] = Lib.byteCells (l ++ [c]) := by
  unfold Lib.byteCells
  rw [List.map_append]
  rfl

theorem xs_snoc (n : Nat) : xs n ++ [120] = xs (n + 1) := by
  unfold xs
  rw [List.replicate_succ']

/-- append(v, x) of one byte, at the operation: onto a row that []byte(text) made. -/
theorem wpList_append_one {P : Program} (w : World) {ops : Array Oper} {rest : List Oper} {o : Oper} {a : Act} {Q : Exit → Act → World → Prop} (hgd : o.guard = none) (s x : Operand) (t : TypeId)
    (ho : o.op = .call { callee := .builtin .append, args := #[s, x], argTypes := #[t, t] })
    (base : Nat) (e : TypeId) (i : TypeInfo) (ht : P.underlying t = some (.slice e)) (hi : P.info? e = some i) (hz : i.zero = some (.int .u8 0)) (hsize : i.size = 1) (hby : i.bytes = 1)
    (v : Value) (n : Nat) (xs : List Value) (hs : a.eval s = v) (R : RowT w base e v n xs) (ad : Addr) (c : Nat) (hx : a.eval x = .slice (some ad) 1 c) (u : Value) (hu : w.cell? ad = some u) (h1 : u.oneCell' = true) (hn : n ≤ 1000000000000) (hbase : base ≤ w.heap.size)
    (h : ∀ v' w', RowT w' base e v' (n + 1) (xs ++ [u]) → w.grownBy w' v.ownBlock → wpList P ops Q rest (a.put o.dst v') w') :
    wpList P ops Q (o :: rest) a w := by
  refine wpList_plain hgd fun K hK => ?_
  obtain ⟨v', w', hrun, h2, h3⟩ := run_append_one (P := P) w base t o.type e i ht hi hz hsize hby v n xs R ad c u hu h1 hn hbase
  unfold Oper.wp
  simp [execOp, ho, resolve, invoke, builtin, hs, hx, hrun, Result.andThen]
  exact hK _ _ (h v' w' h2 h3)

/-- A row that is full, whatever of it is frozen, or one's own. -/
def RowU (w : World) (base : Nat) (e : TypeId) (v : Value) (n : Nat) (xs : List Value) : Prop :=
  w.ownsRow base e 1 v n xs ∨ (xs.length = n ∧ ∃ g cur fz, v = .slice (some ⟨g, 0, none⟩) n n ∧ base ≤ g ∧ w.heap[g]? = some (.cells cur e fz) ∧ cur.toList = xs)

theorem RowU.lt {w : World} {base : Nat} {e : TypeId} {v : Value} {n : Nat} {xs : List Value} (R : RowU w base e v n xs) : ∀ k, v.ownBlock = some k → base ≤ k ∧ k < w.heap.size := by
  rcases R with h | ⟨_, g, cur, fz, rfl, hb, hg, _⟩
  · exact h.lt
  · intro k hk
    have hk' : g = k := by simpa [Value.ownBlock] using hk
    subst hk'
    exact ⟨hb, (Array.getElem?_eq_some_iff.1 hg).1⟩

theorem RowU.alloc {w : World} {base : Nat} {e : TypeId} {v : Value} {n : Nat} {xs : List Value} (R : RowU w base e v n xs) (b : Obj) : RowU (w.alloc b) base e v n xs := by
  rcases R with h | ⟨hl, g, cur, fz, hv, hb, hg, h⟩
  · exact .inl (h.alloc b)
  · exact .inr ⟨hl, g, cur, fz, hv, hb, by rw [heap_alloc_old w b (Array.getElem?_eq_some_iff.1 hg).1]; exact hg, h⟩

theorem run_append_full {P : Program} (w : World) (base : Nat) (t ty e : TypeId) (i : TypeInfo) (ht : P.underlying t = some (.slice e)) (hi : P.info? e = some i) (hz : i.zero = some (.int .u8 0)) (hsize : i.size = 1) (hby : i.bytes = 1)
    (v : Value) (n : Nat) (xs : List Value) (R : RowU w base e v n xs) (ad : Addr) (c : Nat) (u : Value) (hu : w.cell? ad = some u) (h1 : u.oneCell' = true) (hn : n ≤ 1000000000000) (hbase : base ≤ w.heap.size) :
    ∃ v' w', (Builtin.append_ #[t, t] ty #[v, .slice (some ad) 1 c]).run P w = .ok v' w' ∧ w'.ownsRow base e 1 v' (n + 1) (xs ++ [u]) ∧ w.grownBy w' v.ownBlock := by
  rcases R with h | ⟨hl, g, cur, fz, rfl, hb, hg, hc⟩
  · obtain ⟨v', w', hr, h2, h3, _⟩ := run_append_own_at w base t ty e i (.int .u8 0) 1 1 ht hi hz hsize hby rfl (by decide) v n xs h ad 1 c [u] rfl (fun j x hx => by
      cases j with
      | zero => simp only [List.getElem?_cons_zero, Option.some.injEq] at hx; subst hx; exact hu
      | succ j => simp at hx) (fun x hx => by simp only [List.mem_singleton] at hx; subst hx; exact h1) (by unfold maxLen; omega) (by omega) hbase
    exact ⟨v', w', hr, h2, h3⟩
  · have hcs : cur.size = n := by rw [← Array.length_toList, hc, hl]
    by_cases hm : n ≤ maxLen
    · have R2 : RowT w base e (.slice (some ⟨g, 0, none⟩) n n) n xs ∨ True := .inr trivial
      clear R2
      have hnews : ∀ j x, [u][j]? = some x → w.cell? (ad.add j) = some x := fun j x hx => by
        cases j with
        | zero => simp only [List.getElem?_cons_zero, Option.some.injEq] at hx; subst hx; exact hu
        | succ j => simp at hx
      have hl1 : ([u] : List Value).length = 1 * i.size := by rw [hsize]; rfl
      have hlen : (xs ++ [u]).length = n + 1 := by rw [List.length_append, hl]; rfl
      have holds : ∀ j x, xs[j]? = some x → w.cell? ((⟨g, 0, none⟩ : Addr).add j) = some x := fun j x hx => by
        rw [Addr.add_lit, Nat.zero_add]
        simp only [World.cell?, hg]
        rw [← Array.getElem?_toList, hc]
        exact hx
      have hr := run_append_grow (P := P) w t ty e i (.int .u8 0) ht hi hz ⟨g, 0, none⟩ n n xs (by rw [hsize, hl, Nat.mul_one]) holds ad 1 c [u] hl1 hnews (by omega) (by omega) (growslice_fits (by omega) (by rw [hby]; omega))
      have hge := grownCap_ge w (n + 1) n e
      have hcm2 : grownCap w (n + 1) n e ≤ maxLen := grownCap_le_maxLen w (n + 1) n e (by unfold maxLen; omega)
      refine ⟨_, _, hr, ⟨by rw [hlen, Nat.mul_one], .inr ⟨w.heap.size, _, _, rfl, hbase, heap_alloc_new w.drew _, hge, hcm2, ?_, ?_⟩⟩, ⟨rfl, rfl, rfl, by simp, fun k hk _ => heap_alloc_old w.drew _ hk⟩⟩
      · have hz1 : (Value.int IntKind.u8 0).cells.size = 1 := rfl
        simp only [Array.size_append, List.size_toArray, size_zeroCells, hz1, hl, List.length_cons, List.length_nil]
        omega
      · simp only [Array.toList_append, List.append_assoc]
        rw [← List.append_assoc, Nat.mul_one, ← hlen]
        exact List.take_left
    · unfold maxLen at hm
      omega

theorem wpList_append_full {P : Program} (w : World) {ops : Array Oper} {rest : List Oper} {o : Oper} {a : Act} {Q : Exit → Act → World → Prop} (hgd : o.guard = none) (s x : Operand) (t : TypeId)
    (ho : o.op = .call { callee := .builtin .append, args := #[s, x], argTypes := #[t, t] })
    (base : Nat) (e : TypeId) (i : TypeInfo) (ht : P.underlying t = some (.slice e)) (hi : P.info? e = some i) (hz : i.zero = some (.int .u8 0)) (hsize : i.size = 1) (hby : i.bytes = 1)
    (v : Value) (n : Nat) (xs : List Value) (hs : a.eval s = v) (R : RowU w base e v n xs) (ad : Addr) (c : Nat) (hx : a.eval x = .slice (some ad) 1 c) (u : Value) (hu : w.cell? ad = some u) (h1 : u.oneCell' = true) (hn : n ≤ 1000000000000) (hbase : base ≤ w.heap.size)
    (h : ∀ v' w', w'.ownsRow base e 1 v' (n + 1) (xs ++ [u]) → w.grownBy w' v.ownBlock → wpList P ops Q rest (a.put o.dst v') w') :
    wpList P ops Q (o :: rest) a w := by
  refine wpList_plain hgd fun K hK => ?_
  obtain ⟨v', w', hrun, h2, h3⟩ := run_append_full (P := P) w base t o.type e i ht hi hz hsize hby v n xs R ad c u hu h1 hn hbase
  unfold Oper.wp
  simp [execOp, ho, resolve, invoke, builtin, hs, hx, hrun, Result.andThen]
  exact hK _ _ (h v' w' h2 h3)

theorem RowT.text (W : World) (base : Nat) (l : List UInt8) (hb : base ≤ W.heap.size) (hl : l.length ≤ 1000000) : RowT (Lib.bytesWorld W 5 (mkB l)) base 5 (.slice (some ⟨W.heap.size, 0, none⟩) (mkB l).size (grownCap W l.length 0 5)) l.length (Lib.byteCells l) := by
  have hge := grownCap_ge W l.length 0 5
  have hcm : grownCap W l.length 0 5 ≤ maxLen := grownCap_le_maxLen W l.length 0 5 (by unfold maxLen; omega)
  have hs : (Lib.bytesCells W 5 (mkB l)).size = grownCap W l.length 0 5 := by
    unfold Lib.bytesCells
    rw [mkB_size]
    simp [mkB]
    omega
  have hc : (Lib.byteCells l).length = l.length := by unfold Lib.byteCells; rw [List.length_map]
  refine ⟨hc, W.heap.size, grownCap W l.length 0 5, _, _, by rw [mkB_size], hb, Lib.bytesWorld_at_new W _ (mkB l), .inl (by rw [hs]; exact Nat.le_refl _), hge, hcm, hs, ?_⟩
  refine List.ext_getElem? fun j => ?_
  by_cases hj : j < l.length
  · rw [List.getElem?_take_of_lt hj, Array.getElem?_toList]
    have h := Lib.bytesWorld_cell W 5 (mkB l) j (by rw [mkB_size]; exact hj)
    simp only [World.cell?, Lib.bytesWorld_at_new] at h
    have h2 : (Lib.bytesCells W 5 (mkB l))[j]? = some (.int .u8 ((mkB l).data.toList.getD j 0).toNat) := h
    rw [h2]
    unfold Lib.byteCells
    rw [List.getElem?_map, List.getElem?_eq_getElem hj]
    have : (mkB l).data.toList.getD j 0 = l[j] := by
      show l.toArray.toList.getD j 0 = l[j]
      simp [List.getD, hj]
    rw [this]
    rfl
  · rw [List.getElem?_eq_none (by rw [List.length_take]; omega), List.getElem?_eq_none (by omega)]

theorem RowT.get {w : World} {base : Nat} {e : TypeId} {a : Option Addr} {n c : Nat} {xs : List Value} (R : RowT w base e (.slice a n c) n xs) {k : Nat} (hk : k < n) {u : Value} (hu : xs[k]? = some u) : ∃ g, a = some ⟨g, 0, none⟩ ∧ base ≤ g ∧ w.cell? ⟨g, k, none⟩ = some u ∧ w.frozen? ⟨g, k, none⟩ = false ∧ ∀ v, RowT (w.setCell ⟨g, k, none⟩ v) base e (.slice a n c) n (xs.set k v) := by
  have hce := R.cells
  obtain ⟨hl, g, cap, cur, fz, hv, hb, hg, hf, hnc, hcm, hcs, ht⟩ := R
  simp only [Value.slice.injEq] at hv
  obtain ⟨rfl, _, rfl⟩ := hv
  obtain ⟨g', cap', hv', _, hcell⟩ := hce
  simp only [Value.slice.injEq, Option.some.injEq] at hv'
  obtain ⟨hgg, _, _⟩ := hv'
  cases hgg
  refine ⟨g, rfl, hb, hcell k u hu, ?_, fun v => ?_⟩
  · obtain ⟨lo, hi⟩ := fz
    simp only [World.frozen?, hg]
    simp only at hf
    rw [Bool.and_eq_false_iff, decide_eq_false_iff_not, decide_eq_false_iff_not]
    omega
  · refine ⟨by rw [List.length_set]; exact hl, g, c, cur.setIfInBounds k v, fz, rfl, hb, by simp [World.setCell, Array.getElem?_modify, hg], hf, hnc, hcm, by simpa using hcs, ?_⟩
    rw [Array.toList_setIfInBounds, List.take_set, ht]

end Go.Proofs.YtfiaaaflpjpnjaaGreatDoor

/-
  FrontLimits, walked: a request at the bounds.
-/
namespace Go.Proofs.YtfiaaaflpjpnjaaGreatDoor
open Go.ChangeShapes Go.WideShapes Go.ChangeAt Go.RowKit Go.Deep

theorem lim_within (w : World) (k : Int) :
    Calls Tryz.prog 11 #[.int .i64 k, .int .i64 5] w fun e w' => ∃ r : Nat, r < 5 ∧ e = .returned (.int .i64 (r : Int)) ∧ w' = w :=
  (within_any w k 5 (by decide) (by decide)).mono fun e w' ⟨he, hw⟩ => by
    have h0 := Int.emod_nonneg k (show (5 : Int) ≠ 0 by decide)
    have h1 := Int.emod_lt_of_pos k (show (0 : Int) < 5 by decide)
    refine ⟨(k % 5).toNat, by omega, ?_, hw⟩
    rw [he, Int.toNat_of_nonneg h0]

theorem lim_read (l : List UInt8) (hl : l.length ≤ 1000000) (W : World) (T : Utf8At W) (M : MaxAt W) (base : Nat) (v : Value) (n : Nat) (R : RowT W base 5 v n (Lib.byteCells l)) :
    Calls Tryz.prog 7 #[v] W fun e w' => e = .returned (rdV (rdP (mkB l))) ∧ Kept (fun _ => False) W w' := by
  obtain ⟨g, cap, rfl, hc, _, B⟩ := R.at
  exact read_any W _ cap g 0 (mkB l) (fun _ => rfl) hc (by rw [mkB_size]; exact hl) B T M

theorem one_new (w : World) (u : Value) {e : TypeId} : (w.alloc (.cells #[u] e)).cell? ⟨w.heap.size, 0, none⟩ = some u := by
  have h := heap_alloc_new w (.cells #[u] e)
  simp only [World.cell?, h]
  rfl

set_option maxRecDepth 100000 in
set_option maxHeartbeats 16000000 in
theorem limits_body (w : World) (k : Int) (T : Utf8At w) (M : MaxAt w) :
    Calls Tryz.prog 4 #[.int .i64 k, .bool true] w fun e w' => e = .returned (.bool true) ∧ Below w.heap.size w w' := by
  have HT := hid T
  have HM := hid M
  have hWk := fun V (K : Kept (fun _ => False) w V) => wakes_any V (HT.out.kept K) (HM.out.kept K)
  have HWk := hid hWk
  clear hWk T M
  have hW5 := lim_within w k
  obtain ⟨i0, hi0, hz0, hz1, hz2⟩ := info_parts Tryz.info5
  go_enter Tryz.func4, Tryz.ntmps4
  go_upto_region 4 with (first
    | (go_at_call 11; refine hW5.mono ?_; rintro e w1 ⟨r, hr, rfl, hw1⟩; subst w1; clear hW5)
    | fail)
  obtain ⟨n, hn⟩ : ∃ n : Nat, 4096 + ((r : Int) - 2) = (n : Int) := ⟨4094 + r, by omega⟩
  have hn1 : 4094 ≤ n ∧ n ≤ 4098 := by omega
  obtain ⟨hn1, hn2⟩ := hn1
  rw [hn]
  clear hn
  have hDg := fun V => digits_pos V n (by omega)
  have hdl := digs_le 5 n (by omega)
  obtain ⟨u1, U1, t1⟩ := run_cat [80, 79, 83, 84, 32, 47, 32, 72, 84, 84, 80, 47, 49, 46, 49, 13, 10, 67, 111, 110, 116, 101, 110, 116, 45, 76, 101, 110, 103, 116, 104, 58, 32] (Lib.decDigits n) (by simp only [List.length_cons, List.length_nil]; omega)
  have l1 : u1.length = 33 + (Lib.decDigits n).length := by rw [U1.out, List.length_append]; rfl
  obtain ⟨u2, U2, t2⟩ := run_cat u1 [13, 10, 13, 10] (by simp only [List.length_cons, List.length_nil]; omega)
  have l2 : u2.length = u1.length + 4 := by rw [U2.out, List.length_append]; rfl
  have HU : Hid (∀ m, u2 ++ xs m = joinL [postL, clT n] ++ 13 :: 10 :: 13 :: 10 :: xs m) := fun m => by
    rw [U2.out, U1.out]
    simp [joinL, postL, clT, versL]
  have t1' : ∀ V, (Op.stringOp .add ⟨#[80, 79, 83, 84, 32, 47, 32, 72, 84, 84, 80, 47, 49, 46, 49, 13, 10, 67, 111, 110, 116, 101, 110, 116, 45, 76, 101, 110, 103, 116, 104, 58, 32]⟩ (mkB (Lib.decDigits n))).run Tryz.prog V = .ok (.string (mkB u1)) V := t1
  have t2' : ∀ V, (Op.stringOp .add (mkB u1) ⟨#[13, 10, 13, 10]⟩).run Tryz.prog V = .ok (.string (mkB u2)) V := t2
  have hul : u2.length ≤ 100 := by omega
  have hcv := fun W => low_bytes u2 W
  clear t1 t2 U1 U2 l1 l2 hdl
  generalize Lib.decDigits n = dd at *
  go_wp2_with (first
    | (go_at_call 12; refine (hDg _).mono ?_; rintro e w1 ⟨rfl, K1⟩; clear hDg; have HK1 := hid K1; clear K1)
    | fail)
  clear hcv t1' t2'
  have KB : Kept (fun _ => False) w (Lib.bytesWorld w1 5 (mkB u2)) := HK1.out.and (bytesKept _ _ _ _)
  have RB := RowT.text w1 w.heap.size u2 HK1.out.size (by omega)
  rw [mkB_size] at RB
  generalize Lib.bytesWorld w1 5 (mkB u2) = w2 at *
  generalize grownCap w1 u2.length 0 5 = cp at *
  generalize w1.heap.size = g1 at *
  go_loopw [7, 8] (fun v i wr => ∃ (j m : Nat), j ≤ n ∧ i = .int .i64 (j : Int) ∧ m = u2.length + j ∧ RowT wr w.heap.size 5 v m (Lib.byteCells (u2 ++ xs j)) ∧ Kept (fun _ => False) w wr) (fun _ i _ => n - (intOf i).toNat)
  case atStart => exact ⟨0, u2.length, Nat.zero_le _, rfl, rfl, by show RowT _ _ _ _ _ (Lib.byteCells (u2 ++ [])); rw [List.append_nil]; exact RB, KB⟩
  case round =>
    obtain ⟨j, m, hj, rfl, hm, R, K⟩ := hrel
    clear RB KB
    have HMm := hid hm
    have hmb : m ≤ 1000000000000 := by omega
    clear hm
    by_cases hlt : j < n
    · have e0 : (j : Int) < (n : Int) := by omega
      have HK := hid K
      have hbz : w.heap.size ≤ wr.heap.size := K.size
      clear K
      obtain ⟨a5, c5, rfl⟩ := R.shape
      have q1 : RowT (wr.alloc (.cells #[.int .u8 120] 5)) w.heap.size 5 (.slice a5 m c5) m (Lib.byteCells (u2 ++ xs j)) := R.keep (Kept.alloc _ _ _)
      have q2 : (wr.alloc (.cells #[.int .u8 120] 5)).cell? ⟨wr.heap.size, 0, none⟩ = some (.int .u8 120) := one_new _ _
      have q3 : w.heap.size ≤ (wr.alloc (.cells #[.int .u8 120] 5)).heap.size := by simp; omega
      go_wp2_with (at_builtin; refine wpList_append_one _ rfl _ _ 23 rfl w.heap.size 5 i0 Tryz.underlying23 hi0 hz0 hz1 hz2 (.slice a5 m c5) m _ rfl q1 ⟨wr.heap.size, 0, none⟩ 1 rfl (.int .u8 120) q2 rfl hmb q3 ?_; intro v3 w3 R3 hg3)
      have K3 : Kept (fun _ => False) w w3 := (HK.out.and (Kept.alloc _ _ _)).trans (Kept.grown (S := fun k => w.heap.size ≤ k) hg3 (fun k e => (R.lt k e).1)) (fun _ h => .inr h)
      go_roundw
      case rel => exact ⟨j + 1, m + 1, by omega, by go_num, by have := HMm.out; omega, by
        have h := cells_snoc (u2 ++ xs j) 120
        rw [List.append_assoc, xs_snoc] at h
        rw [← h]
        exact R3, K3⟩
      case measure => simp [intOf]; omega
    · obtain rfl : j = n := by omega
      have e0 : ¬ (j : Int) < (j : Int) := by omega
      obtain ⟨a5, c5, rfl⟩ := R.shape
      have hr := lim_read (u2 ++ xs j) (by rw [List.length_append]; unfold xs; rw [List.length_replicate]; omega) wr (HT.out.kept K) (HM.out.kept K) w.heap.size _ m R
      rw [HU.out j, lim_body j (by omega)] at hr
      have HK := hid K
      have hsz : (mkB (xs j)).size = j := by rw [mkB_size]; exact List.length_replicate
      clear K R
      by_cases h4 : j ≤ 4096
      · rw [if_pos h4] at hr
        have hr2 : Calls Tryz.prog 7 #[.slice a5 m c5] wr fun e w' => e = .returned (.tuple #[.string ⟨#[80, 79, 83, 84]⟩, .string ⟨#[47]⟩, .string (mkB (xs j)), .int .i64 200]) ∧ Kept (fun _ => False) wr w' := hr
        clear hr
        have f4 : (j : Int) ≤ 4096 := by omega
        have f5 : ¬ (4096 : Int) < (j : Int) := by omega
        have fz : ((((mkB (xs j)).size : Nat) : Int) == (j : Int)) = true := by rw [hsz, beq_iff_eq]
        generalize mkB (xs j) = bx at *
        clear hsz h4
        go_wp2_with (first
          | (go_at_call 7; refine hr2.mono ?_; rintro e w4 ⟨rfl, K4⟩; clear hr2; have HK4 := hid (HK.out.and K4); clear K4; have hWk := HWk.out w4 HK4.out)
          | (go_at_call 10; refine hWk.mono ?_; rintro e w5 ⟨rfl, K5⟩; clear hWk)
          | fail)
        go_ret
        exact ⟨rfl, (HK4.out.and K5).below (Nat.le_refl _) (fun i h => h.elim)⟩
      · rw [if_neg h4] at hr
        have hr2 : Calls Tryz.prog 7 #[.slice a5 m c5] wr fun e w' => e = .returned (.tuple #[.string ⟨#[]⟩, .string ⟨#[]⟩, .string ⟨#[]⟩, .int .i64 413]) ∧ Kept (fun _ => False) wr w' := hr
        clear hr
        have f4 : ¬ (j : Int) ≤ 4096 := by omega
        have f5 : (4096 : Int) < (j : Int) := by omega
        clear hsz h4
        go_wp2_with (first
          | (go_at_call 7; refine hr2.mono ?_; rintro e w4 ⟨rfl, K4⟩; clear hr2; have HK4 := hid (HK.out.and K4); clear K4; have hWk := HWk.out w4 HK4.out)
          | (go_at_call 10; refine hWk.mono ?_; rintro e w5 ⟨rfl, K5⟩; clear hWk)
          | fail)
        go_ret
        exact ⟨rfl, (HK4.out.and K5).below (Nat.le_refl _) (fun i h => h.elim)⟩

theorem RowU.shape {w : World} {base : Nat} {e : TypeId} {v : Value} {n : Nat} {xs : List Value} (R : RowU w base e v n xs) : ∃ a c, v = .slice a n c := by
  rcases R with h | ⟨_, g, _, _, hv, _⟩
  · exact ownsRow_shape h
  · exact ⟨_, _, hv⟩

set_option maxRecDepth 100000 in
set_option maxHeartbeats 16000000 in
theorem limits_head (w : World) (k : Int) (T : Utf8At w) (M : MaxAt w) :
    Calls Tryz.prog 4 #[.int .i64 k, .bool false] w fun e w' => e = .returned (.bool true) ∧ Below w.heap.size w w' := by
  have HT := hid T
  have HM := hid M
  have hWk := fun V (K : Kept (fun _ => False) w V) => wakes_any V (HT.out.kept K) (HM.out.kept K)
  have HWk := hid hWk
  clear hWk T M
  have hW5 := lim_within w k
  obtain ⟨i0, hi0, hz0, hz1, hz2⟩ := info_parts Tryz.info5
  have hcc := Lib.run_convert_bytes_const w 23 5 #[.int .u8 71, .int .u8 69, .int .u8 84, .int .u8 32, .int .u8 47] 5 5 Tryz.underlying23 Tryz.underlying5
  go_enter Tryz.func4, Tryz.ntmps4
  go_upto_region 14 with (first
    | (go_at_call 11; refine hW5.mono ?_; rintro e w1 ⟨r, hr, rfl, hw1⟩; subst w1; clear hW5)
    | fail)
  obtain ⟨n, hn⟩ : ∃ n : Nat, 4096 + ((r : Int) - 2) - 5 - 13 = (n : Int) := ⟨4076 + r, by omega⟩
  have hn1 : 4076 ≤ n ∧ n ≤ 4080 := by omega
  obtain ⟨hn1, hn2⟩ := hn1
  rw [hn]
  clear hn hcc
  have KB : Kept (fun _ => False) w (w.alloc (.cells #[.int .u8 71, .int .u8 69, .int .u8 84, .int .u8 32, .int .u8 47] 5 (5, 6))) := Kept.alloc _ _ _
  have RB : RowU (w.alloc (.cells #[.int .u8 71, .int .u8 69, .int .u8 84, .int .u8 32, .int .u8 47] 5 (5, 6))) w.heap.size 5 (.slice (some ⟨w.heap.size, 0, none⟩) 5 5) 5 (Lib.byteCells ([71, 69, 84, 32, 47] ++ xs 0)) :=
    .inr ⟨rfl, w.heap.size, _, _, rfl, Nat.le_refl _, heap_alloc_new w _, rfl⟩
  generalize w.alloc (.cells #[.int .u8 71, .int .u8 69, .int .u8 84, .int .u8 32, .int .u8 47] 5 (5, 6)) = w2 at *
  go_wp2
  go_loopw [15, 16] (fun v i wr => ∃ (j m : Nat), j ≤ n ∧ i = .int .i64 (j : Int) ∧ m = 5 + j ∧ (RowU wr w.heap.size 5 v m (Lib.byteCells ([71, 69, 84, 32, 47] ++ xs j)) ∧ (0 < j → wr.ownsRow w.heap.size 5 1 v m (Lib.byteCells ([71, 69, 84, 32, 47] ++ xs j)))) ∧ Kept (fun _ => False) w wr) (fun _ i _ => n - (intOf i).toNat)
  case atStart => exact ⟨0, 5, Nat.zero_le _, rfl, rfl, ⟨RB, fun h => absurd h (by decide)⟩, KB⟩
  case round =>
    obtain ⟨j, m, hj, rfl, hm, ⟨R, hO⟩, K⟩ := hrel
    clear RB KB
    have HMm := hid hm
    have hmb : m ≤ 5000 := by omega
    clear hm
    by_cases hlt : j < n
    · have e0 : (j : Int) < (n : Int) := by omega
      have HK := hid K
      have hbz : w.heap.size ≤ wr.heap.size := K.size
      clear K hO
      obtain ⟨a5, c5, rfl⟩ := R.shape
      have q1 : RowU (wr.alloc (.cells #[.int .u8 120] 5)) w.heap.size 5 (.slice a5 m c5) m (Lib.byteCells ([71, 69, 84, 32, 47] ++ xs j)) := R.alloc _
      have q2 : (wr.alloc (.cells #[.int .u8 120] 5)).cell? ⟨wr.heap.size, 0, none⟩ = some (.int .u8 120) := one_new _ _
      have q3 : w.heap.size ≤ (wr.alloc (.cells #[.int .u8 120] 5)).heap.size := by simp; omega
      have hm9 : m ≤ 1000000000000 := by omega
      go_wp2_with (at_builtin; refine wpList_append_full _ rfl _ _ 23 rfl w.heap.size 5 i0 Tryz.underlying23 hi0 hz0 hz1 hz2 (.slice a5 m c5) m _ rfl q1 ⟨wr.heap.size, 0, none⟩ 1 rfl (.int .u8 120) q2 rfl hm9 q3 ?_; intro v3 w3 R3 hg3)
      have K3 : Kept (fun _ => False) w w3 := (HK.out.and (Kept.alloc _ _ _)).trans (Kept.grown (S := fun k => w.heap.size ≤ k) hg3 (fun k e => (R.lt k e).1)) (fun _ h => .inr h)
      have h := cells_snoc ([71, 69, 84, 32, 47] ++ xs j) 120
      rw [List.append_assoc, xs_snoc] at h
      have R4 : w3.ownsRow w.heap.size 5 1 v3 (m + 1) (Lib.byteCells ([71, 69, 84, 32, 47] ++ xs (j + 1))) := by rw [← h]; exact R3
      clear h R3
      go_roundw
      case rel => exact ⟨j + 1, m + 1, by omega, by go_num, by have := HMm.out; omega, ⟨.inl R4, fun _ => R4⟩, K3⟩
      case measure => simp [intOf]; omega
    · obtain rfl : j = n := by omega
      have e0 : ¬ (j : Int) < (j : Int) := by omega
      have ho := hO (by omega)
      obtain ⟨a5, c5, rfl⟩ := ownsRow_shape ho
      have HK := hid K
      have hbz : w.heap.size ≤ wr.heap.size := K.size
      clear K hO R
      have hm63 : m + (⟨#[32, 72, 84, 84, 80, 47, 49, 46, 49, 13, 10, 13, 10]⟩ : ByteArray).size ≤ maxLen := by
        show m + 13 ≤ 9223372036854775807
        omega
      have hm48 : m + (⟨#[32, 72, 84, 84, 80, 47, 49, 46, 49, 13, 10, 13, 10]⟩ : ByteArray).size ≤ 140737488355328 := by
        show m + 13 ≤ _
        omega
      go_upto_region 19 with (at_builtin; refine Lib.wpList_append_own_string _ rfl _ _ 23 9 rfl w.heap.size 5 i0 Tryz.underlying23 Tryz.underlying9 hi0 hz0 hz1 hz2 (.slice a5 m c5) m _ rfl ho ⟨#[32, 72, 84, 84, 80, 47, 49, 46, 49, 13, 10, 13, 10]⟩ rfl hm63 hm48 hbz ?_; intro v3 w3 ho3 hg3 hn3)
      have K3 : Kept (fun _ => False) w w3 := HK.out.trans (Kept.grown (S := fun k => w.heap.size ≤ k) hg3 (fun k e => (ho.lt k e).1)) (fun _ h => .inr h)
      obtain ⟨N, hN⟩ : ∃ N, N = m + 13 := ⟨_, rfl⟩
      have ho4 : w3.ownsRow w.heap.size 5 1 v3 N (Lib.byteCells (getL j ++ [13, 10, 13, 10])) := by
        have e : Lib.byteCells (getL j ++ [13, 10, 13, 10]) = Lib.byteCells ([71, 69, 84, 32, 47] ++ xs j) ++ Lib.strCells ⟨#[32, 72, 84, 84, 80, 47, 49, 46, 49, 13, 10, 13, 10]⟩ := by
          have e2 : getL j ++ [13, 10, 13, 10] = ([71, 69, 84, 32, 47] ++ xs j) ++ [32, 72, 84, 84, 80, 47, 49, 46, 49, 13, 10, 13, 10] := by simp [getL, versL]
          rw [e2]
          unfold Lib.byteCells
          rw [List.map_append]
          rfl
        rw [e, hN]
        exact ho3
      obtain ⟨a6, c6, rfl⟩ := ownsRow_shape ho4
      have hNj : N = j + 18 := by have := HMm.out; omega
      have hr := lim_read (getL j ++ [13, 10, 13, 10]) (by rw [List.length_append, getL_len]; simp only [List.length_cons, List.length_nil]; omega) w3 (HT.out.kept K3) (HM.out.kept K3) w.heap.size _ N (RowT.of ho4 (by omega))
      rw [lim_head j (by omega)] at hr
      have HK3 := hid K3
      have hsz : (mkB (47 :: xs j)).size = j + 1 := by rw [mkB_size, List.length_cons]; unfold xs; rw [List.length_replicate]
      clear ho ho3 hg3 hn3 K3 ho4 hN hm63 hm48
      by_cases h4 : j + 18 ≤ 4096
      · rw [if_pos h4] at hr
        have hr2 : Calls Tryz.prog 7 #[.slice a6 N c6] w3 fun e w' => e = .returned (.tuple #[.string ⟨#[71, 69, 84]⟩, .string (mkB (47 :: xs j)), .string ⟨#[]⟩, .int .i64 200]) ∧ Kept (fun _ => False) w3 w' := hr
        clear hr
        have f4 : (N : Int) ≤ 4096 := by omega
        have f5 : ¬ (4096 : Int) < (N : Int) := by omega
        have fz : ((((mkB (47 :: xs j)).size : Nat) : Int) == (j : Int) + 1) = true := by rw [hsz, beq_iff_eq]; omega
        generalize mkB (47 :: xs j) = bx at *
        clear hsz h4 hNj
        go_wp2_with (first
          | (go_at_call 7; refine hr2.mono ?_; rintro e w4 ⟨rfl, K4⟩; clear hr2; have HK4 := hid (HK3.out.and K4); clear K4; have hWk := HWk.out w4 HK4.out)
          | (go_at_call 10; refine hWk.mono ?_; rintro e w5 ⟨rfl, K5⟩; clear hWk)
          | fail)
        go_ret
        exact ⟨rfl, (HK4.out.and K5).below (Nat.le_refl _) (fun i h => h.elim)⟩
      · rw [if_neg h4] at hr
        have hr2 : Calls Tryz.prog 7 #[.slice a6 N c6] w3 fun e w' => e = .returned (.tuple #[.string ⟨#[]⟩, .string ⟨#[]⟩, .string ⟨#[]⟩, .int .i64 431]) ∧ Kept (fun _ => False) w3 w' := hr
        clear hr
        have f4 : ¬ (N : Int) ≤ 4096 := by omega
        have f5 : (4096 : Int) < (N : Int) := by omega
        clear hsz h4 hNj
        go_wp2_with (first
          | (go_at_call 7; refine hr2.mono ?_; rintro e w4 ⟨rfl, K4⟩; clear hr2; have HK4 := hid (HK3.out.and K4); clear K4; have hWk := HWk.out w4 HK4.out)
          | (go_at_call 10; refine hWk.mono ?_; rintro e w5 ⟨rfl, K5⟩; clear hWk)
          | fail)
        go_ret
        exact ⟨rfl, (HK4.out.and K5).below (Nat.le_refl _) (fun i h => h.elim)⟩

theorem frontLimits_walk (w : World) (k : Int) (body : Bool) (T : Utf8At w) (M : MaxAt w) :
    Calls Tryz.prog 4 #[.int .i64 k, .bool body] w fun e w' => e = .returned (.bool true) ∧ Below w.heap.size w w' := by
  cases body with
  | true => exact limits_body w k T M
  | false => exact limits_head w k T M

end Go.Proofs.YtfiaaaflpjpnjaaGreatDoor

/-
  FrontLimits: a head or a body of just the greatest size is read, one more byte is refused by its own status. For every number and both kinds.
-/
namespace Go.Proofs.YtfiaaaflpjpnjaaGreatDoor
open Go.ChangeShapes Go.WideShapes Go.ChangeAt Go.RowKit Go.Deep

set_option maxHeartbeats 4000000 in
set_option maxRecDepth 100000 in
theorem frontLimits_lifted (os : Os) (started : os.Started) (H : Type) (enc : TypeId × Value → H) :
    ReturnsInHanded {} Tryz.checked os 4 .any (fun w args => (Rows.frontLimitsSpec.pre enc Tryz.prog Tryz.f4 [] false w args ∧ laidMetH Tryz.prog laidL w) ∧ sizedMet enc Tryz.prog Tryz.f4 (OpenSpec.ofChange Rows.frontLimitsSpec) false w args)
      (Rows.frontLimitsSpec.post enc Tryz.prog Tryz.f4 false true false false) := by
  refine returns_front (C := Tryz.checked) (X := fun w _ => laidMetH Tryz.prog laidL w) (fun _ _ _ hh h => h.of_heap hh) Tryz.own started (by kernel_rfl) Tryz.func4
    (ChangeSpec.witness_shaped (enc := enc) (C := Tryz.checked) (os := os) (X := fun w _ => laidMetH Tryz.prog laidL w) false (World.laidAll Tryz.prog os laidL) #[.int .i64 0, .bool false] 8 (World.laidAll_os _ _ _) (World.shaped_of_ZipB (by kernel_rfl) (by kernel_rfl)) (by kernel_rfl) (by kernel_rfl) (by kernel_rfl) (laid_met os _)) ?_
  intro W base args ds gs before hval0 hW _ hz hL hSh _
  have hval : ∀ (j : Nat) t v, Tryz.f4.params[j]? = some t → args[j]? = some v → Value.okWide Tryz.prog W .any base t v := hval0
  have hW' := hW
  obtain ⟨p, q, hA0, hV, rfl, _, _⟩ := hW
  have hA : DataW.TrodAll enc Tryz.prog W 0 (fun _ => true) true Tryz.f4.params.toList args.toList ds p := hA0
  rw [Tryz.params4] at hA hval
  obtain ⟨v0, vs0, d0, ds0, p0, q0, hargs, rfl, rfl, h0, r0⟩ := trodAll_cons hA
  obtain ⟨v1, vs1, d1, ds1, p1, q1, rfl, rfl, rfl, h1, r1⟩ := trodAll_cons r0
  obtain ⟨rfl, rfl, rfl⟩ := trodAll_nil r1
  obtain rfl : args = #[v0, v1] := by cases args; simp_all
  obtain ⟨rfl, rfl⟩ := trodVars_none hV
  have k0 := h0
  have k1 := h1
  have lt0 : ∀ x ∈ p0, x.block < W.heap.size := by obtain ⟨m, hm⟩ := k0; exact DataW.trod_lt m _ _ _ hm
  have lt1 : ∀ x ∈ p1, x.block < W.heap.size := by obtain ⟨m, hm⟩ := k1; exact DataW.trod_lt m _ _ _ hm
  obtain ⟨n0, rfl, _, _, x0⟩ := open_int Tryz.underlying3 (hval 0 3 v0 rfl rfl) h0
  obtain ⟨n1, rfl, rfl, rfl⟩ := open_bool Tryz.underlying4 (hval 1 4 v1 rfl rfl) h1
  clear hA0 hval0
  refine (frontLimits_walk W n0 n1 (utf8_laid hL) (max_shaped hSh)).mono fun e W' ⟨he, bel⟩ => ?_
  subst he
  exact ⟨_, rfl, _, _, _, [], _, [], hW', trodAll_mk1 (shut_bool Tryz.underlying4 _), (trodAll_cons_mk (Below.trod Tryz.laidOut (by kernel_rfl) (of_decide_eq_true (by kernel_rfl)) k0 bel lt0) (trodAll_cons_mk (Below.trod Tryz.laidOut (by kernel_rfl) (of_decide_eq_true (by kernel_rfl)) k1 bel lt1) trodAll_mk0)), rfl, bel.frame _, fun h => by cases h⟩

theorem frontLimits_row : Rows.FrontLimitsSaid :=
  OpenClaim.holds_of_wide 4 Tryz.f4 rfl rfl rfl rfl rfl rfl rfl ⟨rfl, rfl, rfl, rfl, rfl⟩ rfl rfl rfl rfl rfl (by kernel_rfl) Tryz.func4 (by kernel_rfl)
    (of_decide_eq_true (by kernel_rfl)) (by unfold Func.isWrapper; first | (rw [if_pos (by decide +kernel)]; kernel_rfl) | (rw [if_neg (by decide +kernel)]; exact ⟨rfl, rfl⟩))
    (fun os started H enc _ => frontLimits_lifted os started H enc)

theorem frontLimits_holds : Rows.FrontLimitsCardSaid :=
  Claim7.holds_tied_plain_at .later [] [.data, .data, .data, .data, .sentinel, .sentinel, .data, .data, .pinned, .pinned] true Rows.frontLimitsCard.stood.harness true
    frontLimits_row (fun _ h => by cases h) (by kernel_rfl) (fun _ h => by cases h) frontLimits_row_tie rfl ⟨rfl, rfl⟩ (by kernel_rfl) rfl
    (fun f fn hf hfn => by
      obtain rfl : f = 4 := Option.some.inj ((show Tryz.prog.funcNamed "tiller/tillerlaw13.FrontLimits" = some 4 by kernel_rfl).symm.trans hf) |>.symm
      obtain rfl : fn = Tryz.f4 := (Option.some.inj (Tryz.func4.symm.trans hfn)).symm
      exact ⟨by kernel_rfl, fun j t ht => by
        rw [Tryz.params4] at ht
        have hm : t ∈ [3, 4] := by simpa using Array.mem_of_getElem? ht
        have hall : ([3, 4].all fun u => !Tryz.prog.wantsStandIn u) = true := by kernel_rfl
        exact (show Tryz.prog.wantsStandIn t = false by simpa using List.all_eq_true.1 hall t hm)⟩)
    (by kernel_rfl)

end Go.Proofs.YtfiaaaflpjpnjaaGreatDoor
