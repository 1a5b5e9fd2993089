/-
  Read: any bytes, read as the data say.
-/
import Derived.Test.YtcbiibkmmbilbaaGreatDoorWM1
import Derived.Test.YtcbiibkmmbilbaaGreatDoorFBld
import Derived.Test.YtcbiibkmmbilbaaGreatDoorFCard
import Derived.Test.YtcbiibkmmbilbaaGreatDoorFRefD
import Derived.Test.YtcbiibkmmbilbaaGreatDoorFUtf
import Derived.Test.YtcbiibkmmbilbaaGreatDoorFWakes
import Derived.Deep.CutRange
import Derived.Deep.Strs
import Derived.Laws.Cover4
import Derived.SizedLaws
namespace Go.Proofs.YtcbiibkmmbilbaaGreatDoor
open Go.RowKit

set_option maxRecDepth 100000 in
set_option maxHeartbeats 16000000 in
theorem read_any (w : World) (ad : Option Addr) (cp b o : Nat) (s : ByteArray) (had : 0 < s.size → ad = some ⟨b, o, none⟩) (hcp : s.size ≤ cp) (hs : s.size ≤ 1000000) (B : BsAt w b o s) (T : Utf8At w) (MX : MaxAt w) :
    Calls Tryz.prog 8 #[.slice ad s.size cp] w fun e w' => e = .returned (rdV (rdP s)) ∧ Kept (fun _ => False) w w' := by
  have HB := hid B
  have HT := hid T
  have HM := hid MX
  have HK1 : Hid (Kept (fun _ => False) w (w.alloc (.cells #[.int .u8 13, .int .u8 10, .int .u8 13, .int .u8 10] 5 (4, 5)))) := Kept.alloc _ _ _
  have hcc := Lib.run_convert_bytes_const w 23 5 #[.int .u8 13, .int .u8 10, .int .u8 13, .int .u8 10] 4 4 Tryz.underlying23 Tryz.underlying5
  obtain ⟨M, hM⟩ : ∃ M, M = min s.size 4096 := ⟨_, rfl⟩
  have hI := index_any (w.alloc (.cells #[.int .u8 13, .int .u8 10, .int .u8 13, .int .u8 10] 5 (4, 5))) ad M cp b o w.heap.size s had hM hcp (B.kept HK1.out) (MX.kept HK1.out) (heap_alloc_new w (.cells #[.int .u8 13, .int .u8 10, .int .u8 13, .int .u8 10] 5 (4, 5)))
  have hmin : min ((s.size : Nat) : Int) 4096 = ((M : Nat) : Int) := by omega
  have hMc : ((M : Nat) : Int) ≤ ((cp : Nat) : Int) := by omega
  clear hM B T MX
  by_cases h0 : 0 ≤ cutAt s
  · go_enter Tryz.func8, Tryz.ntmps8
    have hroom := cutAt_room h0
    obtain ⟨hd, hhd⟩ : ∃ hd, hd = s.extract 0 (cutAt s).toNat := ⟨_, rfl⟩
    have hhz : hd.size = (cutAt s).toNat := by rw [hhd, ByteArray.size_extract]; omega
    have hhB : BsAt w b o hd := by
      rw [hhd]
      have := HB.out.sub (k := 0) (n := (cutAt s).toNat) (by omega)
      rwa [Nat.add_zero] at this
    have hcv : ∀ W, Kept (fun _ => False) w W → (convert 23 9 (.slice ad hd.size cp)).run Tryz.prog W = .ok (.string hd) W := fun W K => bs_str (fun h => had (by omega)) (by omega) (hhB.kept K)
    have HHd : Hid (s.extract 0 (cutAt s).toNat = hd) := hhd.symm
    obtain ⟨z, hz⟩ : ∃ z : Int, z = cutAt s := ⟨_, rfl⟩
    have hza : z = ((hd.size : Nat) : Int) := by omega
    have c0 : ¬ ((hd.size : Nat) : Int) < 0 := by omega
    have c1 : ((hd.size : Nat) : Int) ≤ ((cp : Nat) : Int) := by omega
    have hI2 : Calls Tryz.prog 16 #[.slice ad M cp, .slice (some ⟨w.heap.size, 0, none⟩) 4 4] (w.alloc (.cells #[.int .u8 13, .int .u8 10, .int .u8 13, .int .u8 10] 5 (4, 5))) fun e w' => e = .returned (.int .i64 ((hd.size : Nat) : Int)) ∧ Kept (fun _ => False) (w.alloc (.cells #[.int .u8 13, .int .u8 10, .int .u8 13, .int .u8 10] 5 (4, 5))) w' := by
      rw [← hza, hz]; exact hI
    have hHd0 := fun V (K : Kept (fun _ => False) w V) => head_any V hd (by omega) (HM.out.kept K)
    have HHd0 := hid hHd0
    have HCV := hid hcv
    have HX := hid hza
    clear hI hhB hhz hhd hcv hHd0 hza
    go_upto_region 2 with (first
      | (go_at_call 16; refine hI2.mono ?_; rintro e w3 ⟨rfl, K3⟩; clear hI2 hcc; have HK3 := hid (HK1.out.and K3); clear K3)
      | fail)
    have cv := HCV.out w3 HK3.out
    have hHd := HHd0.out w3 HK3.out
    clear HHd0 HCV HK1
    cases hx : hdP hd with
    | none =>
      rw [hx] at hHd
      have HG : Hid (rdP s = (⟨#[]⟩, ⟨#[]⟩, ⟨#[]⟩, 400)) := by
        show _ = _
        unfold rdP
        rw [if_neg (by omega), HHd.out, hx]
      clear hx
      have hHd2 : Calls Tryz.prog 17 #[.string hd] w3 fun e w' => e = .returned (.tuple #[.agg #[.string ⟨#[]⟩, .string ⟨#[]⟩, .int .i64 0], .bool false]) ∧ Kept (fun _ => False) w3 w' := hHd
      clear hHd
      go_upto_region 8 with (first
        | (go_at_call 17; refine hHd2.mono ?_; rintro e w4 ⟨rfl, K4⟩; clear hHd2; have HK4 := hid ((HK3.out.and K4).and (Kept.alloc (fun _ => False) w4 (.cells #[.string ⟨#[]⟩, .string ⟨#[]⟩, .int .i64 0] 39))); clear K4)
        | fail)
      go_wp2
      refine bodyPost_ret (by simp [results, Tryz.results8, go_sem]; try rfl) rfl ?_
      exact ⟨by rw [HG.out]; rfl, HK4.out⟩
    | some x =>
      obtain ⟨m, p, n⟩ := x
      rw [hx] at hHd
      have hHd2 : Calls Tryz.prog 17 #[.string hd] w3 fun e w' => e = .returned (.tuple #[.agg #[.string m, .string p, .int .i64 ((n : Nat) : Int)], .bool true]) ∧ Kept (fun _ => False) w3 w' := hHd
      clear hHd
      have HG1 : Hid (rdP s = if (m.data.toList == [71, 69, 84]) = false ∧ (m.data.toList == [80, 79, 83, 84]) = false then (⟨#[]⟩, ⟨#[]⟩, ⟨#[]⟩, 405) else if 4096 < n then (⟨#[]⟩, ⟨#[]⟩, ⟨#[]⟩, 413) else if (s.extract ((cutAt s).toNat + 4) s.size).size ≠ n ∨ vf (s.extract ((cutAt s).toNat + 4) s.size) 0 = false then (⟨#[]⟩, ⟨#[]⟩, ⟨#[]⟩, 400) else (m, p, s.extract ((cutAt s).toNat + 4) s.size, 200)) := by
        show _ = _
        unfold rdP
        rw [if_neg (by omega), HHd.out, hx]
      clear hx
      go_upto_region 9 with (first
        | (go_at_call 17; refine hHd2.mono ?_; rintro e w4 ⟨rfl, K4⟩; clear hHd2; have HK4 := hid (HK3.out.and K4); clear K4)
        | fail)
      have HK5 := hid (HK4.out.and (Kept.alloc (fun _ => False) w4 (.cells #[.string m, .string p, .int .i64 ((n : Nat) : Int)] 39)))
      have hb5 := heap_alloc_new w4 (.cells #[.string m, .string p, .int .i64 ((n : Nat) : Int)] 39)
      have hsz5 : w.heap.size ≤ w4.heap.size := HK4.out.size
      generalize w4.alloc (.cells #[.string m, .string p, .int .i64 ((n : Nat) : Int)] 39) = w5 at *
      generalize w4.heap.size = hb at *
      obtain ⟨⟨y0, y1, y2⟩, _⟩ := three_cells hb5
      have HB5 := hid hb5
      clear hb5 hsz5
      cases hg1 : (m.data.toList == [71, 69, 84]) with
      | true =>
        have g1 : (m.toList == [71, 69, 84]) = true := by rw [Lib.toList_data]; exact hg1
        by_cases hn4 : 4096 < n
        · have n1 : (4096 : Int) < ((n : Nat) : Int) := by omega
          have HG : Hid (rdP s = (⟨#[]⟩, ⟨#[]⟩, ⟨#[]⟩, 413)) := by
            show _ = _
            rw [HG1.out, if_neg (by rw [hg1]; simp), if_pos hn4]
          clear hn4 hg1
          go_wp2
          refine bodyPost_ret (by simp [results, Tryz.results8, go_sem]; try rfl) rfl ?_
          exact ⟨by rw [HG.out]; rfl, HK5.out⟩
        · have n1 : ¬ (4096 : Int) < ((n : Nat) : Int) := by omega
          have HG2 : Hid (rdP s = if (s.extract ((cutAt s).toNat + 4) s.size).size ≠ n ∨ vf (s.extract ((cutAt s).toNat + 4) s.size) 0 = false then (⟨#[]⟩, ⟨#[]⟩, ⟨#[]⟩, 400) else (m, p, s.extract ((cutAt s).toNat + 4) s.size, 200)) := by
            show _ = _
            rw [HG1.out, if_neg (by rw [hg1]; simp), if_neg hn4]
          clear hn4 hg1 HG1
          have hroom := cutAt_room h0
          obtain ⟨rest, hrest⟩ : ∃ rest, rest = s.extract ((cutAt s).toNat + 4) s.size := ⟨_, rfl⟩
          have hrz : rest.size = s.size - ((cutAt s).toNat + 4) := by rw [hrest, ByteArray.size_extract]; omega
          have HRB : Hid (BsAt w b (o + ((cutAt s).toNat + 4)) rest) := by
            show BsAt w b (o + ((cutAt s).toNat + 4)) rest
            rw [hrest]
            exact HB.out.sub (Nat.le_refl _)
          have HRE := hid hrest
          have HRZ := hid hrz
          clear hrest hrz
          have HAA : Hid ((cutAt s).toNat = hd.size) := by show _ = _; have := HX.out; omega
          have hA4 : hd.size + 4 ≤ s.size := by have := HAA.out; omega
          have had0 := had (by omega)
          subst had0
          have hcpA : ((hd.size : Nat) : Int) + 4 ≤ ((s.size : Nat) : Int) := by omega
          have hwr : IntKind.i64.wrap (((hd.size : Nat) : Int) + 4) = ((hd.size : Nat) : Int) + 4 := by rw [IntKind.wrap_i64]; omega
          have HRL : Hid (s.size - (hd.size + 4) = rest.size) := by
            show _ = _
            have h1 := HRZ.out
            have h2 := HAA.out
            omega
          go_upto_region 13 with fail
          go_cut [0, 9] from 44 (fun v0 v wx => (∃ ad2 c2, v = .slice ad2 rest.size c2 ∧ rest.size ≤ c2 ∧ (0 < rest.size → ad2 = some ⟨b, o + ((cutAt s).toNat + 4), none⟩)) ∧ wx = w5)
          case first =>
            by_cases hca : cp = hd.size + 4
            · subst hca
              go_wp2_with fail
              go_meet
              case rel =>
                have hr0 : rest.size = 0 := by have := HRL.out; omega
                exact ⟨⟨_, _, by rw [hr0], by rw [hr0]; exact Nat.le_refl _, fun h => absurd h (by rw [hr0]; decide)⟩, rfl⟩
            · go_wp2_with fail
              go_meet
              case rel => exact ⟨⟨_, _, by rw [← HRL.out], by have := HRL.out; omega, fun _ => by rw [HAA.out]⟩, rfl⟩
          case rest =>
            obtain ⟨⟨ad2, c2, hc1, hc2, had2⟩, hcw⟩ := hcut
            subst wc
            subst hc1
            have hV := valid8_any w5 ad2 c2 b (o + ((cutAt s).toNat + 4)) rest had2 hc2 (HRB.out.kept HK5.out) (HT.out.kept HK5.out)
            have hcv2 : ∀ W, Kept (fun _ => False) w W → (convert 23 9 (.slice ad2 rest.size c2)).run Tryz.prog W = .ok (.string rest) W := fun W K => bs_str had2 hc2 (HRB.out.kept K)
            have HCV := hid hcv2
            clear hcv2 had2 hc2
            by_cases hn : rest.size = n
            · have z1 : (((rest.size : Nat) : Int) != ((n : Nat) : Int)) = false := by rw [hn]; simp
              cases hvf : vf rest 0 with
              | true =>
                rw [hvf] at hV
                have HG : Hid (rdP s = (m, p, rest, 200)) := by
                  show _ = _
                  rw [HG2.out, ← HRE.out, if_neg]
                  rintro (h1 | h1)
                  · exact h1 hn
                  · rw [hvf] at h1; cases h1
                clear hvf hn
                go_upto_region 16 with (first
                  | (go_at_call 18; refine hV.mono ?_; rintro e w6 ⟨rfl, K6⟩; clear hV; have HK6 := hid (HK5.out.and K6); have K65 := hid K6; clear K6)
                  | fail)
                obtain ⟨⟨y0, y1, y2⟩, _⟩ := three_cells (((K65.out.block _ (Array.getElem?_eq_some_iff.1 HB5.out).1 (fun h => h)).trans HB5.out))
                have cv1 := HCV.out w6 HK6.out
                have cv2 := HCV.out w6.drew (HK6.out.and (Kept.drew _ _))
                go_region
                go_wp2
                refine bodyPost_ret (by simp [results, Tryz.results8, go_sem]; try rfl) rfl ?_
                exact ⟨by rw [HG.out]; rfl, HK6.out.and (Kept.drew _ _)⟩
              | false =>
                rw [hvf] at hV
                have HG : Hid (rdP s = (⟨#[]⟩, ⟨#[]⟩, ⟨#[]⟩, 400)) := by
                  show _ = _
                  rw [HG2.out, ← HRE.out, if_pos (.inr hvf)]
                clear hvf hn
                go_upto_region 15 with (first
                  | (go_at_call 18; refine hV.mono ?_; rintro e w6 ⟨rfl, K6⟩; clear hV; have HK6 := hid (HK5.out.and K6); clear K6)
                  | fail)
                go_wp2
                refine bodyPost_ret (by simp [results, Tryz.results8, go_sem]; try rfl) rfl ?_
                exact ⟨by rw [HG.out]; rfl, HK6.out⟩
            · have z1 : (((rest.size : Nat) : Int) != ((n : Nat) : Int)) = true := by rw [bne_iff_ne]; omega
              have HG : Hid (rdP s = (⟨#[]⟩, ⟨#[]⟩, ⟨#[]⟩, 400)) := by
                show _ = _
                rw [HG2.out, ← HRE.out, if_pos (.inl hn)]
              clear hn hV
              go_wp2
              refine bodyPost_ret (by simp [results, Tryz.results8, go_sem]; try rfl) rfl ?_
              exact ⟨by rw [HG.out]; rfl, HK5.out⟩
      | false =>
        have g1 : (m.toList == [71, 69, 84]) = false := by rw [Lib.toList_data]; exact hg1
        cases hg2 : (m.data.toList == [80, 79, 83, 84]) with
        | false =>
          have g2 : (m.toList == [80, 79, 83, 84]) = false := by rw [Lib.toList_data]; exact hg2
          have HG : Hid (rdP s = (⟨#[]⟩, ⟨#[]⟩, ⟨#[]⟩, 405)) := by
            show _ = _
            rw [HG1.out, if_pos ⟨hg1, hg2⟩]
          clear hg1 hg2
          go_wp2
          refine bodyPost_ret (by simp [results, Tryz.results8, go_sem]; try rfl) rfl ?_
          exact ⟨by rw [HG.out]; rfl, HK5.out⟩
        | true =>
          have g2 : (m.toList == [80, 79, 83, 84]) = true := by rw [Lib.toList_data]; exact hg2
          by_cases hn4 : 4096 < n
          · have n1 : (4096 : Int) < ((n : Nat) : Int) := by omega
            have HG : Hid (rdP s = (⟨#[]⟩, ⟨#[]⟩, ⟨#[]⟩, 413)) := by
              show _ = _
              rw [HG1.out, if_neg (by rw [hg1, hg2]; simp), if_pos hn4]
            clear hn4 hg1 hg2
            go_wp2
            refine bodyPost_ret (by simp [results, Tryz.results8, go_sem]; try rfl) rfl ?_
            exact ⟨by rw [HG.out]; rfl, HK5.out⟩
          · have n1 : ¬ (4096 : Int) < ((n : Nat) : Int) := by omega
            have HG2 : Hid (rdP s = if (s.extract ((cutAt s).toNat + 4) s.size).size ≠ n ∨ vf (s.extract ((cutAt s).toNat + 4) s.size) 0 = false then (⟨#[]⟩, ⟨#[]⟩, ⟨#[]⟩, 400) else (m, p, s.extract ((cutAt s).toNat + 4) s.size, 200)) := by
              show _ = _
              rw [HG1.out, if_neg (by rw [hg1, hg2]; simp), if_neg hn4]
            clear hn4 hg1 hg2 HG1
            have hroom := cutAt_room h0
            obtain ⟨rest, hrest⟩ : ∃ rest, rest = s.extract ((cutAt s).toNat + 4) s.size := ⟨_, rfl⟩
            have hrz : rest.size = s.size - ((cutAt s).toNat + 4) := by rw [hrest, ByteArray.size_extract]; omega
            have HRB : Hid (BsAt w b (o + ((cutAt s).toNat + 4)) rest) := by
              show BsAt w b (o + ((cutAt s).toNat + 4)) rest
              rw [hrest]
              exact HB.out.sub (Nat.le_refl _)
            have HRE := hid hrest
            have HRZ := hid hrz
            clear hrest hrz
            have HAA : Hid ((cutAt s).toNat = hd.size) := by show _ = _; have := HX.out; omega
            have hA4 : hd.size + 4 ≤ s.size := by have := HAA.out; omega
            have had0 := had (by omega)
            subst had0
            have hcpA : ((hd.size : Nat) : Int) + 4 ≤ ((s.size : Nat) : Int) := by omega
            have hwr : IntKind.i64.wrap (((hd.size : Nat) : Int) + 4) = ((hd.size : Nat) : Int) + 4 := by rw [IntKind.wrap_i64]; omega
            have HRL : Hid (s.size - (hd.size + 4) = rest.size) := by
              show _ = _
              have h1 := HRZ.out
              have h2 := HAA.out
              omega
            go_upto_region 13 with fail
            go_cut [0, 9] from 44 (fun v0 v wx => (∃ ad2 c2, v = .slice ad2 rest.size c2 ∧ rest.size ≤ c2 ∧ (0 < rest.size → ad2 = some ⟨b, o + ((cutAt s).toNat + 4), none⟩)) ∧ wx = w5)
            case first =>
              by_cases hca : cp = hd.size + 4
              · subst hca
                go_wp2_with fail
                go_meet
                case rel =>
                  have hr0 : rest.size = 0 := by have := HRL.out; omega
                  exact ⟨⟨_, _, by rw [hr0], by rw [hr0]; exact Nat.le_refl _, fun h => absurd h (by rw [hr0]; decide)⟩, rfl⟩
              · go_wp2_with fail
                go_meet
                case rel => exact ⟨⟨_, _, by rw [← HRL.out], by have := HRL.out; omega, fun _ => by rw [HAA.out]⟩, rfl⟩
            case rest =>
              obtain ⟨⟨ad2, c2, hc1, hc2, had2⟩, hcw⟩ := hcut
              subst wc
              subst hc1
              have hV := valid8_any w5 ad2 c2 b (o + ((cutAt s).toNat + 4)) rest had2 hc2 (HRB.out.kept HK5.out) (HT.out.kept HK5.out)
              have hcv2 : ∀ W, Kept (fun _ => False) w W → (convert 23 9 (.slice ad2 rest.size c2)).run Tryz.prog W = .ok (.string rest) W := fun W K => bs_str had2 hc2 (HRB.out.kept K)
              have HCV := hid hcv2
              clear hcv2 had2 hc2
              by_cases hn : rest.size = n
              · have z1 : (((rest.size : Nat) : Int) != ((n : Nat) : Int)) = false := by rw [hn]; simp
                cases hvf : vf rest 0 with
                | true =>
                  rw [hvf] at hV
                  have HG : Hid (rdP s = (m, p, rest, 200)) := by
                    show _ = _
                    rw [HG2.out, ← HRE.out, if_neg]
                    rintro (h1 | h1)
                    · exact h1 hn
                    · rw [hvf] at h1; cases h1
                  clear hvf hn
                  go_upto_region 16 with (first
                    | (go_at_call 18; refine hV.mono ?_; rintro e w6 ⟨rfl, K6⟩; clear hV; have HK6 := hid (HK5.out.and K6); have K65 := hid K6; clear K6)
                    | fail)
                  obtain ⟨⟨y0, y1, y2⟩, _⟩ := three_cells (((K65.out.block _ (Array.getElem?_eq_some_iff.1 HB5.out).1 (fun h => h)).trans HB5.out))
                  have cv1 := HCV.out w6 HK6.out
                  have cv2 := HCV.out w6.drew (HK6.out.and (Kept.drew _ _))
                  go_region
                  go_wp2
                  refine bodyPost_ret (by simp [results, Tryz.results8, go_sem]; try rfl) rfl ?_
                  exact ⟨by rw [HG.out]; rfl, HK6.out.and (Kept.drew _ _)⟩
                | false =>
                  rw [hvf] at hV
                  have HG : Hid (rdP s = (⟨#[]⟩, ⟨#[]⟩, ⟨#[]⟩, 400)) := by
                    show _ = _
                    rw [HG2.out, ← HRE.out, if_pos (.inr hvf)]
                  clear hvf hn
                  go_upto_region 15 with (first
                    | (go_at_call 18; refine hV.mono ?_; rintro e w6 ⟨rfl, K6⟩; clear hV; have HK6 := hid (HK5.out.and K6); clear K6)
                    | fail)
                  go_wp2
                  refine bodyPost_ret (by simp [results, Tryz.results8, go_sem]; try rfl) rfl ?_
                  exact ⟨by rw [HG.out]; rfl, HK6.out⟩
              · have z1 : (((rest.size : Nat) : Int) != ((n : Nat) : Int)) = true := by rw [bne_iff_ne]; omega
                have HG : Hid (rdP s = (⟨#[]⟩, ⟨#[]⟩, ⟨#[]⟩, 400)) := by
                  show _ = _
                  rw [HG2.out, ← HRE.out, if_pos (.inl hn)]
                clear hn hV
                go_wp2
                refine bodyPost_ret (by simp [results, Tryz.results8, go_sem]; try rfl) rfl ?_
                exact ⟨by rw [HG.out]; rfl, HK5.out⟩
  · go_enter Tryz.func8, Tryz.ntmps8
    have c0 : cutAt s < 0 := by omega
    have hz : cutAt s = -1 := by have := cutAt_ge s; omega
    rw [hz] at hI
    by_cases hbig : 4096 ≤ s.size
    · have g1 : ((s.size : Nat) : Int) ≥ 4096 := by omega
      have HG : Hid (rdP s = (⟨#[]⟩, ⟨#[]⟩, ⟨#[]⟩, 431)) := by
        show _ = _
        unfold rdP
        rw [if_pos c0, if_pos hbig]
      clear c0 hz hbig
      go_upto_region 4 with (first
        | (go_at_call 16; refine hI.mono ?_; rintro e w3 ⟨rfl, K3⟩; clear hI hcc; have HK3 := hid (HK1.out.and K3); clear K3)
        | fail)
      go_wp2
      refine bodyPost_ret (by simp [results, Tryz.results8, go_sem]; try rfl) rfl ?_
      exact ⟨by rw [HG.out]; rfl, HK3.out⟩
    · have g1 : ¬ ((s.size : Nat) : Int) ≥ 4096 := by omega
      have HG : Hid (rdP s = (⟨#[]⟩, ⟨#[]⟩, ⟨#[]⟩, 400)) := by
        show _ = _
        unfold rdP
        rw [if_pos c0, if_neg hbig]
      clear c0 hz hbig
      go_upto_region 5 with (first
        | (go_at_call 16; refine hI.mono ?_; rintro e w3 ⟨rfl, K3⟩; clear hI hcc; have HK3 := hid (HK1.out.and K3); clear K3)
        | fail)
      go_wp2
      refine bodyPost_ret (by simp [results, Tryz.results8, go_sem]; try rfl) rfl ?_
      exact ⟨by rw [HG.out]; rfl, HK3.out⟩

end Go.Proofs.YtcbiibkmmbilbaaGreatDoor

/-
  Texts that are handed in to a law, and the law's cut of a text.
-/
namespace Go.Proofs.YtcbiibkmmbilbaaGreatDoor
open Go.ChangeShapes Go.WideShapes Go.ChangeAt Go.RowKit Go.Deep

/-- Texts that are handed in. -/
def StrsAt (w : World) (a : Option Addr) (len : Nat) (S : Nat → ByteArray) : Prop :=
  len = 0 ∨ ∃ b o, a = some ⟨b, o, none⟩ ∧ ∀ i, i < len → w.cell? ⟨b, o + i, none⟩ = some (.string (S i)) ∧ (S i).size ≤ maxLen

theorem strs_open {H : Type} {enc : TypeId × Value → H} {P : Program} {w : World} {base : Nat} {held : Bool} {t e : TypeId} {fuel : Nat} {v : Value} {x : DataW H × List MemPlace} (ht : P.underlying t = some (.slice e)) (he : P.underlying e = some .string) (hc : P.cellsOf e = 1)
    (h : DataW.trod enc P w base (fun _ => true) held fuel t [v] = some x) : ∃ a len cap S, v = .slice a len cap ∧ len ≤ cap ∧ cap ≤ maxLen ∧ StrsAt w a len S := by
  rcases open_strs ht he hc h with ⟨hcs, _⟩ | ⟨a, l, c, m, S, hcs, _, hl, hm, hmm, _, hcell⟩
  · simp only [List.cons.injEq, and_true] at hcs
    exact ⟨_, _, _, fun _ => ByteArray.empty, hcs, Nat.le_refl _, Nat.zero_le _, .inl rfl⟩
  · simp only [List.cons.injEq, and_true] at hcs
    simp only [if_true] at hmm
    subst hmm
    rcases Nat.eq_zero_or_pos l with h0 | h0
    · exact ⟨_, _, _, S, hcs, hl, hm, .inl h0⟩
    · obtain ⟨b, o, rfl⟩ := addr_form (hcell 0 (by omega)).1
      exact ⟨_, _, _, S, hcs, hl, hm, .inr ⟨b, o, rfl, fun i hi => by have := hcell i (by omega); rw [Addr.add_lit] at this; exact this⟩⟩

theorem StrsAt.kept {w w' : World} {a : Option Addr} {len : Nat} {S : Nat → ByteArray} (h : StrsAt w a len S) (K : Kept (fun _ => False) w w') : StrsAt w' a len S := by
  rcases h with h0 | ⟨b, o, rfl, hc⟩
  · exact .inl h0
  · refine .inr ⟨b, o, rfl, fun i hi => ?_⟩
    have h := hc i hi
    rw [World.cell?_of_block (w := w) (K.block _ (World.block_lt_of_cell? w _ h.1) (fun h => h))]
    exact h


theorem wf_bounds {n : Int} (h : (Lit.int .i64 n).wf = true) : -9223372036854775808 ≤ n ∧ n ≤ 9223372036854775807 := by
  simp only [Lit.wf, Bool.and_eq_true, decide_eq_true_eq] at h
  exact ⟨h.1, h.2⟩

end Go.Proofs.YtcbiibkmmbilbaaGreatDoor

/-
  FrontWhole, walked: a request that is written as the document says is read as it.
-/
namespace Go.Proofs.YtcbiibkmmbilbaaGreatDoor
open Go.ChangeShapes Go.WideShapes Go.ChangeAt Go.RowKit Go.Deep

theorem who_bytes (l : List UInt8) (W : World) : (convert 9 23 (.string (mkB l))).run Tryz.prog W = .ok (.slice (some ⟨W.heap.size, 0, none⟩) (mkB l).size (grownCap W l.length 0 5)) (Lib.bytesWorld W 5 (mkB l)) := by
  have h := Lib.run_convert_string_bytes (P := Tryz.prog) W 9 23 5 (mkB l) Tryz.underlying9 Tryz.underlying23 Tryz.underlying5
  rw [mkB_size] at h ⊢
  exact h

theorem who_at (s : ByteArray) (W : World) : BsAt (Lib.bytesWorld W 5 s) W.heap.size 0 s := fun j hj => by
  rw [Nat.zero_add, Lib.bytesWorld_cell W 5 s j hj, ← atB_is hj]
  have hz : s.data.toList.length = s.size := Array.length_toList
  rw [List.getD_eq_getElem?_getD, List.getElem?_eq_getElem (by omega), Array.getElem_toList]
  rfl

theorem who_read (l : List UInt8) (hl : l.length ≤ 1000000) (W : World) (T : Utf8At W) (M : MaxAt W) (b : Bool) (s : ByteArray) (h : rdP (mkB l) = (mkB (methL b), mkB pathL, s, 200)) (g : Nat) (hg : g = W.heap.size) :
    Calls Tryz.prog 8 #[.slice (some ⟨g, 0, none⟩) (mkB l).size (grownCap W l.length 0 5)] (Lib.bytesWorld W 5 (mkB l)) fun e w' => e = .returned (.tuple #[.string (mkB (methL b)), .string ⟨#[47, 112, 47, 97, 63, 98, 61, 99]⟩, .string s, .int .i64 200]) ∧ Kept (fun _ => False) W w' := by
  subst hg
  have K := bytesKept (fun _ => False) W 5 (mkB l)
  have h1 := read_any (Lib.bytesWorld W 5 (mkB l)) (some ⟨W.heap.size, 0, none⟩) (grownCap W l.length 0 5) W.heap.size 0 (mkB l) (fun _ => rfl) (by rw [mkB_size]; exact grownCap_ge W l.length 0 5) (by rw [mkB_size]; exact hl) (who_at _ W) (T.kept K) (M.kept K)
  rw [h] at h1
  exact h1.mono fun e w' ⟨he, K2⟩ => ⟨he, K.and K2⟩

theorem who_wrap (i : Nat) (hi : i < 5) : IntKind.u8.wrap (IntKind.i64.wrap (97 + (i : Int))) = 97 + (i : Int) := by
  have h : ∀ k : Fin 5, IntKind.u8.wrap (IntKind.i64.wrap (97 + ((k.1 : Nat) : Int))) = 97 + ((k.1 : Nat) : Int) := by decide +kernel
  exact h ⟨i, hi⟩

theorem who_byte (i : Nat) (hi : i < 5) (W : World) (x : Int) (hx : x = 97 + (i : Int)) : (convert 23 9 (.slice (some ⟨W.heap.size, 0, none⟩) 1 1)).run Tryz.prog (W.alloc (.cells #[.int .u8 x] 5)).drew = .ok (.string (mkB [UInt8.ofNat (97 + i)])) (W.alloc (.cells #[.int .u8 x] 5)).drew := by
  subst hx
  have h : ∀ k : Fin 5, strOfNums [97 + ((k.1 : Nat) : Int)] = mkB [UInt8.ofNat (97 + k.1)] := by decide +kernel
  rw [← h ⟨i, hi⟩]
  exact BytesAt.str (b := [97 + (i : Int)]) ⟨rfl, Nat.le_refl _, fun h => (by cases h), fun ad h => (by cases h; exact World.news_of_block (heap_alloc_new W _)), fun y hy => by simp at hy; omega⟩

set_option maxRecDepth 100000 in
set_option maxHeartbeats 16000000 in
theorem frontWhole_walk (w : World) (s : ByteArray) (av : Option Addr) (n cv : Nat) (S : Nat → ByteArray) (get : Bool) (A : StrsAt w av n S) (hs : s.size ≤ 140737488351232) (T : Utf8At w) (M : MaxAt w) :
    Calls Tryz.prog 5 #[.string s, .slice av n cv, .bool get] w fun e w' => e = .returned (.bool true) ∧ Below w.heap.size w w' := by
  have HT := hid T
  have HM := hid M
  have HA := hid A
  have hWk := fun V (K : Kept (fun _ => False) w V) => wakes_any V (HT.out.kept K) (HM.out.kept K)
  have HWk := hid hWk
  clear hWk T M A
  by_cases hv : vf s 0 = true
  · have hV : Calls Tryz.prog 14 #[.string s] w fun e w' => e = .returned (.bool true) ∧ w' = w := by
      have h := valid_any w s (by omega)
      rwa [vf_all, hv] at h
    by_cases hz : s.size ≤ 1000
    · have f1 : ¬ (s.size : Int) > 1000 := by omega
      have HV := hid hv
      clear hv
      go_enter Tryz.func5, Tryz.ntmps5
      go_upto_if 23 with (first
        | (go_at_call 14; refine hV.mono ?_; rintro e w1 ⟨rfl, hw1⟩; subst w1; clear hV)
        | fail)
      go_cut [7] from 14 (fun v wx => v = .string (mkB (methL (!get))) ∧ wx = w)
      case first =>
        cases get with
        | true =>
          go_wp2_with fail
          go_meet
          case rel => exact ⟨rfl, rfl⟩
        | false =>
          go_wp2_with fail
          go_meet
          case rel => exact ⟨rfl, rfl⟩
      case rest =>
        obtain ⟨hc, hcw⟩ := hcut
        subst wc
        subst hc
        obtain ⟨p1, P1, r1⟩ := run_cat (methL (!get)) [32, 47, 112, 47, 97, 63, 98, 61, 99, 32, 72, 84, 84, 80, 47, 49, 46, 49, 13, 10] (by cases get <;> decide)
        have HP1 : Hid (p1 = flatL (firstL (!get) :: [])) := by
          show _ = _
          rw [P1.out]
          cases get <;> rfl
        generalize hgb : (!get) = b at *
        clear hgb P1
        obtain ⟨mB, hmB⟩ : ∃ mB : ByteArray, mB = mkB (methL b) := ⟨_, rfl⟩
        have HmB := hid hmB
        rw [← hmB] at r1
        have r1' : ∀ V, (Op.stringOp .add mB ⟨#[32, 47, 112, 47, 97, 63, 98, 61, 99, 32, 72, 84, 84, 80, 47, 49, 46, 49, 13, 10]⟩).run Tryz.prog V = .ok (.string (mkB p1)) V := r1
        clear r1
        simp only [← hmB]
        clear hmB
        go_wp2
        go_loopg [8, 9] 5 (fun gk t i wr => ∃ (j : Nat) (g : List UInt8) (hs : List (List UInt8)), j ≤ n ∧ j ≤ 5 ∧ gk + j = 5 ∧ i = .int .i64 (j : Int) ∧ t = .string (mkB g) ∧ g = flatL (firstL b :: hs) ∧ HdrsOk hs ∧ hs.length = j ∧ Kept (fun _ => False) w wr)
        case atStart => exact ⟨0, p1, [], Nat.zero_le _, Nat.zero_le _, by omega, rfl, rfl, HP1.out, HdrsOk.nil, rfl, Kept.refl _ _⟩
        case round =>
          obtain ⟨j, g, qs, hj, hj5, hgk, rfl, rfl, hg, H, hl, K⟩ := hrel
          have hgl : g.length ≤ 402 := by rw [hg]; exact first_len b H
          have HG := hid hg
          have HH := hid H
          have HL := hid hl
          have HK := hid K
          clear hg H hl K r1'
          obtain ⟨c, hc⟩ : ∃ c : Bool, c = decide (j < n ∧ j < 5) := ⟨_, rfl⟩
          have HC := hid hc
          clear hc
          go_upto_region 8 with fail
          go_cut [33] from 26 to 51 (fun v wx => v = .bool c ∧ wx = wr)
          case first =>
            by_cases h1 : (j : Int) < (n : Int)
            · by_cases h2 : (j : Int) < 5
              · have HB : Hid (c = true) := by show c = true; rw [HC.out, decide_eq_true_eq]; omega
                go_wp2_with fail
                go_meet
                case rel => exact ⟨by rw [HB.out], rfl⟩
              · have HB : Hid (c = false) := by show c = false; rw [HC.out, decide_eq_false_iff_not]; omega
                go_wp2_with fail
                go_meet
                case rel => exact ⟨by rw [HB.out], rfl⟩
            · have HB : Hid (c = false) := by show c = false; rw [HC.out, decide_eq_false_iff_not]; omega
              go_wp2_with fail
              go_meet
              case rel => exact ⟨by rw [HB.out], rfl⟩
          case rest =>
            obtain ⟨hc, hcw⟩ := hcut
            subst wc
            subst hc
            cases c with
            | true =>
              have hb2 : j < n ∧ j < 5 := of_decide_eq_true HC.out.symm
              obtain ⟨h1, h2⟩ := hb2
              have e1 : (j : Int) < (n : Int) := by omega
              have e2 : (j : Int) < 5 := by omega
              rcases HA.out with h0 | ⟨vb, vo, hav, hcell⟩
              · omega
              subst hav
              obtain ⟨hcj, hsz⟩ := hcell j h1
              clear hcell
              have hx : ∀ V, Kept (fun _ => False) w V → V.cell? ⟨vb, vo + j, none⟩ = some (.string (S j)) := fun V KV => (World.cell?_of_block (KV.block vb (World.block_lt_of_cell? w _ hcj) (fun h => h))).trans hcj
              have hPl := fun V => plain_any V (S j) hsz
              have HS := hid (HH.out.snoc (by rw [HL.out]; exact h2) h2 (S j))
              have hpl := (plain_ok (S j)).2
              generalize plainL (S j) = pl at *
              generalize S j = sj at *
              obtain ⟨q1, Q1, t1⟩ := run_cat g [88, 45] (by simp only [List.length_cons, List.length_nil]; omega)
              have l1 : q1.length = g.length + 2 := by rw [Q1.out, List.length_append]; rfl
              obtain ⟨q2, Q2, t2⟩ := run_cat q1 [UInt8.ofNat (97 + j)] (by simp only [List.length_cons, List.length_nil]; omega)
              have l2 : q2.length = q1.length + 1 := by rw [Q2.out, List.length_append]; rfl
              obtain ⟨q3, Q3, t3⟩ := run_cat q2 [58, 32] (by simp only [List.length_cons, List.length_nil]; omega)
              have l3 : q3.length = q2.length + 2 := by rw [Q3.out, List.length_append]; rfl
              obtain ⟨q4, Q4, t4⟩ := run_cat q3 pl (by omega)
              have l4 : q4.length = q3.length + pl.length := by rw [Q4.out, List.length_append]
              obtain ⟨q5, Q5, t5⟩ := run_cat q4 [13, 10] (by simp only [List.length_cons, List.length_nil]; omega)
              have HQ : Hid (q5 = flatL (firstL b :: (qs ++ [hdrL j pl]))) := by
                show _ = _
                have h := flat_snoc (firstL b :: qs) (hdrL j pl)
                rw [← HG.out] at h
                rw [Q5.out, Q4.out, Q3.out, Q2.out, Q1.out]
                refine Eq.trans ?_ h.symm
                simp [hdrL]
              have t1' : ∀ V, (Op.stringOp .add (mkB g) ⟨#[88, 45]⟩).run Tryz.prog V = .ok (.string (mkB q1)) V := t1
              have t3' : ∀ V, (Op.stringOp .add (mkB q2) ⟨#[58, 32]⟩).run Tryz.prog V = .ok (.string (mkB q3)) V := t3
              have t5' : ∀ V, (Op.stringOp .add (mkB q4) ⟨#[13, 10]⟩).run Tryz.prog V = .ok (.string (mkB q5)) V := t5
              have hby := who_byte j h2 wr _ (who_wrap j h2)
              have kA := (Kept.alloc (fun _ => False) wr (.cells #[.int .u8 (IntKind.u8.wrap (IntKind.i64.wrap (97 + (j : Int))))] 5)).and (Kept.drew _ _)
              generalize mkB [UInt8.ofNat (97 + j)] = bt at *
              clear t1 t3 t5 Q1 Q2 Q3 Q4 Q5 l1 l2 l3 l4 hcj hsz hpl hgl
              have x0 := hx wr HK.out
              have x1 := hx _ (HK.out.and kA)
              have x2 := hx wr.drew (HK.out.and (Kept.drew _ _))
              go_upto_region 10 with fail
              go_region_with (first
                | (go_at_call 15; refine (hPl _).mono ?_; rintro e w1 ⟨rfl, hw1⟩; subst w1)
                | fail)
              all_goals (
                go_wp2
                go_roundg (5 - (j + 1))
                case measure => omega
                case rel => exact ⟨j + 1, q5, _, by omega, by omega, by omega, by go_num, rfl, HQ.out, HS.out, by rw [List.length_append, HL.out]; rfl, HK.out.and ((Kept.alloc _ _ _).and (Kept.drew _ _))⟩)
            | false =>
              have hDg := fun V => digits_pos V s.size (by omega)
              obtain ⟨hr, hlen⟩ := who_rd b qs HH.out s hz HV.out
              have hdl := digs_le 18 s.size (by omega)
              obtain ⟨u1, U1, t1⟩ := run_cat g [67, 79, 78, 84, 69, 78, 84, 45, 108, 101, 110, 103, 116, 104, 58, 32] (by simp only [List.length_cons, List.length_nil]; omega)
              have l1 : u1.length = g.length + 16 := by rw [U1.out, List.length_append]; rfl
              obtain ⟨u2, U2, t2⟩ := run_cat u1 (Lib.decDigits s.size) (by omega)
              have l2 : u2.length = u1.length + (Lib.decDigits s.size).length := by rw [U2.out, List.length_append]
              obtain ⟨u3, U3, t3⟩ := run_cat u2 [13, 10, 13, 10] (by simp only [List.length_cons, List.length_nil]; omega)
              have l3 : u3.length = u2.length + 4 := by rw [U3.out, List.length_append]; rfl
              have hzl : s.data.toList.length = s.size := Array.length_toList
              obtain ⟨u4, U4, t4⟩ := run_cat u3 s.data.toList (by omega)
              have hu : u4 = flatL (firstL b :: qs) ++ clenT s.size ++ [13, 10, 13, 10] ++ s.data.toList := by
                rw [U4.out, U3.out, U2.out, U1.out, HG.out]
                unfold clenT
                simp only [List.append_assoc]
              rw [← hu] at hr hlen
              have HR := hid hr
              have t1' : ∀ V, (Op.stringOp .add (mkB g) ⟨#[67, 79, 78, 84, 69, 78, 84, 45, 108, 101, 110, 103, 116, 104, 58, 32]⟩).run Tryz.prog V = .ok (.string (mkB u1)) V := t1
              have t3' : ∀ V, (Op.stringOp .add (mkB u2) ⟨#[13, 10, 13, 10]⟩).run Tryz.prog V = .ok (.string (mkB u3)) V := t3
              have t4' : ∀ V, (Op.stringOp .add (mkB u3) s).run Tryz.prog V = .ok (.string (mkB u4)) V := t4
              have HRd : Hid (∀ W, Kept (fun _ => False) w W → Calls Tryz.prog 8 #[.slice (some ⟨W.heap.size, 0, none⟩) (mkB u4).size (grownCap W u4.length 0 5)] (Lib.bytesWorld W 5 (mkB u4)) fun e w' => e = .returned (.tuple #[.string mB, .string ⟨#[47, 112, 47, 97, 63, 98, 61, 99]⟩, .string s, .int .i64 200]) ∧ Kept (fun _ => False) W w') := fun W KW => by
                rw [HmB.out]
                exact who_read u4 (by omega) W (HT.out.kept KW) (HM.out.kept KW) b s HR.out _ rfl
              have hcv := fun W => who_bytes u4 W
              have k1 : (mB.toList == mB.toList) = true := by simp
              have k2 : (s.toList == s.toList) = true := by simp
              clear hr hlen hu U1 U2 U3 U4 t1 t3 t4 l1 l2 l3 hzl hdl HP1 hgl
              generalize Lib.decDigits s.size = dd at *
              go_wp2_with (first
                | (go_at_call 13; refine (hDg _).mono ?_; rintro e w1 ⟨rfl, K1⟩; clear hDg; have HK1 := hid (HK.out.and K1); clear K1; have hRd := HRd.out w1 HK1.out)
                | (go_at_call 8; refine hRd.mono ?_; rintro e w2 ⟨rfl, K2⟩; clear hRd; have HK2 := hid (HK1.out.and K2); clear K2; have hWk := HWk.out w2 HK2.out)
                | (go_at_call 11; refine hWk.mono ?_; rintro e w5 ⟨rfl, K5⟩; clear hWk)
                | fail)
              go_ret
              exact ⟨rfl, (HK2.out.and K5).below (Nat.le_refl _) (fun i h => h.elim)⟩
    · have f1 : (s.size : Int) > 1000 := by omega
      have hWk := HWk.out w (Kept.refl _ _)
      clear hv
      go_enter Tryz.func5, Tryz.ntmps5
      go_wp2_with (first
        | (go_at_call 14; refine hV.mono ?_; rintro e w1 ⟨rfl, hw1⟩; subst w1; clear hV)
        | (go_at_call 11; refine hWk.mono ?_; rintro e w5 ⟨rfl, K5⟩; clear hWk)
        | fail)
      go_ret
      exact ⟨rfl, K5.below (Nat.le_refl _) (fun i h => h.elim)⟩
  · have hV : Calls Tryz.prog 14 #[.string s] w fun e w' => e = .returned (.bool false) ∧ w' = w := by
      have h := valid_any w s (by omega)
      rwa [vf_all, show vf s 0 = false by simpa using hv] at h
    have hWk := HWk.out w (Kept.refl _ _)
    clear hv
    go_enter Tryz.func5, Tryz.ntmps5
    go_wp2_with (first
      | (go_at_call 14; refine hV.mono ?_; rintro e w1 ⟨rfl, hw1⟩; subst w1; clear hV)
      | (go_at_call 11; refine hWk.mono ?_; rintro e w5 ⟨rfl, K5⟩; clear hWk)
      | fail)
    go_ret
    exact ⟨rfl, K5.below (Nat.le_refl _) (fun i h => h.elim)⟩

end Go.Proofs.YtcbiibkmmbilbaaGreatDoor

/-
  FrontWhole: a request that is written as the document says is read as it. For every text, every list of values and both methods.
-/
namespace Go.Proofs.YtcbiibkmmbilbaaGreatDoor
open Go.ChangeShapes Go.WideShapes Go.ChangeAt Go.RowKit Go.Deep

theorem str_reach {H : Type} {d : DataW H} {s : ByteArray} (e : d = .lit (.string s.data.toList)) (h : ∀ n ∈ d.weights Tryz.prog 9, n ≤ reachBytes) : s.size ≤ 140737488351232 := by
  subst e
  have e2 : (DataW.lit (.string s.data.toList) : DataW H).weights Tryz.prog 9 = [s.data.toList.length] := by
    unfold DataW.weights
    rfl
  rw [e2] at h
  have z := h _ List.mem_cons_self
  have l : s.data.toList.length = s.size := Array.length_toList
  unfold reachBytes at z
  omega

set_option maxHeartbeats 4000000 in
set_option maxRecDepth 100000 in
theorem frontWhole_lifted (os : Os) (started : os.Started) (H : Type) (enc : TypeId × Value → H) :
    ReturnsInHanded {} Tryz.checked os 5 .any (fun w args => (Rows.frontWholeSpec.pre enc Tryz.prog Tryz.f5 [] false w args ∧ laidMetH Tryz.prog laidL w) ∧ sizedMet enc Tryz.prog Tryz.f5 (OpenSpec.ofChange Rows.frontWholeSpec) false w args)
      (Rows.frontWholeSpec.post enc Tryz.prog Tryz.f5 false true false false) := by
  refine returns_front (C := Tryz.checked) (X := fun w _ => laidMetH Tryz.prog laidL w) (fun _ _ _ hh h => h.of_heap hh) Tryz.own started (by kernel_rfl) Tryz.func5
    (ChangeSpec.witness_shaped (enc := enc) (C := Tryz.checked) (os := os) (X := fun w _ => laidMetH Tryz.prog laidL w) false (World.laidAll Tryz.prog os laidL) #[.string ⟨#[]⟩, .slice none 0 0, .bool false] 8 (World.laidAll_os _ _ _) (World.shaped_of_ZipB (by kernel_rfl) (by kernel_rfl)) (by kernel_rfl) (by kernel_rfl) (by kernel_rfl) (laid_met os _)) ?_
  intro W base args ds gs before hval0 hW _ hz hL hSh _
  have hval : ∀ (j : Nat) t v, Tryz.f5.params[j]? = some t → args[j]? = some v → Value.okWide Tryz.prog W .any base t v := hval0
  have hW' := hW
  obtain ⟨p, q, hA0, hV, rfl, _, _⟩ := hW
  have hA : DataW.TrodAll enc Tryz.prog W 0 (fun _ => true) true Tryz.f5.params.toList args.toList ds p := hA0
  rw [Tryz.params5] at hA hval
  obtain ⟨v0, vs0, d0, ds0, p0, q0, hargs, rfl, rfl, h0, r0⟩ := trodAll_cons hA
  obtain ⟨v1, vs1, d1, ds1, p1, q1, rfl, rfl, rfl, h1, r1⟩ := trodAll_cons r0
  obtain ⟨v2, vs2, d2, ds2, p2, q2, rfl, rfl, rfl, h2, r2⟩ := trodAll_cons r1
  obtain ⟨rfl, rfl, rfl⟩ := trodAll_nil r2
  obtain rfl : args = #[v0, v1, v2] := by cases args; simp_all
  obtain ⟨rfl, rfl⟩ := trodVars_none hV
  have k0 := h0
  have k1 := h1
  have k2 := h2
  have lt0 : ∀ x ∈ p0, x.block < W.heap.size := by obtain ⟨m, hm⟩ := k0; exact DataW.trod_lt m _ _ _ hm
  have lt1 : ∀ x ∈ p1, x.block < W.heap.size := by obtain ⟨m, hm⟩ := k1; exact DataW.trod_lt m _ _ _ hm
  have lt2 : ∀ x ∈ p2, x.block < W.heap.size := by obtain ⟨m, hm⟩ := k2; exact DataW.trod_lt m _ _ _ hm
  obtain ⟨s0, rfl, e0, _, _⟩ := Go.ChangeMaps.open_string Tryz.underlying9 (hval 0 9 v0 rfl rfl) h0
  have z0 := str_reach e0 (fun n hn => by simpa using List.all_eq_true.1 hz n (DataW.weights_mem_each (j := 0) (t := 9) (by kernel_rfl) rfl n hn))
  obtain ⟨a1', len1', cap1', rfl⟩ := okWide_slice Tryz.underlying33 (hval 1 33 v1 rfl rfl)
  obtain ⟨a1, len1, cap1, S1, e1, _, _, w1⟩ : ∃ a len cap S, Value.slice a1' len1' cap1' = .slice a len cap ∧ len ≤ cap ∧ cap ≤ maxLen ∧ StrsAt W a len S := by
    obtain ⟨fuel, hf⟩ := h1
    exact strs_open Tryz.underlying33 Tryz.underlying9 (by kernel_rfl) hf
  simp only [Value.slice.injEq] at e1
  obtain ⟨rfl, rfl, rfl⟩ := e1
  obtain ⟨n2, rfl, rfl, rfl⟩ := open_bool Tryz.underlying4 (hval 2 4 v2 rfl rfl) h2
  clear hA0 hval0
  refine (frontWhole_walk W s0 _ _ _ S1 n2 w1 z0 (utf8_laid hL) (max_shaped hSh)).mono fun e W' ⟨he, bel⟩ => ?_
  subst he
  exact ⟨_, rfl, _, _, _, [], _, [], hW', trodAll_mk1 (shut_bool Tryz.underlying4 _), (trodAll_cons_mk (Below.trod Tryz.laidOut (by kernel_rfl) (of_decide_eq_true (by kernel_rfl)) k0 bel lt0) (trodAll_cons_mk (Below.trod Tryz.laidOut (by kernel_rfl) (of_decide_eq_true (by kernel_rfl)) k1 bel lt1) (trodAll_cons_mk (Below.trod Tryz.laidOut (by kernel_rfl) (of_decide_eq_true (by kernel_rfl)) k2 bel lt2) trodAll_mk0))), rfl, bel.frame _, fun h => by cases h⟩

theorem frontWhole_row : Rows.FrontWholeSaid :=
  OpenClaim.holds_of_wide 5 Tryz.f5 rfl rfl rfl rfl rfl rfl rfl ⟨rfl, rfl, rfl, rfl, rfl⟩ rfl rfl rfl rfl rfl (by kernel_rfl) Tryz.func5 (by kernel_rfl)
    (of_decide_eq_true (by kernel_rfl)) (by unfold Func.isWrapper; first | (rw [if_pos (by decide +kernel)]; kernel_rfl) | (rw [if_neg (by decide +kernel)]; exact ⟨rfl, rfl⟩))
    (fun os started H enc _ => frontWhole_lifted os started H enc)

theorem frontWhole_holds : Rows.FrontWholeCardSaid :=
  Claim7.holds_tied_plain_at .later [] [.data, .data, .data, .data, .sentinel, .sentinel, .data, .data, .pinned, .pinned] true Rows.frontWholeCard.stood.harness true
    frontWhole_row (fun _ h => by cases h) (by kernel_rfl) (fun _ h => by cases h) frontWhole_row_tie rfl ⟨rfl, rfl⟩ (by kernel_rfl) rfl
    (fun f fn hf hfn => by
      obtain rfl : f = 5 := Option.some.inj ((show Tryz.prog.funcNamed "tiller/tillerlaw13.FrontWhole" = some 5 by kernel_rfl).symm.trans hf) |>.symm
      obtain rfl : fn = Tryz.f5 := (Option.some.inj (Tryz.func5.symm.trans hfn)).symm
      exact ⟨by kernel_rfl, fun j t ht => by
        rw [Tryz.params5] at ht
        have hm : t ∈ [9, 33, 4] := by simpa using Array.mem_of_getElem? ht
        have hall : ([9, 33, 4].all fun u => !Tryz.prog.wantsStandIn u) = true := by kernel_rfl
        exact (show Tryz.prog.wantsStandIn t = false by simpa using List.all_eq_true.1 hall t hm)⟩)
    (by kernel_rfl)

end Go.Proofs.YtcbiibkmmbilbaaGreatDoor
