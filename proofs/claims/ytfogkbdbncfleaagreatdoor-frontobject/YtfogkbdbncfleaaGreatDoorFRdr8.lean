/-
  The document's reader: a text (the walk).
-/
import Derived.Test.YtfogkbdbncfleaaGreatDoorFRdr7
import Derived.Deep.Cut
namespace Go.Proofs.YtfogkbdbncfleaaGreatDoor
open Go.RowKit

theorem bc_length (l : List UInt8) : (Lib.byteCells l).length = l.length := by unfold Lib.byteCells; rw [List.length_map]

set_option maxRecDepth 100000 in
set_option maxHeartbeats 8000000 in
theorem rtext_any (w : World) (g : Nat) (s : ByteArray) (i : Nat) (bad why : Int) (hs : s.size ≤ 1000000000000) (hi : i ≤ s.size) (hb : bad < 0) (R : RdrAt w g s i bad why) :
    Calls Tryz.prog 33 #[.pointer (some ⟨g, 0, none⟩)] w (TxtPost w g s bad why (textP s (skipP s i))) := by
  obtain ⟨i0, hi0, hz0, hz1, hz2⟩ := info_parts Tryz.info5
  have hE := eat_any w g s i bad why 34 (by omega) hi hb R
  have hj := skipP_le s hi
  have hgw : g < w.heap.size := by unfold RdrAt at R; exact (Array.getElem?_eq_some_iff.1 R).1
  clear R
  generalize skipP s i = j at *
  have HE : Hid (∀ w1, (if standsP s j 34 then RdrAt w1 g s (j + 1 : Nat) bad why else RdrAt w1 g s (j : Nat) (j : Nat) 2) → Kept (fun k => k = g) w w1 → TxtJ w g s bad why (textP s j) (.slice none 0 0) w1) := fun w1 h K => by
    unfold textP
    split at h
    · rename_i hst
      have := standsP_some s hst
      rw [if_pos hst]
      exact .inl ⟨j + 1, _, [], none, 0, rfl, by omega, by omega, by simp, h, ⟨World.ownsRow_nil _ _ _ _, K⟩, rfl⟩
    · rename_i hst
      rw [if_neg hst]
      exact .inr ⟨j, j, rfl, hj, h, K⟩
  go_enter Tryz.func33, Tryz.ntmps33
  go_wp2_with (first
    | (go_at_call 30; refine hE.mono ?_; rintro e w1 ⟨rfl, h1, K1⟩; clear hE; have HJ := hid (HE.out w1 h1 K1); clear h1 K1 HE)
    | fail)
  go_loopw [3, 4, 5] (fun v _ _ wr => TxtJ w g s bad why (textP s j) v wr) (fun _ _ _ wr => txtM s g wr)
  case atStart => exact HJ.out
  case round =>
    clear HJ
    rcases hrel with ⟨k, n, acc, a, c, rfl, hk, hn, hacc, R, S, hF⟩ | ⟨p, k, hr, hk, R, K⟩
    · obtain ⟨m, rfl⟩ : ∃ m, n = m + 1 := ⟨n - 1, by omega⟩
      have HF := hid hF
      have HN := hid hn
      have HNO := hid (fun V (R : RdrAt V g s (k : Int) bad why) => no_any V g s (k : Int) bad why (k : Int) 2 R)
      obtain ⟨c0, c1, c2, c3⟩ := R.cells
      have f1 := R.free 1
      have HR := hid R
      have HS := hid S
      have HM := hid (txtM_go hb R)
      clear hF hn R S
      by_cases hlt : k < s.size
      · have hix := ix_str s hlt
        have e0 : ¬ (k : Int) ≥ (s.size : Int) := by omega
        have hkb : (k : Int) ≤ 281474976710656 := by omega
        have hst := standsP_lt s hlt 34
        by_cases h34 : s[k]'hlt = 34
        · have HQ : Hid (textP s j = (acc, k + 1, true)) := by
            show textP s j = _
            rw [← HF.out, textF_stop (by rw [hst, h34]; rfl)]
          rw [h34] at hix
          change ∀ W, _ = Result.ok (Value.int .u8 34) W at hix
          have hcv : ∀ q, (convert 74 9 (.slice a acc.length c)).run Tryz.prog ((wr.drewN q).setCell ⟨g, 1, none⟩ (.int .i64 ((k : Int) + 1))) = .ok (.string (mkB acc)) ((wr.drewN q).setCell ⟨g, 1, none⟩ (.int .i64 ((k : Int) + 1))) := fun q => (HS.out.next hgw ((Kept.drewN _ _ _).and (Kept.setCell (S := fun k => k = g) _ ⟨g, 1, none⟩ _ rfl))).str
          clear hst h34 HF HN HNO HM
          go_wp2_with (first | go_quiet (fail) | fail)
          go_ret
          refine ⟨HS.out.kept.and ((Kept.drewN _ _ _).and (Kept.setCell (S := fun k => k = g) _ ⟨g, 1, none⟩ _ rfl)), .inl ⟨by rw [HQ.out], by rw [HQ.out]; rfl, ?_⟩⟩
          rw [HQ.out]
          exact (HR.out.kept (Kept.drewN (fun _ => False) _ _) (fun h => h)).set1 _
        have hsf : standsP s k 34 = false := by rw [hst]; simpa using h34
        have n34 : ((((s[k]'hlt).toNat : Nat) : Int) == 34) = false := (u8i_beq _ 34 (by decide)).trans (by simpa using h34)
        clear hst h34
        by_cases h32 : (s[k]'hlt).toNat < 32
        · have HQ : Hid (textP s j = ([], k, false)) := by
            show textP s j = _
            have hc : charP s k = (0, k, false) := by unfold charP; rw [get_lt s hlt]; simp only [if_pos h32]
            rw [← HF.out, textF_bad hsf (by rw [hc]), hc]
          have l32 : (((s[k]'hlt).toNat : Nat) : Int) < 32 := by omega
          clear hsf h32 HF HN
          generalize (((s[k]'hlt).toNat : Nat) : Int) = cc at *
          go_wp2_with (first
            | (go_at_call 34; refine (HNO.out _ (HR.out.kept (Kept.drewN (fun _ => False) _ _) (fun h => h))).mono ?_; rintro e w2 ⟨rfl, R2, K2⟩; rw [if_pos hb, if_pos hb] at R2; have HR2 := hid R2; have HK2 := hid K2; clear R2 K2)
            | go_quiet (fail)
            | fail)
          go_roundw
          case rel => exact .inr ⟨k, k, HQ.out, hk, HR2.out, (HS.out.kept.and (Kept.drewN _ _ _)).and HK2.out⟩
          case measure =>
            rw [HM.out, txtM_no HR2.out]
            omega
        have l32 : ¬ (((s[k]'hlt).toNat : Nat) : Int) < 32 := by omega
        by_cases h92 : s[k]'hlt = 92
        · have hX := fun V (R : RdrAt V g s (k : Int) bad why) => escape_any V g s k bad why (by omega) hlt hb R
          have hnx := escP_next s hlt
          have hch : charP s k = escP s k := by unfold charP; rw [get_lt s hlt]; simp only [if_neg h32, if_pos h92]
          have HMO : Hid ((escP s k).2.2 = true → textF s m (escP s k).2.1 (acc ++ Lib.encodeRune (escP s k).1) = textP s j) := fun h => by
            rw [← HF.out, textF_more hsf (by rw [hch]; exact h), hch]
          have HBA : Hid ((escP s k).2.2 = false → textP s j = ([], (escP s k).2.1, false)) := fun h => by
            rw [← HF.out, textF_bad hsf (by rw [hch]; exact h), hch]
          have HENC : Hid ((Lib.encodeRune (escP s k).1).length ≤ 4) := by
            show (Lib.encodeRune (escP s k).1).length ≤ 4
            unfold Lib.encodeRune Lib.encodeRuneZ
            repeat' split
            all_goals simp
          clear hch
          rw [h92] at hix
          change ∀ W, _ = Result.ok (Value.int .u8 92) W at hix
          generalize escP s k = r at *
          obtain ⟨rv, rn, rb⟩ := r
          simp only at hnx HMO HBA HENC
          have hbase := HS.out.kept.size
          clear n34 l32 h32 h92 hsf HF HNO
          cases rb with
          | true =>
            have hX2 : ∀ V, RdrAt V g s (k : Int) bad why → Calls Tryz.prog 57 #[.pointer (some ⟨g, 0, none⟩)] V (EscOk V g s bad why (Lib.byteCells (Lib.encodeRune rv)) rn) := fun V R => (hX V R).mono fun e w' h => by
              rcases h with ⟨_, h⟩ | ⟨h, _⟩
              · exact h
              · cases h
            have HX2 := hid hX2
            have HNX := hid (hnx.2.2 rfl).1
            have HNS := hid hnx.2.1
            clear hX hX2 hnx HBA
            have HMO2 := hid (HMO.out rfl)
            clear HMO
            generalize Lib.encodeRune rv = enc at *
            have HNG : Hid (∀ q W w2, Kept (fun k => k = g) (wr.drewN q) W → W.heap.size = (wr.drewN q).heap.size → w2 = W.alloc (.cells (Lib.byteCells enc).toArray 5) → RdrAt W g s (rn : Int) bad why →
                TSt w g w2 (.slice a acc.length c) acc ∧ RdrAt w2 g s (rn : Int) bad why ∧ Src w2 1 (.slice (some ⟨(wr.drewN q).heap.size, 0, none⟩) (Lib.byteCells enc).length (Lib.byteCells enc).length) (Lib.byteCells enc).length (Lib.byteCells enc) ∧ w.heap.size ≤ w2.heap.size) := fun q W w2 KW hz hw RW => by
              subst hw
              have K2 : Kept (fun k => k = g) wr (W.alloc (.cells (Lib.byteCells enc).toArray 5)) := ((Kept.drewN _ _ _).and KW).and (Kept.alloc _ _ _)
              refine ⟨HS.out.next hgw K2, RW.kept (Kept.alloc (fun _ => False) _ _) (fun h => h), ?_, (HS.out.kept.and K2).size⟩
              rw [← hz]
              exact .inl ⟨_, _, rfl, by omega, World.news_of_block (heap_alloc_new W _)⟩
            have h1c : ∀ u ∈ Lib.byteCells enc, u.oneCell' = true := by
              intro u hu
              unfold Lib.byteCells at hu
              obtain ⟨b, _, rfl⟩ := List.mem_map.1 hu
              rfl
            go_wp2_with (first
              | (go_at_call 57; refine (HX2.out _ (HR.out.kept (Kept.drewN (fun _ => False) _ _) (fun h => h))).mono ?_; rintro e w2 ⟨W, KW, hzW, rfl, hw2, RW⟩; obtain ⟨S2, R2, Sr2, hb2⟩ := HNG.out _ W w2 KW hzW hw2 RW; have HR2 := hid R2; have HS2 := hid S2; clear KW hzW hw2 RW R2)
              | (at_builtin; refine wpList_append_src _ rfl _ _ 74 rfl w.heap.size 5 i0 _ 1 1 Tryz.underlying74 hi0 hz0 hz1 hz2 rfl (by decide) (.slice a acc.length c) acc.length _ rfl S2.own _ rfl (Lib.byteCells enc).length (Lib.byteCells enc) Sr2 h1c (by have := HENC.out; rw [bc_length]; unfold maxLen; omega) (by have := HENC.out; rw [bc_length]; omega) hb2 ?_; intro a3 c3 w3 ho3 hg3 _ _; have HS3 := hid (HS2.out.push (m := enc) (bc_length enc) rfl ho3 hg3); have HG3 := hid hg3; clear ho3 hg3 S2 Sr2)
              | go_quiet (fail)
              | fail)
            have HR3 := hid (HR2.out.kept (Kept.grown HG3.out (S := fun b => w.heap.size ≤ b) (fun b e => (HS2.out.own.lt b e).1)) (by omega))
            go_roundw
            case rel => exact .inl ⟨rn, m, acc ++ enc, a3, c3, by rw [List.length_append, bc_length], HNS.out, by have := HN.out; have := HNX.out; omega, by have := HENC.out; have := HNX.out; rw [List.length_append]; omega, HR3.out, by have := HS3.out; rw [bc_length] at this; rw [List.length_append]; exact this, HMO2.out⟩
            case measure =>
              rw [HM.out, txtM_go hb HR3.out]
              have := HNX.out
              have := HNS.out
              omega
          | false =>
            have hX2 : ∀ V, RdrAt V g s (k : Int) bad why → Calls Tryz.prog 57 #[.pointer (some ⟨g, 0, none⟩)] V (EscNo V g s rn) := fun V R => (hX V R).mono fun e w' h => by
              rcases h with ⟨h, _⟩ | ⟨_, h⟩
              · cases h
              · exact h
            have HX2 := hid hX2
            have HQ := hid (HBA.out rfl)
            clear hX hX2 hnx HBA HMO HENC
            go_wp2_with (first
              | (go_at_call 57; refine (HX2.out _ (HR.out.kept (Kept.drewN (fun _ => False) _ _) (fun h => h))).mono ?_; rintro e w2 ⟨rfl, K2, jj, hjj, R2⟩; have S2 := HS.out.next hgw ((Kept.drewN _ _ _).and K2); have hb2 := S2.kept.size; have HR2 := hid R2; have HS2 := hid S2; clear R2 K2)
              | (at_builtin; refine wpList_append_src _ rfl _ _ 74 rfl w.heap.size 5 i0 _ 1 1 Tryz.underlying74 hi0 hz0 hz1 hz2 rfl (by decide) (.slice a acc.length c) acc.length _ rfl S2.own _ rfl 0 [] (.inr ⟨0, rfl, rfl, rfl⟩) (by intro u hu; cases hu) (by unfold maxLen; omega) (by omega) hb2 ?_; intro a3 c3 w3 ho3 hg3 _ _; have HG3 := hid hg3; clear ho3 hg3 S2)
              | go_quiet (fail)
              | fail)
            have KG := Kept.grown HG3.out (S := fun b => w.heap.size ≤ b) (fun b e => (HS2.out.own.lt b e).1)
            have HR3 := hid (HR2.out.kept KG (by omega))
            have HK3 := hid (HS2.out.kept.trans (Kept.grown HG3.out (fun k e => (HS2.out.own.lt k e).1)) (fun k h => .inr h))
            clear KG
            go_roundw
            case rel => exact .inr ⟨rn, jj, HQ.out, hjj, HR3.out, HK3.out⟩
            case measure =>
              rw [HM.out, txtM_no HR3.out]
              omega
        have n92 : ((((s[k]'hlt).toNat : Nat) : Int) == 92) = false := (u8i_beq _ 92 (by decide)).trans (by simpa using h92)
        have hU := fun V => utf8_any V s k hs hlt
        rw [utR_is s k hlt] at hU
        by_cases hbd : (Utf8.decode s k).1 = 65533 ∧ (Utf8.decode s k).2 = 1
        · have HQ : Hid (textP s j = ([], k, false)) := by
            show textP s j = _
            have hc : charP s k = (0, k, false) := by unfold charP; rw [get_lt s hlt]; simp only [if_neg h32, if_neg h92, if_pos hbd]
            rw [← HF.out, textF_bad hsf (by rw [hc]), hc]
          rw [if_pos hbd] at hU
          change ∀ V, Calls Tryz.prog 40 _ V (fun e w' => e = .returned (.int .i64 0) ∧ w' = V) at hU
          clear hsf h32 h92 hbd HF HN
          generalize (((s[k]'hlt).toNat : Nat) : Int) = cc at *
          go_wp2_with (first
            | (go_at_call 34; refine (HNO.out _ (HR.out.kept (Kept.drewN (fun _ => False) _ _) (fun h => h))).mono ?_; rintro e w2 ⟨rfl, R2, K2⟩; rw [if_pos hb, if_pos hb] at R2; have HR2 := hid R2; have HK2 := hid K2; clear R2 K2)
            | go_quiet (first | (go_at_call 40; exact (hU _).mono fun _ _ ⟨he, hw⟩ => ⟨he, _, hw⟩) | fail)
            | fail)
          go_roundw
          case rel => exact .inr ⟨k, k, HQ.out, hk, HR2.out, (HS.out.kept.and (Kept.drewN _ _ _)).and HK2.out⟩
          case measure =>
            rw [HM.out, txtM_no HR2.out]
            omega
        rw [if_neg hbd] at hU
        have hp := dec_pos s hlt
        have hle := (dec_le s hlt).1
        have hz4 : (Utf8.decode s k).2 ≤ 4 := by
          rw [Lib.decode_at]
          unfold Lib.decodeN
          repeat' split
          all_goals (simp only; omega)
        have hch : charP s k = (((Utf8.decode s k).1 : Int), k + (Utf8.decode s k).2, true) := by unfold charP; rw [get_lt s hlt]; simp only [if_neg h32, if_neg h92, if_neg hbd]
        have HMO : Hid (textF s m (k + (Utf8.decode s k).2) (acc ++ (s.extract k (k + (Utf8.decode s k).2)).data.toList) = textP s j) := by
          show textF s m _ _ = textP s j
          rw [← HF.out, textF_more hsf (by rw [hch]), hch, enc_dec hlt hbd]
        have hpz : (s.extract k (k + (Utf8.decode s k).2)).size = (Utf8.decode s k).2 := by rw [ByteArray.size_extract]; omega
        clear hch hsf h32 h92 hbd HF HNO
        generalize (Utf8.decode s k).2 = zz at *
        obtain ⟨pc, hpc⟩ : ∃ pc, s.extract k (k + zz) = pc := ⟨_, rfl⟩
        have HPC := hid hpc
        rw [hpc] at hpz HMO
        have HPZ := hid hpz
        have nz : ((zz : Int) == 0) = false := by rw [beq_eq_false_iff_ne]; omega
        have hzi : (zz : Int) ≤ 4 := by omega
        clear hpc hpz
        generalize (((s[k]'hlt).toNat : Nat) : Int) = cc at *
        go_upto_region 10 with (first
          | go_quiet (first | (go_at_call 40; exact (hU _).mono fun _ _ ⟨he, hw⟩ => ⟨he, _, hw⟩) | fail)
          | fail)
        clear hU c0 c1 c2 c3 f1 hix
        have HR1 := hid (fun q => HR.out.kept (Kept.drewN (fun _ => False) wr q) (fun h => h))
        have HS1 := hid (fun q => HS.out.next hgw (Kept.drewN _ wr q))
        refine wp_onlyK (text10 (bs := w.heap.size) (pc := pc) _ (HR1.out _).cells.1 (HR1.out _).cells.2.1 (HS1.out _).own (HS1.out _).kept.size hgw (Nat.lt_of_lt_of_le hgw (HS1.out _).kept.size) HPC.out hle (by omega) (by rw [HPZ.out]; unfold maxLen; omega) (by rw [HPZ.out]; omega) ?_)
        intro v56 v57 v58 v59 v60 v61 v62 v63 v64 v65 v66 v67 v68 v69 v70 v71 v72 a3 c3 w3 ho3 hg3
        have HS3 := hid (((HS1.out _).next hgw (Kept.drew _ _)).push (m := pc.data.toList) (show pc.size = pc.data.toList.length from Array.length_toList.symm) rfl ho3 hg3)
        have HR3 := hid (((HR1.out _).kept (Kept.drew (fun _ => False) _) (fun h => h)).kept (Kept.grown hg3 (S := fun b => w.heap.size ≤ b) (fun b e => ((HS1.out 0).own.lt b e).1)) (by omega))
        obtain ⟨c0, c1, c2, c3'⟩ := HR3.out.cells
        have f1 := HR3.out.free 1
        clear ho3 hg3
        go_wp2_with (first | go_quiet (fail) | fail)
        go_roundw
        case rel => exact .inl ⟨k + zz, m, acc ++ pc.data.toList, a3, c3, by rw [List.length_append, show pc.data.toList.length = pc.size from Array.length_toList], hle, by have := HN.out; omega, by rw [List.length_append, show pc.data.toList.length = pc.size from Array.length_toList, HPZ.out]; omega, HR3.out.set1 _, by have := HS3.out; rw [List.length_append, show pc.data.toList.length = pc.size from Array.length_toList]; exact this.next hgw (Kept.setCell (S := fun k => k = g) _ ⟨g, 1, none⟩ _ rfl), HMO.out⟩
        case measure =>
          have h9 : RdrAt (w3.setCell ⟨g, 1, none⟩ (.int .i64 ((k : Int) + (zz : Int)))) g s ((k + zz : Nat) : Int) bad why := by
            rw [Int.natCast_add]
            exact HR3.out.set1 _
          rw [HM.out, txtM_go hb h9]
          omega
      · have HNE := hid (fun V (R : RdrAt V g s (k : Int) bad why) => no_any V g s (k : Int) bad why ((s.size : Nat) : Int) 2 R)
        have e0 : (k : Int) ≥ (s.size : Int) := by omega
        have hks : k = s.size := by omega
        have HQ : Hid (textP s j = ([], s.size, false)) := by
          show textP s j = _
          rw [← HF.out, textF_bad (standsP_ge s (by omega) 34) (by unfold charP; rw [get_ge s (by omega)]), show charP s k = (0, k, false) by unfold charP; rw [get_ge s (by omega)]]
          rw [hks]
        clear hks HNO
        go_wp2_with (first
          | (go_at_call 34; refine (HNE.out _ (HR.out.kept (Kept.drewN (fun _ => False) _ _) (fun h => h))).mono ?_; rintro e w2 ⟨rfl, R2, K2⟩; rw [if_pos hb, if_pos hb] at R2; have HR2 := hid R2; have HK2 := hid K2; clear R2 K2)
          | go_quiet (fail)
          | fail)
        go_ret
        refine ⟨(HS.out.kept.and (Kept.drewN _ _ _)).and HK2.out, .inr ⟨by rw [HQ.out], rfl, k, hk, ?_⟩⟩
        rw [HQ.out]
        exact HR2.out
    · obtain ⟨c0, c1, c2, c3⟩ := R.cells
      have HR := hid R
      have HK := hid K
      have HQ := hid hr
      have e0 : ¬ (p : Int) < 0 := by omega
      clear R K hr
      go_wp2
      go_ret
      refine ⟨HK.out, .inr ⟨by rw [HQ.out], rfl, k, hk, ?_⟩⟩
      rw [HQ.out]
      exact HR.out

end Go.Proofs.YtfogkbdbncfleaaGreatDoor
