/-
  RingHosts, walked (mL ≤ 20, mS ≤ 12).
-/
import Derived.Test.YtjfgjmiedmpieaaDoorRHoJ
namespace Go.Proofs.YtjfgjmiedmpieaaDoor
open Go.RowKit Go.Shelf Go.Sort
attribute [local go_sem] Oper.semAt_some

set_option maxRecDepth 100000 in
set_option maxHeartbeats 8000000 in
theorem ringHosts_a (aL : Option Addr) (mL cL : Nat) (zs : List Int) (p stop : Int) (aS : Option Addr) (mS cS : Nat) (ss : List Int) (w : World) (BL : IntsAt w aL mL cL zs) (BS : IntsAt w aS mS cS ss) (hss : ∀ z ∈ ss, -9223372036854775808 ≤ z ∧ z ≤ 9223372036854775807) (T : Pow10 w) (hc : mL ≤ 20) (hc2 : mS ≤ 12) :
    Calls Tryd.prog 3 #[.agg #[.slice aL mL cL, .int .i64 p, .int .i64 stop, .slice aS mS cS]] w fun e w' => e = .returned (.bool true) ∧ Below w.heap.size w w' := by
  refine (callsIn_wide (n := 9)).1 ?_
  refine callsIn_of_wp_marks Tryd.func3 rfl trivial ?_ rfl
  simp only [Tryd.ntmps3, List.size_toArray, List.length_cons, List.length_nil, Nat.reduceAdd, Nat.reduceSub, Array.replicate_succ, Array.replicate_zero, List.push_toArray, List.append_toArray, List.nil_append, List.cons_append]
  refine wpIn_wide.2 ?_
  have HSS : Hid (∀ z ∈ ss, -9223372036854775808 ≤ z ∧ z ≤ 9223372036854775807) := hss
  have hcL := BL.cap
  have HBL : Hid (IntsAt w aL mL cL zs) := by first | exact BL | exact BL.take (by omega)
  have HBS : Hid (IntsAt w aS mS cS ss) := BS
  have HT : Hid (Pow10 w) := T
  obtain ⟨i0, hi, hz0, hz1, hz2⟩ := info_parts Tryd.info3
  clear hss BL BS T
  go_wp2
  obtain ⟨n0, n1, hXs, KX⟩ := two_new w (.cells #[.slice aL mL cL, .int .i64 p, .int .i64 stop, .slice aS mS cS] 24) (.cells #[.bool false] 4) rfl
  generalize hX : ((w.alloc (.cells #[.slice aL mL cL, .int .i64 p, .int .i64 stop, .slice aS mS cS] 24)).alloc (.cells #[.bool false] 4)) = X at *
  clear hX
  have HS : Hid (∀ V, Kept (fun _ => False) X.drew V → Kept (fun _ => False) X.drew V ∧ V.cell? ⟨w.heap.size, 0, none⟩ = some (.slice aL mL cL) ∧ V.cell? ⟨w.heap.size, 1, none⟩ = some (.int .i64 p) ∧ V.cell? ⟨w.heap.size, 2, none⟩ = some (.int .i64 stop) ∧ V.cell? ⟨w.heap.size, 3, none⟩ = some (.slice aS mS cS)) := fun V K => by
    have b := (((Kept.drew (fun _ => False) X).and K).block w.heap.size (by omega) (fun h => h)).trans n0
    exact ⟨K, by unfold World.cell?; rw [b]; rfl, by unfold World.cell?; rw [b]; rfl, by unfold World.cell?; rw [b]; rfl, by unfold World.cell?; rw [b]; rfl⟩
  have HBX : Hid (BxSt w (X.alloc (.cells #[.int .i64 stop] 3)).drew stop X.heap.size) := by
    have KY := (Kept.alloc (fun _ => False) X (.cells #[.int .i64 stop] 3)).and (Kept.drew (fun _ => False) _)
    exact ⟨(KY.block _ (by omega) (fun h => h)).trans n1, heap_alloc_new X _, by omega, KX.and KY⟩
  clear n0 n1 hXs KX
  refine wp_nrm ?_
  go_region_held (fun V => Kept (fun _ => False) X.drew V ∧ V.cell? ⟨w.heap.size, 0, none⟩ = some (.slice aL mL cL) ∧ V.cell? ⟨w.heap.size, 1, none⟩ = some (.int .i64 p) ∧ V.cell? ⟨w.heap.size, 2, none⟩ = some (.int .i64 stop) ∧ V.cell? ⟨w.heap.size, 3, none⟩ = some (.slice aS mS cS)) (first | exact HS.out _ (Kept.refl _ _) | exact HS.out _ (Kept.alloc (fun _ => False) X.drew (.cells #[.int .i64 0] 3)) | exact HS.out _ (Kept.alloc (fun _ => False) X.drew (.cells #[.int .i64 stop] 3))) (fail)
  simp only [nrm]
  clear HS
  rename_i hHeld
  clear hHeld
  generalize (X.alloc (.cells #[.int .i64 stop] 3)).drew = Y at *
  generalize X.heap.size = sb at *
  have g20 : ¬ (20 : Int) < (mL : Int) := by omega
  have KY := HBX.out.K
  have hE := ownsRow_empty Y Y.heap.size 3 1 (Nat.le_refl _)
  have IL := (HBL.out.kept KY (fun _ _ _ h => h)).kept (Kept.alloc (fun _ => False) Y (.cells #[] 3)) (fun _ _ _ h => h)
  by_cases hok : Right zs ∧ 1 ≤ p ∧ p ≤ 64
  · have HOK : Hid (Right zs ∧ 1 ≤ p ∧ p ≤ 64) := hok
    clear hok
    go_wp2_with (first
      | (at_builtin; refine wpList_append_src _ rfl _ _ 22 rfl Y.heap.size 3 i0 _ 1 8 Tryd.underlying22 hi hz0 hz1 hz2 rfl (by decide) (.slice (some ⟨Y.heap.size, 0, none⟩) 0 0) 0 [] rfl hE _ rfl mL _ IL.src (ints_one _) (by unfold maxLen; omega) (by omega) (by simp) ?_; intro a3 c3 w3 ho3 hg3 _ hl3; simp only [Nat.zero_add, List.nil_append] at ho3; have K3 : Kept (fun _ => False) Y w3 := (Kept.alloc (fun _ => False) Y (.cells #[] 3)).trans (Kept.grown (S := fun j => Y.heap.size ≤ j) hg3 (fun j e => by cases e; exact Nat.le_refl _)) (fun _ h => .inr h); have N1 := new_any w3 a3 mL c3 zs (intsOfRow ho3) p; clear hE IL hl3)
      | (go_at_call 4; refine N1.mono ?_; intro e w4 h4; have h4' := NewPost.ok h4 HOK.out; obtain ⟨K4, rb, L, rfl, hp4, hs4, R4⟩ := h4'; have N2 := refNew_any w4 aL mL cL zs (HBL.out.kept ((KY.and K3).and K4) (fun _ _ _ h => h)) (by omega) p; have HR4 : Hid (RingAt w4 rb L) := R4; have HP4 : Hid (L.Perm (allSpots zs p.toNat) ∧ L.Pairwise noLater) := ⟨hp4, hs4⟩; clear N1 h4 R4 hp4 hs4)
      | (go_at_call 5; refine N2.mono ?_; intro e w5 h5; have h5' := RNewPost.ok h5 HOK.out; obtain ⟨K5, qb, L', rfl, hp5, hs5, Q5⟩ := h5'; obtain rfl : L' = L := spots_eq hs5 HP4.out.2 (hp5.trans HP4.out.1.symm); have KA := Kept.alloc (fun _ => False) w5 (.cells #[.pointer (some ⟨qb, 0, none⟩)] 29); have HTW : Hid (TwoSt w (w5.alloc (.cells #[.pointer (some ⟨qb, 0, none⟩)] 29)) stop sb w5.heap.size rb qb L' (refHosts zs 16)) := (⟨HBX.out.kept (((K3.and K4).and K5).and KA), heap_alloc_new _ _, (by have h6 := HBX.out.ne; have h7 := (Array.getElem?_eq_some_iff.1 HBX.out.stp).1; have h8 := K3.size; have h9 := K4.size; have h10 := K5.size; omega), HR4.out.kept (K5.and KA), Q5.kept KA⟩ : TwoSt w _ stop sb w5.heap.size rb qb L' (refHosts zs 16)); have IS := ints_same (w5.alloc (.cells #[.pointer (some ⟨qb, 0, none⟩)] 29)) a3 aL mL c3 cL zs ((intsOfRow ho3).kept ((K4.and K5).and KA) (fun _ _ _ h => h)) (HBL.out.kept ((((KY.and K3).and K4).and K5).and KA) (fun _ _ _ h => h)) (by omega); have hq5 := HTW.out.q; clear N2 h5 hp5 hs5 Q5)
      | (go_at_call 6; have _t := IS; refine IS.mono ?_; rintro e w6 ⟨rfl, m6, hw6⟩; subst w6; have HTW6 : Hid (TwoSt w ((w5.alloc (.cells #[.pointer (some ⟨qb, 0, none⟩)] 29)).drewN m6) stop sb w5.heap.size rb qb L' (refHosts zs 16)) := HTW.out.kept (Kept.drewN _ _ _); have HM := hostsM_any ((w5.alloc (.cells #[.pointer (some ⟨qb, 0, none⟩)] 29)).drewN m6) rb L' HTW6.out.R; rw [hostsL_eq HOK.out.1 (by have h6 := HOK.out.2; omega) HP4.out.1] at HM; clear IS _t HTW)
      | (go_at_call 8; refine HM.mono ?_; rintro e w7 ⟨a7, c7, rfl, ho7, K7⟩; have HTW7 : Hid (TwoSt w w7 stop sb w5.heap.size rb qb L' (refHosts zs 16)) := HTW6.out.kept K7; have hq7 := HTW7.out.q; have hh7 := HTW7.out.Q.hosts; obtain ⟨aQ, cQ, hcQ, IQ⟩ := hh7; have IS2 := ints_same w7 a7 aQ (refHosts zs 16).length c7 cQ (refHosts zs 16) (intsOfRow ho7) IQ (by have h6 := refHosts_len zs 16; omega); have HO7 : Hid _ := ho7; clear HM ho7 IQ)
      | (go_at_call 6; refine IS2.mono ?_; rintro e w8 ⟨rfl, m8, hw8⟩; subst w8; have K8 := Kept.drewN (fun _ => False) w7 m8; have ho8 := rowKept HO7.out K8 (fun _ _ h => h); have SP := spoilInts_own (w7.drewN m8) _ _ _ _ ho8 (by have h6 := refHosts_len zs 16; omega) K7.size; clear IS2)
      | (go_at_call 9; refine SP.mono ?_; rintro e w9 ⟨rfl, K9⟩; have HTW9 : Hid (TwoSt w w9 stop sb w5.heap.size rb qb L' (refHosts zs 16)) := HTW6.out.kept ((K7.and K8).trans K9 (fun i h => .inr ((ho8.lt i h).1))); clear SP)
      | fail)
    have hsort := HP4.out.2
    have HLS : Hid (ss.length = mS) := HBS.out.len
    have hfew : L'.length ≤ 1048576 := HTW9.out.R.few
    clear hq5 hq7 hcQ HTW6 HTW7 K3 K4 K5 KA K7 K8 K9 ho8 HO7 ho3 hg3 HR4 KY HBX
    generalize w5.heap.size = bq at *
    go_loopw [13] (fun i wr => ∃ (k : Nat), k ≤ mS ∧ i = .int .i64 k ∧ TwoSt w wr stop sb bq rb qb L' (refHosts zs 16)) (fun i _ => mS - (intOf i).toNat)
    case atStart => exact ⟨0, Nat.zero_le _, rfl, HTW9.out⟩
    case round =>
      clear HTW9
      obtain ⟨k, hk, rfl, TW⟩ := hrel
      have HTW : Hid (TwoSt w wr stop sb bq rb qb L' (refHosts zs 16)) := TW
      have KW := TW.bx.K
      by_cases hlt : k < mS
      · have e1 : (k : Int) < (mS : Int) := by omega
        have e2 : (k : Int) < 12 := by omega
        have hkl : k < ss.length := by rw [HLS.out]; omega
        obtain ⟨bS, oS, rfl, hcS⟩ := HBS.out.at hkl
        have x1 := cellKept KW (hcS k hkl)
        obtain ⟨y, hy⟩ : ∃ y, ss[k] = y := ⟨_, rfl⟩
        have hyb := HSS.out ss[k] (List.getElem_mem hkl)
        rw [hy] at x1 hyb
        have H1 := hostFull_any wr rb L' TW.R hsort (HT.out.kept KW) y hyb.1 hyb.2
        have HX1 : Hid (∀ V, Kept (fun _ => False) wr V → V.cell? ⟨bS, oS + k, none⟩ = some (.int .i64 y)) := fun V K => cellKept K x1
        have RH := fun V (K : Kept (fun _ => False) wr V) => refHost_any V qb L' ((HTW.out.kept K).Q.ref hfew) hsort y hyb.1 hyb.2
        generalize (hostAt L' (shardPt y)).getD 0 = hv at *
        generalize (hostAt L' (shardPt y)).isSome = hb at *
        have SH := fun V (K : Kept (fun _ => False) wr V) => shards_any V rb L' (HTW.out.kept K).R hsort y 16 (by decide)
        have RS := fun V (K : Kept (fun _ => False) wr V) => refShards_any V qb L' ((HTW.out.kept K).Q.ref hfew) hsort y 16 (by decide)
        have hnl := shL_len L' y 16
        rw [nats_ints] at SH RS
        generalize shL L' y 16 = sl at *
        have HSH : Hid _ := SH
        have HRS : Hid _ := RS
        have HRH : Hid _ := RH
        clear hcS hy TW SH RS RH
        have e6 : (hv != hv) = false := by simp
        have e7 : (hb != hb) = false := by simp
        go_wp2_with (first
          | (go_at_call 10; refine H1.mono ?_; rintro e w11 ⟨rfl, K11⟩; clear H1)
          | fail)
        have HS : Hid (∀ V, Kept (fun _ => False) w11.drew V → Kept (fun _ => False) w11.drew V ∧ V.cell? ⟨bq, 0, none⟩ = some (.pointer (some ⟨qb, 0, none⟩)) ∧ V.cell? ⟨bS, oS + k, none⟩ = some (.int .i64 y)) := fun V K => ⟨K, (HTW.out.kept ((K11.and (Kept.drew _ _)).and K)).q, HX1.out _ ((K11.and (Kept.drew _ _)).and K)⟩
        have RH2 := fun V (K : Kept (fun _ => False) w11.drew V) => (HRH.out V ((K11.and (Kept.drew _ _)).and K)).mono (fun e w' h => (⟨h.1, K.and h.2⟩ : _ ∧ Kept (fun _ => False) w11.drew w'))
        clear x1
        refine wp_nrm ?_
        first
        | (go_region_held (fun V => Kept (fun _ => False) w11.drew V ∧ V.cell? ⟨bq, 0, none⟩ = some (.pointer (some ⟨qb, 0, none⟩)) ∧ V.cell? ⟨bS, oS + k, none⟩ = some (.int .i64 y)) (first | exact HS.out _ (Kept.refl _ _) | exact HS.out _ (by assumption)) (first
          | (go_at_call 11; refine (RH2 _ (by first | assumption | exact Kept.refl _ _)).mono ?_; rintro e w12 ⟨rfl, K12⟩)
          | fail))
        | fail
        simp only [nrm]
        rename_i hHeld2
        clear hHeld2 HS RH2 HRH
        have KW12 : Kept (fun _ => False) wr w12 := (K11.and (Kept.drew _ _)).and K12
        have HKW : Hid (Kept (fun _ => False) wr w12) := KW12
        clear K11 K12 KW12
        go_wp2
        have HS : Hid (∀ V, Kept (fun _ => False) w12.drew V → Kept (fun _ => False) w12.drew V ∧ V.cell? ⟨bq, 0, none⟩ = some (.pointer (some ⟨qb, 0, none⟩)) ∧ V.cell? ⟨bS, oS + k, none⟩ = some (.int .i64 y)) := fun V K => ⟨K, (HTW.out.kept ((HKW.out.and (Kept.drew _ _)).and K)).q, HX1.out _ ((HKW.out.and (Kept.drew _ _)).and K)⟩
        have SH2 := fun V (K : Kept (fun _ => False) w12.drew V) => HSH.out V ((HKW.out.and (Kept.drew _ _)).and K)
        have RS2 := fun V (K : Kept (fun _ => False) w12.drew V) => HRS.out V ((HKW.out.and (Kept.drew _ _)).and K)
        refine wp_nrm ?_
        first
        | (go_region_held (fun V => Kept (fun _ => False) w12.drew V ∧ V.cell? ⟨bq, 0, none⟩ = some (.pointer (some ⟨qb, 0, none⟩)) ∧ V.cell? ⟨bS, oS + k, none⟩ = some (.int .i64 y)) (first | exact HS.out _ (Kept.refl _ _) | exact HS.out _ (by assumption)) (first
          | (go_at_call 12; refine (SH2 _ (by first | assumption | exact Kept.refl _ _)).mono ?_; rintro e w13 ⟨a13, c13, rfl, ho13, K13⟩; have KD13 : Kept (fun _ => False) w12.drew w13 := (by first | exact K13 | exact (by assumption : Kept (fun _ => False) w12.drew _).and K13); have I13 := intsOfRow ho13; clear ho13 SH2)
          | (go_at_call 13; refine (RS2 _ KD13).mono ?_; rintro e w14 ⟨a14, c14, rfl, ho14, K14⟩; have KD14 : Kept (fun _ => False) w12.drew w14 := KD13.and K14; have IS := ints_same w14 a13 a14 _ c13 c14 _ (I13.kept K14 (fun _ _ _ h => h)) (intsOfRow ho14) (by omega); clear ho14 RS2)
          | (go_at_call 6; refine IS.mono ?_; rintro e w15 ⟨rfl, m15, hw15⟩; have KD15 : Kept (fun _ => False) w12.drew w15 := (by rw [hw15]; exact KD14.and (Kept.drewN _ _ _)); clear hw15 IS)
          | fail))
        | fail
        simp only [nrm]
        rename_i hHeld2
        clear hHeld2
        go_wp2
        go_roundw
        case rel => exact ⟨k + 1, by omega, by go_num, HTW.out.kept ((HKW.out.and (Kept.drew _ _)).and KD15)⟩
        case measure => simp [intOf]; omega
      · have e1 : ¬ (k : Int) < (mS : Int) := by omega
        clear TW hk hlt
        go_wp2_with (first
          | (go_at_call 14; refine (rAll_any _ rb).mono ?_; rintro e w21 ⟨rfl, hw21⟩; subst w21)
          | fail)
        obtain ⟨n0, n1, hXs, KX⟩ := two_new wr (.cells #[.int .i64 0] 3) (.cells #[.pointer (some ⟨rb, 0, none⟩)] 25) rfl
        generalize hX : (wr.alloc (.cells #[.int .i64 0] 3)).alloc (.cells #[.pointer (some ⟨rb, 0, none⟩)] 25) = X2 at *
        clear hX
        obtain ⟨⟨a0, c0, h2, hA, _⟩, hsq, _⟩ := HTW.out.R
        have hg5 : ∀ g, a0 = some ⟨g, 0, none⟩ → g < wr.heap.size := fun g e => by
          rcases hA with ⟨e', _⟩ | ⟨g', e', hg', _⟩
          · rw [e'] at e; cases e
          · rw [e'] at e; cases e; exact hg'
        refine (wpIn_wide (n := 9)).1 ?_
        refine range_of rfl (by omega) (gf := 35) (lb := #[.pointer (some ⟨wr.heap.size + 1, 0, none⟩)]) (by rfl) trivial (enters_of Tryd.func35 (by kernel_rfl) rfl) ?_
        intro r hfn hst0 hpend htm hpa has hbo
        have hreq : ({ r with state := .ready, pending := none } : Loop) = r := by
          cases r
          simp only [] at hst0 hpend
          subst hst0 hpend
          rfl
        have K0 : Kept (fun _ => False) X2 ((X2.alloc (.deferred (some []))).alloc (.loop r)) := (Kept.alloc _ _ _).and (Kept.alloc _ _ _)
        have hlt0 : ∀ k o, X2.heap[k]? = some o → ((X2.alloc (.deferred (some []))).alloc (.loop r)).heap[k]? = some o := fun k o h => (K0.block k (Array.getElem?_eq_some_iff.1 h).1 (fun h => h)).trans h
        have J0 : HoJ wr ((X2.alloc (.deferred (some []))).alloc (.loop r)) r 0 := by
          refine ⟨hlt0 _ _ n0, ?_, ?_, KX.and K0⟩
          · rw [Below.heap_alloc _ _ _ (by simp; omega), ← hXs, heap_alloc_new]
          · have h := heap_alloc_new (X2.alloc (.deferred (some []))) (.loop r)
            rw [World.size_alloc, hXs] at h
            exact h
        have hkb : ((X2.alloc (.deferred (some []))).alloc (.loop r)).cell? ⟨wr.heap.size + 1, 0, none⟩ = some (.pointer (some ⟨rb, 0, none⟩)) := by unfold World.cell?; rw [hlt0 _ _ n1]; rfl
        rw [hXs]
        refine (rAll_in 8 (wr.heap.size + 2 + 1) (wr.heap.size + 1) rb a0 c0 L' (fun k W => HoJ wr W r k) (fun W => HoX w W wr.heap.size { r with state := .done, pending := some .ret }) _ (fun k A B h K => HoJ.keep h K) ?_ hkb (cellKept (KX.and K0) h2) (hA.kept (KX.and K0) (fun _ _ h => h)) hfew J0).mono ?_
        · intro q x W1 J hx
          have hqL : q < L'.length := (List.getElem?_eq_some_iff.1 hx).1
          have hxe : L'[q] = x := (List.getElem?_eq_some_iff.1 hx).2
          have hxq := hsq x (List.mem_of_getElem? hx)
          unfold cx
          refine yield_gen (W2 := W1) (a1 := ?a1L) J.lp hst0 htm hpa has hbo rfl hfn J.lp ?hA ?hB
          case hA =>
            intro K hK
            gi_wp2
            exact hK
          case hB =>
            have J1 := HoJ.put J { r with state := .busy }
            have HSZ : Hid ((W1.putObj (wr.heap.size + 2 + 1) (.loop { r with state := .busy })).heap.size = W1.heap.size) := by show _ = _; simp [World.putObj]
            have HJ : Hid (HoJ wr W1 r q) := J
            have HREQ : Hid _ := hreq
            change HoJ wr (W1.putObj (wr.heap.size + 2 + 1) (.loop { r with state := .busy })) _ _ at J1
            clear htm hpa has hbo hst0 hpend hreq J J0
            generalize W1.putObj (wr.heap.size + 2 + 1) (.loop { r with state := .busy }) = W2 at *
            have HJ1 : Hid (HoJ wr W2 { r with state := .busy } q) := J1
            have TW2 := HTW.out.kept J1.K
            obtain ⟨⟨aq, cq, hcq, hRS⟩, _⟩ := TW2.Q.ref hfew
            rcases hRS with ⟨_, e⟩ | ⟨g, rfl, hg, hcells⟩
            · rw [e] at hqL; simp at hqL
            obtain ⟨x0, x1, x2⟩ := hcells q hqL
            rw [hxe] at x0 x1 x2
            have xq := TW2.q
            have xn := J1.cells.1
            clear hcells TW2 J1 hxe
            gi_wp2_with fail
            refine wpIn_nrm (ho26 _ xn xq hcq x0 x1 x2 hqL hxq ?_)
            intro v135 v136 v137 v138 v139 v140 v141 v142 v143 v144 v145 v146 v147 v148 v149 v150 v151 v152 v153 v154 v155 v156 v157 v158 v159 v160 v161 v162 v163 v164 v165 w9 K9
            clear xn xq hcq x0 x1 x2
            have J9 := HJ1.out.keep ((Kept.drew (fun _ => False) W2).and K9)
            obtain ⟨y9, f9⟩ := J9.cells
            have hw1 : IntKind.i64.wrap ((q : Int) + 1) = (q : Int) + 1 := by rw [IntKind.wrap_i64]; omega
            gi_wp2_with fail
            have J2 : HoJ wr (w9.setCell ⟨wr.heap.size, 0, none⟩ (.int .i64 ((q : Int) + 1))) { r with state := .busy } (q + 1) := by
              have h := J9.set (q + 1)
              push_cast at h
              exact h
            have HSV : Hid (W1.heap.size ≤ (w9.setCell ⟨wr.heap.size, 0, none⟩ (.int .i64 ((q : Int) + 1))).heap.size) := by
              show _ ≤ _
              have h5 := K9.size
              have h6 := HSZ.out
              simp only [World.size_drew] at h5
              simp only [World.size_setCell]
              omega
            clear y9 f9 J9 K9 HSZ
            generalize w9.setCell ⟨wr.heap.size, 0, none⟩ (.int .i64 ((q : Int) + 1)) = V at *
            have y16 : V.cell? ⟨wr.heap.size, 0, none⟩ = some (.int .i64 ((q : Int) + 1)) := by have h := J2.cells.1; push_cast at h; exact h
            have HBV : Hid (BxSt w V stop sb) := HTW.out.bx.kept J2.K
            obtain ⟨_, _, ts⟩ := HBV.out.cells
            have hWi : ∀ W, _ := fun W => within_any W stop 200 (by decide) (by decide)
            have hs0 := Int.emod_nonneg stop (show (200 : Int) ≠ 0 by decide)
            have hs1 := Int.emod_lt_of_pos stop (show (0 : Int) < 200 by decide)
            have HJ2 : Hid (HoJ wr V { r with state := .busy } (q + 1)) := J2
            clear J2
            generalize stop % 200 = sv at *
            have hw : IntKind.i64.wrap (1 + sv) = 1 + sv := by rw [IntKind.wrap_i64]; omega
            by_cases hend : (q : Int) = sv
            · have e8 : ((q : Int) + 1 == 1 + sv) = true := by simp; omega
              refine region_round rfl (by kernel_rfl) (by kernel_rfl) (by kernel_rfl) ?_
              iterate 2 (gi_big_quiet_step (fail))
              refine BigFrame.wpQuietIn_want (fun _ _ _ _ => trivial) rfl (fun K hK => ?_)
              gi_big_quiet_op
              apply Exists.intro
              refine ⟨fun _ => ?_, ?_⟩
              · exact callsIn_wide.2 (Calls.quiet_of_same (hWi _))
              refine hK _ ?_
              clear hK K
              repeat (gi_big_quiet_step (fail))
              refine wpQuietIn_nil ?_
              rintro _ ⟨nr, rfl⟩
              gi_wp2_with (first
                | (refine ⟨trivial, ?_⟩; gi_at_call 7; refine (callsIn_wide.2 (wakes_any _)).mono ?_; rintro e w12 ⟨rfl, K12⟩; have hb12 := (HBV.out.kept ((Kept.drewN (fun _ => False) V nr).and K12)).cells; obtain ⟨r12, f12, _⟩ := hb12)
                | fail)
              have X := HoJ.ends (HJ2.out.keep ((Kept.drewN (fun _ => False) V nr).and K12)) HTW.out.bx
              exact ⟨X.lp, X.put _⟩
            · have e8 : ((q : Int) + 1 == 1 + sv) = false := by simp; omega
              refine region_round rfl (by kernel_rfl) (by kernel_rfl) (by kernel_rfl) ?_
              iterate 2 (gi_big_quiet_step (fail))
              refine BigFrame.wpQuietIn_want (fun _ _ _ _ => trivial) rfl (fun K hK => ?_)
              gi_big_quiet_op
              apply Exists.intro
              refine ⟨fun _ => ?_, ?_⟩
              · exact callsIn_wide.2 (Calls.quiet_of_same (hWi _))
              refine hK _ ?_
              clear hK K
              repeat (gi_big_quiet_step (fail))
              refine wpQuietIn_nil ?_
              rintro _ ⟨nr, rfl⟩
              gi_wp2
              have J3 := HJ2.out.keep (Kept.drewN (fun _ => False) V nr)
              refine ⟨J3.lp, ?_, ?_, fun g hg => ?_⟩
              · rw [HREQ.out]
                exact J3.put r
              · have h5 := HSV.out
                simpa [World.putObj] using h5
              · rw [HREQ.out]
                exact HoJ.same HJ.out (J3.put r) (hg5 g hg)
        · rintro e W ⟨⟨v1, rfl⟩, J | X⟩
          · refine ⟨⟨_, rfl⟩, r, J.lp, by rw [hst0]; decide, .inl ⟨hpend, ?_⟩⟩
            have J1 := HoJ.put J { r with state := .exhausted }
            change HoJ wr (W.putObj (wr.heap.size + 2 + 1) (.loop { r with state := .exhausted })) _ _ at J1
            generalize W.putObj (wr.heap.size + 2 + 1) (.loop { r with state := .exhausted }) = W2 at *
            have TW2 := HTW.out.kept J1.K
            have HTW2 : Hid (TwoSt w W2 stop sb bq rb qb L' (refHosts zs 16)) := TW2
            have HJ1 : Hid (HoJ wr W2 { r with state := .exhausted } L'.length) := J1
            obtain ⟨⟨aq, cq, hcq, _⟩, _⟩ := TW2.Q.ref hfew
            obtain ⟨aH, cH, hcH, IH⟩ := TW2.Q.hosts
            have hqn : qb ≠ w.heap.size + 1 := fun e => by
              obtain ⟨vL, vH, h5, _⟩ := TW2.Q.ok
              rw [e, TW2.bx.res] at h5
              simp at h5
            have hqb := TW2.neq
            have hbl : w.heap.size + 1 < wr.heap.size := (Array.getElem?_eq_some_iff.1 HTW.out.bx.res).1
            have xq := TW2.q
            have xn := J1.cells.1
            have HS : Hid (∀ V, Kept (fun j => j = w.heap.size + 1) W2.drew V → Kept (fun j => j = w.heap.size + 1) W2.drew V ∧ V.cell? ⟨wr.heap.size, 0, none⟩ = some (.int .i64 (L'.length : Int)) ∧ V.cell? ⟨bq, 0, none⟩ = some (.pointer (some ⟨qb, 0, none⟩)) ∧ V.cell? ⟨qb, 0, none⟩ = some (.slice aq L'.length cq) ∧ V.cell? ⟨qb, 1, none⟩ = some (.slice aH (refHosts zs 16).length cH)) := fun V K => by
              have g : ∀ {b o v}, b ≠ w.heap.size + 1 → W2.cell? ⟨b, o, none⟩ = some v → V.cell? ⟨b, o, none⟩ = some v := fun {b o v} hn hc => (World.cell?_of_block (((Kept.drew (fun j => j = w.heap.size + 1) W2).and K).block b (World.block_lt_of_cell? W2 _ hc) hn)).trans hc
              exact ⟨K, g (by omega) xn, g (by omega) xq, g hqn hcq, g hqn hcH⟩
            have KD := Kept.drew (fun _ => False) W2
            have HM := hostsM_any W2.drew rb L' (TW2.R.kept KD)
            rw [hostsL_eq HOK.out.1 (by have h6 := HOK.out.2; omega) HP4.out.1] at HM
            have HIH : Hid (IntsAt W2 aH (refHosts zs 16).length cH (refHosts zs 16)) := IH
            have hrl := refHosts_len zs 16
            clear J J1 J0 K0 TW2 IH hcq hcH xq xn htm hpa has hbo hst0 hpend hreq hlt0 hkb
            go_wp2
            refine wp_nrm ?_
            first
            | (go_region_held (fun V => Kept (fun j => j = w.heap.size + 1) W2.drew V ∧ V.cell? ⟨wr.heap.size, 0, none⟩ = some (.int .i64 (L'.length : Int)) ∧ V.cell? ⟨bq, 0, none⟩ = some (.pointer (some ⟨qb, 0, none⟩)) ∧ V.cell? ⟨qb, 0, none⟩ = some (.slice aq L'.length cq) ∧ V.cell? ⟨qb, 1, none⟩ = some (.slice aH (refHosts zs 16).length cH)) (first | exact HS.out _ (Kept.refl _ _) | exact HS.out _ (by assumption) | exact HS.out _ (KS22.and (Kept.setCell (S := fun j => j = w.heap.size + 1) _ _ _ rfl))) (first
              | (go_at_call 8; refine HM.mono ?_; rintro e w20 ⟨a20, c20, rfl, ho20, K20⟩; have IS := ints_same w20 a20 aH _ c20 cH (refHosts zs 16) (intsOfRow ho20) (HIH.out.kept (KD.and K20) (fun _ _ _ h => h)) (by omega); have KS20 : Kept (fun j => j = w.heap.size + 1) W2.drew w20 := K20.mono (fun _ h => h.elim); clear HM ho20)
              | (go_at_call 6; refine IS.mono ?_; rintro e w21 ⟨rfl, m21, hw21⟩; have K21 : Kept (fun _ => False) W2.drew w21 := (by rw [hw21]; exact K20.and (Kept.drewN _ _ _)); have KS21 : Kept (fun j => j = w.heap.size + 1) W2.drew w21 := K21.mono (fun _ h => h.elim); clear IS hw21)
              | (go_at_call 7; refine (wakes_any _).mono ?_; rintro e w22 ⟨rfl, K22⟩; have K2 : Kept (fun _ => False) W2 w22 := KD.and (K21.and K22); have KS22 : Kept (fun j => j = w.heap.size + 1) W2.drew w22 := (K21.and K22).mono (fun _ h => h.elim); have hb22 := (HTW2.out.bx.kept K2).cells; obtain ⟨r22, f22, _⟩ := hb22)
              | fail))
            | fail
            simp only [nrm]
            rename_i hHeld2
            clear hHeld2
            have X := HoJ.ends (HJ1.out.keep K2) HTW.out.bx
            obtain ⟨hKd, hc5, hbl5⟩ := X.fin
            clear HS KS20 KS21 KS22 r22 f22
            go_wp2
            refine ⟨by simp, .inl ⟨_, _, rfl, run_takeDeferred hKd, ?_⟩⟩
            refine ⟨.bool true, ?_, rfl, hbl5⟩
            simp [results, Tryd.f3, go_sem, hc5]
          · refine ⟨⟨_, rfl⟩, _, X.lp, by simp, .inr ⟨.ret, rfl, ?_⟩⟩
            have X1 := X.put { r with state := .exhausted, pending := some .ret }
            change HoX w (W.putObj (wr.heap.size + 2 + 1) (.loop { r with state := .exhausted, pending := some .ret })) _ _ at X1
            generalize W.putObj (wr.heap.size + 2 + 1) (.loop { r with state := .exhausted, pending := some .ret }) = W2 at *
            obtain ⟨hKd, hc5, hbl⟩ := X1.fin
            clear X X1 J0 K0 htm hpa has hbo
            gi_wp2
            refine ⟨by simp, .inl ⟨_, _, rfl, run_takeDeferred hKd, ?_⟩⟩
            refine ⟨.bool true, ?_, rfl, hbl⟩
            simp [results, Tryd.f3, go_sem, hc5]
  · have HNO : Hid (¬ (Right zs ∧ 1 ≤ p ∧ p ≤ 64)) := hok
    clear hok
    go_wp2_with (first
      | (at_builtin; refine wpList_append_src _ rfl _ _ 22 rfl Y.heap.size 3 i0 _ 1 8 Tryd.underlying22 hi hz0 hz1 hz2 rfl (by decide) (.slice (some ⟨Y.heap.size, 0, none⟩) 0 0) 0 [] rfl hE _ rfl mL _ IL.src (ints_one _) (by unfold maxLen; omega) (by omega) (by simp) ?_; intro a3 c3 w3 ho3 hg3 _ hl3; simp only [Nat.zero_add, List.nil_append] at ho3; have K3 : Kept (fun _ => False) Y w3 := (Kept.alloc (fun _ => False) Y (.cells #[] 3)).trans (Kept.grown (S := fun j => Y.heap.size ≤ j) hg3 (fun j e => by cases e; exact Nat.le_refl _)) (fun _ h => .inr h); have N1 := new_any w3 a3 mL c3 zs (intsOfRow ho3) p; clear hE IL hl3)
      | (go_at_call 4; refine N1.mono ?_; intro e w4 h4; have h4' := NewPost.no h4 HNO.out; obtain ⟨rfl, K4⟩ := h4'; have N2 := refNew_any w4 aL mL cL zs (HBL.out.kept ((KY.and K3).and K4) (fun _ _ _ h => h)) (by omega) p; clear N1 h4)
      | (go_at_call 5; refine N2.mono ?_; intro e w5 h5; have h5' := RNewPost.no h5 HNO.out; obtain ⟨rfl, K5⟩ := h5'; have KA := Kept.alloc (fun _ => False) w5 (.cells #[.pointer none] 29); have HB5 : Hid (BxSt w (w5.alloc (.cells #[.pointer none] 29)) stop sb) := HBX.out.kept (((K3.and K4).and K5).and KA); have IS := ints_same (w5.alloc (.cells #[.pointer none] 29)) a3 aL mL c3 cL zs ((intsOfRow ho3).kept ((K4.and K5).and KA) (fun _ _ _ h => h)) (HBL.out.kept ((((KY.and K3).and K4).and K5).and KA) (fun _ _ _ h => h)) (by omega); clear N2 h5)
      | (go_at_call 6; refine IS.mono ?_; rintro e w6 ⟨rfl, m6, hw6⟩; subst w6; clear IS)
      | (go_at_call 7; refine (wakes_any _).mono ?_; rintro e w7 ⟨rfl, K7⟩; have HB7 : Hid (BxSt w w7 stop sb) := (HB5.out.kept (Kept.drewN _ _ _)).kept K7; have hb7 := HB7.out.cells; obtain ⟨r7, f7, s7⟩ := hb7)
      | fail)
    obtain ⟨e8, e9⟩ := HB7.out.ends
    exact ⟨.bool true, by simp [results, Tryd.f3, go_sem, e8], rfl, e9⟩

end Go.Proofs.YtjfgjmiedmpieaaDoor
