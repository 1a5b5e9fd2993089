/-
  The walk of CodecFrames.
-/
import Derived.Test.YtchdmlckicipcaaLawFrR
namespace Go.Proofs.Ytchdmlckicipcaa
open Go.RowKit Go.Shelf
attribute [local go_sem] Oper.semAt_some

set_option maxRecDepth 100000 in
set_option maxHeartbeats 8000000 in
theorem frames_in (a : Option Addr) (n c : Nat) (xs : List PX) (ra : Option Addr) (rn rc : Nat) (rb : List Int) (stop : Int) (w : World) (O : LAt w a n c xs) (BR : BytesAt w ra rn rc rb) :
    CallsIn Fence.wide 3 Try.prog 3 #[.slice a n c, .slice ra rn rc, .int .i64 stop] w fun e w' => e = .returned (.bool true) ∧ Below w.heap.size w w' := by
  obtain ⟨i0, hi0, hz0, hz1, hz2⟩ := info_parts Try.info5
  have hps := paylT_bs O
  have hst := startT_le hps
  have hlen := O.len
  have hpl : (paylT xs).length = min 10 n := by unfold paylT; rw [List.length_take, List.length_map, hlen]
  obtain ⟨ps, hpsd⟩ : ∃ ps, ps = paylT xs := ⟨_, rfl⟩
  have hget : ∀ k x, xs[k]? = some x → k < 10 → ps[k]? = some (x.2.2.2.take 3000) := fun k x h hk => by rw [hpsd]; exact paylT_get h hk
  rw [← hpsd] at hps hst hpl
  clear hpsd
  have S0 := FrSt.new w stop ps
  have HO : Hid (LAt w a n c xs) := O
  have HBR : Hid (BytesAt w ra rn rc rb) := BR
  clear O BR
  refine callsIn_of_wp_marks Try.func3 rfl trivial ?_ rfl
  simp only [Try.ntmps3, List.size_toArray, List.length_cons, List.length_nil, Nat.reduceAdd, Nat.reduceSub, Array.replicate_succ, Array.replicate_zero, List.push_toArray, List.append_toArray, List.nil_append, List.cons_append]
  gi_wp2
  gi_loopw [7, 8] (fun p i wr => ∃ (k : Nat) (a7 : Option Addr) (c7 : Nat), p = .slice a7 (startF ps k) c7 ∧ i = .int .i64 k ∧ k ≤ n ∧ k ≤ 10 ∧ FrSt w wr stop ps k a7 c7) (fun _ i _ => n - (Go.RowKit.intOf i).toNat)
  case atStart => exact ⟨0, none, 0, by simp [startF, flatF], rfl, Nat.zero_le _, Nat.zero_le _, S0⟩
  case round =>
    clear S0
    obtain ⟨k, a7, c7, rfl, rfl, hk, hk8, S⟩ := hrel
    by_cases hgo : k < n ∧ k < 10
    · obtain ⟨hkn, hk8'⟩ := hgo
      have hc1 : (k : Int) < (n : Int) := by omega
      have hc2 : (k : Int) < 10 := by omega
      have hkl : k < xs.length := by omega
      obtain ⟨x, hx⟩ : ∃ x, xs[k]? = some x := ⟨xs[k], List.getElem?_eq_getElem hkl⟩
      have O := HO.out.kept S.kept
      have BX := O.bytes x (List.mem_of_getElem? hx)
      have hpk := hget k x hx hk8'
      have hsc := startF_succ ps k _ hpk
      have hfl := flatF_next ps k _ hpk
      obtain ⟨b, off, rfl⟩ : ∃ b off, a = some ⟨b, off, none⟩ := by
        cases a with
        | none => have := O.nil rfl; omega
        | some ad =>
          obtain ⟨hsp, _⟩ := O.cells ad rfl (by omega)
          obtain ⟨b, off, sp⟩ := ad
          obtain rfl : sp = none := hsp
          exact ⟨b, off, rfl⟩
      have hcell := (O.cells _ rfl (by omega)).2 k x hx
      obtain ⟨xa, xn, xc, xb⟩ := x
      simp only [] at hcell BX hpk hsc hfl
      have hxl := BX.len
      have hsk := hst k
      have hclip := clip_any wr xa xn xc BX.cap
      have BP : BytesAt wr xa (min xn 3000) xc (xb.take 3000) := by
        have h := BX.take (h := min xn 3000) (by omega)
        have e : xb.take (min xn 3000) = xb.take 3000 := by rw [List.take_eq_take_iff]; omega
        rwa [e] at h
      have hpm : min xn 3000 ≤ 3000 := Nat.min_le_right _ _
      generalize xb.take 3000 = p at *
      generalize min xn 3000 = pm at *
      have hpl2 : p.length = pm := BP.len
      have hbp : Bs p := BP.byte
      have hFr := frame_any wr xa pm xc p BP (by omega)
      have hfl2 : (frameB p).length = 8 + pm := by rw [frameB_length, hpl2]
      have hfb : Bs (frameB p) := frameB_bs hbp
      have h123 : Bs [1, 2, 3] := fun y hy => by simp at hy; omega
      have hun := unfr_more p [1, 2, 3] hbp (by omega)
      rw [hpl2] at hsc
      have HS : Hid (FrSt w wr stop ps k a7 c7) := S
      have HF : Hid (flatF (ps.take (k + 1)) = flatF (ps.take k) ++ frameB p) := hfl
      have HBP : Hid (∀ W, Kept (fun _ => False) wr W → BytesAt W xa pm xc p) := fun W K => BP.kept K (fun _ _ _ h => h)
      have hbw : w.heap.size + 2 ≤ wr.heap.size := by have := (Array.getElem?_eq_some_iff.1 S.res).1; omega
      obtain ⟨q, hq⟩ : ∃ q, 8 + pm = q := ⟨_, rfl⟩
      have hq2 : (8 : Int) + (pm : Int) = (q : Int) := by omega
      rw [hq] at hFr hfl2 hsc
      clear O hfl S BX BP
      gi_wp2_with (first
        | (refine ⟨trivial, ?_⟩; gi_at_call 4; refine (callsIn_wide.2 hclip).mono ?_; rintro e w0 ⟨rfl, hw0⟩; subst w0; clear hclip)
        | (refine ⟨trivial, ?_⟩; gi_at_call 5; refine (callsIn_wide.2 hFr).mono ?_; rintro e w1 ⟨fa, fc, rfl, hof, K1⟩; have BF1 := BytesAt.ofFrame hof hfb hfl2; have HBF : Hid _ := BF1; have BP1 := HBP.out w1 K1; clear hFr)
        | fail)
      refine wpIn_onlyN (fr7 _ BP1 BF1 hpm ?_)
      intro v37 v38 v39 v40 v41 w2 K2d
      have K12 : Kept (fun _ => False) w1 w2 := (Kept.drew _ w1).and K2d
      have K2 : Kept (fun _ => False) wr w2 := K1.and K12
      have hz2w := K2.size
      have SF := ((HBF.out.kept K12 (fun _ _ _ h => h)).kept (Kept.alloc (fun _ => False) w2 (.cells #[] 5)) (fun _ _ _ h => h)).src
      have hown := ownsRow_empty w2 w2.heap.size 5 1 (Nat.le_refl _)
      clear BF1 BP1 K2d
      gi_wp2_with (first
        | (gi_at_builtin; have _t := hown; refine wpListIn_append_src _ rfl _ _ 23 rfl w2.heap.size 5 i0 (.int .u8 0) 1 1 Try.underlying23 hi0 hz0 hz1 hz2 rfl (by decide) (.slice (some ⟨w2.heap.size, 0, none⟩) 0 0) 0 [] rfl hown _ rfl q _ SF (oneCells _) (by unfold maxLen; omega) (by omega) (by simp) ?_; intro a3 c3 w3 ho3 hg3 _; simp only [Nat.zero_add, List.nil_append] at ho3 ⊢; have K3 : Kept (fun _ => False) w2 w3 := lend_k1' w2 w3 hg3; have r3 := ho3.alloc (.cells #[.int .u8 1, .int .u8 2, .int .u8 3] 5); have hz3 : w2.heap.size ≤ (w3.alloc (.cells #[.int .u8 1, .int .u8 2, .int .u8 3] 5)).heap.size := (by have := K3.size; simp; omega); clear hown _t SF hg3 ho3)
        | (gi_at_builtin; have _t := r3; refine wpListIn_append_src _ rfl _ _ 23 rfl w2.heap.size 5 i0 (.int .u8 0) 1 1 Try.underlying23 hi0 hz0 hz1 hz2 rfl (by decide) (.slice a3 q c3) q _ rfl r3 _ rfl 3 [.int .u8 1, .int .u8 2, .int .u8 3] (.inl ⟨_, 3, rfl, rfl, World.news_of_block (heap_alloc_new w3 _)⟩) (by simp [Value.oneCell']) (by unfold maxLen; omega) (by omega) hz3 ?_; intro a4 c4 w4 ho4 hg4 _; have K4 : Kept (fun _ => False) w2 w4 := (K3.and (Kept.alloc _ _ _)).trans (Kept.grown (S := fun k => w2.heap.size ≤ k) hg4 (fun k e => (r3.lt k e).1)) (fun _ h => .inr h); have BU : BytesAt w4 a4 (q + 3) c4 (frameB p ++ [1, 2, 3]) := BytesAt.ofFrame (by rw [List.map_append]; exact ho4) (hfb.append h123) (by rw [List.length_append, hfl2]; rfl); have hU := unframe_any w4 a4 (q + 3) c4 _ BU (by omega); rw [hun] at hU; clear r3 _t ho4 hg4 BU hz3)
        | (refine ⟨trivial, ?_⟩; gi_at_call 7; refine (callsIn_wide.2 hU).mono ?_; rintro e w5 ⟨hp, K5⟩; obtain ⟨a5, c5, he, ho5⟩ := hp; rw [hpl2, hq2] at he; subst he; rw [hpl2] at ho5; have K25 := K4.and K5; have K05 := K2.and K25; have B5 := BytesAt.ofFrame ho5 hbp hpl2; have s5 := B5.str; have s6 := (HBP.out w5 K05).str; have HO5 : Hid (w5.ownsRow w4.heap.size 5 1 (.slice a5 pm c5) pm (p.map (Value.int .u8))) := ho5; have hSp := spoil_any w5 w4.heap.size (.slice a5 pm c5) pm p ho5 (by omega) K5.size; clear hU ho5 B5)
        | (refine ⟨trivial, ?_⟩; gi_at_call 8; refine (callsIn_wide.2 hSp).mono ?_; rintro e w6 ⟨rfl, K6⟩; have K16 : Kept (fun _ => False) w1 w6 := (K12.and K25).trans K6 (fun b h => .inr (by have := (HO5.out.lt b h).1; have := K12.size; have := K4.size; omega)); have K06 : Kept (fun _ => False) wr w6 := K1.and K16; have srcF := (HBF.out.kept K16 (fun _ _ _ h => h)).src; have rowA := ownsRow_block' HS.out.all (fun b hb => K06.block b (HS.out.all.lt b hb).2 (fun h => h)); have hz6 : w.heap.size + 2 ≤ w6.heap.size := Nat.le_trans hbw K06.size; clear hSp s5 s6)
        | (gi_at_builtin; refine wpListIn_append_src _ rfl _ _ 23 rfl (w.heap.size + 2) 5 i0 (.int .u8 0) 1 1 Try.underlying23 hi0 hz0 hz1 hz2 rfl (by decide) (.slice a7 (startF ps k) c7) (startF ps k) _ rfl rowA _ rfl q _ srcF (oneCells _) (by unfold maxLen; omega) (by omega) hz6 ?_; intro b7 d7 w7 ho7 hg7 _; have HS7 : Hid (FrSt w w7 stop ps (k + 1) b7 d7) := HS.out.go K06 hg7 (by rw [hsc, HF.out, List.map_append]; exact ho7); clear rowA srcF ho7 hg7)
        | fail)
      go_roundw
      case rel => exact ⟨k + 1, b7, d7, by rw [hsc], by simp, by omega, by omega, HS7.out⟩
      case measure => simp [Go.RowKit.intOf]; omega
    · have hkp : ps.length = k := by omega
      have htk : ps.take k = ps := List.take_of_length_le (by omega)
      have hsk := hst k
      have HS : Hid (FrSt w wr stop ps k a7 c7) := S
      have rowA := S.all
      rw [htk] at rowA
      have hclip := clip_any wr ra rn rc HBR.out.cap
      have BC : BytesAt wr ra (min rn 3000) rc (rb.take 3000) := by
        have h := (HBR.out.kept S.kept (fun _ _ _ h => h)).take (h := min rn 3000) (by omega)
        have hl := HBR.out.len
        have e : rb.take (min rn 3000) = rb.take 3000 := by rw [List.take_eq_take_iff]; omega
        rwa [e] at h
      have hrm : min rn 3000 ≤ 3000 := Nat.min_le_right _ _
      generalize rb.take 3000 = rr at *
      generalize min rn 3000 = rm at *
      have hbf : Bs (flatF ps) := by
        intro y hy
        obtain ⟨p, hp, hyp⟩ := List.mem_flatMap.1 hy
        exact frameB_bs (hps p hp).1 y hyp
      have hfl : (flatF ps).length = startF ps k := by unfold startF; rw [htk]
      have hbd : Bs (flatF ps ++ rr) := hbf.append BC.byte
      have hld : (flatF ps ++ rr).length = startF ps k + rm := by rw [List.length_append, hfl, BC.len]
      have srcR := BC.src
      have hbw : w.heap.size + 2 ≤ wr.heap.size := by have := (Array.getElem?_eq_some_iff.1 S.res).1; omega
      have hfn := func_nil 20
      clear S BC
      by_cases hkn : k < n
      · have hc : (k : Int) < (n : Int) := by omega
        have hc10 : ¬ ((k : Int) < 10) := by omega
        gi_wp2_with (first
          | (refine ⟨trivial, ?_⟩; gi_at_call 4; refine (callsIn_wide.2 hclip).mono ?_; rintro e w0 ⟨rfl, hw0⟩; subst w0; clear hclip)
          | (gi_at_builtin; refine wpListIn_append_src _ rfl _ _ 23 rfl (w.heap.size + 2) 5 i0 (.int .u8 0) 1 1 Try.underlying23 hi0 hz0 hz1 hz2 rfl (by decide) (.slice a7 (startF ps k) c7) (startF ps k) _ rfl rowA _ rfl rm _ srcR (oneCells _) (by unfold maxLen; omega) (by omega) hbw ?_; intro a8 c8 w8 ho8 hg8 _; have B8 : BytesAt w8 a8 (startF ps k + rm) c8 (flatF ps ++ rr) := BytesAt.ofFrame (by rw [List.map_append]; exact ho8) hbd hld; have HB8 : Hid _ := B8; have HG8 : Hid _ := hg8; have hX := xframes_any w8 a8 _ c8 _ B8 (by omega); clear rowA srcR ho8 hg8 B8)
          | (refine ⟨trivial, ?_⟩; gi_at_call 9; refine (callsIn_wide.2 hX).mono ?_; rintro e w9 ⟨fs, vs, a4, c4, a5, c5, rfl, hT, F9⟩; have HT : Hid _ := hT; have HF9 : Hid _ := F9; have hFr := frames_any (((w9.alloc (.cells #[.slice a4 fs.length c4] 29)).alloc (.cells #[.slice a5 fs.length c5] 22)).alloc (.cells #[.int .i64 0] 3)) a8 (startF ps k + rm) c8 (flatF ps ++ rr) (HB8.out.kept (F9.kept.and (((Kept.alloc _ _ _).and (Kept.alloc _ _ _)).and (Kept.alloc _ _ _))) (fun _ _ _ h => h)) (by omega); clear hX hT F9)
          | (refine ⟨trivial, ?_⟩; gi_at_call 10; refine (callsIn_wide.2 hFr).mono ?_; rintro e w10 ⟨kb, v, rfl, hv, hov, hk1, hk2, K10⟩; clear hFr)
          | fail)
        have hszB : (((w9.alloc (.cells #[.slice a4 fs.length c4] 29)).alloc (.cells #[.slice a5 fs.length c5] 22)).alloc (.cells #[.int .i64 0] 3)).heap.size = w9.heap.size + 3 := by simp
        rw [hszB] at hk1 hov
        obtain ⟨R10, hk10⟩ := RB.new HS.out HG8.out HF9.out K10
        have HR : Hid (RB w w10 stop w9.heap.size w8.heap.size fs vs a4 c4 a5 c5) := R10
        have HK10 : Hid (w10.heap[w9.heap.size + 2]? = some (.cells #[.int .i64 ((0 : Nat) : Int)] 3 (0, 0))) := hk10
        have HOV : Hid (w10.ownsRow (w9.heap.size + 3) 5 1 v (startF ps k + rm) ((flatF ps ++ rr).map (Value.int .u8))) := hov
        have hD : w9.heap.size + 3 ≤ w10.heap.size := by have h := K10.size; rw [hszB] at h; exact h
        clear R10 hk10 hov
        refine range_of rfl (by omega) (gf := 20) (lb := #[.pointer (some ⟨kb, 0, none⟩)]) rfl trivial (enters_of Try.func20 (by kernel_rfl) rfl) ?_
        intro r hfn hst hpend htm hpa has hbo
        have hreq : ({ r with state := .ready, pending := none } : Loop) = r := by
          cases r
          simp only [] at hst hpend
          subst hst hpend
          rfl
        have K0 : Kept (fun _ => False) w10 ((w10.alloc (.deferred (some []))).alloc (.loop r)) := (Kept.alloc _ _ _).and (Kept.alloc _ _ _)
        have J0 : RJ w ((w10.alloc (.deferred (some []))).alloc (.loop r)) stop w9.heap.size w8.heap.size fs vs a4 c4 a5 c5 w10.heap.size r 0 := by
          refine ⟨HR.out.of (K0.mono (fun _ h => h.elim)), (K0.block _ (by omega) (fun h => h)).trans HK10.out, ?_, ?_, hD⟩
          · have h := heap_alloc_new (w10.alloc (.deferred (some []))) (.loop r)
            rw [World.size_alloc] at h
            exact h
          · rw [Below.heap_alloc _ _ _ (by simp), heap_alloc_new]
        refine (framesT_in 2 (by omega) (w10.heap.size + 1) kb v (w9.heap.size + 3) (startF ps k + rm) (flatF ps ++ rr) (fun pre W => RJ w W stop w9.heap.size w8.heap.size fs vs a4 c4 a5 c5 w10.heap.size r pre.length) (fun W => RX w W w10.heap.size { r with state := .done, pending := some .ret }) _ (fun pre A B h K => h.keep K) ?_ (cell_keep K0 hv (fun h => h)).1 (ownsRow_block' HOV.out (fun b hb => K0.block b (HOV.out.lt b hb).2 (fun h => h))) hbd hld (by omega) J0).mono ?_
        · rintro pre i p pa pc W J ⟨rr2, hrt⟩ BP
          have hfs : fs = pre ++ (i, p) :: rr2 := tellsP_one HT.out hrt
          have hfq : fs[pre.length]? = some (i, p) := by rw [hfs]; simp
          have hql : pre.length < fs.length := (List.getElem?_eq_some_iff.1 hfq).1
          have hpl3 : (pre ++ [(i, p)]).length = pre.length + 1 := by simp
          rw [hpl3]
          have hfl8 := tellsP_len HT.out (Nat.zero_le _)
          rw [hld] at hfl8
          generalize pre.length = q at *
          refine yield_of (a1 := ?a1L) J.lp hst htm hpa has hbo rfl hfn ?hA ?hB
          case hA =>
            intro K hK
            gi_wp2
            exact hK
          case hB =>
            have HREQ : Hid _ := hreq
            clear htm hpa has hbo hst hpend hreq
            have J1 := J.put { r with state := .busy }
            have K1 : Kept (fun b => b = w10.heap.size + 1) W (W.putObj (w10.heap.size + 1) (.loop { r with state := .busy })) := Kept.putObj _ _ _ rfl
            have B1 := BP.kept K1 (bytes_apart BP J.lp)
            have HJ : Hid _ := J
            have HK1 : Hid _ := K1
            generalize W.putObj (w10.heap.size + 1) (.loop { r with state := .busy }) = W1 at *
            obtain ⟨x5, ⟨r0, rf⟩, x14, x15, ⟨x16, f16⟩⟩ := J1.cells
            obtain ⟨g4, g5, qa, qc, rfl, rfl, h4, h5, y4, y5, BQ⟩ := J1.told hfq B1.byte
            have s1 : ∀ n, (convert 23 9 (.slice pa p.length pc)).run Try.prog (W1.drewN n) = .ok (.string (strOfNums p)) (W1.drewN n) := fun n => (B1.kept (Kept.drewN (fun _ => False) W1 n) (fun _ _ _ h => h)).str
            have s2 : ∀ n, (convert 23 9 (.slice qa p.length qc)).run Try.prog (W1.drewN n) = .ok (.string (strOfNums p)) (W1.drewN n) := fun n => (BQ.kept (Kept.drewN (fun _ => False) W1 n) (fun _ _ _ h => h)).str
            have HJ1 : Hid _ := J1
            have d1 : decide (fs.length ≤ q) = false := decide_eq_false (by omega)
            have d2 : decide ((fs.length : Int) ≤ (q : Int)) = false := decide_eq_false (by omega)
            have g1 : (q : Int) < (fs.length : Int) := by omega
            have HQ : Hid _ := hfq
            have HFS : Hid _ := hfs
            clear J J1 K1 BP B1 BQ hfq hfs hrt J0 K0
            gi_wp2_with fail
            refine region_round rfl (by kernel_rfl) (by kernel_rfl) (by kernel_rfl) ?_
            repeat (gi_big_quiet_step (fail))
            refine wpQuietIn_nil ?_
            rintro _ ⟨nq, rfl⟩
            gi_wp2_with fail
            have J2 : RJ w ((W1.drewN nq).setCell ⟨w9.heap.size + 1 + 1, 0, none⟩ (.int .i64 ((q : Int) + 1))) stop w9.heap.size w8.heap.size fs vs (some ⟨g4, 0, none⟩) c4 (some ⟨g5, 0, none⟩) c5 w10.heap.size { r with state := .busy } (q + 1) := RJ.set (HJ1.out.keep (Kept.drewN (fun _ => False) W1 nq)) ((q : Int) + 1) (by push_cast; rfl)
            have K2 : Kept (fun b => b = w9.heap.size + 2) W1 ((W1.drewN nq).setCell ⟨w9.heap.size + 1 + 1, 0, none⟩ (.int .i64 ((q : Int) + 1))) := (Kept.drewN _ W1 nq).and (Kept.setCell (S := fun b => b = w9.heap.size + 2) _ _ _ rfl)
            clear x5 r0 rf x14 x15 x16 f16 y4 y5 s1 s2
            generalize (W1.drewN nq).setCell ⟨w9.heap.size + 1 + 1, 0, none⟩ (.int .i64 ((q : Int) + 1)) = V at *
            obtain ⟨z5, ⟨t0, tf⟩, _, _, ⟨z16, _⟩⟩ := J2.cells
            have y16 : V.cell? ⟨w9.heap.size + 1 + 1, 0, none⟩ = some (.int .i64 ((q : Int) + 1)) := by have h := z16; push_cast at h; exact h
            have hWi : ∀ W, _ := fun W => within_any W stop 12 (by decide) (by decide)
            have hs0 := Int.emod_nonneg stop (show (12 : Int) ≠ 0 by decide)
            have hs1 := Int.emod_lt_of_pos stop (show (0 : Int) < 12 by decide)
            have HJ2 : Hid _ := J2
            have HK2 : Hid _ := K2
            clear J2 K2 z16
            generalize stop % 12 = sv at *
            have hw : IntKind.i64.wrap (1 + sv) = 1 + sv := by rw [IntKind.wrap_i64]; omega
            by_cases hend : (q : Int) = sv
            · have e1 : ((q : Int) + 1 == 1 + sv) = true := by simp; omega
              refine region_round rfl (by kernel_rfl) (by kernel_rfl) (by kernel_rfl) ?_
              iterate 2 (gi_big_quiet_step (fail))
              refine BigFrame.wpQuietIn_want (fun _ _ _ _ => trivial) rfl (fun K hK => ?_)
              gi_big_quiet_op
              apply Exists.intro
              refine ⟨fun _ => ?_, ?_⟩
              · exact callsIn_wide.2 (Calls.quiet_of_same (hWi _))
              refine hK _ ?_
              clear hK K
              repeat (gi_big_quiet_step (fail))
              refine wpQuietIn_nil ?_
              rintro _ ⟨nr, rfl⟩
              gi_wp2_with (first
                | (refine ⟨trivial, ?_⟩; gi_at_call 12; refine (callsIn_wide.2 (wakes_any _)).mono ?_; rintro e w12 ⟨rfl, K12⟩; have r12 := (cell_keep ((Kept.drewN (fun _ => False) V nr).and K12) t0 (fun h => h)).1; have f12 := ((cell_keep ((Kept.drewN (fun _ => False) V nr).and K12) t0 (fun h => h)).2).trans tf)
                | fail)
              have X := HJ2.out.ends ((Kept.drewN (fun _ => False) V nr).and K12)
              exact ⟨X.lp, X.put _⟩
            · have e1 : ((q : Int) + 1 == 1 + sv) = false := by simp; omega
              refine region_round rfl (by kernel_rfl) (by kernel_rfl) (by kernel_rfl) ?_
              iterate 2 (gi_big_quiet_step (fail))
              refine BigFrame.wpQuietIn_want (fun _ _ _ _ => trivial) rfl (fun K hK => ?_)
              gi_big_quiet_op
              apply Exists.intro
              refine ⟨fun _ => ?_, ?_⟩
              · exact callsIn_wide.2 (Calls.quiet_of_same (hWi _))
              refine hK _ ?_
              clear hK K
              repeat (gi_big_quiet_step (fail))
              refine wpQuietIn_nil ?_
              rintro _ ⟨nr, rfl⟩
              gi_wp2
              have J3 := HJ2.out.keep (Kept.drewN (fun _ => False) V nr)
              have KZ : Kept (fun b => b = w10.heap.size + 1 ∨ b = w9.heap.size + 2) W ((V.drewN nr).putObj (w10.heap.size + 1) (.loop r)) := (((HK1.out.mono (fun _ h => .inl h)).and (HK2.out.mono (fun _ h => .inr h))).and (Kept.drewN _ V nr)).and (Kept.putObj _ _ _ (.inl rfl))
              have hzW := (Array.getElem?_eq_some_iff.1 HJ.out.lp).1
              refine ⟨J3.lp, ?_, ?_⟩
              · rw [HREQ.out]
                exact J3.put r
              · rw [HREQ.out]
                refine ⟨KZ.size, fun b hb => KZ.block b ?_ ?_⟩
                · rcases hb with rfl | hb
                  · omega
                  · have := HOV.out.lt b hb
                    omega
                · rcases hb with rfl | hb
                  · omega
                  · have := HOV.out.lt b hb
                    omega
        · rintro e W ⟨⟨v1, rfl⟩, ⟨xs1, hTx, J⟩ | X⟩
          · obtain rfl : xs1 = fs := tellsP_one hTx HT.out
            refine ⟨⟨_, rfl⟩, r, J.lp, by rw [hst]; decide, .inl ⟨hpend, ?_⟩⟩
            have J1 := J.put { r with state := .exhausted }
            generalize W.putObj (w10.heap.size + 1) (.loop { r with state := .exhausted }) = W2 at *
            obtain ⟨_, ⟨r0, rf⟩, _, x15, ⟨x16, _⟩⟩ := J1.cells
            have HJ1 : Hid _ := J1
            clear J J1 J0 K0
            gi_wp2_with (first
              | (refine ⟨trivial, ?_⟩; gi_at_call 12; refine (callsIn_wide.2 (wakes_any _)).mono ?_; rintro e w12 ⟨rfl, K12⟩; have r12 := (cell_keep K12 r0 (fun h => h)).1; have f12 := ((cell_keep K12 r0 (fun h => h)).2).trans rf)
              | fail)
            obtain ⟨hKd, hc5, hbl⟩ := (HJ1.out.ends K12).fin
            refine ⟨by simp, .inl ⟨_, _, rfl, run_takeDeferred hKd, ?_⟩⟩
            refine ⟨.bool true, ?_, rfl, hbl⟩
            simp [results, Try.f3, go_sem, hc5]
          · refine ⟨⟨_, rfl⟩, _, X.lp, by simp, .inr ⟨.ret, rfl, ?_⟩⟩
            have X1 := X.put { r with state := .exhausted, pending := some .ret }
            generalize W.putObj (w10.heap.size + 1) (.loop { r with state := .exhausted, pending := some .ret }) = W2 at *
            obtain ⟨hKd, hc5, hbl⟩ := X1.fin
            clear X X1 J0 K0 htm hpa has hbo
            gi_wp2
            refine ⟨by simp, .inl ⟨_, _, rfl, run_takeDeferred hKd, ?_⟩⟩
            refine ⟨.bool true, ?_, rfl, hbl⟩
            simp [results, Try.f3, go_sem, hc5]
      · have hc : ¬ ((k : Int) < (n : Int)) := by omega
        gi_wp2_with (first
          | (refine ⟨trivial, ?_⟩; gi_at_call 4; refine (callsIn_wide.2 hclip).mono ?_; rintro e w0 ⟨rfl, hw0⟩; subst w0; clear hclip)
          | (gi_at_builtin; refine wpListIn_append_src _ rfl _ _ 23 rfl (w.heap.size + 2) 5 i0 (.int .u8 0) 1 1 Try.underlying23 hi0 hz0 hz1 hz2 rfl (by decide) (.slice a7 (startF ps k) c7) (startF ps k) _ rfl rowA _ rfl rm _ srcR (oneCells _) (by unfold maxLen; omega) (by omega) hbw ?_; intro a8 c8 w8 ho8 hg8 _; have B8 : BytesAt w8 a8 (startF ps k + rm) c8 (flatF ps ++ rr) := BytesAt.ofFrame (by rw [List.map_append]; exact ho8) hbd hld; have HB8 : Hid _ := B8; have HG8 : Hid _ := hg8; have hX := xframes_any w8 a8 _ c8 _ B8 (by omega); clear rowA srcR ho8 hg8 B8)
          | (refine ⟨trivial, ?_⟩; gi_at_call 9; refine (callsIn_wide.2 hX).mono ?_; rintro e w9 ⟨fs, vs, a4, c4, a5, c5, rfl, hT, F9⟩; have HT : Hid _ := hT; have HF9 : Hid _ := F9; have hFr := frames_any (((w9.alloc (.cells #[.slice a4 fs.length c4] 29)).alloc (.cells #[.slice a5 fs.length c5] 22)).alloc (.cells #[.int .i64 0] 3)) a8 (startF ps k + rm) c8 (flatF ps ++ rr) (HB8.out.kept (F9.kept.and (((Kept.alloc _ _ _).and (Kept.alloc _ _ _)).and (Kept.alloc _ _ _))) (fun _ _ _ h => h)) (by omega); clear hX hT F9)
          | (refine ⟨trivial, ?_⟩; gi_at_call 10; refine (callsIn_wide.2 hFr).mono ?_; rintro e w10 ⟨kb, v, rfl, hv, hov, hk1, hk2, K10⟩; clear hFr)
          | fail)
        have hszB : (((w9.alloc (.cells #[.slice a4 fs.length c4] 29)).alloc (.cells #[.slice a5 fs.length c5] 22)).alloc (.cells #[.int .i64 0] 3)).heap.size = w9.heap.size + 3 := by simp
        rw [hszB] at hk1 hov
        obtain ⟨R10, hk10⟩ := RB.new HS.out HG8.out HF9.out K10
        have HR : Hid (RB w w10 stop w9.heap.size w8.heap.size fs vs a4 c4 a5 c5) := R10
        have HK10 : Hid (w10.heap[w9.heap.size + 2]? = some (.cells #[.int .i64 ((0 : Nat) : Int)] 3 (0, 0))) := hk10
        have HOV : Hid (w10.ownsRow (w9.heap.size + 3) 5 1 v (startF ps k + rm) ((flatF ps ++ rr).map (Value.int .u8))) := hov
        have hD : w9.heap.size + 3 ≤ w10.heap.size := by have h := K10.size; rw [hszB] at h; exact h
        clear R10 hk10 hov
        refine range_of rfl (by omega) (gf := 20) (lb := #[.pointer (some ⟨kb, 0, none⟩)]) rfl trivial (enters_of Try.func20 (by kernel_rfl) rfl) ?_
        intro r hfn hst hpend htm hpa has hbo
        have hreq : ({ r with state := .ready, pending := none } : Loop) = r := by
          cases r
          simp only [] at hst hpend
          subst hst hpend
          rfl
        have K0 : Kept (fun _ => False) w10 ((w10.alloc (.deferred (some []))).alloc (.loop r)) := (Kept.alloc _ _ _).and (Kept.alloc _ _ _)
        have J0 : RJ w ((w10.alloc (.deferred (some []))).alloc (.loop r)) stop w9.heap.size w8.heap.size fs vs a4 c4 a5 c5 w10.heap.size r 0 := by
          refine ⟨HR.out.of (K0.mono (fun _ h => h.elim)), (K0.block _ (by omega) (fun h => h)).trans HK10.out, ?_, ?_, hD⟩
          · have h := heap_alloc_new (w10.alloc (.deferred (some []))) (.loop r)
            rw [World.size_alloc] at h
            exact h
          · rw [Below.heap_alloc _ _ _ (by simp), heap_alloc_new]
        refine (framesT_in 2 (by omega) (w10.heap.size + 1) kb v (w9.heap.size + 3) (startF ps k + rm) (flatF ps ++ rr) (fun pre W => RJ w W stop w9.heap.size w8.heap.size fs vs a4 c4 a5 c5 w10.heap.size r pre.length) (fun W => RX w W w10.heap.size { r with state := .done, pending := some .ret }) _ (fun pre A B h K => h.keep K) ?_ (cell_keep K0 hv (fun h => h)).1 (ownsRow_block' HOV.out (fun b hb => K0.block b (HOV.out.lt b hb).2 (fun h => h))) hbd hld (by omega) J0).mono ?_
        · rintro pre i p pa pc W J ⟨rr2, hrt⟩ BP
          have hfs : fs = pre ++ (i, p) :: rr2 := tellsP_one HT.out hrt
          have hfq : fs[pre.length]? = some (i, p) := by rw [hfs]; simp
          have hql : pre.length < fs.length := (List.getElem?_eq_some_iff.1 hfq).1
          have hpl3 : (pre ++ [(i, p)]).length = pre.length + 1 := by simp
          rw [hpl3]
          have hfl8 := tellsP_len HT.out (Nat.zero_le _)
          rw [hld] at hfl8
          generalize pre.length = q at *
          refine yield_of (a1 := ?a1) J.lp hst htm hpa has hbo rfl hfn ?hA ?hB
          case hA =>
            intro K hK
            gi_wp2
            exact hK
          case hB =>
            have HREQ : Hid _ := hreq
            clear htm hpa has hbo hst hpend hreq
            have J1 := J.put { r with state := .busy }
            have K1 : Kept (fun b => b = w10.heap.size + 1) W (W.putObj (w10.heap.size + 1) (.loop { r with state := .busy })) := Kept.putObj _ _ _ rfl
            have B1 := BP.kept K1 (bytes_apart BP J.lp)
            have HJ : Hid _ := J
            have HK1 : Hid _ := K1
            generalize W.putObj (w10.heap.size + 1) (.loop { r with state := .busy }) = W1 at *
            obtain ⟨x5, ⟨r0, rf⟩, x14, x15, ⟨x16, f16⟩⟩ := J1.cells
            obtain ⟨g4, g5, qa, qc, rfl, rfl, h4, h5, y4, y5, BQ⟩ := J1.told hfq B1.byte
            have s1 : ∀ n, (convert 23 9 (.slice pa p.length pc)).run Try.prog (W1.drewN n) = .ok (.string (strOfNums p)) (W1.drewN n) := fun n => (B1.kept (Kept.drewN (fun _ => False) W1 n) (fun _ _ _ h => h)).str
            have s2 : ∀ n, (convert 23 9 (.slice qa p.length qc)).run Try.prog (W1.drewN n) = .ok (.string (strOfNums p)) (W1.drewN n) := fun n => (BQ.kept (Kept.drewN (fun _ => False) W1 n) (fun _ _ _ h => h)).str
            have HJ1 : Hid _ := J1
            have d1 : decide (fs.length ≤ q) = false := decide_eq_false (by omega)
            have d2 : decide ((fs.length : Int) ≤ (q : Int)) = false := decide_eq_false (by omega)
            have g1 : (q : Int) < (fs.length : Int) := by omega
            have HQ : Hid _ := hfq
            have HFS : Hid _ := hfs
            clear J J1 K1 BP B1 BQ hfq hfs hrt J0 K0
            gi_wp2_with fail
            refine region_round rfl (by kernel_rfl) (by kernel_rfl) (by kernel_rfl) ?_
            repeat (gi_big_quiet_step (fail))
            refine wpQuietIn_nil ?_
            rintro _ ⟨nq, rfl⟩
            gi_wp2_with fail
            have J2 : RJ w ((W1.drewN nq).setCell ⟨w9.heap.size + 1 + 1, 0, none⟩ (.int .i64 ((q : Int) + 1))) stop w9.heap.size w8.heap.size fs vs (some ⟨g4, 0, none⟩) c4 (some ⟨g5, 0, none⟩) c5 w10.heap.size { r with state := .busy } (q + 1) := RJ.set (HJ1.out.keep (Kept.drewN (fun _ => False) W1 nq)) ((q : Int) + 1) (by push_cast; rfl)
            have K2 : Kept (fun b => b = w9.heap.size + 2) W1 ((W1.drewN nq).setCell ⟨w9.heap.size + 1 + 1, 0, none⟩ (.int .i64 ((q : Int) + 1))) := (Kept.drewN _ W1 nq).and (Kept.setCell (S := fun b => b = w9.heap.size + 2) _ _ _ rfl)
            clear x5 r0 rf x14 x15 x16 f16 y4 y5 s1 s2
            generalize (W1.drewN nq).setCell ⟨w9.heap.size + 1 + 1, 0, none⟩ (.int .i64 ((q : Int) + 1)) = V at *
            obtain ⟨z5, ⟨t0, tf⟩, _, _, ⟨z16, _⟩⟩ := J2.cells
            have y16 : V.cell? ⟨w9.heap.size + 1 + 1, 0, none⟩ = some (.int .i64 ((q : Int) + 1)) := by have h := z16; push_cast at h; exact h
            have hWi : ∀ W, _ := fun W => within_any W stop 12 (by decide) (by decide)
            have hs0 := Int.emod_nonneg stop (show (12 : Int) ≠ 0 by decide)
            have hs1 := Int.emod_lt_of_pos stop (show (0 : Int) < 12 by decide)
            have HJ2 : Hid _ := J2
            have HK2 : Hid _ := K2
            clear J2 K2 z16
            generalize stop % 12 = sv at *
            have hw : IntKind.i64.wrap (1 + sv) = 1 + sv := by rw [IntKind.wrap_i64]; omega
            by_cases hend : (q : Int) = sv
            · have e1 : ((q : Int) + 1 == 1 + sv) = true := by simp; omega
              refine region_round rfl (by kernel_rfl) (by kernel_rfl) (by kernel_rfl) ?_
              iterate 2 (gi_big_quiet_step (fail))
              refine BigFrame.wpQuietIn_want (fun _ _ _ _ => trivial) rfl (fun K hK => ?_)
              gi_big_quiet_op
              apply Exists.intro
              refine ⟨fun _ => ?_, ?_⟩
              · exact callsIn_wide.2 (Calls.quiet_of_same (hWi _))
              refine hK _ ?_
              clear hK K
              repeat (gi_big_quiet_step (fail))
              refine wpQuietIn_nil ?_
              rintro _ ⟨nr, rfl⟩
              gi_wp2_with (first
                | (refine ⟨trivial, ?_⟩; gi_at_call 12; refine (callsIn_wide.2 (wakes_any _)).mono ?_; rintro e w12 ⟨rfl, K12⟩; have r12 := (cell_keep ((Kept.drewN (fun _ => False) V nr).and K12) t0 (fun h => h)).1; have f12 := ((cell_keep ((Kept.drewN (fun _ => False) V nr).and K12) t0 (fun h => h)).2).trans tf)
                | fail)
              have X := HJ2.out.ends ((Kept.drewN (fun _ => False) V nr).and K12)
              exact ⟨X.lp, X.put _⟩
            · have e1 : ((q : Int) + 1 == 1 + sv) = false := by simp; omega
              refine region_round rfl (by kernel_rfl) (by kernel_rfl) (by kernel_rfl) ?_
              iterate 2 (gi_big_quiet_step (fail))
              refine BigFrame.wpQuietIn_want (fun _ _ _ _ => trivial) rfl (fun K hK => ?_)
              gi_big_quiet_op
              apply Exists.intro
              refine ⟨fun _ => ?_, ?_⟩
              · exact callsIn_wide.2 (Calls.quiet_of_same (hWi _))
              refine hK _ ?_
              clear hK K
              repeat (gi_big_quiet_step (fail))
              refine wpQuietIn_nil ?_
              rintro _ ⟨nr, rfl⟩
              gi_wp2
              have J3 := HJ2.out.keep (Kept.drewN (fun _ => False) V nr)
              have KZ : Kept (fun b => b = w10.heap.size + 1 ∨ b = w9.heap.size + 2) W ((V.drewN nr).putObj (w10.heap.size + 1) (.loop r)) := (((HK1.out.mono (fun _ h => .inl h)).and (HK2.out.mono (fun _ h => .inr h))).and (Kept.drewN _ V nr)).and (Kept.putObj _ _ _ (.inl rfl))
              have hzW := (Array.getElem?_eq_some_iff.1 HJ.out.lp).1
              refine ⟨J3.lp, ?_, ?_⟩
              · rw [HREQ.out]
                exact J3.put r
              · rw [HREQ.out]
                refine ⟨KZ.size, fun b hb => KZ.block b ?_ ?_⟩
                · rcases hb with rfl | hb
                  · omega
                  · have := HOV.out.lt b hb
                    omega
                · rcases hb with rfl | hb
                  · omega
                  · have := HOV.out.lt b hb
                    omega
        · rintro e W ⟨⟨v1, rfl⟩, ⟨xs1, hTx, J⟩ | X⟩
          · obtain rfl : xs1 = fs := tellsP_one hTx HT.out
            refine ⟨⟨_, rfl⟩, r, J.lp, by rw [hst]; decide, .inl ⟨hpend, ?_⟩⟩
            have J1 := J.put { r with state := .exhausted }
            generalize W.putObj (w10.heap.size + 1) (.loop { r with state := .exhausted }) = W2 at *
            obtain ⟨_, ⟨r0, rf⟩, _, x15, ⟨x16, _⟩⟩ := J1.cells
            have HJ1 : Hid _ := J1
            clear J J1 J0 K0
            gi_wp2_with (first
              | (refine ⟨trivial, ?_⟩; gi_at_call 12; refine (callsIn_wide.2 (wakes_any _)).mono ?_; rintro e w12 ⟨rfl, K12⟩; have r12 := (cell_keep K12 r0 (fun h => h)).1; have f12 := ((cell_keep K12 r0 (fun h => h)).2).trans rf)
              | fail)
            obtain ⟨hKd, hc5, hbl⟩ := (HJ1.out.ends K12).fin
            refine ⟨by simp, .inl ⟨_, _, rfl, run_takeDeferred hKd, ?_⟩⟩
            refine ⟨.bool true, ?_, rfl, hbl⟩
            simp [results, Try.f3, go_sem, hc5]
          · refine ⟨⟨_, rfl⟩, _, X.lp, by simp, .inr ⟨.ret, rfl, ?_⟩⟩
            have X1 := X.put { r with state := .exhausted, pending := some .ret }
            generalize W.putObj (w10.heap.size + 1) (.loop { r with state := .exhausted, pending := some .ret }) = W2 at *
            obtain ⟨hKd, hc5, hbl⟩ := X1.fin
            clear X X1 J0 K0 htm hpa has hbo
            gi_wp2
            refine ⟨by simp, .inl ⟨_, _, rfl, run_takeDeferred hKd, ?_⟩⟩
            refine ⟨.bool true, ?_, rfl, hbl⟩
            simp [results, Try.f3, go_sem, hc5]

end Go.Proofs.Ytchdmlckicipcaa
