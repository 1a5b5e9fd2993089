/-
 HistoryExact holds for every definition and inputs: the law's call returns true and leaves its arguments as they were. No condition; the listed variable is tied to the program's text.
-/
import Derived.Test.YtfjekjbkifmpfaaDoorS53
set_option maxRecDepth 100000
set_option maxHeartbeats 16000000
namespace Go.Proofs.YtfjekjbkifmpfaaDoor.Rf
open Go.ChangeShapes Go.WideShapes Go.ChangeAt Go.RowKit Go.Deep
theorem historyExact_walk (name : ByteArray) (a : Option Addr) (c : Nat) (ns0 : List Nd) (ai : Option Addr) (ci : Nat) (ins : List Inp) (w : World) (R0 : RawAt w a ns0) (hnm : name.size ≤ maxLen) (hc : ns0.length ≤ c) (I0 : InsAt w ai ins) (hi0 : ins.length ≤ ci ∧ ci ≤ maxLen) (M : MovesAt w) :
  Calls Tryd.prog 3 #[.agg #[.string name, .slice a ns0.length c], .slice ai ins.length ci] w fun e w' => e = .returned (.bool true) ∧ Below w.heap.size w w' := by
 have hCut := hcut_any (w.alloc (.cells #[.string name, .slice a ns0.length c] 24)) name a ns0.length c ns0 rfl hc
 obtain ⟨ns, hns⟩ : ∃ ns, ns = ns0.take 32 := ⟨_, rfl⟩
 rw [← hns] at hCut
 have R : RawAt w a ns := by rw [hns]; exact R0.take 32
 have h32 : ns.length ≤ 32 := by rw [hns, List.length_take]; omega
 have HTk : Hid (∀ b, decide ((checkP name ns).2 = 0) = b → ∀ V, RawAt V a ns → Calls Tryd.prog 10 #[.agg #[.string name, .slice a ns.length c]] V fun e w' => e = .returned (.bool b) ∧ KF V w') := fun b hb V RV => taken_any V name a _ c _ RV rfl h32 hnm b hb
 have HR := hid R
 have HM := hid M
 have HI := hid I0
 have hil : ins.length ≤ ci := hi0.1
 have him : ins.length ≤ 9223372036854775807 := by have : maxLen = 9223372036854775807 := rfl; omega
 clear R R0 M hns hc I0 hi0
 by_cases hT : (checkP name ns).2 = 0
 ·have T := taken_of hT
  have HT := hid T
  have HTk2 := hid (HTk.out true (by simp [hT]))
  clear HTk hT T
  go_enter Tryd.func3, Tryd.ntmps3
  go_upto_region 4 with (first
   | (go_at_call 9; refine hCut.mono ?_; rintro e w1 ⟨rfl, K1⟩; clear hCut; obtain ⟨_, f0, f1⟩ := pairF ((K1.block w.heap.size (by simp) (fun h => h)).trans (heap_alloc_new _ _)); have hb := cut_box (n' := ns.length) K1 HR.out; obtain ⟨⟨x0, x1⟩, _, _⟩ := pairF hb.1; have hTk := HTk2.out _ hb.2.2; have HB := hid hb; clear hb)
   | (go_at_call 10; refine hTk.mono ?_; rintro e w2 ⟨rfl, K2⟩; clear hTk)
   | fail)
  have hb2 := atK K2 HB.out.1
  have HK2 := hid (HB.out.2.1.and K2)
  have HD2 := hid (HT.out.at (keptRaw K2 HB.out.2.2) (HM.out.kept HK2.out (fun h => h)))
  obtain ⟨⟨d0, d1⟩, _, _⟩ := pairF hb2
  have HX0 := hid (PlSt.start (nm := name) (c := c) HD2.out)
  have HBX := hid hb2
  clear HTk2 K2 HB f0 f1 x0 x1 K1 hb2
  go_wp2_with fail
  go_loopw [6] (fun q wr => ∃ (i : Nat) (s : St) (l : List Ev), i ≤ ins.length ∧ i ≤ 60 ∧ q = .int .i64 i ∧ PlSt w2 wr w2.heap.size name a c ns i s l) (fun q _ => ins.length - (intOf q).toNat)
  case atStart => exact ⟨0, zeroSt, [], Nat.zero_le _, Nat.zero_le _, rfl, HX0.out⟩
  case round =>
   clear HX0
   obtain ⟨i, s, l, hi, hi60, rfl, X⟩ := hrel
   by_cases hgo : i < ins.length ∧ i < 60
   ·obtain ⟨hlt, h60⟩ := hgo
    have e0 : (i : Int) < (ins.length : Int) := by omega
    have e1 : (i : Int) < 60 := by omega
    obtain ⟨bi, oi, rfl, hI⟩ := HI.out.at hlt
    obtain ⟨i0, i1, i2, i3, i4, i5, i6, i7, i8⟩ := hI wr (HK2.out.and X.keep)
    obtain ⟨p, hp⟩ : ∃ p, p = clipQ ins[i] := ⟨_, rfl⟩
    have hpt : p.text.size ≤ 300 := by rw [hp]; exact clipQ_text _
    have hpn : p.name.size ≤ 300 := by rw [hp]; exact clipQ_name _
    have hClip : Calls Tryd.prog 13 #[.agg #[.int .i64 (ins[i]).kind, .string (ins[i]).node, .string (ins[i]).name, .string (ins[i]).text, .int .i64 (ins[i]).tr, .int .i64 (ins[i]).status, .int .i64 (ins[i]).now, .string (ins[i]).par, .string (ins[i]).pnode]] wr fun e w' => e = .returned (.agg #[.int .i64 p.kind, .string p.node, .string p.name, .string p.text, .int .i64 p.tr, .int .i64 p.status, .int .i64 p.now, .string p.par, .string p.pnode]) ∧ KF wr w' := by
     rw [hp]
     exact clip_any wr ins[i] (fun V => within_wide V _ _ (by decide) (by decide))
    have hIn := fun V (KV : KF wr V) => play_input (X.new KV) HT.out (by omega) p hpn (Nat.le_trans hpt (by decide))
    unfold inpV at hIn
    clear X hI hp d0 d1
    go_wp2_with (first
     | (go_at_call 13; refine hClip.mono ?_; rintro e w6 ⟨rfl, K6⟩; clear hClip)
     | (go_at_call 12; refine (hIn _ K6).mono ?_; rintro e w7 ⟨rfl, X7, K7⟩; clear hIn)
     | fail)
    go_roundw
    case rel => exact ⟨i + 1, _, _, by omega, by omega, by go_num, X7⟩
    case measure => simp [intOf]; omega
   ·have hW := wakes_any wr (HM.out.kept (HK2.out.and X.keep) (fun h => h))
    have HK := hid (HK2.out.and X.keep)
    have hcs : (¬ ((i : Int) < (ins.length : Int))) ∨ (((i : Int) < (ins.length : Int)) ∧ ¬ ((i : Int) < 60)) := by omega
    clear X hgo d0 d1
    rcases hcs with e0 | ⟨e0, e1⟩
    all_goals
     go_wp2_with (first
      | (go_at_call 11; refine hW.mono ?_; rintro e w8 ⟨rfl, K8⟩; clear hW)
      | fail)
     go_ret
     exact ⟨rfl, (HK.out.and K8).none⟩
 ·have HTk2 := hid (HTk.out false (by simp [hT]))
  have hW := fun V (K : KF w V) => wakes_any V (HM.out.kept K (fun h => h))
  have HW := hid hW
  clear HTk hT hW
  go_enter Tryd.func3, Tryd.ntmps3
  go_wp2_with (first
   | (go_at_call 9; refine hCut.mono ?_; rintro e w1 ⟨rfl, K1⟩; clear hCut; obtain ⟨_, f0, f1⟩ := pairF ((K1.block w.heap.size (by simp) (fun h => h)).trans (heap_alloc_new _ _)); have hb := cut_box (n' := ns.length) K1 HR.out; obtain ⟨⟨x0, x1⟩, _, _⟩ := pairF hb.1; have hTk := HTk2.out _ hb.2.2; have HB := hid hb; clear hb)
   | (go_at_call 10; refine hTk.mono ?_; rintro e w2 ⟨rfl, K2⟩; clear hTk; have hW := HW.out w2 (HB.out.2.1.and K2))
   | (go_at_call 11; refine hW.mono ?_; rintro e w8 ⟨rfl, K8⟩; clear hW)
   | fail)
  go_ret
  exact ⟨rfl, ((HB.out.2.1.and K2).and K8).none⟩
end Go.Proofs.YtfjekjbkifmpfaaDoor.Rf
namespace Go.Proofs.YtfjekjbkifmpfaaDoor
open Go.ChangeShapes Go.WideShapes Go.ChangeAt Go.RowKit Go.Deep
theorem historyExact_lifted (os : Os) (started : os.Started) (H : Type) (enc : TypeId × Value → H) :
  ReturnsInHanded {} Tryd.checked os 3 .any (fun w args => (Rows.historyExactSpec.pre enc Tryd.prog Tryd.f3 [] false w args ∧ laidMetH Tryd.prog laidL w) ∧ sizedMet enc Tryd.prog Tryd.f3 (OpenSpec.ofChange Rows.historyExactSpec) false w args)
   (Rows.historyExactSpec.post enc Tryd.prog Tryd.f3 false true false false) := by
 refine returnsInHanded_of_change_and (C := Tryd.checked) (X := fun w _ => laidMetH Tryd.prog laidL w) (fun _ _ _ hh h => h.of_heap hh) Tryd.own started (by kernel_rfl) Tryd.func3
  (ChangeSpec.witness_shaped (enc := enc) (C := Tryd.checked) (os := os) (X := fun w _ => laidMetH Tryd.prog laidL w) false (World.doorLaid Tryd.prog 28 os) #[.agg #[.string ⟨#[]⟩, .slice none 0 0], .slice none 0 0] 8 rfl (World.shaped_of_RefB (by kernel_rfl) (by kernel_rfl)) (by kernel_rfl) (by kernel_rfl) (by kernel_rfl) (door_met os _)) ?_
 intro W base args ds gs before hval0 hW _ _ hL _
 have hval : ∀ (j : Nat) t v, Tryd.f3.params[j]? = some t → args[j]? = some v → Value.okWide Tryd.prog W .any base t v := hval0
 have hW' := hW
 obtain ⟨p, q, hA0, hV, rfl, _, _⟩ := hW
 have hA : DataW.TrodAll enc Tryd.prog W 0 (fun _ => true) true Tryd.f3.params.toList args.toList ds p := hA0
 rw [Tryd.params3] at hA hval
 obtain ⟨v0, vs0, d0, ds0, p0, q0, hargs, rfl, rfl, h0, r0⟩ := trodAll_cons hA
 obtain ⟨v1, vs1, d1, ds1, p1, q1, rfl, rfl, rfl, h1, r1⟩ := trodAll_cons r0
 obtain ⟨rfl, rfl, rfl⟩ := trodAll_nil r1
 obtain rfl : args = #[v0, v1] := by cases args; simp_all
 obtain ⟨rfl, rfl⟩ := trodVars_none hV
 have k0 := h0
 have k1 := h1
 have lt0 : ∀ x ∈ p0, x.block < W.heap.size := by obtain ⟨m, hm⟩ := k0; exact DataW.trod_lt m _ _ _ hm
 have lt1 : ∀ x ∈ p1, x.block < W.heap.size := by obtain ⟨m, hm⟩ := k1; exact DataW.trod_lt m _ _ _ hm
 obtain ⟨nm0, a0, c0, ns0, rfl, z0, y0, x0, w0⟩ := dv_open (hval 0 24 v0 rfl rfl) h0
 obtain ⟨a1', len1', cap1', rfl⟩ := okWide_slice Tryd.underlying25 (hval 1 25 v1 rfl rfl)
 obtain ⟨a1, cap1, l1, e1, y1, x1, w1⟩ : ∃ a c l, Value.slice a1' len1' cap1' = .slice a l.length c ∧ l.length ≤ c ∧ c ≤ maxLen ∧ InsAt W a l := by
  obtain ⟨fuel, hf⟩ := h1
  exact ins_open hf
 simp only [Value.slice.injEq] at e1
 obtain ⟨rfl, rfl, rfl⟩ := e1
 clear hA0 hval0
 refine (Rf.historyExact_walk _ _ _ _ _ _ _ W w0 z0 y0 w1 ⟨y1, x1⟩ (moves_laid hL)).mono fun e W' ⟨he, bel⟩ => ?_
 subst he
 exact ⟨_, rfl, _, _, _, [], _, [], hW', trodAll_mk1 (shut_bool Tryd.underlying4 _), (trodAll_cons_mk (Below.trod Tryd.laidOut (by kernel_rfl) (of_decide_eq_true (by kernel_rfl)) k0 bel lt0) (trodAll_cons_mk (Below.trod Tryd.laidOut (by kernel_rfl) (of_decide_eq_true (by kernel_rfl)) k1 bel lt1) trodAll_mk0)), rfl, bel.frame _, fun h => by cases h⟩
theorem historyExact_row : Rows.HistoryExactSaid :=
 OpenClaim.holds_of_wide 3 Tryd.f3 rfl rfl rfl rfl rfl rfl rfl ⟨rfl, rfl, rfl, rfl, rfl⟩ rfl rfl rfl rfl rfl (by kernel_rfl) Tryd.func3 (by kernel_rfl)
  (of_decide_eq_true (by kernel_rfl)) (by unfold Func.isWrapper; first | (rw [if_pos (by decide +kernel)]; kernel_rfl) | (rw [if_neg (by decide +kernel)]; exact ⟨rfl, rfl⟩))
  (fun os started H enc _ => historyExact_lifted os started H enc)
theorem historyExact_holds : Rows.HistoryExactCardSaid :=
 Claim7.holds_tied_plain_at .later [] [.data] true Rows.historyExactCard.stood.harness false
  historyExact_row (fun _ h => by cases h) (by kernel_rfl) (fun _ h => by cases h) historyExact_row_tie rfl ⟨rfl, rfl⟩ (by kernel_rfl) rfl
  (fun f fn hf hfn => by
    obtain rfl : f = 3 := Option.some.inj ((show Tryd.prog.funcNamed "tiller/tillerlaw09.HistoryExact" = some 3 by kernel_rfl).symm.trans hf) |>.symm
    obtain rfl : fn = Tryd.f3 := (Option.some.inj (Tryd.func3.symm.trans hfn)).symm
    exact ⟨by kernel_rfl, fun j t ht => by
     rw [Tryd.params3] at ht
     have hm : t ∈ [24, 25] := by simpa using Array.mem_of_getElem? ht
     have hall : ([24, 25].all fun u => !Tryd.prog.wantsStandIn u) = true := by kernel_rfl
     exact (show Tryd.prog.wantsStandIn t = false by simpa using List.all_eq_true.1 hall t hm)⟩)
  (by kernel_rfl)
end Go.Proofs.YtfjekjbkifmpfaaDoor
