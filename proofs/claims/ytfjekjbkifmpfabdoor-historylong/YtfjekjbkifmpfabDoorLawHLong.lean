/-
  HistoryLong holds for every definition and inputs: the law's call returns true and leaves its arguments as they were. No condition; the listed variable is tied to the program's text.
-/
import Derived.Test.YtfjekjbkifmpfabDoorG31
import Derived.Test.YtfjekjbkifmpfabDoorG17
import Derived.Test.YtfjekjbkifmpfabDoorG51
import Derived.Deep.QuietTactic
import Derived.BigQuiet
namespace Go.Proofs.YtfjekjbkifmpfabDoor.Rf
open Go.ChangeShapes Go.WideShapes Go.ChangeAt Go.RowKit Go.Deep

set_option maxRecDepth 100000 in
set_option maxHeartbeats 8000000 in
theorem historyLong_walk (name : ByteArray) (a : Option Addr) (c : Nat) (ns0 : List Nd) (ai : Option Addr) (ci : Nat) (ins : List Inp) (w : World) (R0 : RawAt w a ns0) (hnm : name.size ≤ maxLen) (hc : ns0.length ≤ c) (I0 : InsAt w ai ins) (hi0 : ins.length ≤ ci ∧ ci ≤ maxLen) (M : MovesAt w) :
    Calls Tryd.prog 3 #[.agg #[.string name, .slice a ns0.length c], .slice ai ins.length ci] w fun e w' => e = .returned (.bool true) ∧ Below w.heap.size w w' := by
  have hCut := hcut_any (w.alloc (.cells #[.string name, .slice a ns0.length c] 24)) name a ns0.length c ns0 rfl hc
  obtain ⟨ns, hns⟩ : ∃ ns, ns = ns0.take 32 := ⟨_, rfl⟩
  rw [← hns] at hCut
  have R : RawAt w a ns := by rw [hns]; exact R0.take 32
  have h32 : ns.length ≤ 32 := by rw [hns, List.length_take]; omega
  have HTk : Hid (∀ b, decide ((checkP name ns).2 = 0) = b → ∀ V, RawAt V a ns → Calls Tryd.prog 5 #[.agg #[.string name, .slice a ns.length c]] V fun e w' => e = .returned (.bool b) ∧ Kept (fun _ => False) V w') := fun b hb V RV => taken_any V name a _ c _ RV rfl h32 hnm b hb
  have HR := hid R
  have HM := hid M
  have HI := hid I0
  have hil : ins.length ≤ ci := hi0.1
  have him : ins.length ≤ 9223372036854775807 := by have : maxLen = 9223372036854775807 := rfl; omega
  clear R R0 M hns hc I0 hi0
  by_cases hT : (checkP name ns).2 = 0
  · have T := taken_of hT
    have HT := hid T
    have HTk2 := hid (HTk.out true (by simp [hT]))
    clear HTk hT T
    go_enter Tryd.func3, Tryd.ntmps3
    go_upto_region 4 with (first
      | (go_at_call 4; refine hCut.mono ?_; rintro e w1 ⟨rfl, K1⟩; clear hCut; obtain ⟨_, f0, f1⟩ := pairF ((K1.block w.heap.size (by simp) (fun h => h)).trans (heap_alloc_new _ _)); have hb := cut_box (n' := ns.length) K1 HR.out; obtain ⟨⟨x0, x1⟩, _, _⟩ := pairF hb.1; have hTk := HTk2.out _ hb.2.2; have HB := hid hb; clear hb)
      | (go_at_call 5; refine hTk.mono ?_; rintro e w2 ⟨rfl, K2⟩; clear hTk)
      | fail)
    have hb2 := (K2.block _ (Array.getElem?_eq_some_iff.1 HB.out.1).1 (fun h => h)).trans HB.out.1
    have HK2 := hid (HB.out.2.1.and K2)
    have HD2 := hid (HT.out.at (keptRaw K2 HB.out.2.2) (HM.out.kept HK2.out (fun h => h)))
    obtain ⟨⟨d0, d1⟩, _, _⟩ := pairF hb2
    have HX0 := hid (PlSt.start (nm := name) (c := c) HD2.out)
    have HBX := hid hb2
    clear HTk2 K2 HB f0 f1 x0 x1 K1 hb2
    go_wp2_with fail
    go_loopw [6, 7] (fun gv q wr => ∃ (i g : Nat) (s : St) (l : List Ev), i ≤ ins.length ∧ i ≤ 60 ∧ g ≤ i ∧ gv = .int .i64 g ∧ q = .int .i64 i ∧ PlSt w2 wr w2.heap.size name a c ns i s l ∧ LgOk ns g s l) (fun _ q _ => ins.length - (intOf q).toNat)
    case atStart => exact ⟨0, 0, zeroSt, [], Nat.zero_le _, Nat.zero_le _, Nat.le_refl _, rfl, rfl, HX0.out, LgOk.zero ns⟩
    case round =>
      clear HX0
      obtain ⟨i, g, s, l, hi, hi60, hgi, rfl, rfl, X, G⟩ := hrel
      by_cases hgo : i < ins.length ∧ i < 60
      · obtain ⟨hlt, h60⟩ := hgo
        have e0 : (i : Int) < (ins.length : Int) := by omega
        have e1 : (i : Int) < 60 := by omega
        obtain ⟨bi, oi, rfl, hI⟩ := HI.out.at hlt
        obtain ⟨i0, i1, i2, i3, i4, i5, i6, i7, i8⟩ := hI wr (HK2.out.and X.keep)
        obtain ⟨p, hp⟩ : ∃ p, p = clipQ ins[i] := ⟨_, rfl⟩
        have hpt : p.text.size ≤ 300 := by rw [hp]; exact clipQ_text _
        have hpn : p.name.size ≤ 300 := by rw [hp]; exact clipQ_name _
        have hClip : Calls Tryd.prog 7 #[.agg #[.int .i64 (ins[i]).kind, .string (ins[i]).node, .string (ins[i]).name, .string (ins[i]).text, .int .i64 (ins[i]).tr, .int .i64 (ins[i]).status, .int .i64 (ins[i]).now, .string (ins[i]).par, .string (ins[i]).pnode]] wr fun e w' => e = .returned (.agg #[.int .i64 p.kind, .string p.node, .string p.name, .string p.text, .int .i64 p.tr, .int .i64 p.status, .int .i64 p.now, .string p.par, .string p.pnode]) ∧ Kept (fun _ => False) wr w' := by
          rw [hp]
          exact clip_any wr ins[i] (fun V => within_wide V _ _ (by decide) (by decide))
        have hIn := fun V (KV : Kept (fun _ => False) wr V) => play_input (X.new KV) HT.out (by omega) p hpn (Nat.le_trans hpt (by decide))
        unfold inpV at hIn
        have HG := hid (G.step (nm := name) HT.out X.2.1.met p)
        clear X hI hp d0 d1 G
        cases hk2 : (p.kind == 2) with
        | true =>
          have hg2 : (if p.kind = 2 then 1 else 0) = 1 := if_pos (by simpa using hk2)
          rw [hg2] at HG
          have w1 : IntKind.i64.wrap ((g : Int) + 1) = (g : Int) + 1 := by rw [IntKind.wrap_i64]; omega
          clear hg2
          go_wp2_with (first
            | (go_at_call 7; refine hClip.mono ?_; rintro e w6 ⟨rfl, K6⟩; clear hClip; obtain ⟨⟨n0, n1, n2, n3, n4, n5, n6, n7, n8⟩, _⟩ := nine (heap_alloc_new w6 (.cells #[.int .i64 p.kind, .string p.node, .string p.name, .string p.text, .int .i64 p.tr, .int .i64 p.status, .int .i64 p.now, .string p.par, .string p.pnode] 38)))
            | (go_at_call 8; refine (hIn _ (K6.and (Kept.alloc _ _ _))).mono ?_; rintro e w7 ⟨rfl, X7, K7⟩; clear hIn)
            | fail)
          go_roundw
          case rel => exact ⟨i + 1, g + 1, _, _, by omega, by omega, by omega, by go_num, by go_num, X7, HG.out⟩
          case measure => simp [intOf]; omega
        | false =>
          have hg2 : (if p.kind = 2 then 1 else 0) = 0 := if_neg (by simpa using hk2)
          rw [hg2] at HG
          clear hg2
          go_wp2_with (first
            | (go_at_call 7; refine hClip.mono ?_; rintro e w6 ⟨rfl, K6⟩; clear hClip; obtain ⟨⟨n0, n1, n2, n3, n4, n5, n6, n7, n8⟩, _⟩ := nine (heap_alloc_new w6 (.cells #[.int .i64 p.kind, .string p.node, .string p.name, .string p.text, .int .i64 p.tr, .int .i64 p.status, .int .i64 p.now, .string p.par, .string p.pnode] 38)))
            | (go_at_call 8; refine (hIn _ (K6.and (Kept.alloc _ _ _))).mono ?_; rintro e w7 ⟨rfl, X7, K7⟩; clear hIn)
            | fail)
          go_roundw
          case rel => exact ⟨i + 1, g + 0, _, _, by omega, by omega, by omega, rfl, by go_num, X7, HG.out⟩
          case measure => simp [intOf]; omega
      · have hcs : (¬ ((i : Int) < (ins.length : Int))) ∨ (((i : Int) < (ins.length : Int)) ∧ ¬ ((i : Int) < 60)) := by omega
        have w1 : IntKind.i64.wrap (2 * (g : Int)) = 2 * (g : Int) := by rw [IntKind.wrap_i64]; omega
        have w2' : IntKind.i64.wrap (2 + 2 * (g : Int)) = 2 + 2 * (g : Int) := by rw [IntKind.wrap_i64]; omega
        have HX := hid X
        have HG := hid G
        clear X hgo d0 d1 G
        rcases hcs with e0 | ⟨e0, e1⟩
        all_goals
          go_wp2_with fail
          go_loopw [9, 10] (fun nv kv w9 => ∃ (k : Nat), k ≤ ns.length ∧ kv = .int .i64 k ∧ nv = .int .i64 (2 + 2 * (g : Int) + ((ns.take k).map (fun x => 4 + 3 * x.tries)).sum) ∧ w9 = wr) (fun _ kv _ => ns.length - (intOf kv).toNat)
          case atStart => exact ⟨0, Nat.zero_le _, rfl, by simp, rfl⟩
          case round =>
            clear e0
            obtain ⟨k, hk, rfl, rfl, hw9⟩ := hrel
            subst hw9
            have hdb := (HX.out.keep.block _ (Array.getElem?_eq_some_iff.1 HBX.out).1 (fun h => h)).trans HBX.out
            obtain ⟨⟨d0, d1⟩, _, _⟩ := pairF hdb
            by_cases hlt : k < ns.length
            · have e2 : (k : Int) < (ns.length : Int) := by omega
              obtain ⟨b, o, av, cv, hae, hTx, c0, c1, c2, c3, c4, c5, c6⟩ := (keptNew HX.out.keep HD2.out.nodes).at hlt
              subst hae
              obtain ⟨t0, t1, _⟩ := taken_tries HT.out ns[k] (List.getElem_mem hlt)
              have hS := sum_range (fun x hx => let h := taken_tries HT.out x hx; And.intro h.1 h.2.1) k
              have hSn : ((ns.take (k + 1)).map (fun x => 4 + 3 * x.tries)).sum = ((ns.take k).map (fun x => 4 + 3 * x.tries)).sum + (4 + 3 * (ns[k]).tries) := by
                rw [List.take_succ_eq_append_getElem hlt, List.map_append, List.sum_append]
                simp
              have HSn := hid hSn
              obtain ⟨S, hSe⟩ : ∃ S, S = ((ns.take k).map (fun x => 4 + 3 * x.tries)).sum := ⟨_, rfl⟩
              rw [← hSe] at hS HSn ⊢
              clear hSn hSe
              have v1 : IntKind.i64.wrap (2 + 2 * (g : Int) + S + 4) = 2 + 2 * (g : Int) + S + 4 := by rw [IntKind.wrap_i64]; omega
              have v2 : IntKind.i64.wrap (3 * (ns[k]).tries) = 3 * (ns[k]).tries := by rw [IntKind.wrap_i64]; omega
              have v3 : IntKind.i64.wrap (2 + 2 * (g : Int) + S + 4 + 3 * (ns[k]).tries) = 2 + 2 * (g : Int) + S + 4 + 3 * (ns[k]).tries := by rw [IntKind.wrap_i64]; omega
              clear hTx hdb
              go_wp2_with fail
              go_roundw
              case rel => exact ⟨k + 1, by omega, by go_num, by rw [HSn.out]; congr 1; omega, trivial⟩
              case measure => simp [intOf]; omega
            · obtain rfl : k = ns.length := by omega
              have e2 : ¬ ((ns.length : Int) < (ns.length : Int)) := by omega
              rw [List.take_length]
              have hfew := HG.out.few (fun x hx => (taken_tries HT.out x hx).1)
              have hsg : (s.sigs.length : Int) ≤ 32 := by have := HG.out.sigs; omega
              obtain ⟨a6, c6, a7, c7, a11, c11, hblk⟩ := HX.out.opened11
              obtain ⟨⟨_, _, _, _, _, _, _, _, _, x9, _, x11⟩, _⟩ := twelve hblk
              have hW := wakes_any _ (HM.out.kept (HK2.out.and HX.out.keep) (fun h => h))
              have HK := hid (HK2.out.and HX.out.keep)
              clear hdb hblk
              go_wp2_with (first
                | (go_at_call 6; refine hW.mono ?_; rintro e w8 ⟨rfl, K8⟩; clear hW)
                | fail)
              go_ret
              exact ⟨rfl, (HK.out.and K8).none⟩
  · have HTk2 := hid (HTk.out false (by simp [hT]))
    have hW := fun V (K : Kept (fun _ => False) w V) => wakes_any V (HM.out.kept K (fun h => h))
    have HW := hid hW
    clear HTk hT hW
    go_enter Tryd.func3, Tryd.ntmps3
    go_wp2_with (first
      | (go_at_call 4; refine hCut.mono ?_; rintro e w1 ⟨rfl, K1⟩; clear hCut; obtain ⟨_, f0, f1⟩ := pairF ((K1.block w.heap.size (by simp) (fun h => h)).trans (heap_alloc_new _ _)); have hb := cut_box (n' := ns.length) K1 HR.out; obtain ⟨⟨x0, x1⟩, _, _⟩ := pairF hb.1; have hTk := HTk2.out _ hb.2.2; have HB := hid hb; clear hb)
      | (go_at_call 5; refine hTk.mono ?_; rintro e w2 ⟨rfl, K2⟩; clear hTk; have hW := HW.out w2 (HB.out.2.1.and K2))
      | (go_at_call 6; refine hW.mono ?_; rintro e w8 ⟨rfl, K8⟩; clear hW)
      | fail)
    go_ret
    exact ⟨rfl, ((HB.out.2.1.and K2).and K8).none⟩

end Go.Proofs.YtfjekjbkifmpfabDoor.Rf
namespace Go.Proofs.YtfjekjbkifmpfabDoor
open Go.ChangeShapes Go.WideShapes Go.ChangeAt Go.RowKit Go.Deep

set_option maxRecDepth 100000 in
theorem historyLong_lifted (os : Os) (started : os.Started) (H : Type) (enc : TypeId × Value → H) :
    ReturnsInHanded {} Tryd.checked os 3 .any (fun w args => (Rows.historyLongSpec.pre enc Tryd.prog Tryd.f3 [] false w args ∧ laidMetH Tryd.prog laidL w) ∧ sizedMet enc Tryd.prog Tryd.f3 (OpenSpec.ofChange Rows.historyLongSpec) false w args)
      (Rows.historyLongSpec.post enc Tryd.prog Tryd.f3 false true false false) := by
  refine returnsInHanded_of_change_and (C := Tryd.checked) (X := fun w _ => laidMetH Tryd.prog laidL w) (fun _ _ _ hh h => h.of_heap hh) Tryd.own started (by kernel_rfl) Tryd.func3
    (ChangeSpec.witness_shaped (enc := enc) (C := Tryd.checked) (os := os) (X := fun w _ => laidMetH Tryd.prog laidL w) false (World.doorLaid Tryd.prog 28 os) #[.agg #[.string ⟨#[]⟩, .slice none 0 0], .slice none 0 0] 8 rfl (World.shaped_of_RefB (by kernel_rfl) (by kernel_rfl)) (by kernel_rfl) (by kernel_rfl) (by kernel_rfl) (door_met os _)) ?_
  intro W base args ds gs before hval0 hW _ _ hL _
  have hval : ∀ (j : Nat) t v, Tryd.f3.params[j]? = some t → args[j]? = some v → Value.okWide Tryd.prog W .any base t v := hval0
  have hW' := hW
  obtain ⟨p, q, hA0, hV, rfl, _, _⟩ := hW
  have hA : DataW.TrodAll enc Tryd.prog W 0 (fun _ => true) true Tryd.f3.params.toList args.toList ds p := hA0
  rw [Tryd.params3] at hA hval
  obtain ⟨v0, vs0, d0, ds0, p0, q0, hargs, rfl, rfl, h0, r0⟩ := trodAll_cons hA
  obtain ⟨v1, vs1, d1, ds1, p1, q1, rfl, rfl, rfl, h1, r1⟩ := trodAll_cons r0
  obtain ⟨rfl, rfl, rfl⟩ := trodAll_nil r1
  obtain rfl : args = #[v0, v1] := by cases args; simp_all
  obtain ⟨rfl, rfl⟩ := trodVars_none hV
  have k0 := h0
  have k1 := h1
  have lt0 : ∀ x ∈ p0, x.block < W.heap.size := by obtain ⟨m, hm⟩ := k0; exact DataW.trod_lt m _ _ _ hm
  have lt1 : ∀ x ∈ p1, x.block < W.heap.size := by obtain ⟨m, hm⟩ := k1; exact DataW.trod_lt m _ _ _ hm
  obtain ⟨nm0, a0, c0, ns0, rfl, z0, y0, x0, w0⟩ := dv_open (hval 0 24 v0 rfl rfl) h0
  obtain ⟨a1', len1', cap1', rfl⟩ := okWide_slice Tryd.underlying25 (hval 1 25 v1 rfl rfl)
  obtain ⟨a1, cap1, l1, e1, y1, x1, w1⟩ : ∃ a c l, Value.slice a1' len1' cap1' = .slice a l.length c ∧ l.length ≤ c ∧ c ≤ maxLen ∧ InsAt W a l := by
    obtain ⟨fuel, hf⟩ := h1
    exact ins_open hf
  simp only [Value.slice.injEq] at e1
  obtain ⟨rfl, rfl, rfl⟩ := e1
  clear hA0 hval0
  refine (Rf.historyLong_walk _ _ _ _ _ _ _ W w0 z0 y0 w1 ⟨y1, x1⟩ (moves_laid hL)).mono fun e W' ⟨he, bel⟩ => ?_
  subst he
  exact ⟨_, rfl, _, _, _, [], _, [], hW', trodAll_mk1 (shut_bool Tryd.underlying4 _), (trodAll_cons_mk (Below.trod Tryd.laidOut (by kernel_rfl) (of_decide_eq_true (by kernel_rfl)) k0 bel lt0) (trodAll_cons_mk (Below.trod Tryd.laidOut (by kernel_rfl) (of_decide_eq_true (by kernel_rfl)) k1 bel lt1) trodAll_mk0)), rfl, bel.frame _, fun h => by cases h⟩

theorem historyLong_row : Rows.HistoryLongSaid :=
  OpenClaim.holds_of_wide 3 Tryd.f3 rfl rfl rfl rfl rfl rfl rfl ⟨rfl, rfl, rfl, rfl, rfl⟩ rfl rfl rfl rfl rfl (by kernel_rfl) Tryd.func3 (by kernel_rfl)
    (of_decide_eq_true (by kernel_rfl)) (by unfold Func.isWrapper; first | (rw [if_pos (by decide +kernel)]; kernel_rfl) | (rw [if_neg (by decide +kernel)]; exact ⟨rfl, rfl⟩))
    (fun os started H enc _ => historyLong_lifted os started H enc)

theorem historyLong_holds : Rows.HistoryLongCardSaid :=
  Claim7.holds_tied_plain_at .later [] [.data] true Rows.historyLongCard.stood.harness false
    historyLong_row (fun _ h => by cases h) (by kernel_rfl) (fun _ h => by cases h) historyLong_row_tie rfl ⟨rfl, rfl⟩ (by kernel_rfl) rfl
    (fun f fn hf hfn => by
      obtain rfl : f = 3 := Option.some.inj ((show Tryd.prog.funcNamed "tiller/tillerlaw09.HistoryLong" = some 3 by kernel_rfl).symm.trans hf) |>.symm
      obtain rfl : fn = Tryd.f3 := (Option.some.inj (Tryd.func3.symm.trans hfn)).symm
      exact ⟨by kernel_rfl, fun j t ht => by
        rw [Tryd.params3] at ht
        have hm : t ∈ [24, 25] := by simpa using Array.mem_of_getElem? ht
        have hall : ([24, 25].all fun u => !Tryd.prog.wantsStandIn u) = true := by kernel_rfl
        exact (show Tryd.prog.wantsStandIn t = false by simpa using List.all_eq_true.1 hall t hm)⟩)
    (by kernel_rfl)

end Go.Proofs.YtfjekjbkifmpfabDoor
