/-
  DagBack holds for all definitions: the law's call returns true and leaves its argument as it was. No condition; the listed variables are tied to the program's text.
-/
import Derived.Test.YtlholgpenpfpbaaGreatDoorB09
import Derived.Test.YtlholgpenpfpbaaGreatDoorB12
namespace Go.Proofs.YtlholgpenpfpbaaGreatDoor
open Go.ChangeShapes Go.WideShapes Go.ChangeAt Go.RowKit

theorem text_empty {nm : ByteArray} {ns : List Nd} (h : (checkP nm ns).2 ≠ 0) : textP nm ns = ⟨#[]⟩ := if_neg h

theorem text_some {nm : ByteArray} {ns : List Nd} (h : (checkP nm ns).2 = 0) : 0 < (textP nm ns).size := by
  unfold textP
  rw [if_pos h, mkB_size]
  unfold linesW
  rw [textL_cons, List.length_append, List.length_cons]
  omega

theorem list_some {s : ByteArray} (h : 0 < s.size) : s.toList.isEmpty = false := by
  have : s.toList = s.data.toList := Lib.toList_data s
  rw [this]
  cases hh : s.data.toList with
  | nil =>
    have : s.data.toList.length = s.size := by simp
    rw [hh] at this
    simp at this
    omega
  | cons b r => rfl

/-- Three definitions that are the same, each in its box. -/
structure TSt (w W : World) (b4 b5 : Nat) (name : ByteArray) (a' a4 a5 : Option Addr) (c' c4 c5 : Nat) (ms : List Nd) : Prop where
  b0 : W.heap[w.heap.size]? = some (.cells #[.string name, .slice a' ms.length c'] 24 (0, 0))
  b1 : W.heap[b4]? = some (.cells #[.string name, .slice a4 ms.length c4] 24 (0, 0))
  b2 : W.heap[b5]? = some (.cells #[.string name, .slice a5 ms.length c5] 24 (0, 0))
  n0 : NodesAt W a' ms
  n1 : NodesAt W a4 ms
  n2 : NodesAt W a5 ms
  kept : Kept (fun _ => False) w W

theorem TSt.call {w W W' : World} {b4 b5 : Nat} {name : ByteArray} {a' a4 a5 : Option Addr} {c' c4 c5 : Nat} {ms : List Nd} (S : TSt w W b4 b5 name a' a4 a5 c' c4 c5 ms) (K : Kept (fun _ => False) W W') : TSt w W' b4 b5 name a' a4 a5 c' c4 c5 ms :=
  ⟨(K.block _ (Array.getElem?_eq_some_iff.1 S.b0).1 (fun h => h)).trans S.b0, (K.block _ (Array.getElem?_eq_some_iff.1 S.b1).1 (fun h => h)).trans S.b1, (K.block _ (Array.getElem?_eq_some_iff.1 S.b2).1 (fun h => h)).trans S.b2, keptNew K S.n0, keptNew K S.n1, keptNew K S.n2, S.kept.and K⟩

set_option maxRecDepth 100000 in
set_option maxHeartbeats 8000000 in
theorem dagBack_walk (name : ByteArray) (a : Option Addr) (c : Nat) (ns : List Nd) (w : World) (R : RawAt w a ns) (hc : ns.length ≤ c) (hnm : name.size ≤ maxLen) (T10 : Pow10 w) :
    Calls Tryz.prog 3 #[.agg #[.string name, .slice a ns.length c]] w fun e w' => e = .returned (.bool true) ∧ Below w.heap.size w w' := by
  have hW := fun V => wakes_any V
  have hCut := lawCut_any (w.alloc (.cells #[.string name, .slice a ns.length c] 24)) name a ns.length c ns (R.kept (Kept.alloc (fun _ => False) _ _) (fun _ _ h => h)) rfl hc
  have hlen : (cutNs ns).length ≤ 40 := by unfold cutNs; simp; omega
  generalize cutNs ns = ms at *
  clear R
  have HTx : Hid (∀ V a' c', NodesAt V a' ms → Pow10 V → Calls Tryz.prog 5 #[.agg #[.string name, .slice a' ms.length c']] V fun e w' => e = .returned (.string (textP name ms)) ∧ Kept (fun _ => False) V w') := fun V a' c' N P => text_any V name a' ms.length c' ms N rfl P
  have HRx : Hid (∀ V a' c', NodesAt V a' ms → Calls Tryz.prog 6 #[.agg #[.string name, .slice a' ms.length c']] V fun e w' => e = .returned (.string (textP name ms)) ∧ Kept (fun _ => False) V w') := fun V a' c' N => refText_any V name a' c' ms N (by omega) (fun n hn => (N.1 n hn).few) hnm
  have HP : Hid (Pow10 w) := T10
  clear T10 hnm
  by_cases hT : (checkP name ms).2 = 0
  · by_cases h6 : (textP name ms).size ≤ 16000
    · have hpos := text_some hT
      have HPa : Hid (parseP (textP name ms) = (some (name, ms), 0, 0)) := text_parse hT (by omega)
      have hsz2 : (remB ++ textP name ms ++ endB).size ≤ 16384 := by
        rw [ByteArray.size_append, ByteArray.size_append]
        have : remB.size = 12 := rfl
        have : endB.size = 6 := rfl
        omega
      have HPb : Hid (parseP (remB ++ textP name ms ++ endB) = (some (name, ms), 0, 0)) := back_parse hT hsz2
      generalize textP name ms = s at *
      have hPr := fun V => parse_any V s (by omega)
      have hPs := fun V => parse_any V (remB ++ s ++ endB) (by omega)
      rw [HPa.out] at hPr
      rw [HPb.out] at hPs
      have e1 := list_some hpos
      have e2 : ¬ (16000 : Int) < (s.size : Int) := by omega
      have q1 : (s.toList != s.toList) = false := by simp
      have q2 : (s.toList == s.toList) = true := by simp
      have hPs2 : ∀ V, Calls Tryz.prog 8 #[.string ((⟨#[35, 32, 114, 101, 109, 97, 114, 107, 10, 10, 32, 32]⟩ : ByteArray) ++ s ++ ⟨#[10, 35, 32, 101, 110, 100]⟩)] V fun e w' => ParsePost V (some (name, ms), 0, 0) e w' := hPs
      clear hT hpos hPs hsz2 HPa HPb
      go_enter Tryz.func3, Tryz.ntmps3
      go_wp2_with (first
        | (go_at_call 4; refine hCut.mono ?_; rintro e w1 ⟨a', c', rfl, N1, hc1, K1⟩; clear hCut; have hd := boxD K1; obtain ⟨d0, d1⟩ := hd; have B1 := BoxSt.mk' (m := ms.length) (c' := c') K1 N1; have fz := (K1.block w.heap.size (by simp) (fun h => h)).trans (heap_alloc_new _ _); obtain ⟨_, f0, f1⟩ := twoC fz; obtain ⟨⟨x0, x1⟩, _, _⟩ := twoC B1.b0; have hTx := HTx.out _ _ c' B1.nodes (HP.out.kept B1.kept); have HB : Hid (BoxSt w ((w1.setCell ⟨w.heap.size, 0, none⟩ (.string name)).setCell ⟨w.heap.size, 1, none⟩ (.slice a' ms.length c')) name a' ms.length c' ms) := B1; clear fz B1 N1)
        | (go_at_call 5; refine hTx.mono ?_; rintro e w2 ⟨rfl, K2⟩; clear hTx; first | (have hRx := HRx.out _ a' c' (keptNew K2 HB.out.nodes); have y0 := keepC K2 x0 (fun _ _ h => h); have y1 := keepC K2 x1 (fun _ _ h => h)) | skip)
        | (go_at_call 6; refine hRx.mono ?_; rintro e w3 ⟨rfl, K3⟩; clear hRx; have K23 := K2.and K3; have HN3 : Hid (NodesAt w3 a' ms) := keptNew K23 HB.out.nodes; have HK3 : Hid (Kept (fun _ => False) w w3) := HB.out.kept.and K23; have b3 : w3.heap[w.heap.size]? = some (.cells #[.string name, .slice a' ms.length c'] 24 (0, 0)) := (K23.block _ (Array.getElem?_eq_some_iff.1 HB.out.b0).1 (fun h => h)).trans HB.out.b0; have HB3 : Hid (w3.heap[w.heap.size]? = some (.cells #[.string name, .slice a' ms.length c'] 24 (0, 0))) := b3; clear b3 K23 K2 K3 x0 x1 y0 y1 HB)
        | (go_at_call_of 8 (Value.string s); refine (hPr _).mono ?_; rintro e w4 ⟨_, hn, K4⟩; obtain ⟨a4, c4, rfl, N4, _⟩ := hn name ms 0 0 rfl; clear hPr hn; have HK4 : Hid (Kept (fun _ => False) w3 (w4.alloc (.cells #[.string name, .slice a4 ms.length c4] 24))) := K4.and (Kept.alloc _ _ _); have HN4 : Hid (NodesAt (w4.alloc (.cells #[.string name, .slice a4 ms.length c4] 24)) a4 ms) := keptNew (Kept.alloc _ _ _) N4; have HB4 : Hid ((w4.alloc (.cells #[.string name, .slice a4 ms.length c4] 24)).heap[w4.heap.size]? = some (.cells #[.string name, .slice a4 ms.length c4] 24 (0, 0))) := heap_alloc_new _ _; clear N4 K4)
        | (go_at_call 8; refine (hPs2 _).mono ?_; rintro e w5 ⟨_, hn, K5⟩; obtain ⟨a5, c5, rfl, N5, _⟩ := hn name ms 0 0 rfl; clear hPs2 hn; have KK := K5.and (Kept.alloc (fun _ => False) _ (.cells #[.string name, .slice a5 ms.length c5] 24)); have HS : Hid (TSt w (w5.alloc (.cells #[.string name, .slice a5 ms.length c5] 24)) w4.heap.size w5.heap.size name a' a4 a5 c' c4 c5 ms) := ⟨((HK4.out.and KK).block _ (Array.getElem?_eq_some_iff.1 HB3.out).1 (fun h => h)).trans HB3.out, (KK.block _ (Array.getElem?_eq_some_iff.1 HB4.out).1 (fun h => h)).trans HB4.out, heap_alloc_new _ _, keptNew (HK4.out.and KK) HN3.out, keptNew KK HN4.out, keptNew (Kept.alloc _ _ _) N5, (HK3.out.and HK4.out).and KK⟩; obtain ⟨⟨x0, x1⟩, _, _⟩ := twoC HS.out.b0; obtain ⟨⟨y0, y1⟩, _, _⟩ := twoC HS.out.b1; clear N5 K5 KK HK3 HK4 HN3 HN4 HB3 HB4)
        | (go_at_call_of 9 (Value.agg #[.string name, .slice a4 ms.length c4]); have hD1 := def_same _ name a4 a' c4 c' ms HS.out.n1 HS.out.n0 (Nat.le_trans hlen (by omega)); refine hD1.mono ?_; rintro e w6 ⟨rfl, K6⟩; clear hD1; have HS6 : Hid (TSt w w6 w4.heap.size w5.heap.size name a' a4 a5 c' c4 c5 ms) := HS.out.call K6; clear K6 HS x0 x1 y0 y1; obtain ⟨⟨x0, x1⟩, _, _⟩ := twoC HS6.out.b0; obtain ⟨⟨y0, y1⟩, _, _⟩ := twoC HS6.out.b2)
        | (go_at_call_of 9 (Value.agg #[.string name, .slice a5 ms.length c5]); have hD1 := def_same _ name a5 a' c5 c' ms HS6.out.n2 HS6.out.n0 (Nat.le_trans hlen (by omega)); refine hD1.mono ?_; rintro e w7 ⟨rfl, K7⟩; clear hD1; have HS7 : Hid (TSt w w7 w4.heap.size w5.heap.size name a' a4 a5 c' c4 c5 ms) := HS6.out.call K7; clear K7 HS6 x0 x1 y0 y1; obtain ⟨⟨x0, x1⟩, _, _⟩ := twoC HS7.out.b1; have hTx := HTx.out _ a4 c4 HS7.out.n1 (HP.out.kept HS7.out.kept))
        | (go_at_call 7; refine (hW _).mono ?_; rintro e w9 ⟨rfl, K9⟩)
        | (fail))
      go_ret
      exact ⟨rfl, ((HS7.out.kept.and K2).and K9).none⟩
    · have hpos := text_some hT
      generalize textP name ms = s at *
      have e1 := list_some hpos
      have e2 : (16000 : Int) < (s.size : Int) := by omega
      have q1 : (s.toList != s.toList) = false := by simp
      clear hT hpos
      go_enter Tryz.func3, Tryz.ntmps3
      go_wp2_with (first
        | (go_at_call 4; refine hCut.mono ?_; rintro e w1 ⟨a', c', rfl, N1, hc1, K1⟩; clear hCut; have hd := boxD K1; obtain ⟨d0, d1⟩ := hd; have B1 := BoxSt.mk' (m := ms.length) (c' := c') K1 N1; have fz := (K1.block w.heap.size (by simp) (fun h => h)).trans (heap_alloc_new _ _); obtain ⟨_, f0, f1⟩ := twoC fz; obtain ⟨⟨x0, x1⟩, _, _⟩ := twoC B1.b0; have hTx := HTx.out _ _ c' B1.nodes (HP.out.kept B1.kept); have HB : Hid (BoxSt w ((w1.setCell ⟨w.heap.size, 0, none⟩ (.string name)).setCell ⟨w.heap.size, 1, none⟩ (.slice a' ms.length c')) name a' ms.length c' ms) := B1; clear fz B1 N1)
        | (go_at_call 5; refine hTx.mono ?_; rintro e w2 ⟨rfl, K2⟩; clear hTx; have y0 := keepC K2 x0 (fun _ _ h => h); have y1 := keepC K2 x1 (fun _ _ h => h); have hRx := HRx.out _ a' c' (keptNew K2 HB.out.nodes))
        | (go_at_call 6; refine hRx.mono ?_; rintro e w3 ⟨rfl, K3⟩; clear hRx)
        | (go_at_call 7; refine (hW _).mono ?_; rintro e w5 ⟨rfl, K5⟩)
        | fail)
      go_ret
      exact ⟨rfl, (((HB.out.kept.and K2).and K3).and K5).none⟩
  · have hs0 := text_empty hT
    rw [hs0] at HTx HRx
    clear hT hs0
    go_enter Tryz.func3, Tryz.ntmps3
    go_wp2_with (first
      | (go_at_call 4; refine hCut.mono ?_; rintro e w1 ⟨a', c', rfl, N1, hc1, K1⟩; clear hCut; have hd := boxD K1; obtain ⟨d0, d1⟩ := hd; have B1 := BoxSt.mk' (m := ms.length) (c' := c') K1 N1; have fz := (K1.block w.heap.size (by simp) (fun h => h)).trans (heap_alloc_new _ _); obtain ⟨_, f0, f1⟩ := twoC fz; obtain ⟨⟨x0, x1⟩, _, _⟩ := twoC B1.b0; have hTx := HTx.out _ _ c' B1.nodes (HP.out.kept B1.kept); have HB : Hid (BoxSt w ((w1.setCell ⟨w.heap.size, 0, none⟩ (.string name)).setCell ⟨w.heap.size, 1, none⟩ (.slice a' ms.length c')) name a' ms.length c' ms) := B1; clear fz B1 N1)
      | (go_at_call 5; refine hTx.mono ?_; rintro e w2 ⟨rfl, K2⟩; clear hTx; have y0 := keepC K2 x0 (fun _ _ h => h); have y1 := keepC K2 x1 (fun _ _ h => h); have hRx := HRx.out _ a' c' (keptNew K2 HB.out.nodes))
      | (go_at_call 6; refine hRx.mono ?_; rintro e w3 ⟨rfl, K3⟩; clear hRx)
      | (go_at_call 7; refine (hW _).mono ?_; rintro e w5 ⟨rfl, K5⟩)
      | fail)
    go_ret
    exact ⟨rfl, (((HB.out.kept.and K2).and K3).and K5).none⟩

set_option maxRecDepth 100000 in
theorem dagBack_lifted (os : Os) (started : os.Started) (H : Type) (enc : TypeId × Value → H) :
    ReturnsInHanded {} Tryz.checked os 3 .any (fun w args => (Rows.dagBackSpec.pre enc Tryz.prog Tryz.f3 [] false w args ∧ laidMetH Tryz.prog laidL w) ∧ sizedMet enc Tryz.prog Tryz.f3 (OpenSpec.ofChange Rows.dagBackSpec) false w args)
      (Rows.dagBackSpec.post enc Tryz.prog Tryz.f3 false true false false) := by
  refine returnsInHanded_of_change_and (C := Tryz.checked) (X := fun w _ => laidMetH Tryz.prog laidL w) (fun _ _ _ hh h => h.of_heap hh) Tryz.own started (by kernel_rfl) Tryz.func3
    (ChangeSpec.witness_shaped (enc := enc) (C := Tryz.checked) (os := os) (X := fun w _ => laidMetH Tryz.prog laidL w) false (World.doorLaid Tryz.prog 62 os) #[.agg #[.string ⟨#[]⟩, .slice none 0 0]] 8 rfl (World.shaped_of_RefB (by kernel_rfl) (by kernel_rfl)) (by kernel_rfl) (by kernel_rfl) (by kernel_rfl) (door_met os _)) ?_
  intro W base args ds gs before hval0 hW _ _ hL _
  have hval : ∀ (j : Nat) t v, Tryz.f3.params[j]? = some t → args[j]? = some v → Value.okWide Tryz.prog W .any base t v := hval0
  have hW' := hW
  obtain ⟨p, q, hA0, hV, rfl, _, _⟩ := hW
  have hA : DataW.TrodAll enc Tryz.prog W 0 (fun _ => true) true Tryz.f3.params.toList args.toList ds p := hA0
  rw [Tryz.params3] at hA hval
  obtain ⟨v0, vs0, d0, ds0, p0, q0, hargs, rfl, rfl, h0, r0⟩ := trodAll_cons hA
  obtain ⟨rfl, rfl, rfl⟩ := trodAll_nil r0
  obtain rfl : args = #[v0] := by cases args; simp_all
  obtain ⟨rfl, rfl⟩ := trodVars_none hV
  have k0 := h0
  have lt0 : ∀ x ∈ p0, x.block < W.heap.size := by obtain ⟨m, hm⟩ := k0; exact DataW.trod_lt m _ _ _ hm
  obtain ⟨nm0, a0, c0, ns0, rfl, z0, y0, x0, w0⟩ := dv_open (hval 0 24 v0 rfl rfl) h0
  clear hA0 hval0
  refine (dagBack_walk _ _ _ _ W w0 y0 z0 (pow10_laid hL)).mono fun e W' ⟨he, bel⟩ => ?_
  subst he
  exact ⟨_, rfl, _, _, _, [], _, [], hW', trodAll_mk1 (shut_bool Tryz.underlying4 _), (trodAll_cons_mk (Below.trod Tryz.laidOut (by kernel_rfl) (of_decide_eq_true (by kernel_rfl)) k0 bel lt0) trodAll_mk0), rfl, bel.frame _, fun h => by cases h⟩

theorem dagBack_row : Rows.DagBackSaid :=
  OpenClaim.holds_of_wide 3 Tryz.f3 rfl rfl rfl rfl rfl rfl rfl ⟨rfl, rfl, rfl, rfl, rfl⟩ rfl rfl rfl rfl rfl (by kernel_rfl) Tryz.func3 (by kernel_rfl)
    (of_decide_eq_true (by kernel_rfl)) (by unfold Func.isWrapper; first | (rw [if_pos (by decide +kernel)]; kernel_rfl) | (rw [if_neg (by decide +kernel)]; exact ⟨rfl, rfl⟩))
    (fun os started H enc _ => dagBack_lifted os started H enc)

theorem dagBack_holds : Rows.DagBackCardSaid :=
  Claim7.holds_tied_plain_at .later [] [.data, .data, .data, .sentinel, .sentinel] true Rows.dagBackCard.stood.harness true
    dagBack_row (fun _ h => by cases h) (by kernel_rfl) (fun _ h => by cases h) dagBack_row_tie rfl ⟨rfl, rfl⟩ (by kernel_rfl) rfl
    (fun f fn hf hfn => by
      obtain rfl : f = 3 := Option.some.inj ((show Tryz.prog.funcNamed "tiller/tillerlaw08.DagBack" = some 3 by kernel_rfl).symm.trans hf) |>.symm
      obtain rfl : fn = Tryz.f3 := (Option.some.inj (Tryz.func3.symm.trans hfn)).symm
      exact ⟨by kernel_rfl, fun j t ht => by
        rw [Tryz.params3] at ht
        have hm : t ∈ [24] := by simpa using Array.mem_of_getElem? ht
        have hall : ([24].all fun u => !Tryz.prog.wantsStandIn u) = true := by kernel_rfl
        exact (show Tryz.prog.wantsStandIn t = false by simpa using List.all_eq_true.1 hall t hm)⟩)
    (by kernel_rfl)

end Go.Proofs.YtlholgpenpfpbaaGreatDoor
