/-
  DagSpaces holds for all definitions and texts: the law's call returns true and leaves its arguments as they were. No condition; the listed variables are tied to the program's text.
-/
import Derived.Test.YtlholgpenpfpbaaDoorDBox
import Derived.Test.YtlholgpenpfpbaaDoorDText2
import Derived.Test.YtlholgpenpfpbaaDoorDPlain
import Derived.Test.YtlholgpenpfpbaaDoorDSame
namespace Go.Proofs.YtlholgpenpfpbaaDoor
open Go.ChangeShapes Go.WideShapes Go.ChangeAt Go.RowKit

theorem text_empty {nm : ByteArray} {ns : List Nd} (h : (checkP nm ns).2 ≠ 0) : textP nm ns = ⟨#[]⟩ := if_neg h

theorem text_some {nm : ByteArray} {ns : List Nd} (h : (checkP nm ns).2 = 0) : 0 < (textP nm ns).size := by
  unfold textP
  rw [if_pos h, mkB_size]
  unfold linesW
  rw [textL_cons, List.length_append, List.length_cons]
  omega

theorem wd_small {rem : Nat → ByteArray} {m : Nat} {s : ByteArray} {i k : Nat} {acc : ByteArray} (S : WdSt rem m s i k acc) (hs : s.size ≤ 6000) (hi : i ≤ s.size) (hm : m ≤ 8) : acc.size ≤ 12400 := by
  have := S.few
  have := S.le
  omega

set_option maxRecDepth 100000 in
set_option maxHeartbeats 8000000 in
theorem dagSpaces_walk (name : ByteArray) (a : Option Addr) (c : Nat) (ns : List Nd) (ar : Option Addr) (len cap : Nat) (rem : Nat → ByteArray) (w : World) (R : RawAt w a ns) (hc : ns.length ≤ c) (hS : StrsAt w ar len rem) (T10 : Pow10 w) :
    Calls Tryd.prog 4 #[.agg #[.string name, .slice a ns.length c], .slice ar len cap] w fun e w' => e = .returned (.bool true) ∧ Below w.heap.size w w' := by
  have hW := fun V => wakes_any V
  have hCut := lawCut_any (w.alloc (.cells #[.string name, .slice a ns.length c] 26)) name a ns.length c ns (R.kept (Kept.alloc (fun _ => False) _ _) (fun _ _ h => h)) rfl hc
  have hlen : (cutNs ns).length ≤ 40 := by unfold cutNs; simp; omega
  generalize cutNs ns = ms at *
  clear R
  have HTx : Hid (∀ V a' c', NodesAt V a' ms → Pow10 V → Calls Tryd.prog 12 #[.agg #[.string name, .slice a' ms.length c']] V fun e w' => e = .returned (.string (textP name ms)) ∧ Kept (fun _ => False) V w') := fun V a' c' N P => text_any V name a' ms.length c' ms N rfl P
  have HP : Hid (Pow10 w) := T10
  have HSt : Hid (StrsAt w ar len rem) := hS
  clear T10 hS
  by_cases hT : (checkP name ms).2 = 0
  · by_cases h6 : (textP name ms).size ≤ 6000
    · have hpos := text_some hT
      have HPa : Hid (∀ m t, t = mkB ([32, 32, 10] ++ wideK rem m (textP name ms).data.toList 0) → t.size ≤ 16384 → parseP t = (some (name, ms), 0, 0)) := fun m t ht hsz => by
        subst ht
        exact wide_parse hT rem m hsz
      generalize textP name ms = s at *
      have e1 : (s.toList.isEmpty) = false := by
        have : s.toList = s.data.toList := Lib.toList_data s
        rw [this]
        cases hh : s.data.toList with
        | nil => have : s.data.toList.length = s.size := by simp
                 rw [hh] at this; simp at this; omega
        | cons b r => rfl
      have e2 : ¬ (6000 : Int) < (s.size : Int) := by omega
      clear hT hpos
      go_enter Tryd.func4, Tryd.ntmps4
      go_wp2_with (first
        | (go_at_call 11; refine hCut.mono ?_; rintro e w1 ⟨a', c', rfl, N1, hc1, K1⟩; clear hCut; have hd := boxD K1; obtain ⟨d0, d1⟩ := hd; have B1 := BoxSt.mk' (m := ms.length) (c' := c') K1 N1; have fz := (K1.block w.heap.size (by simp) (fun h => h)).trans (heap_alloc_new _ _); obtain ⟨_, f0, f1⟩ := twoC fz; obtain ⟨⟨x0, x1⟩, _, _⟩ := twoC B1.b0; have hTx := HTx.out _ _ c' B1.nodes (HP.out.kept B1.kept); have HB : Hid (BoxSt w ((w1.setCell ⟨w.heap.size, 0, none⟩ (.string name)).setCell ⟨w.heap.size, 1, none⟩ (.slice a' ms.length c')) name a' ms.length c' ms) := B1; clear fz B1 N1)
        | (go_at_call 12; refine hTx.mono ?_; rintro e w2 ⟨rfl, K2⟩; clear hTx; have y0 := keepC K2 x0 (fun _ _ h => h); have y1 := keepC K2 x1 (fun _ _ h => h))
        | fail)
      have HB2 : Hid (w2.heap[w.heap.size]? = some (.cells #[.string name, .slice a' ms.length c'] 26 (0, 0))) := (K2.block _ (Array.getElem?_eq_some_iff.1 HB.out.b0).1 (fun h => h)).trans HB.out.b0
      have HN2 : Hid (NodesAt w2 a' ms) := keptNew K2 HB.out.nodes
      have HK2 : Hid (Kept (fun _ => False) w w2) := HB.out.kept.and K2
      clear HB K2 x0 x1 y0 y1 d0 d1 f0 f1 K1 HTx HP
      obtain ⟨m, hm⟩ : ∃ m, m = min len 8 := ⟨_, rfl⟩
      have hm8 : m ≤ 8 := by omega
      have hml : m ≤ len := by omega
      have hkm : ∀ k : Nat, k < m ↔ (k < len ∧ k < 8) := fun k => by omega
      have HKm : Hid (∀ k : Nat, k < m ↔ (k < len ∧ k < 8)) := hkm
      have HWd0 : Hid (WdSt rem m s 0 0 ⟨#[]⟩) := WdSt.zero rem m s
      clear hm hkm
      go_loopw [6, 7, 8] (fun p l q wr => ∃ (i k : Nat) (acc : ByteArray), i ≤ s.size ∧ q = .int .i64 i ∧ l = .int .i64 k ∧ p = .string acc ∧ WdSt rem m s i k acc ∧ Kept (fun _ => False) w2 wr) (fun _ _ q _ => s.size - (intOf q).toNat)
      case atStart => exact ⟨0, 0, ⟨#[]⟩, Nat.zero_le _, rfl, rfl, rfl, HWd0.out, Kept.refl _ _⟩
      case round =>
        obtain ⟨i, k, acc, hi, rfl, rfl, rfl, hwd, K⟩ := hrel
        have hacc := wd_small hwd h6 hi hm8
        have hkle : k ≤ m := hwd.le
        have HWd : Hid (WdSt rem m s i k acc) := hwd
        have HK : Hid (Kept (fun _ => False) w2 wr) := K
        clear hwd K HWd0
        by_cases hlt : i < s.size
        · have e0 : (i : Int) < (s.size : Int) := by omega
          have hx : (s.extract i (i + 1)).size ≤ 1 := by rw [ByteArray.size_extract]; omega
          by_cases h32 : s.get! i = 32
          · have b1 : (((s[i]).toNat : Int) == 32) = true := (byte_is hlt 32).trans (by rw [h32]; rfl)
            have b2 : (((s[i]).toNat : Int) == 10) = false := (byte_is hlt 10).trans (by rw [h32]; rfl)
            have HW2 : Hid (WdSt rem m s (i + 1) k (acc ++ s.extract i (i + 1) ++ ⟨#[32]⟩)) := HWd.out.blank hlt h32
            clear h32 HPa
            go_wp2_with fail
            go_roundw
            case rel => exact ⟨i + 1, k, _, by omega, by go_num, rfl, rfl, HW2.out, HK.out⟩
            case measure => simp [intOf]; omega
          · have b1 : (((s[i]).toNat : Int) == 32) = false := (byte_is hlt 32).trans (by simp [h32])
            by_cases h10 : s.get! i = 10
            · have b2 : (((s[i]).toNat : Int) == 10) = true := (byte_is hlt 10).trans (by rw [h10]; rfl)
              by_cases hk : k < m
              · have e3 : (k : Int) < (len : Int) := by omega
                have e4 : (k : Int) < 8 := by omega
                obtain ⟨rb, ro, rfl, hcell⟩ := HSt.out.at (j := k) (by omega)
                obtain ⟨x00, hs0⟩ := hcell k (by omega)
                have x0 := keepC (HK2.out.and HK.out) x00 (fun _ _ h => h)
                have hPl := fun V => plain_any V (rem k) hs0
                have hps : (mkB (plainP (rem k))).size ≤ 40 := by rw [mkB_size]; exact plain_len _
                have HW2 : Hid (WdSt rem m s (i + 1) (k + 1) (acc ++ s.extract i (i + 1) ++ ⟨#[32, 32, 35]⟩ ++ mkB (plainP (rem k)) ++ ⟨#[10, 32, 10]⟩)) := HWd.out.end hlt h10 hk
                clear h32 h10 HPa hcell x00 hs0
                generalize mkB (plainP (rem k)) = pl at *
                generalize rem k = rk at *
                go_wp2_with (first
                  | (go_at_call 13; refine (hPl _).mono ?_; rintro e w3 ⟨rfl, hw⟩; subst w3; clear hPl)
                  | fail)
                go_roundw
                case rel => exact ⟨i + 1, k + 1, _, by omega, by go_num, by go_num, rfl, HW2.out, HK.out⟩
                case measure => simp [intOf]; omega
              · have HW2 : Hid (WdSt rem m s (i + 1) k (acc ++ s.extract i (i + 1))) := HWd.out.other hlt h32 (fun h => hk h.2)
                clear h32 h10 HPa
                by_cases hkl : k < len
                · have e3 : (k : Int) < (len : Int) := by omega
                  have e4 : ¬ (k : Int) < 8 := by have := HKm.out k; omega
                  go_wp2_with fail
                  go_roundw
                  case rel => exact ⟨i + 1, k, _, by omega, by go_num, rfl, rfl, HW2.out, HK.out⟩
                  case measure => simp [intOf]; omega
                · have e3 : ¬ (k : Int) < (len : Int) := by omega
                  go_wp2_with fail
                  go_roundw
                  case rel => exact ⟨i + 1, k, _, by omega, by go_num, rfl, rfl, HW2.out, HK.out⟩
                  case measure => simp [intOf]; omega
            · have b2 : (((s[i]).toNat : Int) == 10) = false := (byte_is hlt 10).trans (by simp [h10])
              have HW2 : Hid (WdSt rem m s (i + 1) k (acc ++ s.extract i (i + 1))) := HWd.out.other hlt h32 (fun h => h10 h.1)
              clear h32 h10 HPa
              go_wp2_with fail
              go_roundw
              case rel => exact ⟨i + 1, k, _, by omega, by go_num, rfl, rfl, HW2.out, HK.out⟩
              case measure => simp [intOf]; omega
        · have e0 : ¬ (i : Int) < (s.size : Int) := by omega
          have hfin := HWd.out.done (by omega)
          have hsz : ((⟨#[32, 32, 10]⟩ : ByteArray) ++ acc).size ≤ 16384 := by
            rw [ByteArray.size_append]
            have : (⟨#[32, 32, 10]⟩ : ByteArray).size = 3 := rfl
            omega
          have hp := HPa.out m _ hfin hsz
          have hPr := fun V => parse_any V ((⟨#[32, 32, 10]⟩ : ByteArray) ++ acc) (Nat.le_trans hsz (by omega))
          rw [hp] at hPr
          clear hp hfin HPa HWd hsz
          have q0 := (HK.out.block _ (Array.getElem?_eq_some_iff.1 HB2.out).1 (fun h => h)).trans HB2.out
          go_wp2_with (first
            | (go_at_call 6; refine (hPr _).mono ?_; rintro e w3 ⟨_, hn, K3⟩; obtain ⟨a3, c3, rfl, N3, _⟩ := hn name ms 0 0 rfl; clear hPr hn; have HN3 : Hid (NodesAt (w3.alloc (.cells #[.string name, .slice a3 ms.length c3] 26)) a3 ms) := keptNew (Kept.alloc _ _ _) N3; have HN4 : Hid (NodesAt (w3.alloc (.cells #[.string name, .slice a3 ms.length c3] 26)) a' ms) := keptNew ((HK.out.and K3).and (Kept.alloc _ _ _)) HN2.out; have HK4 : Hid (Kept (fun _ => False) w (w3.alloc (.cells #[.string name, .slice a3 ms.length c3] 26))) := ((HK2.out.and HK.out).and K3).and (Kept.alloc _ _ _); have q1 : (w3.alloc (.cells #[.string name, .slice a3 ms.length c3] 26)).heap[w.heap.size]? = some (.cells #[.string name, .slice a' ms.length c'] 26 (0, 0)) := ((K3.and (Kept.alloc (fun _ => False) _ _)).block _ (Array.getElem?_eq_some_iff.1 q0).1 (fun h => h)).trans q0; obtain ⟨⟨z0, z1⟩, _, _⟩ := twoC q1; clear N3 K3 q0 q1)
            | (go_at_call 8; refine (def_same _ name a3 a' c3 c' ms HN3.out HN4.out (by omega)).mono ?_; rintro e w4 ⟨rfl, K4⟩)
            | (go_at_call 10; refine (hW _).mono ?_; rintro e w5 ⟨rfl, K5⟩)
            | fail)
          go_ret
          exact ⟨rfl, ((HK4.out.and K4).and K5).none⟩
    · have hpos := text_some hT
      generalize textP name ms = s at *
      have e1 : (s.toList.isEmpty) = false := by
        have : s.toList = s.data.toList := Lib.toList_data s
        rw [this]
        cases hh : s.data.toList with
        | nil => have : s.data.toList.length = s.size := by simp
                 rw [hh] at this; simp at this; omega
        | cons b r => rfl
      have e2 : (6000 : Int) < (s.size : Int) := by omega
      clear hT hpos
      go_enter Tryd.func4, Tryd.ntmps4
      go_wp2_with (first
        | (go_at_call 11; refine hCut.mono ?_; rintro e w1 ⟨a', c', rfl, N1, hc1, K1⟩; clear hCut; have hd := boxD K1; obtain ⟨d0, d1⟩ := hd; have B1 := BoxSt.mk' (m := ms.length) (c' := c') K1 N1; have fz := (K1.block w.heap.size (by simp) (fun h => h)).trans (heap_alloc_new _ _); obtain ⟨_, f0, f1⟩ := twoC fz; obtain ⟨⟨x0, x1⟩, _, _⟩ := twoC B1.b0; have hTx := HTx.out _ _ c' B1.nodes (HP.out.kept B1.kept); have HB : Hid (BoxSt w ((w1.setCell ⟨w.heap.size, 0, none⟩ (.string name)).setCell ⟨w.heap.size, 1, none⟩ (.slice a' ms.length c')) name a' ms.length c' ms) := B1; clear fz B1 N1)
        | (go_at_call 12; refine hTx.mono ?_; rintro e w2 ⟨rfl, K2⟩; clear hTx; have y0 := keepC K2 x0 (fun _ _ h => h); have y1 := keepC K2 x1 (fun _ _ h => h))
        | (go_at_call 10; refine (hW _).mono ?_; rintro e w5 ⟨rfl, K5⟩)
        | fail)
      go_ret
      exact ⟨rfl, ((HB.out.kept.and K2).and K5).none⟩
  · have hs0 := text_empty hT
    rw [hs0] at HTx
    clear hT hs0
    go_enter Tryd.func4, Tryd.ntmps4
    go_wp2_with (first
      | (go_at_call 11; refine hCut.mono ?_; rintro e w1 ⟨a', c', rfl, N1, hc1, K1⟩; clear hCut; have hd := boxD K1; obtain ⟨d0, d1⟩ := hd; have B1 := BoxSt.mk' (m := ms.length) (c' := c') K1 N1; have fz := (K1.block w.heap.size (by simp) (fun h => h)).trans (heap_alloc_new _ _); obtain ⟨_, f0, f1⟩ := twoC fz; obtain ⟨⟨x0, x1⟩, _, _⟩ := twoC B1.b0; have hTx := HTx.out _ _ c' B1.nodes (HP.out.kept B1.kept); have HB : Hid (BoxSt w ((w1.setCell ⟨w.heap.size, 0, none⟩ (.string name)).setCell ⟨w.heap.size, 1, none⟩ (.slice a' ms.length c')) name a' ms.length c' ms) := B1; clear fz B1 N1)
      | (go_at_call 12; refine hTx.mono ?_; rintro e w2 ⟨rfl, K2⟩; clear hTx; have y0 := keepC K2 x0 (fun _ _ h => h); have y1 := keepC K2 x1 (fun _ _ h => h))
      | (go_at_call 10; refine (hW _).mono ?_; rintro e w5 ⟨rfl, K5⟩)
      | fail)
    go_ret
    exact ⟨rfl, ((HB.out.kept.and K2).and K5).none⟩

set_option maxRecDepth 100000 in
theorem dagSpaces_lifted (os : Os) (started : os.Started) (H : Type) (enc : TypeId × Value → H) :
    ReturnsInHanded {} Tryd.checked os 4 .any (fun w args => (Rows.dagSpacesSpec.pre enc Tryd.prog Tryd.f4 [] false w args ∧ laidMetH Tryd.prog laidL w) ∧ sizedMet enc Tryd.prog Tryd.f4 (OpenSpec.ofChange Rows.dagSpacesSpec) false w args)
      (Rows.dagSpacesSpec.post enc Tryd.prog Tryd.f4 false true false false) := by
  refine returnsInHanded_of_change_and (C := Tryd.checked) (X := fun w _ => laidMetH Tryd.prog laidL w) (fun _ _ _ hh h => h.of_heap hh) Tryd.own started (by kernel_rfl) Tryd.func4
    (ChangeSpec.witness_shaped (enc := enc) (C := Tryd.checked) (os := os) (X := fun w _ => laidMetH Tryd.prog laidL w) false (World.doorLaid Tryd.prog 62 os) #[.agg #[.string ⟨#[]⟩, .slice none 0 0], .slice none 0 0] 8 rfl (World.shaped_of_RefB (by kernel_rfl) (by kernel_rfl)) (by kernel_rfl) (by kernel_rfl) (by kernel_rfl) (door_met os _)) ?_
  intro W base args ds gs before hval0 hW _ _ hL _
  have hval : ∀ (j : Nat) t v, Tryd.f4.params[j]? = some t → args[j]? = some v → Value.okWide Tryd.prog W .any base t v := hval0
  have hW' := hW
  obtain ⟨p, q, hA0, hV, rfl, _, _⟩ := hW
  have hA : DataW.TrodAll enc Tryd.prog W 0 (fun _ => true) true Tryd.f4.params.toList args.toList ds p := hA0
  rw [Tryd.params4] at hA hval
  obtain ⟨v0, vs0, d0, ds0, p0, q0, hargs, rfl, rfl, h0, r0⟩ := trodAll_cons hA
  obtain ⟨v1, vs1, d1, ds1, p1, q1, rfl, rfl, rfl, h1, r1⟩ := trodAll_cons r0
  obtain ⟨rfl, rfl, rfl⟩ := trodAll_nil r1
  obtain rfl : args = #[v0, v1] := by cases args; simp_all
  obtain ⟨rfl, rfl⟩ := trodVars_none hV
  have k0 := h0
  have k1 := h1
  have lt0 : ∀ x ∈ p0, x.block < W.heap.size := by obtain ⟨m, hm⟩ := k0; exact DataW.trod_lt m _ _ _ hm
  have lt1 : ∀ x ∈ p1, x.block < W.heap.size := by obtain ⟨m, hm⟩ := k1; exact DataW.trod_lt m _ _ _ hm
  obtain ⟨nm0, a0, c0, ns0, rfl, z0, y0, x0, w0⟩ := dv_open (hval 0 26 v0 rfl rfl) h0
  obtain ⟨a1', len1', cap1', rfl⟩ := okWide_slice Tryd.underlying22 (hval 1 22 v1 rfl rfl)
  obtain ⟨a1, len1, cap1, S1, e1, _, _, w1⟩ : ∃ a len cap S, Value.slice a1' len1' cap1' = .slice a len cap ∧ len ≤ cap ∧ cap ≤ maxLen ∧ StrsAt W a len S := by
    obtain ⟨fuel, hf⟩ := h1
    exact strs_open Tryd.underlying22 Tryd.underlying9 (by kernel_rfl) hf
  simp only [Value.slice.injEq] at e1
  obtain ⟨rfl, rfl, rfl⟩ := e1
  clear hA0 hval0
  refine (dagSpaces_walk _ _ _ _ _ _ _ _ W w0 y0 w1 (pow10_laid hL)).mono fun e W' ⟨he, bel⟩ => ?_
  subst he
  exact ⟨_, rfl, _, _, _, [], _, [], hW', trodAll_mk1 (shut_bool Tryd.underlying4 _), (trodAll_cons_mk (Below.trod Tryd.laidOut (by kernel_rfl) (of_decide_eq_true (by kernel_rfl)) k0 bel lt0) (trodAll_cons_mk (Below.trod Tryd.laidOut (by kernel_rfl) (of_decide_eq_true (by kernel_rfl)) k1 bel lt1) trodAll_mk0)), rfl, bel.frame _, fun h => by cases h⟩

theorem dagSpaces_row : Rows.DagSpacesSaid :=
  OpenClaim.holds_of_wide 4 Tryd.f4 rfl rfl rfl rfl rfl rfl rfl ⟨rfl, rfl, rfl, rfl, rfl⟩ rfl rfl rfl rfl rfl (by kernel_rfl) Tryd.func4 (by kernel_rfl)
    (of_decide_eq_true (by kernel_rfl)) (by unfold Func.isWrapper; first | (rw [if_pos (by decide +kernel)]; kernel_rfl) | (rw [if_neg (by decide +kernel)]; exact ⟨rfl, rfl⟩))
    (fun os started H enc _ => dagSpaces_lifted os started H enc)

theorem dagSpaces_holds : Rows.DagSpacesCardSaid :=
  Claim7.holds_tied_plain_at .later [] [.data, .data, .data, .sentinel, .sentinel] true Rows.dagSpacesCard.stood.harness true
    dagSpaces_row (fun _ h => by cases h) (by kernel_rfl) (fun _ h => by cases h) dagSpaces_row_tie rfl ⟨rfl, rfl⟩ (by kernel_rfl) rfl
    (fun f fn hf hfn => by
      obtain rfl : f = 4 := Option.some.inj ((show Tryd.prog.funcNamed "tiller/tillerlaw08.DagSpaces" = some 4 by kernel_rfl).symm.trans hf) |>.symm
      obtain rfl : fn = Tryd.f4 := (Option.some.inj (Tryd.func4.symm.trans hfn)).symm
      exact ⟨by kernel_rfl, fun j t ht => by
        rw [Tryd.params4] at ht
        have hm : t ∈ [26, 22] := by simpa using Array.mem_of_getElem? ht
        have hall : ([26, 22].all fun u => !Tryd.prog.wantsStandIn u) = true := by kernel_rfl
        exact (show Tryd.prog.wantsStandIn t = false by simpa using List.all_eq_true.1 hall t hm)⟩)
    (by kernel_rfl)

end Go.Proofs.YtlholgpenpfpbaaDoor
