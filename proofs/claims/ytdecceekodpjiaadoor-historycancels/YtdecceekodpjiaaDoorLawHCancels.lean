/-
  HistoryCancels holds for every number of children, whichever of them have ended, failing or not, with a parent or without: the law's call returns true and leaves its argument as it was. No condition; the listed variable is tied to the program's text.
-/
import Derived.Test.YtdecceekodpjiaaDoorHN7
import Derived.Deep.QuietTactic
import Derived.BigQuiet
namespace Go.Proofs.YtdecceekodpjiaaDoor
open Go.ChangeShapes Go.WideShapes Go.ChangeAt Go.RowKit Go.Deep

/-- An answer is put into a state's box. -/
theorem ans_put {w : World} {B sb : Nat} {r : Rn} {ve vt : Value} {a6 : Option Addr} {c6 : Nat} {a7 : Option Addr} {c7 : Nat} {u0 u1 u2 u3 u4 u5 u6 u7 u8 : Value} (A : AnsAt w B r ve (.slice a6 r.st.nodes.length c6) (.slice a7 r.st.sigs.length c7) vt) (hb : w.heap[sb]? = some (.cells #[u0, u1, u2, u3, u4, u5, u6, u7, u8] 39 (0, 0))) (hB : sb < B) :
    ((((((((((w.setCell ⟨sb, 0, none⟩ (.string r.st.dfn)).setCell ⟨sb, 1, none⟩ (.string r.st.id)).setCell ⟨sb, 2, none⟩ (.string r.st.par)).setCell ⟨sb, 3, none⟩ (.string r.st.pnode)).setCell ⟨sb, 4, none⟩ (.int .i64 r.st.status)).setCell ⟨sb, 5, none⟩ (.string r.st.text)).setCell ⟨sb, 6, none⟩ (.slice a6 r.st.nodes.length c6)).setCell ⟨sb, 7, none⟩ (.slice a7 r.st.sigs.length c7)).setCell ⟨sb, 8, none⟩ (.int .i64 r.st.events))).heap[sb]? = some (.cells #[.string r.st.dfn, .string r.st.id, .string r.st.par, .string r.st.pnode, .int .i64 r.st.status, .string r.st.text, .slice a6 r.st.nodes.length c6, .slice a7 r.st.sigs.length c7, .int .i64 r.st.events] 39 (0, 0)) ∧ ((((((((((w.setCell ⟨sb, 0, none⟩ (.string r.st.dfn)).setCell ⟨sb, 1, none⟩ (.string r.st.id)).setCell ⟨sb, 2, none⟩ (.string r.st.par)).setCell ⟨sb, 3, none⟩ (.string r.st.pnode)).setCell ⟨sb, 4, none⟩ (.int .i64 r.st.status)).setCell ⟨sb, 5, none⟩ (.string r.st.text)).setCell ⟨sb, 6, none⟩ (.slice a6 r.st.nodes.length c6)).setCell ⟨sb, 7, none⟩ (.slice a7 r.st.sigs.length c7)).setCell ⟨sb, 8, none⟩ (.int .i64 r.st.events))).ownsRow B 50 13 vt r.tks.length (tkF r.tks) ∧ Kept (fun j => j = sb) w (((((((((w.setCell ⟨sb, 0, none⟩ (.string r.st.dfn)).setCell ⟨sb, 1, none⟩ (.string r.st.id)).setCell ⟨sb, 2, none⟩ (.string r.st.par)).setCell ⟨sb, 3, none⟩ (.string r.st.pnode)).setCell ⟨sb, 4, none⟩ (.int .i64 r.st.status)).setCell ⟨sb, 5, none⟩ (.string r.st.text)).setCell ⟨sb, 6, none⟩ (.slice a6 r.st.nodes.length c6)).setCell ⟨sb, 7, none⟩ (.slice a7 r.st.sigs.length c7)).setCell ⟨sb, 8, none⟩ (.int .i64 r.st.events)) := by
  have K := kept9 (S := fun j => j = sb) w rfl (.string r.st.dfn) (.string r.st.id) (.string r.st.par) (.string r.st.pnode) (.int .i64 r.st.status) (.string r.st.text) (.slice a6 r.st.nodes.length c6) (.slice a7 r.st.sigs.length c7) (.int .i64 r.st.events)
  exact ⟨put9 hb _ _ _ _ _ _ _ _ _, ownsRow_keep A.tks (fun g hg => K.block g (ownsRow_blk A.tks hg) (fun e => by have := (A.tks.lt g hg).1; omega)), K⟩

set_option maxRecDepth 100000 in
set_option maxHeartbeats 8000000 in
theorem historyCancels_walk (many : Int) (a : Option Addr) (len cap : Nat) (B : Nat → Bool) (fails par : Bool) (w : World) (hB : BoolsAt w a len B) (M : MovesAt w) :
    Calls Tryd.prog 3 #[.agg #[.int .i64 many, .slice a len cap, .bool fails, .bool par]] w fun e w' => e = .returned (.bool true) ∧ Below w.heap.size w w' := by
  obtain ⟨nn, hnn, hn1, hn2⟩ : ∃ nn : Nat, 1 + many % 12 = (nn : Int) ∧ 1 ≤ nn ∧ nn ≤ 12 := ⟨(1 + many % 12).toNat, by omega, by omega, by omega⟩
  have hWi := fun V => within_any V many 12 (by decide) (by decide)
  have hwr : IntKind.i64.wrap (1 + many % 12) = (nn : Int) := by rw [hnn, IntKind.wrap_i64]; omega
  obtain ⟨i0, hi0, hz0, hz1, hz2⟩ := info_parts Tryd.info32
  have HBo := hid hB
  have HM := hid M
  clear hB M
  go_enter Tryd.func3, Tryd.ntmps3
  go_upto_region 3 with (first
    | (go_at_call 7; refine (hWi _).mono ?_; rintro e w1 ⟨rfl, hw⟩; subst w1; clear hWi)
    | go_quiet (fail)
    | fail)
  have K0 : Kept (fun _ => False) w ((w.alloc (.cells #[.int .i64 many, .slice a len cap, .bool fails, .bool par] 24)).drewN nq) := (Kept.alloc _ _ _).and (Kept.drewN _ _ _)
  generalize ((w.alloc (.cells #[.int .i64 many, .slice a len cap, .bool fails, .bool par] 24)).drewN nq) = V0 at *
  have HJ0 : Hid (BJ w (V0.alloc (.cells #[.string ⟨#[119]⟩, .slice none 0 0] 28)) V0.heap.size none 0 (cnNs 0) []) := ⟨heap_alloc_new _ _, Bld.nil _ _, K0.and (Kept.alloc _ _ _), K0.size⟩
  go_wp2_with fail
  generalize V0.heap.size = db at *
  go_loopw [8] (fun q wr => ∃ (k : Nat) (a' : Option Addr) (c' : Nat) (vs : List Value), k ≤ nn ∧ q = .int .i64 k ∧ Hid (BJ w wr db a' c' (cnNs k) vs)) (fun q _ => nn - (intOf q).toNat)
  case atStart => exact ⟨0, none, 0, [], Nat.zero_le _, rfl, HJ0⟩
  case round =>
    obtain ⟨k, a', c', vs, hk, rfl, J⟩ := hrel
    clear HJ0
    by_cases hlt : k < nn
    · have e0 : (k : Int) < (nn : Int) := by omega
      have hcv : (convert 29 9 (.slice (some ⟨wr.heap.size, 0, none⟩) 1 1)).run Tryd.prog (wr.alloc (.cells #[.int .u8 (97 + (k : Int))] 5)) = .ok (.string (sgName k)) (wr.alloc (.cells #[.int .u8 (97 + (k : Int))] 5)) := by
        rw [← sgName_str k (by omega)]
        exact byte_s1 wr _ (by omega)
      have hbV : wr.heap[db]? = some (.cells #[.string ⟨#[119]⟩, .slice a' k c'] 28 (0, 0)) := by have h := J.out.box; rwa [cnNs_len] at h
      obtain ⟨⟨d0, d1⟩, _, _⟩ := pairFz hbV
      have hsV : db < wr.heap.size := (Array.getElem?_eq_some_iff.1 hbV).1
      have JA := J.out.new' ((Kept.alloc (fun _ => False) wr (.cells #[.int .u8 (97 + (k : Int))] 5)).and (Kept.alloc (fun _ => False) _ (.cells #[.string (sgName k), .int .i64 3, .string ⟨#[120]⟩, .string ⟨#[]⟩, .int .i64 0, .int .i64 0, .slice none 0 0] 32)))
      have hrow : ((wr.alloc (.cells #[.int .u8 (97 + (k : Int))] 5)).alloc (.cells #[.string (sgName k), .int .i64 3, .string ⟨#[120]⟩, .string ⟨#[]⟩, .int .i64 0, .int .i64 0, .slice none 0 0] 32)).ownsRow (db + 1) 32 7 (.slice a' k c') k (flatB (cnNs k) vs) := by have h := JA.bld.row; rwa [cnNs_len] at h
      have HP : Hid (∀ (w3 : World) (a3 : Option Addr) (c3 : Nat), w3.ownsRow (db + 1) 32 7 (.slice a3 (k + 1) c3) (k + 1) (flatB (cnNs k) vs ++ ndC (cnN k) (.slice none 0 0)) → ((wr.alloc (.cells #[.int .u8 (97 + (k : Int))] 5)).alloc (.cells #[.string (sgName k), .int .i64 3, .string ⟨#[120]⟩, .string ⟨#[]⟩, .int .i64 0, .int .i64 0, .slice none 0 0] 32)).grownBy w3 (Value.slice a' k c').ownBlock → Hid (BJ w (w3.setCell ⟨db, 1, none⟩ (.slice a3 (k + 1) c3)) db a3 c3 (cnNs (k + 1)) (vs ++ [.slice none 0 0]))) := fun w3 a3 c3 ho hg => by
        have h := JA.push (n := cnN k) (v := .slice none 0 0) (by rw [cnNs_len]; exact ho) (by rw [cnNs_len]; exact hg) (.inl ⟨rfl, rfl⟩)
        rw [cnNs_len, ← cnNs_snoc] at h
        exact h
      have HG : Hid (∀ w3, ((wr.alloc (.cells #[.int .u8 (97 + (k : Int))] 5)).alloc (.cells #[.string (sgName k), .int .i64 3, .string ⟨#[120]⟩, .string ⟨#[]⟩, .int .i64 0, .int .i64 0, .slice none 0 0] 32)).grownBy w3 (Value.slice a' k c').ownBlock → w3.heap[db]? = some (.cells #[.string ⟨#[119]⟩, .slice a' k c'] 28 (0, 0))) := fun w3 hg => by
        have h := JA.grown (by rw [cnNs_len]; exact hg)
        rwa [cnNs_len] at h
      clear JA hbV
      go_wp2_with (first
        | (at_builtin; refine wpList_append_src _ rfl _ _ 26 rfl (db + 1) 32 i0 _ 7 96 Tryd.underlying26 hi0 hz0 hz1 hz2 rfl (by decide) (.slice a' k c') k _ rfl hrow _ rfl 1 (ndC (cnN k) (.slice none 0 0)) (.inl ⟨_, 1, rfl, rfl, World.news_of_block (heap_alloc_new2 _ _ _)⟩) (by intro u hu; simp only [ndC, List.mem_cons, List.not_mem_nil, or_false] at hu; rcases hu with rfl | rfl | rfl | rfl | rfl | rfl | rfl <;> rfl) (by unfold maxLen; omega) (by omega) (by simp; omega) ?_; intro a3 cap3 w3 ho3 hg3 _ hl3; have hb3 := HG.out w3 hg3; obtain ⟨⟨p0, p1⟩, q0, q1⟩ := pairFz hb3; have HO3 := hid ho3; have HG3 := hid hg3; clear ho3 hg3 hb3 hrow)
        | fail)
      go_roundw
      case rel => exact ⟨k + 1, a3, cap3, _, by omega, by go_num, HP.out _ a3 cap3 HO3.out HG3.out⟩
      case measure => simp [intOf]; omega
    · obtain rfl : k = nn := by omega
      have e0 : ¬ (k : Int) < (k : Int) := by omega
      have hbx : wr.heap[db]? = some (.cells #[.string ⟨#[119]⟩, .slice a' k c'] 28 (0, 0)) := by have h := J.out.box; rwa [cnNs_len] at h
      have HNd := hid (J.out.bld.nodes (cnNs_ok k))
      obtain ⟨nb, no, av0, cv0, rfl, hjunk⟩ := HNd.out.at (i := 0) (by rw [cnNs_len]; omega)
      clear hjunk
      have HNm : Hid (∀ V, Kept (fun _ => False) wr V → ∀ j, j < k → V.cell? ⟨nb, no + j * 7, none⟩ = some (.string (sgName j))) := fun V KV j hj => by
        obtain ⟨b', o', _, _, e, _, h0, _⟩ := (keptNew KV HNd.out).at (i := j) (by rw [cnNs_len]; exact hj)
        simp only [Option.some.injEq, Addr.mk.injEq, and_true] at e
        obtain ⟨rfl, rfl⟩ := e
        have hg : (cnNs k)[j]'(by rw [cnNs_len]; exact hj) = cnN j := by
          have h := cnNs_get (n := k) hj
          rw [List.getElem?_eq_getElem (by rw [cnNs_len]; exact hj)] at h
          exact Option.some.inj h
        rw [hg] at h0
        exact h0
      have hnbl : nb < wr.heap.size := World.block_lt_of_cell? wr _ (HNm.out wr (Kept.refl _ _) 0 (by omega))
      have hcc : k ≤ c' := by
        have h := (row_at J.out.bld.row (by rw [cnNs_len]; omega))
        obtain ⟨_, cg, hv, _, hc, _⟩ := h
        simp only [Value.slice.injEq] at hv
        rw [cnNs_len] at hc
        omega
      have D : DefAt wr (some ⟨nb, no, none⟩) (cnNs k) := ⟨HNd.out, by rw [cnNs_len]; omega, fun b o h => by
        simp only [Option.some.injEq, Addr.mk.injEq, and_true] at h
        omega, cnNs_names k, HM.out.kept J.out.kept (fun h => h)⟩
      obtain ⟨W1, hW1⟩ : ∃ W1, W1 = wr := ⟨_, rfl⟩
      subst hW1
      have HK1 := hid J.out.kept
      have HD := hid D
      have HB1 := hid hbx
      have hdb1 : db < W1.heap.size := (Array.getElem?_eq_some_iff.1 hbx).1
      clear hbx HNd D J hlt hi0 hz0 hz1 hz2
      cases par with
      | true =>
        go_upto_region 11 with fail
        have KI := Kept.alloc (fun _ => False) W1 (.cells #[.int .i64 1, .string ⟨#[]⟩, .string ⟨#[102]⟩, .string ⟨#[]⟩, .int .i64 0, .int .i64 0, .int .i64 0, .string ⟨#[112]⟩, .string ⟨#[109]⟩] 34)
        have bI := heap_alloc_new W1 (.cells #[.int .i64 1, .string ⟨#[]⟩, .string ⟨#[102]⟩, .string ⟨#[]⟩, .int .i64 0, .int .i64 0, .int .i64 0, .string ⟨#[112]⟩, .string ⟨#[109]⟩] 34)
        have dB := (KI.block _ (Array.getElem?_eq_some_iff.1 HB1.out).1 (fun h => h)).trans HB1.out
        have HKI := hid KI
        generalize (W1.alloc (.cells #[.int .i64 1, .string ⟨#[]⟩, .string ⟨#[102]⟩, .string ⟨#[]⟩, .int .i64 0, .int .i64 0, .int .i64 0, .string ⟨#[112]⟩, .string ⟨#[109]⟩] 34)) = V1 at *
        obtain ⟨⟨d0, d1⟩, _, _⟩ := pairFz dB
        obtain ⟨⟨n0, n1, n2, n3, n4, n5, n6, n7, n8⟩, _⟩ := nine bI
        obtain ⟨r, hp0, htk, hrs⟩ := can_start hn1 hn2 true
        have hS := step_ok (c := c') (n := k) (HD.out.new KI) (cnNs_len k) (zeroSt_rd _) zeroSt_small (q := cnQ0 true) (by show (1 : Nat) ≤ _; decide) (by show 0 ≤ _; decide) hp0
        dsimp only [zeroSt, cnQ0, cnP, cnM] at hS
        have Hrs := hid hrs
        have htk' : ((r.tks.length : Int) != (k : Int)) = false := by rw [htk]; simp
        have hz1 := KI.size
        clear hp0 hrs KI dB bI htk
        go_upto_region 12 with (first
          | (go_at_call 8; refine hS.mono ?_; rintro e w4 ⟨ae, ce, a6, c6, a7, c7, at_, ct, rfl, A4, K4⟩; clear hS)
          | fail)
        have KA4 := Kept.alloc (fun _ => False) w4 (.cells #[.string r.st.dfn, .string r.st.id, .string r.st.par, .string r.st.pnode, .int .i64 r.st.status, .string r.st.text, .slice a6 r.st.nodes.length c6, .slice a7 r.st.sigs.length c7, .int .i64 r.st.events] 39)
        have KV := K4.and KA4
        have X0 := ans_sbox (sb := w4.heap.size) A4 (fun g h1 h2 => by omega)
        have hz4 := K4.size
        have hsb1 : W1.heap.size ≤ w4.heap.size := by omega
        generalize hsb : w4.heap.size = sb at *
        have HX0 : Hid (SBox (w4.alloc (.cells #[.string r.st.dfn, .string r.st.id, .string r.st.par, .string r.st.pnode, .int .i64 r.st.status, .string r.st.text, .slice a6 r.st.nodes.length c6, .slice a7 r.st.sigs.length c7, .int .i64 r.st.events] 39)) sb sb (cnSt k (fun _ => true) ⟨#[112]⟩ ⟨#[109]⟩ ((1 + k : Nat) : Int)) a6 c6 a7 c7) := by
          have h := X0
          show SBox _ _ _ _ _ _ _ _
          rw [Hrs.out] at h ⊢
          exact h
        have HKV := hid (HKI.out.and KV)
        clear A4 K4 KA4 KV X0 d0 d1 hsb n0 n1 n2 n3 n4 n5 n6 n7 n8 hz1 hz4
        generalize (w4.alloc (.cells #[.string r.st.dfn, .string r.st.id, .string r.st.par, .string r.st.pnode, .int .i64 r.st.status, .string r.st.text, .slice a6 r.st.nodes.length c6, .slice a7 r.st.sigs.length c7, .int .i64 r.st.events] 39)) = V4 at *
        go_upto_region 16 with fail
        have HC0 := hid (barrNew V4)
        have KA5 := Kept.alloc (fun _ => False) V4 (.cells #[.bool false, .bool false, .bool false, .bool false, .bool false, .bool false, .bool false, .bool false, .bool false, .bool false, .bool false, .bool false] 44)
        have HX1 := hid (HX0.out.new KA5)
        have HKV1 := hid (HKV.out.and KA5)
        have hmb1 : sb < V4.heap.size := (Array.getElem?_eq_some_iff.1 HX0.out.blk).1
        clear KA5 HX0 HKV
        generalize (V4.alloc (.cells #[.bool false, .bool false, .bool false, .bool false, .bool false, .bool false, .bool false, .bool false, .bool false, .bool false, .bool false, .bool false] 44)) = V5 at *
        generalize V4.heap.size = mb at *
        go_wp2_with fail
        go_loopw [14, 16] (fun lq iq wr => ∃ (i L : Nat) (b : Nat → Bool) (ev : Int) (a6 : Option Addr) (c6 : Nat) (a7 : Option Addr) (c7 : Nat), i ≤ k ∧ lq = .int .i64 L ∧ iq = .int .i64 i ∧ 1 ≤ L ∧ L ≤ cntB k b ∧ (∀ j, i ≤ j → b j = true) ∧ 0 ≤ ev ∧ ev ≤ 20 + i ∧ BArr wr mb (fun j => decide (j < i) && b j) ∧ SBox wr sb sb (cnSt k b ⟨#[112]⟩ ⟨#[109]⟩ ev) a6 c6 a7 c7 ∧ Kept (fun _ => False) W1 wr) (fun _ q _ => k - (intOf q).toNat)
        case atStart => exact ⟨0, k, fun _ => true, ((1 + k : Nat) : Int), a6, c6, a7, c7, Nat.zero_le _, rfl, rfl, hn1, by rw [cntB_all]; exact Nat.le_refl _, fun _ _ => rfl, by omega, by omega, HC0.out.same (fun j _ => by simp), HX1.out, HKV1.out⟩
        case round =>
          clear HC0 HX1 HKV1 HKI
          obtain ⟨i, L, b, ev, a6, c6, a7, c7, hi, rfl, rfl, hL1, hL, hbi, hev0, hev1, C, X, K⟩ := hrel
          have hcl := cntB_le k b
          by_cases hlt : i < k
          · have e1 : (i : Int) < (k : Int) := by omega
            have hi12 : (i : Int) < 12 := by omega
            obtain ⟨cm, fm⟩ := C.cell i (by omega)
            have hbt := hbi i (Nat.le_refl _)
            have C6 := (C.set i true).same (g := fun j => decide (j < i + 1) && b j) (fun j hj => by
              by_cases e : j = i
              · subst e; simp [hbt]
              · have h1 : decide (j < i + 1) = decide (j < i) := by
                  by_cases h : j < i
                  · simp [h]; omega
                  · have : ¬ j < i + 1 := by omega
                    simp [h, this]
                simp [e, h1])
            have KS := Kept.setCell (S := fun j => j = mb) wr ⟨mb, i, none⟩ (.bool true) rfl
            have X6 := X.mark C KS
            have K6 : Kept (fun _ => False) W1 (wr.setCell ⟨mb, i, none⟩ (.bool true)) := K.trans KS (fun j h => .inr (by omega))
            clear C X K KS
            go_upto_region 20 with fail
            clear cm fm
            generalize (wr.setCell ⟨mb, i, none⟩ (.bool true)) = V6 at *
            by_cases hcond : (i < len ∧ B i = true) ∧ 1 < L
            · obtain ⟨⟨hil, hBi⟩, hL2⟩ := hcond
              have e2 : (i : Int) < (len : Int) := by omega
              have e3 : (1 : Int) < (L : Int) := by omega
              obtain ⟨bb, bo, rfl, hbc⟩ : ∃ b o, a = some ⟨b, o, none⟩ ∧ ∀ i, i < len → w.cell? ⟨b, o + i, none⟩ = some (.bool (B i)) := by
                rcases HBo.out with h | h
                · omega
                · exact h
              have b1 := keepC (HK1.out.and K6) (hbc i hil) (fun _ _ h => h)
              rw [hBi] at b1
              clear hbc
              go_upto_region 21 with fail
              obtain ⟨j, hj, hbj, hji⟩ := other_busy (i := i) (show 1 < cntB k b by omega)
              obtain ⟨r2, hp, hr2⟩ := can_done (par := ⟨#[112]⟩) (pn := ⟨#[109]⟩) (ev := ev) hn2 hlt hbt hj hbj hji
              have Z := cnSt_small (n := k) (b := b) (P := ⟨#[112]⟩) (M := ⟨#[109]⟩) (ev := ev) hn2 hev0 (by omega)
              have KD := Kept.drew (fun _ => False) V6
              have hC := step_ok (c := c') (n := k) (HD.out.new (K6.and KD)) (cnNs_len k) ((X6.new KD).rd Z) Z (q := cnQd i) (by show (0 : Nat) ≤ _; decide) (by show (0 : Nat) ≤ _; decide) hp
              dsimp only [cnQd] at hC
              have dB := (K6.block _ (Array.getElem?_eq_some_iff.1 HB1.out).1 (fun h => h)).trans HB1.out
              obtain ⟨⟨d0, d1⟩, _, _⟩ := pairFz dB
              have nm0 := HNm.out V6 K6 i hlt
              have HC6 := hid C6
              have HK6 := hid K6
              refine wp_onlyN (cn21 _ d0 d1 nm0 X6.blk (by omega) (by omega) hlt hC ?_)
              intro v92 v93 v94 v95 v96 v97 v98 v99 v100 v101 v102 v103 v104 v105 v106 e6 f6 e7 f7 W7 X7 K7
              clear d0 d1 nm0 hC dB KD Z hp X6 K6 C6 b1
              have C7 := HC6.out.kept K7 (by omega)
              obtain ⟨cm, fm⟩ := C7.cell i (by omega)
              have KS := Kept.setCell (S := fun j => j = mb) W7 ⟨mb, i, none⟩ (.bool false) rfl
              have HX8 : Hid (SBox (W7.setCell ⟨mb, i, none⟩ (.bool false)) sb sb (cnSt k (fun j => b j && !(j == i)) ⟨#[112]⟩ ⟨#[109]⟩ (ev + 1)) e6 f6 e7 f7) := by
                have h := X7.mark C7 KS
                show SBox _ _ _ _ _ _ _ _
                rw [hr2] at h
                exact h
              have HC8 : Hid (BArr (W7.setCell ⟨mb, i, none⟩ (.bool false)) mb (fun j => decide (j < i + 1) && (b j && !(j == i)))) := (C7.set i false).same (fun j hj => by
                by_cases e : j = i
                · subst e; simp
                · have h1 : (j == i) = false := by simpa using e
                  rw [if_neg e, h1]
                  simp)
              have HK8 : Hid (Kept (fun _ => False) W1 (W7.setCell ⟨mb, i, none⟩ (.bool false))) := (HK6.out.trans K7 (fun j h => .inr (by omega))).trans KS (fun j h => .inr (by omega))
              have hcn := cntB_less i b k
              rw [if_pos hlt] at hcn
              clear X7 K7 C7 KS hr2
              go_wp2_with fail
              go_roundw
              case rel => exact ⟨i + 1, L - 1, fun j => b j && !(j == i), ev + 1, e6, f6, e7, f7, by omega, by go_num, by go_num, by omega, by omega, fun j hj => by show (b j && !(j == i)) = true; rw [hbi j (by omega), show (j == i) = false by simp; omega]; rfl, by omega, by omega, HC8.out, HX8.out, HK8.out⟩
              case measure => simp [intOf]; omega
            · have HC6 := hid C6
              have HX6 := hid X6
              have HK6 := hid K6
              by_cases hil : i < len
              · have e2 : (i : Int) < (len : Int) := by omega
                obtain ⟨bb, bo, rfl, hbc⟩ : ∃ b o, a = some ⟨b, o, none⟩ ∧ ∀ i, i < len → w.cell? ⟨b, o + i, none⟩ = some (.bool (B i)) := by
                  rcases HBo.out with h | h
                  · omega
                  · exact h
                have b1 := keepC (HK1.out.and K6) (hbc i hil) (fun _ _ h => h)
                clear hbc C6 X6 K6
                cases hBi : B i with
                | true =>
                  have e3 : ¬ (1 : Int) < (L : Int) := by
                    have : ¬ 1 < L := fun h => hcond ⟨⟨hil, hBi⟩, h⟩
                    omega
                  rw [hBi] at b1
                  clear hcond hBi
                  go_wp2_with fail
                  go_roundw
                  case rel => exact ⟨i + 1, L, b, ev, a6, c6, a7, c7, by omega, rfl, by go_num, hL1, hL, fun j hj => hbi j (by omega), hev0, by omega, HC6.out, HX6.out, HK6.out⟩
                  case measure => simp [intOf]; omega
                | false =>
                  rw [hBi] at b1
                  clear hcond hBi
                  go_wp2_with fail
                  go_roundw
                  case rel => exact ⟨i + 1, L, b, ev, a6, c6, a7, c7, by omega, rfl, by go_num, hL1, hL, fun j hj => hbi j (by omega), hev0, by omega, HC6.out, HX6.out, HK6.out⟩
                  case measure => simp [intOf]; omega
              · have e2 : ¬ (i : Int) < (len : Int) := by omega
                clear hcond C6 X6 K6
                go_wp2_with fail
                go_roundw
                case rel => exact ⟨i + 1, L, b, ev, a6, c6, a7, c7, by omega, rfl, by go_num, hL1, hL, fun j hj => hbi j (by omega), hev0, by omega, HC6.out, HX6.out, HK6.out⟩
                case measure => simp [intOf]; omega
          · obtain rfl : k = i := by omega
            have e1 : ¬ (k : Int) < (k : Int) := by omega
            clear hbi
            have HC := hid C
            have HX := hid X
            have HK := hid K
            have hmbw := C.lt
            have hsbw : sb < wr.heap.size := (Array.getElem?_eq_some_iff.1 X.blk).1
            have hzw := K.size
            clear C X K
            go_upto_region 28 with fail
            have KL := Kept.alloc (fun _ => False) wr (.cells #[.int .i64 8, .string ⟨#[]⟩, .string ⟨#[]⟩, .string ⟨#[119, 104, 121]⟩, .int .i64 0, .int .i64 0, .int .i64 0, .string ⟨#[]⟩, .string ⟨#[]⟩] 34)
            have bL := heap_alloc_new wr (.cells #[.int .i64 8, .string ⟨#[]⟩, .string ⟨#[]⟩, .string ⟨#[119, 104, 121]⟩, .int .i64 0, .int .i64 0, .int .i64 0, .string ⟨#[]⟩, .string ⟨#[]⟩] 34)
            have HKL := hid KL
            have C8 := HC.out.kept KL (fun h => h)
            have X8 := HX.out.new KL
            have K8 := HK.out.and KL
            generalize (wr.alloc (.cells #[.int .i64 8, .string ⟨#[]⟩, .string ⟨#[]⟩, .string ⟨#[119, 104, 121]⟩, .int .i64 0, .int .i64 0, .int .i64 0, .string ⟨#[]⟩, .string ⟨#[]⟩] 34)) = V8 at *
            generalize hlb : wr.heap.size = lb at *
            have hlb' := hid hlb
            clear KL hlb
            cases fails with
            | false =>
              obtain ⟨r, hp, hst, htxt, htks⟩ := can_cancel (n := k) (busy := b) (par := ⟨#[112]⟩) (pn := ⟨#[109]⟩) (ev := ev)
              have V9e : V8 = V8 := rfl
              have X9 := X8
              have C9 := C8
              have K9 := K8
              have bL9 := bL
              clear V9e X8 C8 K8 bL
              have dB := (K9.block _ (Array.getElem?_eq_some_iff.1 HB1.out).1 (fun h => h)).trans HB1.out
              obtain ⟨⟨d0, d1⟩, _, _⟩ := pairFz dB
              obtain ⟨⟨n0, n1, n2, n3, n4, n5, n6, n7, n8⟩, _⟩ := nine bL9
              obtain ⟨⟨u0, u1, u2, u3, u4, u5, u6, u7, u8⟩, _⟩ := nine X9.blk
              have Z := cnSt_small (n := k) (b := b) (P := ⟨#[112]⟩) (M := ⟨#[109]⟩) (ev := ev) hn2 hev0 (by omega)
              have hS := step_ok (c := c') (n := k) (HD.out.new K9) (cnNs_len k) (X9.rd Z) Z (q := cnQc) (by show (0 : Nat) ≤ _; decide) (by show (3 : Nat) ≤ _; decide) hp
              dsimp only [cnQc, cnQf, whyB] at hS
              have HX9 := hid X9
              have HC9 := hid C9
              have HK9 := hid K9
              have hsb9 : sb < V8.heap.size := (Array.getElem?_eq_some_iff.1 X9.blk).1
              have Htks := hid htks
              have f1 : (r.st.status != 4) = false := by rw [hst]; rfl
              have htl : r.st.text.toList = [119, 104, 121] := by rw [htxt]; exact (Lib.toList_data _).trans rfl
              clear X9 C9 K9 bL9 dB Z hp hst htxt htks
              go_upto_region 37 with (first
                | (go_at_call 8; refine hS.mono ?_; rintro e w10 ⟨ae, ce, a6, c6, a7, c7, at_, ct, rfl, A10, K10⟩; clear hS; have hb10 := (HX9.out.new K10).blk; obtain ⟨⟨p0, p1, p2, p3, p4, p5, p6, p7, p8⟩, q0, q1, q2, q3, q4, q5, q6, q7, q8⟩ := nine hb10)
                | fail)
              clear p0 p1 p2 p3 p4 p5 p6 p7 p8 q0 q1 q2 q3 q4 q5 q6 q7 q8 u0 u1 u2 u3 u4 u5 u6 u7 u8 n0 n1 n2 n3 n4 n5 n6 n7 n8 d0 d1
              obtain ⟨hbS, hTk, KS⟩ := ans_put A10 hb10 hsb9
              have C11 := (HC9.out.kept K10 (fun h => h)).kept KS (by omega)
              have K11 : Kept (fun _ => False) W1 (((((((((w10.setCell ⟨sb, 0, none⟩ (.string r.st.dfn)).setCell ⟨sb, 1, none⟩ (.string r.st.id)).setCell ⟨sb, 2, none⟩ (.string r.st.par)).setCell ⟨sb, 3, none⟩ (.string r.st.pnode)).setCell ⟨sb, 4, none⟩ (.int .i64 r.st.status)).setCell ⟨sb, 5, none⟩ (.string r.st.text)).setCell ⟨sb, 6, none⟩ (.slice a6 r.st.nodes.length c6)).setCell ⟨sb, 7, none⟩ (.slice a7 r.st.sigs.length c7)).setCell ⟨sb, 8, none⟩ (.int .i64 r.st.events)) := (HK9.out.and K10).trans KS (fun j h => .inr (by omega))
              clear A10 K10 hb10 KS HX9 HC9 HK9
              generalize (((((((((w10.setCell ⟨sb, 0, none⟩ (.string r.st.dfn)).setCell ⟨sb, 1, none⟩ (.string r.st.id)).setCell ⟨sb, 2, none⟩ (.string r.st.par)).setCell ⟨sb, 3, none⟩ (.string r.st.pnode)).setCell ⟨sb, 4, none⟩ (.int .i64 r.st.status)).setCell ⟨sb, 5, none⟩ (.string r.st.text)).setCell ⟨sb, 6, none⟩ (.slice a6 r.st.nodes.length c6)).setCell ⟨sb, 7, none⟩ (.slice a7 r.st.sigs.length c7)).setCell ⟨sb, 8, none⟩ (.int .i64 r.st.events)) = V11 at *
              obtain ⟨⟨_, _, _, _, s4, s5, _, _, _⟩, _⟩ := nine hbS
              have HC11 := hid C11
              have HK11 := hid K11
              have HTk := hid hTk
              have HMl : Hid (r.tks.length = cntB k b + 1) := by show _ = _; rw [Htks.out, List.length_map, cnMs_len]; rfl
              have hmx : r.tks.length ≤ 100 := by have h := HMl.out; have h2 := cntB_le k b; omega
              have hcl2 := cntB_le k b
              clear hbS hTk C11 K11
              go_wp2_with fail
              clear s4 s5 f1 htl
              go_loopw [20, 21] (fun kq iq wr => ∃ (y : Nat), y ≤ k ∧ kq = .int .i64 (cntB y b : Nat) ∧ iq = .int .i64 y ∧ Kept (fun _ => False) V11 wr) (fun _ q _ => k - (intOf q).toNat)
              case atStart => exact ⟨0, Nat.zero_le _, rfl, rfl, Kept.refl _ _⟩
              case round =>
                obtain ⟨y, hy, rfl, rfl, KR⟩ := hrel
                have hcy := cntB_le y b
                by_cases hyk : y < k
                · have e3 : (y : Int) < (k : Int) := by omega
                  have hy12 : (y : Int) < 12 := by omega
                  obtain ⟨cm0, fm⟩ := (HC11.out.kept KR (fun h => h)).cell y (by omega)
                  have cm : wr.cell? ⟨mb, y, none⟩ = some (.bool (b y)) := by rw [cm0]; simp [hyk]
                  have hsc := cntB_succ y b
                  clear cm0 fm
                  have HKR := hid KR
                  cases hby : (b y) with
                  | false =>
                    rw [hby] at cm
                    have HSc : Hid (cntB (y + 1) b = cntB y b) := by show _ = _; rw [hsc]; simp [hby]
                    clear hsc KR
                    generalize hcn : cntB y b = cy at *
                    go_wp2_with fail
                    go_roundw
                    case rel => exact ⟨y + 1, by omega, by rw [HSc.out], by go_num, HKR.out⟩
                    case measure => simp [intOf]; omega
                  | true =>
                    rw [hby] at cm
                    have HSc : Hid (cntB (y + 1) b = cntB y b + 1) := by show _ = _; rw [hsc]; simp [hby]
                    have hlt2 : cntB y b < r.tks.length := by
                      have hm := mail_at (b := b) hyk hby ⟨#[112]⟩ ⟨#[109]⟩ 4
                      rw [Htks.out, List.length_map]
                      exact (List.getElem?_eq_some_iff.1 hm).1
                    have hm := mail_at (b := b) hyk hby ⟨#[112]⟩ ⟨#[109]⟩ 4
                    have hm2 : r.tks[cntB y b]? = some (tkM (cnMl y)) := by rw [Htks.out, List.getElem?_map, hm]; rfl
                    have hO := ownsRow_keep HTk.out (fun g hg => KR.block g (ownsRow_blk HTk.out hg) (fun h => h))
                    obtain ⟨hct, tb, to_, rfl, t0, t1, t2, t3, t4, t5, t6⟩ := tk_mail hO hlt2 hm2
                    dsimp only [cnMl, whyB] at t0 t1 t2 t3 t4 t5 t6
                    have dB := ((HK11.out.and KR).block _ (Array.getElem?_eq_some_iff.1 HB1.out).1 (fun h => h)).trans HB1.out
                    obtain ⟨⟨d0, d1⟩, _, _⟩ := pairFz dB
                    have nmy := HNm.out wr (HK11.out.and KR) y hyk
                    have hsz : (sgName y).size = 1 := rfl
                    have hsz2 : (⟨#[102, 47]⟩ : ByteArray).size = 2 := rfl
                    have r1_ := fun W => run_cat W ⟨#[102, 47]⟩ (sgName y) (by rw [hsz, hsz2]; first | omega | (unfold maxLen; omega) | decide)
                    clear hsz hsz2
                    have e4 : ¬ ((r.tks.length : Int) ≤ (cntB y b : Int)) := by omega
                    have e5 : (cntB y b : Int) < (r.tks.length : Int) := by omega
                    have w1_ : IntKind.i64.wrap (y : Int) = (y : Int) := by rw [IntKind.wrap_i64]; omega
                    have w2_ : IntKind.i64.wrap (cntB y b : Int) = (cntB y b : Int) := by rw [IntKind.wrap_i64]; omega
                    clear hsc KR dB hO hm hm2
                    generalize hcn : cntB y b = cy at *
                    go_wp2_with (first | go_quiet (fail) | fail)
                    go_roundw
                    case rel => exact ⟨y + 1, by omega, by rw [HSc.out]; go_num, by go_num, HKR.out.and (Kept.drewN _ _ _)⟩
                    case measure => simp [intOf]; omega
                · obtain rfl : k = y := by omega
                  have e3 : ¬ (k : Int) < (k : Int) := by omega
                  have hW := wakes_any wr (HM.out.kept ((HK1.out.and HK11.out).and KR) (fun h => h))
                  have HKR := hid KR
                  have hm := par_at k b (par := ⟨#[112]⟩) ⟨#[109]⟩ 4 (by decide)
                  have hm2 : r.tks[cntB k b]? = some (tkM ⟨2, ⟨#[112]⟩, ⟨#[102]⟩, ⟨#[109]⟩, ⟨#[]⟩, whyB, 4⟩) := by rw [Htks.out, List.getElem?_map, hm]; rfl
                  have hO := ownsRow_keep HTk.out (fun g hg => KR.block g (ownsRow_blk HTk.out hg) (fun h => h))
                  obtain ⟨hct, tb, to_, rfl, t0, t1, t2, t3, t4, t5, t6⟩ := tk_mail hO (by have h := HMl.out; omega) hm2
                  dsimp only [whyB] at t0 t1 t2 t3 t4 t5 t6
                  have e4 : ¬ ((r.tks.length : Int) ≤ (cntB k b : Int)) := by have h := HMl.out; omega
                  have e5 : (cntB k b : Int) < (r.tks.length : Int) := by have h := HMl.out; omega
                  have e6 : (((cntB k b : Nat) : Int) + 1 == (r.tks.length : Int)) = true := by rw [HMl.out]; simp
                  clear hm hm2 hO KR
                  generalize hcn : cntB k b = cy at *
                  go_wp2_with (first
                    | (go_at_call 9; refine hW.mono ?_; rintro e w12 ⟨rfl, K12⟩; clear hW)
                    | go_quiet (fail)
                    | fail)
                  go_ret
                  exact ⟨rfl, (((HK1.out.and HK11.out).and HKR.out).and K12).none⟩
            | true =>
              have HC8 := hid C8
              have HbL := hid bL
              have HK8 := hid K8
              clear X8 C8 K8 bL
              go_wp2_with fail
              go_loopw [18, 19] (fun sq iq wr => ∃ (i : Nat), i ≤ k ∧ sq = .int .i64 4 ∧ iq = .int .i64 i ∧ (∀ j, j < i → b j = false) ∧ V8 = wr) (fun _ q _ => k - (intOf q).toNat)
              case atStart => exact ⟨0, Nat.zero_le _, rfl, rfl, fun j hj => by omega, rfl⟩
              case round =>
                obtain ⟨i, hi2, rfl, rfl, hno, hw⟩ := hrel
                subst hw
                by_cases hlt : i < k
                · have e2 : (i : Int) < (k : Int) := by omega
                  have hi12 : (i : Int) < 12 := by omega
                  obtain ⟨cm0, fm⟩ := HC8.out.cell i (by omega)
                  have cm : V8.cell? ⟨mb, i, none⟩ = some (.bool (b i)) := by rw [cm0]; simp [hlt]
                  clear cm0
                  cases hbi : b i with
                  | true =>
                    rw [hbi] at cm
                    have KS1 := Kept.setCell (S := fun j => j = mb) V8 ⟨mb, i, none⟩ (.bool false) rfl
                    have bL1 := (KS1.block _ (Array.getElem?_eq_some_iff.1 HbL.out).1 (by omega)).trans HbL.out
                    have dB8 := (HK8.out.block _ (Array.getElem?_eq_some_iff.1 HB1.out).1 (fun h => h)).trans HB1.out
                    have dB1 := (KS1.block _ (Array.getElem?_eq_some_iff.1 dB8).1 (by omega)).trans dB8
                    obtain ⟨⟨d0, d1⟩, _, _⟩ := pairFz dB1
                    have nmW : Kept (fun _ => False) W1 (V8.setCell ⟨mb, i, none⟩ (.bool false)) := HK8.out.trans KS1 (fun j h => .inr (by omega))
                    have nm1 := HNm.out _ nmW i hlt
                    obtain ⟨⟨l0, l1, l2, l3, l4, l5, l6, l7, l8⟩, m0, m1, m2, m3, m4, m5, m6, m7, m8⟩ := nine bL1
                    have bL9 := put9 bL1 (.int .i64 7) (.string (sgName i)) (.string ⟨#[]⟩) (.string ⟨#[119, 104, 121]⟩) (.int .i64 0) (.int .i64 3) (.int .i64 0) (.string ⟨#[]⟩) (.string ⟨#[]⟩)
                    have KS2 := kept9 (S := fun j => j = lb) (V8.setCell ⟨mb, i, none⟩ (.bool false)) rfl (.int .i64 7) (.string (sgName i)) (.string ⟨#[]⟩) (.string ⟨#[119, 104, 121]⟩) (.int .i64 0) (.int .i64 3) (.int .i64 0) (.string ⟨#[]⟩) (.string ⟨#[]⟩)
                    have HbL9 := hid bL9
                    have HKS1 := hid KS1
                    have HKS2 := hid KS2
                    clear KS1 KS2 bL1 dB8 dB1 nmW bL9
                    go_upto_region 36 with fail
                    clear l0 l1 l2 l3 l4 l5 l6 l7 l8 m0 m1 m2 m3 m4 m5 m6 m7 m8 d0 d1 nm1 cm fm
                    have hlbw := hlb'.out
                    have KV9 : Kept (fun j => j = mb) wr ((((((((((V8.setCell ⟨mb, i, none⟩ (.bool false)).setCell ⟨lb, 0, none⟩ (.int .i64 7)).setCell ⟨lb, 1, none⟩ (.string (sgName i))).setCell ⟨lb, 2, none⟩ (.string ⟨#[]⟩)).setCell ⟨lb, 3, none⟩ (.string ⟨#[119, 104, 121]⟩)).setCell ⟨lb, 4, none⟩ (.int .i64 0)).setCell ⟨lb, 5, none⟩ (.int .i64 3)).setCell ⟨lb, 6, none⟩ (.int .i64 0)).setCell ⟨lb, 7, none⟩ (.string ⟨#[]⟩)).setCell ⟨lb, 8, none⟩ (.string ⟨#[]⟩)) := ((HKL.out.mono (fun _ h => h.elim)).and HKS1.out).trans HKS2.out (fun j h => .inr (by omega))
                    have X9 := HX.out.mark HC.out KV9
                    have C9 := (((HC8.out.set i false).same (g := fun j => decide (j < k) && (b j && !(j == i))) (fun j hj => by
                      by_cases e : j = i
                      · subst e; simp
                      · have h1 : (j == i) = false := by simpa using e
                        rw [if_neg e, h1]
                        simp))).kept HKS2.out (by omega)
                    have K9 : Kept (fun _ => False) W1 ((((((((((V8.setCell ⟨mb, i, none⟩ (.bool false)).setCell ⟨lb, 0, none⟩ (.int .i64 7)).setCell ⟨lb, 1, none⟩ (.string (sgName i))).setCell ⟨lb, 2, none⟩ (.string ⟨#[]⟩)).setCell ⟨lb, 3, none⟩ (.string ⟨#[119, 104, 121]⟩)).setCell ⟨lb, 4, none⟩ (.int .i64 0)).setCell ⟨lb, 5, none⟩ (.int .i64 3)).setCell ⟨lb, 6, none⟩ (.int .i64 0)).setCell ⟨lb, 7, none⟩ (.string ⟨#[]⟩)).setCell ⟨lb, 8, none⟩ (.string ⟨#[]⟩)) := HK.out.trans KV9 (fun j h => .inr (by omega))
                    have bL9 := HbL9.out
                    clear KV9 HbL9 HKS1 HKS2
                    generalize ((((((((((V8.setCell ⟨mb, i, none⟩ (.bool false)).setCell ⟨lb, 0, none⟩ (.int .i64 7)).setCell ⟨lb, 1, none⟩ (.string (sgName i))).setCell ⟨lb, 2, none⟩ (.string ⟨#[]⟩)).setCell ⟨lb, 3, none⟩ (.string ⟨#[119, 104, 121]⟩)).setCell ⟨lb, 4, none⟩ (.int .i64 0)).setCell ⟨lb, 5, none⟩ (.int .i64 3)).setCell ⟨lb, 6, none⟩ (.int .i64 0)).setCell ⟨lb, 7, none⟩ (.string ⟨#[]⟩)).setCell ⟨lb, 8, none⟩ (.string ⟨#[]⟩)) = V9 at *
                    obtain ⟨r, hp, hst, htxt, htks⟩ := can_fail (n := k) (busy := b) (par := ⟨#[112]⟩) (pn := ⟨#[109]⟩) (ev := ev) hn2 hlt hbi
                    have dB := (K9.block _ (Array.getElem?_eq_some_iff.1 HB1.out).1 (fun h => h)).trans HB1.out
                    obtain ⟨⟨d0, d1⟩, _, _⟩ := pairFz dB
                    obtain ⟨⟨n0, n1, n2, n3, n4, n5, n6, n7, n8⟩, _⟩ := nine bL9
                    obtain ⟨⟨u0, u1, u2, u3, u4, u5, u6, u7, u8⟩, _⟩ := nine X9.blk
                    have Z := cnSt_small (n := k) (b := b) (P := ⟨#[112]⟩) (M := ⟨#[109]⟩) (ev := ev) hn2 hev0 (by omega)
                    have hS := step_ok (c := c') (n := k) (HD.out.new K9) (cnNs_len k) (X9.rd Z) Z (q := (cnQf i)) (by show (0 : Nat) ≤ _; decide) (by show (3 : Nat) ≤ _; decide) hp
                    dsimp only [cnQc, cnQf, whyB] at hS
                    have HX9 := hid X9
                    have HC9 := hid C9
                    have HK9 := hid K9
                    have hsb9 : sb < V9.heap.size := (Array.getElem?_eq_some_iff.1 X9.blk).1
                    have Htks := hid htks
                    have f1 : (r.st.status != 3) = false := by rw [hst]; rfl
                    have htl : r.st.text.toList = [119, 104, 121] := by rw [htxt]; exact (Lib.toList_data _).trans rfl
                    clear X9 C9 K9 bL9 dB Z hp hst htxt htks
                    go_upto_region 37 with (first
                      | (go_at_call 8; refine hS.mono ?_; rintro e w10 ⟨ae, ce, a6, c6, a7, c7, at_, ct, rfl, A10, K10⟩; clear hS; have hb10 := (HX9.out.new K10).blk; obtain ⟨⟨p0, p1, p2, p3, p4, p5, p6, p7, p8⟩, q0, q1, q2, q3, q4, q5, q6, q7, q8⟩ := nine hb10)
                      | fail)
                    clear p0 p1 p2 p3 p4 p5 p6 p7 p8 q0 q1 q2 q3 q4 q5 q6 q7 q8 u0 u1 u2 u3 u4 u5 u6 u7 u8 n0 n1 n2 n3 n4 n5 n6 n7 n8 d0 d1
                    obtain ⟨hbS, hTk, KS⟩ := ans_put A10 hb10 hsb9
                    have C11 := (HC9.out.kept K10 (fun h => h)).kept KS (by omega)
                    have K11 : Kept (fun _ => False) W1 (((((((((w10.setCell ⟨sb, 0, none⟩ (.string r.st.dfn)).setCell ⟨sb, 1, none⟩ (.string r.st.id)).setCell ⟨sb, 2, none⟩ (.string r.st.par)).setCell ⟨sb, 3, none⟩ (.string r.st.pnode)).setCell ⟨sb, 4, none⟩ (.int .i64 r.st.status)).setCell ⟨sb, 5, none⟩ (.string r.st.text)).setCell ⟨sb, 6, none⟩ (.slice a6 r.st.nodes.length c6)).setCell ⟨sb, 7, none⟩ (.slice a7 r.st.sigs.length c7)).setCell ⟨sb, 8, none⟩ (.int .i64 r.st.events)) := (HK9.out.and K10).trans KS (fun j h => .inr (by omega))
                    clear A10 K10 hb10 KS HX9 HC9 HK9
                    generalize (((((((((w10.setCell ⟨sb, 0, none⟩ (.string r.st.dfn)).setCell ⟨sb, 1, none⟩ (.string r.st.id)).setCell ⟨sb, 2, none⟩ (.string r.st.par)).setCell ⟨sb, 3, none⟩ (.string r.st.pnode)).setCell ⟨sb, 4, none⟩ (.int .i64 r.st.status)).setCell ⟨sb, 5, none⟩ (.string r.st.text)).setCell ⟨sb, 6, none⟩ (.slice a6 r.st.nodes.length c6)).setCell ⟨sb, 7, none⟩ (.slice a7 r.st.sigs.length c7)).setCell ⟨sb, 8, none⟩ (.int .i64 r.st.events)) = V11 at *
                    obtain ⟨⟨_, _, _, _, s4, s5, _, _, _⟩, _⟩ := nine hbS
                    have HC11 := hid C11
                    have HK11 := hid K11
                    have HTk := hid hTk
                    have HMl : Hid (r.tks.length = cntB k (fun j => b j && !(j == i)) + 1) := by show _ = _; rw [Htks.out, List.length_map, cnMs_len]; rfl
                    have hmx : r.tks.length ≤ 100 := by have h := HMl.out; have h2 := cntB_le k (fun j => b j && !(j == i)); omega
                    have hcl2 := cntB_le k (fun j => b j && !(j == i))
                    clear hbS hTk C11 K11
                    go_wp2_with fail
                    clear s4 s5 f1 htl
                    go_loopw [20, 21] (fun kq iq wr => ∃ (y : Nat), y ≤ k ∧ kq = .int .i64 (cntB y (fun j => b j && !(j == i)) : Nat) ∧ iq = .int .i64 y ∧ Kept (fun _ => False) V11 wr) (fun _ q _ => k - (intOf q).toNat)
                    case atStart => exact ⟨0, Nat.zero_le _, rfl, rfl, Kept.refl _ _⟩
                    case round =>
                      obtain ⟨y, hy, rfl, rfl, KR⟩ := hrel
                      have hcy := cntB_le y (fun j => b j && !(j == i))
                      by_cases hyk : y < k
                      · have e3 : (y : Int) < (k : Int) := by omega
                        have hy12 : (y : Int) < 12 := by omega
                        obtain ⟨cm0, fm⟩ := (HC11.out.kept KR (fun h => h)).cell y (by omega)
                        have cm : wr.cell? ⟨mb, y, none⟩ = some (.bool (b y && !(y == i))) := by rw [cm0]; simp [hyk]
                        have hsc := cntB_succ y (fun j => b j && !(j == i))
                        clear cm0 fm
                        have HKR := hid KR
                        cases hby : (b y && !(y == i)) with
                        | false =>
                          rw [hby] at cm
                          have HSc : Hid (cntB (y + 1) (fun j => b j && !(j == i)) = cntB y (fun j => b j && !(j == i))) := by show _ = _; rw [hsc]; simp [hby]
                          clear hsc KR
                          generalize hcn : cntB y (fun j => b j && !(j == i)) = cy at *
                          go_wp2_with fail
                          go_roundw
                          case rel => exact ⟨y + 1, by omega, by rw [HSc.out], by go_num, HKR.out⟩
                          case measure => simp [intOf]; omega
                        | true =>
                          rw [hby] at cm
                          have HSc : Hid (cntB (y + 1) (fun j => b j && !(j == i)) = cntB y (fun j => b j && !(j == i)) + 1) := by show _ = _; rw [hsc]; simp [hby]
                          have hlt2 : cntB y (fun j => b j && !(j == i)) < r.tks.length := by
                            have hm := mail_at (b := (fun j => b j && !(j == i))) hyk hby ⟨#[112]⟩ ⟨#[109]⟩ 3
                            rw [Htks.out, List.length_map]
                            exact (List.getElem?_eq_some_iff.1 hm).1
                          have hm := mail_at (b := (fun j => b j && !(j == i))) hyk hby ⟨#[112]⟩ ⟨#[109]⟩ 3
                          have hm2 : r.tks[cntB y (fun j => b j && !(j == i))]? = some (tkM (cnMl y)) := by rw [Htks.out, List.getElem?_map, hm]; rfl
                          have hO := ownsRow_keep HTk.out (fun g hg => KR.block g (ownsRow_blk HTk.out hg) (fun h => h))
                          obtain ⟨hct, tb, to_, rfl, t0, t1, t2, t3, t4, t5, t6⟩ := tk_mail hO hlt2 hm2
                          dsimp only [cnMl, whyB] at t0 t1 t2 t3 t4 t5 t6
                          have dB := ((HK11.out.and KR).block _ (Array.getElem?_eq_some_iff.1 HB1.out).1 (fun h => h)).trans HB1.out
                          obtain ⟨⟨d0, d1⟩, _, _⟩ := pairFz dB
                          have nmy := HNm.out wr (HK11.out.and KR) y hyk
                          have hsz : (sgName y).size = 1 := rfl
                          have hsz2 : (⟨#[102, 47]⟩ : ByteArray).size = 2 := rfl
                          have r1_ := fun W => run_cat W ⟨#[102, 47]⟩ (sgName y) (by rw [hsz, hsz2]; first | omega | (unfold maxLen; omega) | decide)
                          clear hsz hsz2
                          have e4 : ¬ ((r.tks.length : Int) ≤ (cntB y (fun j => b j && !(j == i)) : Int)) := by omega
                          have e5 : (cntB y (fun j => b j && !(j == i)) : Int) < (r.tks.length : Int) := by omega
                          have w1_ : IntKind.i64.wrap (y : Int) = (y : Int) := by rw [IntKind.wrap_i64]; omega
                          have w2_ : IntKind.i64.wrap (cntB y (fun j => b j && !(j == i)) : Int) = (cntB y (fun j => b j && !(j == i)) : Int) := by rw [IntKind.wrap_i64]; omega
                          clear hsc KR dB hO hm hm2
                          generalize hcn : cntB y (fun j => b j && !(j == i)) = cy at *
                          go_wp2_with (first | go_quiet (fail) | fail)
                          go_roundw
                          case rel => exact ⟨y + 1, by omega, by rw [HSc.out]; go_num, by go_num, HKR.out.and (Kept.drewN _ _ _)⟩
                          case measure => simp [intOf]; omega
                      · obtain rfl : k = y := by omega
                        have e3 : ¬ (k : Int) < (k : Int) := by omega
                        have hW := wakes_any wr (HM.out.kept ((HK1.out.and HK11.out).and KR) (fun h => h))
                        have HKR := hid KR
                        have hm := par_at k (fun j => b j && !(j == i)) (par := ⟨#[112]⟩) ⟨#[109]⟩ 3 (by decide)
                        have hm2 : r.tks[cntB k (fun j => b j && !(j == i))]? = some (tkM ⟨2, ⟨#[112]⟩, ⟨#[102]⟩, ⟨#[109]⟩, ⟨#[]⟩, whyB, 3⟩) := by rw [Htks.out, List.getElem?_map, hm]; rfl
                        have hO := ownsRow_keep HTk.out (fun g hg => KR.block g (ownsRow_blk HTk.out hg) (fun h => h))
                        obtain ⟨hct, tb, to_, rfl, t0, t1, t2, t3, t4, t5, t6⟩ := tk_mail hO (by have h := HMl.out; omega) hm2
                        dsimp only [whyB] at t0 t1 t2 t3 t4 t5 t6
                        have e4 : ¬ ((r.tks.length : Int) ≤ (cntB k (fun j => b j && !(j == i)) : Int)) := by have h := HMl.out; omega
                        have e5 : (cntB k (fun j => b j && !(j == i)) : Int) < (r.tks.length : Int) := by have h := HMl.out; omega
                        have e6 : (((cntB k (fun j => b j && !(j == i)) : Nat) : Int) + 1 == (r.tks.length : Int)) = true := by rw [HMl.out]; simp
                        clear hm hm2 hO KR
                        generalize hcn : cntB k (fun j => b j && !(j == i)) = cy at *
                        go_wp2_with (first
                          | (go_at_call 9; refine hW.mono ?_; rintro e w12 ⟨rfl, K12⟩; clear hW)
                          | go_quiet (fail)
                          | fail)
                        go_ret
                        exact ⟨rfl, (((HK1.out.and HK11.out).and HKR.out).and K12).none⟩
                  | false =>
                    rw [hbi] at cm
                    go_wp2_with fail
                    go_roundw
                    case rel => exact ⟨i + 1, by omega, rfl, by go_num, fun j hj => by
                      by_cases e : j = i
                      · rw [e]; exact hbi
                      · exact hno j (by omega), by first | rfl | trivial⟩
                    case measure => simp [intOf]; omega
                · exfalso
                  have hz : cntB k b = cntB k (fun _ => false) := cntB_same (fun j hj => hno j (by omega))
                  have hz2 : cntB k (fun _ => false) = 0 := by unfold cntB; simp
                  omega
      | false =>
        go_upto_region 11 with fail
        have KI := Kept.alloc (fun _ => False) W1 (.cells #[.int .i64 1, .string ⟨#[]⟩, .string ⟨#[102]⟩, .string ⟨#[]⟩, .int .i64 0, .int .i64 0, .int .i64 0, .string ⟨#[]⟩, .string ⟨#[]⟩] 34)
        have bI := heap_alloc_new W1 (.cells #[.int .i64 1, .string ⟨#[]⟩, .string ⟨#[102]⟩, .string ⟨#[]⟩, .int .i64 0, .int .i64 0, .int .i64 0, .string ⟨#[]⟩, .string ⟨#[]⟩] 34)
        have dB := (KI.block _ (Array.getElem?_eq_some_iff.1 HB1.out).1 (fun h => h)).trans HB1.out
        have HKI := hid KI
        generalize (W1.alloc (.cells #[.int .i64 1, .string ⟨#[]⟩, .string ⟨#[102]⟩, .string ⟨#[]⟩, .int .i64 0, .int .i64 0, .int .i64 0, .string ⟨#[]⟩, .string ⟨#[]⟩] 34)) = V1 at *
        obtain ⟨⟨d0, d1⟩, _, _⟩ := pairFz dB
        obtain ⟨⟨n0, n1, n2, n3, n4, n5, n6, n7, n8⟩, _⟩ := nine bI
        obtain ⟨r, hp0, htk, hrs⟩ := can_start hn1 hn2 false
        have hS := step_ok (c := c') (n := k) (HD.out.new KI) (cnNs_len k) (zeroSt_rd _) zeroSt_small (q := cnQ0 false) (by show (1 : Nat) ≤ _; decide) (by show 0 ≤ _; decide) hp0
        dsimp only [zeroSt, cnQ0, cnP, cnM] at hS
        have Hrs := hid hrs
        have htk' : ((r.tks.length : Int) != (k : Int)) = false := by rw [htk]; simp
        have hz1 := KI.size
        clear hp0 hrs KI dB bI htk
        go_upto_region 12 with (first
          | (go_at_call 8; refine hS.mono ?_; rintro e w4 ⟨ae, ce, a6, c6, a7, c7, at_, ct, rfl, A4, K4⟩; clear hS)
          | fail)
        have KA4 := Kept.alloc (fun _ => False) w4 (.cells #[.string r.st.dfn, .string r.st.id, .string r.st.par, .string r.st.pnode, .int .i64 r.st.status, .string r.st.text, .slice a6 r.st.nodes.length c6, .slice a7 r.st.sigs.length c7, .int .i64 r.st.events] 39)
        have KV := K4.and KA4
        have X0 := ans_sbox (sb := w4.heap.size) A4 (fun g h1 h2 => by omega)
        have hz4 := K4.size
        have hsb1 : W1.heap.size ≤ w4.heap.size := by omega
        generalize hsb : w4.heap.size = sb at *
        have HX0 : Hid (SBox (w4.alloc (.cells #[.string r.st.dfn, .string r.st.id, .string r.st.par, .string r.st.pnode, .int .i64 r.st.status, .string r.st.text, .slice a6 r.st.nodes.length c6, .slice a7 r.st.sigs.length c7, .int .i64 r.st.events] 39)) sb sb (cnSt k (fun _ => true) ⟨#[]⟩ ⟨#[]⟩ ((1 + k : Nat) : Int)) a6 c6 a7 c7) := by
          have h := X0
          show SBox _ _ _ _ _ _ _ _
          rw [Hrs.out] at h ⊢
          exact h
        have HKV := hid (HKI.out.and KV)
        clear A4 K4 KA4 KV X0 d0 d1 hsb n0 n1 n2 n3 n4 n5 n6 n7 n8 hz1 hz4
        generalize (w4.alloc (.cells #[.string r.st.dfn, .string r.st.id, .string r.st.par, .string r.st.pnode, .int .i64 r.st.status, .string r.st.text, .slice a6 r.st.nodes.length c6, .slice a7 r.st.sigs.length c7, .int .i64 r.st.events] 39)) = V4 at *
        go_upto_region 16 with fail
        have HC0 := hid (barrNew V4)
        have KA5 := Kept.alloc (fun _ => False) V4 (.cells #[.bool false, .bool false, .bool false, .bool false, .bool false, .bool false, .bool false, .bool false, .bool false, .bool false, .bool false, .bool false] 44)
        have HX1 := hid (HX0.out.new KA5)
        have HKV1 := hid (HKV.out.and KA5)
        have hmb1 : sb < V4.heap.size := (Array.getElem?_eq_some_iff.1 HX0.out.blk).1
        clear KA5 HX0 HKV
        generalize (V4.alloc (.cells #[.bool false, .bool false, .bool false, .bool false, .bool false, .bool false, .bool false, .bool false, .bool false, .bool false, .bool false, .bool false] 44)) = V5 at *
        generalize V4.heap.size = mb at *
        go_wp2_with fail
        go_loopw [14, 16] (fun lq iq wr => ∃ (i L : Nat) (b : Nat → Bool) (ev : Int) (a6 : Option Addr) (c6 : Nat) (a7 : Option Addr) (c7 : Nat), i ≤ k ∧ lq = .int .i64 L ∧ iq = .int .i64 i ∧ 1 ≤ L ∧ L ≤ cntB k b ∧ (∀ j, i ≤ j → b j = true) ∧ 0 ≤ ev ∧ ev ≤ 20 + i ∧ BArr wr mb (fun j => decide (j < i) && b j) ∧ SBox wr sb sb (cnSt k b ⟨#[]⟩ ⟨#[]⟩ ev) a6 c6 a7 c7 ∧ Kept (fun _ => False) W1 wr) (fun _ q _ => k - (intOf q).toNat)
        case atStart => exact ⟨0, k, fun _ => true, ((1 + k : Nat) : Int), a6, c6, a7, c7, Nat.zero_le _, rfl, rfl, hn1, by rw [cntB_all]; exact Nat.le_refl _, fun _ _ => rfl, by omega, by omega, HC0.out.same (fun j _ => by simp), HX1.out, HKV1.out⟩
        case round =>
          clear HC0 HX1 HKV1 HKI
          obtain ⟨i, L, b, ev, a6, c6, a7, c7, hi, rfl, rfl, hL1, hL, hbi, hev0, hev1, C, X, K⟩ := hrel
          have hcl := cntB_le k b
          by_cases hlt : i < k
          · have e1 : (i : Int) < (k : Int) := by omega
            have hi12 : (i : Int) < 12 := by omega
            obtain ⟨cm, fm⟩ := C.cell i (by omega)
            have hbt := hbi i (Nat.le_refl _)
            have C6 := (C.set i true).same (g := fun j => decide (j < i + 1) && b j) (fun j hj => by
              by_cases e : j = i
              · subst e; simp [hbt]
              · have h1 : decide (j < i + 1) = decide (j < i) := by
                  by_cases h : j < i
                  · simp [h]; omega
                  · have : ¬ j < i + 1 := by omega
                    simp [h, this]
                simp [e, h1])
            have KS := Kept.setCell (S := fun j => j = mb) wr ⟨mb, i, none⟩ (.bool true) rfl
            have X6 := X.mark C KS
            have K6 : Kept (fun _ => False) W1 (wr.setCell ⟨mb, i, none⟩ (.bool true)) := K.trans KS (fun j h => .inr (by omega))
            clear C X K KS
            go_upto_region 20 with fail
            clear cm fm
            generalize (wr.setCell ⟨mb, i, none⟩ (.bool true)) = V6 at *
            by_cases hcond : (i < len ∧ B i = true) ∧ 1 < L
            · obtain ⟨⟨hil, hBi⟩, hL2⟩ := hcond
              have e2 : (i : Int) < (len : Int) := by omega
              have e3 : (1 : Int) < (L : Int) := by omega
              obtain ⟨bb, bo, rfl, hbc⟩ : ∃ b o, a = some ⟨b, o, none⟩ ∧ ∀ i, i < len → w.cell? ⟨b, o + i, none⟩ = some (.bool (B i)) := by
                rcases HBo.out with h | h
                · omega
                · exact h
              have b1 := keepC (HK1.out.and K6) (hbc i hil) (fun _ _ h => h)
              rw [hBi] at b1
              clear hbc
              go_upto_region 21 with fail
              obtain ⟨j, hj, hbj, hji⟩ := other_busy (i := i) (show 1 < cntB k b by omega)
              obtain ⟨r2, hp, hr2⟩ := can_done (par := ⟨#[]⟩) (pn := ⟨#[]⟩) (ev := ev) hn2 hlt hbt hj hbj hji
              have Z := cnSt_small (n := k) (b := b) (P := ⟨#[]⟩) (M := ⟨#[]⟩) (ev := ev) hn2 hev0 (by omega)
              have KD := Kept.drew (fun _ => False) V6
              have hC := step_ok (c := c') (n := k) (HD.out.new (K6.and KD)) (cnNs_len k) ((X6.new KD).rd Z) Z (q := cnQd i) (by show (0 : Nat) ≤ _; decide) (by show (0 : Nat) ≤ _; decide) hp
              dsimp only [cnQd] at hC
              have dB := (K6.block _ (Array.getElem?_eq_some_iff.1 HB1.out).1 (fun h => h)).trans HB1.out
              obtain ⟨⟨d0, d1⟩, _, _⟩ := pairFz dB
              have nm0 := HNm.out V6 K6 i hlt
              have HC6 := hid C6
              have HK6 := hid K6
              refine wp_onlyN (cn21 _ d0 d1 nm0 X6.blk (by omega) (by omega) hlt hC ?_)
              intro v92 v93 v94 v95 v96 v97 v98 v99 v100 v101 v102 v103 v104 v105 v106 e6 f6 e7 f7 W7 X7 K7
              clear d0 d1 nm0 hC dB KD Z hp X6 K6 C6 b1
              have C7 := HC6.out.kept K7 (by omega)
              obtain ⟨cm, fm⟩ := C7.cell i (by omega)
              have KS := Kept.setCell (S := fun j => j = mb) W7 ⟨mb, i, none⟩ (.bool false) rfl
              have HX8 : Hid (SBox (W7.setCell ⟨mb, i, none⟩ (.bool false)) sb sb (cnSt k (fun j => b j && !(j == i)) ⟨#[]⟩ ⟨#[]⟩ (ev + 1)) e6 f6 e7 f7) := by
                have h := X7.mark C7 KS
                show SBox _ _ _ _ _ _ _ _
                rw [hr2] at h
                exact h
              have HC8 : Hid (BArr (W7.setCell ⟨mb, i, none⟩ (.bool false)) mb (fun j => decide (j < i + 1) && (b j && !(j == i)))) := (C7.set i false).same (fun j hj => by
                by_cases e : j = i
                · subst e; simp
                · have h1 : (j == i) = false := by simpa using e
                  rw [if_neg e, h1]
                  simp)
              have HK8 : Hid (Kept (fun _ => False) W1 (W7.setCell ⟨mb, i, none⟩ (.bool false))) := (HK6.out.trans K7 (fun j h => .inr (by omega))).trans KS (fun j h => .inr (by omega))
              have hcn := cntB_less i b k
              rw [if_pos hlt] at hcn
              clear X7 K7 C7 KS hr2
              go_wp2_with fail
              go_roundw
              case rel => exact ⟨i + 1, L - 1, fun j => b j && !(j == i), ev + 1, e6, f6, e7, f7, by omega, by go_num, by go_num, by omega, by omega, fun j hj => by show (b j && !(j == i)) = true; rw [hbi j (by omega), show (j == i) = false by simp; omega]; rfl, by omega, by omega, HC8.out, HX8.out, HK8.out⟩
              case measure => simp [intOf]; omega
            · have HC6 := hid C6
              have HX6 := hid X6
              have HK6 := hid K6
              by_cases hil : i < len
              · have e2 : (i : Int) < (len : Int) := by omega
                obtain ⟨bb, bo, rfl, hbc⟩ : ∃ b o, a = some ⟨b, o, none⟩ ∧ ∀ i, i < len → w.cell? ⟨b, o + i, none⟩ = some (.bool (B i)) := by
                  rcases HBo.out with h | h
                  · omega
                  · exact h
                have b1 := keepC (HK1.out.and K6) (hbc i hil) (fun _ _ h => h)
                clear hbc C6 X6 K6
                cases hBi : B i with
                | true =>
                  have e3 : ¬ (1 : Int) < (L : Int) := by
                    have : ¬ 1 < L := fun h => hcond ⟨⟨hil, hBi⟩, h⟩
                    omega
                  rw [hBi] at b1
                  clear hcond hBi
                  go_wp2_with fail
                  go_roundw
                  case rel => exact ⟨i + 1, L, b, ev, a6, c6, a7, c7, by omega, rfl, by go_num, hL1, hL, fun j hj => hbi j (by omega), hev0, by omega, HC6.out, HX6.out, HK6.out⟩
                  case measure => simp [intOf]; omega
                | false =>
                  rw [hBi] at b1
                  clear hcond hBi
                  go_wp2_with fail
                  go_roundw
                  case rel => exact ⟨i + 1, L, b, ev, a6, c6, a7, c7, by omega, rfl, by go_num, hL1, hL, fun j hj => hbi j (by omega), hev0, by omega, HC6.out, HX6.out, HK6.out⟩
                  case measure => simp [intOf]; omega
              · have e2 : ¬ (i : Int) < (len : Int) := by omega
                clear hcond C6 X6 K6
                go_wp2_with fail
                go_roundw
                case rel => exact ⟨i + 1, L, b, ev, a6, c6, a7, c7, by omega, rfl, by go_num, hL1, hL, fun j hj => hbi j (by omega), hev0, by omega, HC6.out, HX6.out, HK6.out⟩
                case measure => simp [intOf]; omega
          · obtain rfl : k = i := by omega
            have e1 : ¬ (k : Int) < (k : Int) := by omega
            clear hbi
            have HC := hid C
            have HX := hid X
            have HK := hid K
            have hmbw := C.lt
            have hsbw : sb < wr.heap.size := (Array.getElem?_eq_some_iff.1 X.blk).1
            have hzw := K.size
            clear C X K
            go_upto_region 28 with fail
            have KL := Kept.alloc (fun _ => False) wr (.cells #[.int .i64 8, .string ⟨#[]⟩, .string ⟨#[]⟩, .string ⟨#[119, 104, 121]⟩, .int .i64 0, .int .i64 0, .int .i64 0, .string ⟨#[]⟩, .string ⟨#[]⟩] 34)
            have bL := heap_alloc_new wr (.cells #[.int .i64 8, .string ⟨#[]⟩, .string ⟨#[]⟩, .string ⟨#[119, 104, 121]⟩, .int .i64 0, .int .i64 0, .int .i64 0, .string ⟨#[]⟩, .string ⟨#[]⟩] 34)
            have HKL := hid KL
            have C8 := HC.out.kept KL (fun h => h)
            have X8 := HX.out.new KL
            have K8 := HK.out.and KL
            generalize (wr.alloc (.cells #[.int .i64 8, .string ⟨#[]⟩, .string ⟨#[]⟩, .string ⟨#[119, 104, 121]⟩, .int .i64 0, .int .i64 0, .int .i64 0, .string ⟨#[]⟩, .string ⟨#[]⟩] 34)) = V8 at *
            generalize hlb : wr.heap.size = lb at *
            have hlb' := hid hlb
            clear KL hlb
            cases fails with
            | false =>
              obtain ⟨r, hp, hst, htxt, htks⟩ := can_cancel (n := k) (busy := b) (par := ⟨#[]⟩) (pn := ⟨#[]⟩) (ev := ev)
              have V9e : V8 = V8 := rfl
              have X9 := X8
              have C9 := C8
              have K9 := K8
              have bL9 := bL
              clear V9e X8 C8 K8 bL
              have dB := (K9.block _ (Array.getElem?_eq_some_iff.1 HB1.out).1 (fun h => h)).trans HB1.out
              obtain ⟨⟨d0, d1⟩, _, _⟩ := pairFz dB
              obtain ⟨⟨n0, n1, n2, n3, n4, n5, n6, n7, n8⟩, _⟩ := nine bL9
              obtain ⟨⟨u0, u1, u2, u3, u4, u5, u6, u7, u8⟩, _⟩ := nine X9.blk
              have Z := cnSt_small (n := k) (b := b) (P := ⟨#[]⟩) (M := ⟨#[]⟩) (ev := ev) hn2 hev0 (by omega)
              have hS := step_ok (c := c') (n := k) (HD.out.new K9) (cnNs_len k) (X9.rd Z) Z (q := cnQc) (by show (0 : Nat) ≤ _; decide) (by show (3 : Nat) ≤ _; decide) hp
              dsimp only [cnQc, cnQf, whyB] at hS
              have HX9 := hid X9
              have HC9 := hid C9
              have HK9 := hid K9
              have hsb9 : sb < V8.heap.size := (Array.getElem?_eq_some_iff.1 X9.blk).1
              have Htks := hid htks
              have f1 : (r.st.status != 4) = false := by rw [hst]; rfl
              have htl : r.st.text.toList = [119, 104, 121] := by rw [htxt]; exact (Lib.toList_data _).trans rfl
              clear X9 C9 K9 bL9 dB Z hp hst htxt htks
              go_upto_region 37 with (first
                | (go_at_call 8; refine hS.mono ?_; rintro e w10 ⟨ae, ce, a6, c6, a7, c7, at_, ct, rfl, A10, K10⟩; clear hS; have hb10 := (HX9.out.new K10).blk; obtain ⟨⟨p0, p1, p2, p3, p4, p5, p6, p7, p8⟩, q0, q1, q2, q3, q4, q5, q6, q7, q8⟩ := nine hb10)
                | fail)
              clear p0 p1 p2 p3 p4 p5 p6 p7 p8 q0 q1 q2 q3 q4 q5 q6 q7 q8 u0 u1 u2 u3 u4 u5 u6 u7 u8 n0 n1 n2 n3 n4 n5 n6 n7 n8 d0 d1
              obtain ⟨hbS, hTk, KS⟩ := ans_put A10 hb10 hsb9
              have C11 := (HC9.out.kept K10 (fun h => h)).kept KS (by omega)
              have K11 : Kept (fun _ => False) W1 (((((((((w10.setCell ⟨sb, 0, none⟩ (.string r.st.dfn)).setCell ⟨sb, 1, none⟩ (.string r.st.id)).setCell ⟨sb, 2, none⟩ (.string r.st.par)).setCell ⟨sb, 3, none⟩ (.string r.st.pnode)).setCell ⟨sb, 4, none⟩ (.int .i64 r.st.status)).setCell ⟨sb, 5, none⟩ (.string r.st.text)).setCell ⟨sb, 6, none⟩ (.slice a6 r.st.nodes.length c6)).setCell ⟨sb, 7, none⟩ (.slice a7 r.st.sigs.length c7)).setCell ⟨sb, 8, none⟩ (.int .i64 r.st.events)) := (HK9.out.and K10).trans KS (fun j h => .inr (by omega))
              clear A10 K10 hb10 KS HX9 HC9 HK9
              generalize (((((((((w10.setCell ⟨sb, 0, none⟩ (.string r.st.dfn)).setCell ⟨sb, 1, none⟩ (.string r.st.id)).setCell ⟨sb, 2, none⟩ (.string r.st.par)).setCell ⟨sb, 3, none⟩ (.string r.st.pnode)).setCell ⟨sb, 4, none⟩ (.int .i64 r.st.status)).setCell ⟨sb, 5, none⟩ (.string r.st.text)).setCell ⟨sb, 6, none⟩ (.slice a6 r.st.nodes.length c6)).setCell ⟨sb, 7, none⟩ (.slice a7 r.st.sigs.length c7)).setCell ⟨sb, 8, none⟩ (.int .i64 r.st.events)) = V11 at *
              obtain ⟨⟨_, _, _, _, s4, s5, _, _, _⟩, _⟩ := nine hbS
              have HC11 := hid C11
              have HK11 := hid K11
              have HTk := hid hTk
              have HMl : Hid (r.tks.length = cntB k b + 0) := by show _ = _; rw [Htks.out, List.length_map, cnMs_len]; rfl
              have hmx : r.tks.length ≤ 100 := by have h := HMl.out; have h2 := cntB_le k b; omega
              have hcl2 := cntB_le k b
              clear hbS hTk C11 K11
              go_wp2_with fail
              clear s4 s5 f1 htl
              go_loopw [20, 21] (fun kq iq wr => ∃ (y : Nat), y ≤ k ∧ kq = .int .i64 (cntB y b : Nat) ∧ iq = .int .i64 y ∧ Kept (fun _ => False) V11 wr) (fun _ q _ => k - (intOf q).toNat)
              case atStart => exact ⟨0, Nat.zero_le _, rfl, rfl, Kept.refl _ _⟩
              case round =>
                obtain ⟨y, hy, rfl, rfl, KR⟩ := hrel
                have hcy := cntB_le y b
                by_cases hyk : y < k
                · have e3 : (y : Int) < (k : Int) := by omega
                  have hy12 : (y : Int) < 12 := by omega
                  obtain ⟨cm0, fm⟩ := (HC11.out.kept KR (fun h => h)).cell y (by omega)
                  have cm : wr.cell? ⟨mb, y, none⟩ = some (.bool (b y)) := by rw [cm0]; simp [hyk]
                  have hsc := cntB_succ y b
                  clear cm0 fm
                  have HKR := hid KR
                  cases hby : (b y) with
                  | false =>
                    rw [hby] at cm
                    have HSc : Hid (cntB (y + 1) b = cntB y b) := by show _ = _; rw [hsc]; simp [hby]
                    clear hsc KR
                    generalize hcn : cntB y b = cy at *
                    go_wp2_with fail
                    go_roundw
                    case rel => exact ⟨y + 1, by omega, by rw [HSc.out], by go_num, HKR.out⟩
                    case measure => simp [intOf]; omega
                  | true =>
                    rw [hby] at cm
                    have HSc : Hid (cntB (y + 1) b = cntB y b + 1) := by show _ = _; rw [hsc]; simp [hby]
                    have hlt2 : cntB y b < r.tks.length := by
                      have hm := mail_at (b := b) hyk hby ⟨#[]⟩ ⟨#[]⟩ 4
                      rw [Htks.out, List.length_map]
                      exact (List.getElem?_eq_some_iff.1 hm).1
                    have hm := mail_at (b := b) hyk hby ⟨#[]⟩ ⟨#[]⟩ 4
                    have hm2 : r.tks[cntB y b]? = some (tkM (cnMl y)) := by rw [Htks.out, List.getElem?_map, hm]; rfl
                    have hO := ownsRow_keep HTk.out (fun g hg => KR.block g (ownsRow_blk HTk.out hg) (fun h => h))
                    obtain ⟨hct, tb, to_, rfl, t0, t1, t2, t3, t4, t5, t6⟩ := tk_mail hO hlt2 hm2
                    dsimp only [cnMl, whyB] at t0 t1 t2 t3 t4 t5 t6
                    have dB := ((HK11.out.and KR).block _ (Array.getElem?_eq_some_iff.1 HB1.out).1 (fun h => h)).trans HB1.out
                    obtain ⟨⟨d0, d1⟩, _, _⟩ := pairFz dB
                    have nmy := HNm.out wr (HK11.out.and KR) y hyk
                    have hsz : (sgName y).size = 1 := rfl
                    have hsz2 : (⟨#[102, 47]⟩ : ByteArray).size = 2 := rfl
                    have r1_ := fun W => run_cat W ⟨#[102, 47]⟩ (sgName y) (by rw [hsz, hsz2]; first | omega | (unfold maxLen; omega) | decide)
                    clear hsz hsz2
                    have e4 : ¬ ((r.tks.length : Int) ≤ (cntB y b : Int)) := by omega
                    have e5 : (cntB y b : Int) < (r.tks.length : Int) := by omega
                    have w1_ : IntKind.i64.wrap (y : Int) = (y : Int) := by rw [IntKind.wrap_i64]; omega
                    have w2_ : IntKind.i64.wrap (cntB y b : Int) = (cntB y b : Int) := by rw [IntKind.wrap_i64]; omega
                    clear hsc KR dB hO hm hm2
                    generalize hcn : cntB y b = cy at *
                    go_wp2_with (first | go_quiet (fail) | fail)
                    go_roundw
                    case rel => exact ⟨y + 1, by omega, by rw [HSc.out]; go_num, by go_num, HKR.out.and (Kept.drewN _ _ _)⟩
                    case measure => simp [intOf]; omega
                · obtain rfl : k = y := by omega
                  have e3 : ¬ (k : Int) < (k : Int) := by omega
                  have hW := wakes_any wr (HM.out.kept ((HK1.out.and HK11.out).and KR) (fun h => h))
                  have HKR := hid KR
                  have e6 : (((cntB k b : Nat) : Int) == (r.tks.length : Int)) = true := by rw [HMl.out]; simp
                  clear KR
                  generalize hcn : cntB k b = cy at *
                  go_wp2_with (first
                    | (go_at_call 9; refine hW.mono ?_; rintro e w12 ⟨rfl, K12⟩; clear hW)
                    | fail)
                  go_ret
                  exact ⟨rfl, (((HK1.out.and HK11.out).and HKR.out).and K12).none⟩
            | true =>
              have HC8 := hid C8
              have HbL := hid bL
              have HK8 := hid K8
              clear X8 C8 K8 bL
              go_wp2_with fail
              go_loopw [18, 19] (fun sq iq wr => ∃ (i : Nat), i ≤ k ∧ sq = .int .i64 4 ∧ iq = .int .i64 i ∧ (∀ j, j < i → b j = false) ∧ V8 = wr) (fun _ q _ => k - (intOf q).toNat)
              case atStart => exact ⟨0, Nat.zero_le _, rfl, rfl, fun j hj => by omega, rfl⟩
              case round =>
                obtain ⟨i, hi2, rfl, rfl, hno, hw⟩ := hrel
                subst hw
                by_cases hlt : i < k
                · have e2 : (i : Int) < (k : Int) := by omega
                  have hi12 : (i : Int) < 12 := by omega
                  obtain ⟨cm0, fm⟩ := HC8.out.cell i (by omega)
                  have cm : V8.cell? ⟨mb, i, none⟩ = some (.bool (b i)) := by rw [cm0]; simp [hlt]
                  clear cm0
                  cases hbi : b i with
                  | true =>
                    rw [hbi] at cm
                    have KS1 := Kept.setCell (S := fun j => j = mb) V8 ⟨mb, i, none⟩ (.bool false) rfl
                    have bL1 := (KS1.block _ (Array.getElem?_eq_some_iff.1 HbL.out).1 (by omega)).trans HbL.out
                    have dB8 := (HK8.out.block _ (Array.getElem?_eq_some_iff.1 HB1.out).1 (fun h => h)).trans HB1.out
                    have dB1 := (KS1.block _ (Array.getElem?_eq_some_iff.1 dB8).1 (by omega)).trans dB8
                    obtain ⟨⟨d0, d1⟩, _, _⟩ := pairFz dB1
                    have nmW : Kept (fun _ => False) W1 (V8.setCell ⟨mb, i, none⟩ (.bool false)) := HK8.out.trans KS1 (fun j h => .inr (by omega))
                    have nm1 := HNm.out _ nmW i hlt
                    obtain ⟨⟨l0, l1, l2, l3, l4, l5, l6, l7, l8⟩, m0, m1, m2, m3, m4, m5, m6, m7, m8⟩ := nine bL1
                    have bL9 := put9 bL1 (.int .i64 7) (.string (sgName i)) (.string ⟨#[]⟩) (.string ⟨#[119, 104, 121]⟩) (.int .i64 0) (.int .i64 3) (.int .i64 0) (.string ⟨#[]⟩) (.string ⟨#[]⟩)
                    have KS2 := kept9 (S := fun j => j = lb) (V8.setCell ⟨mb, i, none⟩ (.bool false)) rfl (.int .i64 7) (.string (sgName i)) (.string ⟨#[]⟩) (.string ⟨#[119, 104, 121]⟩) (.int .i64 0) (.int .i64 3) (.int .i64 0) (.string ⟨#[]⟩) (.string ⟨#[]⟩)
                    have HbL9 := hid bL9
                    have HKS1 := hid KS1
                    have HKS2 := hid KS2
                    clear KS1 KS2 bL1 dB8 dB1 nmW bL9
                    go_upto_region 36 with fail
                    clear l0 l1 l2 l3 l4 l5 l6 l7 l8 m0 m1 m2 m3 m4 m5 m6 m7 m8 d0 d1 nm1 cm fm
                    have hlbw := hlb'.out
                    have KV9 : Kept (fun j => j = mb) wr ((((((((((V8.setCell ⟨mb, i, none⟩ (.bool false)).setCell ⟨lb, 0, none⟩ (.int .i64 7)).setCell ⟨lb, 1, none⟩ (.string (sgName i))).setCell ⟨lb, 2, none⟩ (.string ⟨#[]⟩)).setCell ⟨lb, 3, none⟩ (.string ⟨#[119, 104, 121]⟩)).setCell ⟨lb, 4, none⟩ (.int .i64 0)).setCell ⟨lb, 5, none⟩ (.int .i64 3)).setCell ⟨lb, 6, none⟩ (.int .i64 0)).setCell ⟨lb, 7, none⟩ (.string ⟨#[]⟩)).setCell ⟨lb, 8, none⟩ (.string ⟨#[]⟩)) := ((HKL.out.mono (fun _ h => h.elim)).and HKS1.out).trans HKS2.out (fun j h => .inr (by omega))
                    have X9 := HX.out.mark HC.out KV9
                    have C9 := (((HC8.out.set i false).same (g := fun j => decide (j < k) && (b j && !(j == i))) (fun j hj => by
                      by_cases e : j = i
                      · subst e; simp
                      · have h1 : (j == i) = false := by simpa using e
                        rw [if_neg e, h1]
                        simp))).kept HKS2.out (by omega)
                    have K9 : Kept (fun _ => False) W1 ((((((((((V8.setCell ⟨mb, i, none⟩ (.bool false)).setCell ⟨lb, 0, none⟩ (.int .i64 7)).setCell ⟨lb, 1, none⟩ (.string (sgName i))).setCell ⟨lb, 2, none⟩ (.string ⟨#[]⟩)).setCell ⟨lb, 3, none⟩ (.string ⟨#[119, 104, 121]⟩)).setCell ⟨lb, 4, none⟩ (.int .i64 0)).setCell ⟨lb, 5, none⟩ (.int .i64 3)).setCell ⟨lb, 6, none⟩ (.int .i64 0)).setCell ⟨lb, 7, none⟩ (.string ⟨#[]⟩)).setCell ⟨lb, 8, none⟩ (.string ⟨#[]⟩)) := HK.out.trans KV9 (fun j h => .inr (by omega))
                    have bL9 := HbL9.out
                    clear KV9 HbL9 HKS1 HKS2
                    generalize ((((((((((V8.setCell ⟨mb, i, none⟩ (.bool false)).setCell ⟨lb, 0, none⟩ (.int .i64 7)).setCell ⟨lb, 1, none⟩ (.string (sgName i))).setCell ⟨lb, 2, none⟩ (.string ⟨#[]⟩)).setCell ⟨lb, 3, none⟩ (.string ⟨#[119, 104, 121]⟩)).setCell ⟨lb, 4, none⟩ (.int .i64 0)).setCell ⟨lb, 5, none⟩ (.int .i64 3)).setCell ⟨lb, 6, none⟩ (.int .i64 0)).setCell ⟨lb, 7, none⟩ (.string ⟨#[]⟩)).setCell ⟨lb, 8, none⟩ (.string ⟨#[]⟩)) = V9 at *
                    obtain ⟨r, hp, hst, htxt, htks⟩ := can_fail (n := k) (busy := b) (par := ⟨#[]⟩) (pn := ⟨#[]⟩) (ev := ev) hn2 hlt hbi
                    have dB := (K9.block _ (Array.getElem?_eq_some_iff.1 HB1.out).1 (fun h => h)).trans HB1.out
                    obtain ⟨⟨d0, d1⟩, _, _⟩ := pairFz dB
                    obtain ⟨⟨n0, n1, n2, n3, n4, n5, n6, n7, n8⟩, _⟩ := nine bL9
                    obtain ⟨⟨u0, u1, u2, u3, u4, u5, u6, u7, u8⟩, _⟩ := nine X9.blk
                    have Z := cnSt_small (n := k) (b := b) (P := ⟨#[]⟩) (M := ⟨#[]⟩) (ev := ev) hn2 hev0 (by omega)
                    have hS := step_ok (c := c') (n := k) (HD.out.new K9) (cnNs_len k) (X9.rd Z) Z (q := (cnQf i)) (by show (0 : Nat) ≤ _; decide) (by show (3 : Nat) ≤ _; decide) hp
                    dsimp only [cnQc, cnQf, whyB] at hS
                    have HX9 := hid X9
                    have HC9 := hid C9
                    have HK9 := hid K9
                    have hsb9 : sb < V9.heap.size := (Array.getElem?_eq_some_iff.1 X9.blk).1
                    have Htks := hid htks
                    have f1 : (r.st.status != 3) = false := by rw [hst]; rfl
                    have htl : r.st.text.toList = [119, 104, 121] := by rw [htxt]; exact (Lib.toList_data _).trans rfl
                    clear X9 C9 K9 bL9 dB Z hp hst htxt htks
                    go_upto_region 37 with (first
                      | (go_at_call 8; refine hS.mono ?_; rintro e w10 ⟨ae, ce, a6, c6, a7, c7, at_, ct, rfl, A10, K10⟩; clear hS; have hb10 := (HX9.out.new K10).blk; obtain ⟨⟨p0, p1, p2, p3, p4, p5, p6, p7, p8⟩, q0, q1, q2, q3, q4, q5, q6, q7, q8⟩ := nine hb10)
                      | fail)
                    clear p0 p1 p2 p3 p4 p5 p6 p7 p8 q0 q1 q2 q3 q4 q5 q6 q7 q8 u0 u1 u2 u3 u4 u5 u6 u7 u8 n0 n1 n2 n3 n4 n5 n6 n7 n8 d0 d1
                    obtain ⟨hbS, hTk, KS⟩ := ans_put A10 hb10 hsb9
                    have C11 := (HC9.out.kept K10 (fun h => h)).kept KS (by omega)
                    have K11 : Kept (fun _ => False) W1 (((((((((w10.setCell ⟨sb, 0, none⟩ (.string r.st.dfn)).setCell ⟨sb, 1, none⟩ (.string r.st.id)).setCell ⟨sb, 2, none⟩ (.string r.st.par)).setCell ⟨sb, 3, none⟩ (.string r.st.pnode)).setCell ⟨sb, 4, none⟩ (.int .i64 r.st.status)).setCell ⟨sb, 5, none⟩ (.string r.st.text)).setCell ⟨sb, 6, none⟩ (.slice a6 r.st.nodes.length c6)).setCell ⟨sb, 7, none⟩ (.slice a7 r.st.sigs.length c7)).setCell ⟨sb, 8, none⟩ (.int .i64 r.st.events)) := (HK9.out.and K10).trans KS (fun j h => .inr (by omega))
                    clear A10 K10 hb10 KS HX9 HC9 HK9
                    generalize (((((((((w10.setCell ⟨sb, 0, none⟩ (.string r.st.dfn)).setCell ⟨sb, 1, none⟩ (.string r.st.id)).setCell ⟨sb, 2, none⟩ (.string r.st.par)).setCell ⟨sb, 3, none⟩ (.string r.st.pnode)).setCell ⟨sb, 4, none⟩ (.int .i64 r.st.status)).setCell ⟨sb, 5, none⟩ (.string r.st.text)).setCell ⟨sb, 6, none⟩ (.slice a6 r.st.nodes.length c6)).setCell ⟨sb, 7, none⟩ (.slice a7 r.st.sigs.length c7)).setCell ⟨sb, 8, none⟩ (.int .i64 r.st.events)) = V11 at *
                    obtain ⟨⟨_, _, _, _, s4, s5, _, _, _⟩, _⟩ := nine hbS
                    have HC11 := hid C11
                    have HK11 := hid K11
                    have HTk := hid hTk
                    have HMl : Hid (r.tks.length = cntB k (fun j => b j && !(j == i)) + 0) := by show _ = _; rw [Htks.out, List.length_map, cnMs_len]; rfl
                    have hmx : r.tks.length ≤ 100 := by have h := HMl.out; have h2 := cntB_le k (fun j => b j && !(j == i)); omega
                    have hcl2 := cntB_le k (fun j => b j && !(j == i))
                    clear hbS hTk C11 K11
                    go_wp2_with fail
                    clear s4 s5 f1 htl
                    go_loopw [20, 21] (fun kq iq wr => ∃ (y : Nat), y ≤ k ∧ kq = .int .i64 (cntB y (fun j => b j && !(j == i)) : Nat) ∧ iq = .int .i64 y ∧ Kept (fun _ => False) V11 wr) (fun _ q _ => k - (intOf q).toNat)
                    case atStart => exact ⟨0, Nat.zero_le _, rfl, rfl, Kept.refl _ _⟩
                    case round =>
                      obtain ⟨y, hy, rfl, rfl, KR⟩ := hrel
                      have hcy := cntB_le y (fun j => b j && !(j == i))
                      by_cases hyk : y < k
                      · have e3 : (y : Int) < (k : Int) := by omega
                        have hy12 : (y : Int) < 12 := by omega
                        obtain ⟨cm0, fm⟩ := (HC11.out.kept KR (fun h => h)).cell y (by omega)
                        have cm : wr.cell? ⟨mb, y, none⟩ = some (.bool (b y && !(y == i))) := by rw [cm0]; simp [hyk]
                        have hsc := cntB_succ y (fun j => b j && !(j == i))
                        clear cm0 fm
                        have HKR := hid KR
                        cases hby : (b y && !(y == i)) with
                        | false =>
                          rw [hby] at cm
                          have HSc : Hid (cntB (y + 1) (fun j => b j && !(j == i)) = cntB y (fun j => b j && !(j == i))) := by show _ = _; rw [hsc]; simp [hby]
                          clear hsc KR
                          generalize hcn : cntB y (fun j => b j && !(j == i)) = cy at *
                          go_wp2_with fail
                          go_roundw
                          case rel => exact ⟨y + 1, by omega, by rw [HSc.out], by go_num, HKR.out⟩
                          case measure => simp [intOf]; omega
                        | true =>
                          rw [hby] at cm
                          have HSc : Hid (cntB (y + 1) (fun j => b j && !(j == i)) = cntB y (fun j => b j && !(j == i)) + 1) := by show _ = _; rw [hsc]; simp [hby]
                          have hlt2 : cntB y (fun j => b j && !(j == i)) < r.tks.length := by
                            have hm := mail_at (b := (fun j => b j && !(j == i))) hyk hby ⟨#[]⟩ ⟨#[]⟩ 3
                            rw [Htks.out, List.length_map]
                            exact (List.getElem?_eq_some_iff.1 hm).1
                          have hm := mail_at (b := (fun j => b j && !(j == i))) hyk hby ⟨#[]⟩ ⟨#[]⟩ 3
                          have hm2 : r.tks[cntB y (fun j => b j && !(j == i))]? = some (tkM (cnMl y)) := by rw [Htks.out, List.getElem?_map, hm]; rfl
                          have hO := ownsRow_keep HTk.out (fun g hg => KR.block g (ownsRow_blk HTk.out hg) (fun h => h))
                          obtain ⟨hct, tb, to_, rfl, t0, t1, t2, t3, t4, t5, t6⟩ := tk_mail hO hlt2 hm2
                          dsimp only [cnMl, whyB] at t0 t1 t2 t3 t4 t5 t6
                          have dB := ((HK11.out.and KR).block _ (Array.getElem?_eq_some_iff.1 HB1.out).1 (fun h => h)).trans HB1.out
                          obtain ⟨⟨d0, d1⟩, _, _⟩ := pairFz dB
                          have nmy := HNm.out wr (HK11.out.and KR) y hyk
                          have hsz : (sgName y).size = 1 := rfl
                          have hsz2 : (⟨#[102, 47]⟩ : ByteArray).size = 2 := rfl
                          have r1_ := fun W => run_cat W ⟨#[102, 47]⟩ (sgName y) (by rw [hsz, hsz2]; first | omega | (unfold maxLen; omega) | decide)
                          clear hsz hsz2
                          have e4 : ¬ ((r.tks.length : Int) ≤ (cntB y (fun j => b j && !(j == i)) : Int)) := by omega
                          have e5 : (cntB y (fun j => b j && !(j == i)) : Int) < (r.tks.length : Int) := by omega
                          have w1_ : IntKind.i64.wrap (y : Int) = (y : Int) := by rw [IntKind.wrap_i64]; omega
                          have w2_ : IntKind.i64.wrap (cntB y (fun j => b j && !(j == i)) : Int) = (cntB y (fun j => b j && !(j == i)) : Int) := by rw [IntKind.wrap_i64]; omega
                          clear hsc KR dB hO hm hm2
                          generalize hcn : cntB y (fun j => b j && !(j == i)) = cy at *
                          go_wp2_with (first | go_quiet (fail) | fail)
                          go_roundw
                          case rel => exact ⟨y + 1, by omega, by rw [HSc.out]; go_num, by go_num, HKR.out.and (Kept.drewN _ _ _)⟩
                          case measure => simp [intOf]; omega
                      · obtain rfl : k = y := by omega
                        have e3 : ¬ (k : Int) < (k : Int) := by omega
                        have hW := wakes_any wr (HM.out.kept ((HK1.out.and HK11.out).and KR) (fun h => h))
                        have HKR := hid KR
                        have e6 : (((cntB k (fun j => b j && !(j == i)) : Nat) : Int) == (r.tks.length : Int)) = true := by rw [HMl.out]; simp
                        clear KR
                        generalize hcn : cntB k (fun j => b j && !(j == i)) = cy at *
                        go_wp2_with (first
                          | (go_at_call 9; refine hW.mono ?_; rintro e w12 ⟨rfl, K12⟩; clear hW)
                          | fail)
                        go_ret
                        exact ⟨rfl, (((HK1.out.and HK11.out).and HKR.out).and K12).none⟩
                  | false =>
                    rw [hbi] at cm
                    go_wp2_with fail
                    go_roundw
                    case rel => exact ⟨i + 1, by omega, rfl, by go_num, fun j hj => by
                      by_cases e : j = i
                      · rw [e]; exact hbi
                      · exact hno j (by omega), by first | rfl | trivial⟩
                    case measure => simp [intOf]; omega
                · exfalso
                  have hz : cntB k b = cntB k (fun _ => false) := cntB_same (fun j hj => hno j (by omega))
                  have hz2 : cntB k (fun _ => false) = 0 := by unfold cntB; simp
                  omega

set_option maxRecDepth 100000 in
theorem historyCancels_lifted (os : Os) (started : os.Started) (H : Type) (enc : TypeId × Value → H) :
    ReturnsInHanded {} Tryd.checked os 3 .any (fun w args => (Rows.historyCancelsSpec.pre enc Tryd.prog Tryd.f3 [] false w args ∧ laidMetH Tryd.prog laidL w) ∧ sizedMet enc Tryd.prog Tryd.f3 (OpenSpec.ofChange Rows.historyCancelsSpec) false w args)
      (Rows.historyCancelsSpec.post enc Tryd.prog Tryd.f3 false true false false) := by
  refine returnsInHanded_of_change_and (C := Tryd.checked) (X := fun w _ => laidMetH Tryd.prog laidL w) (fun _ _ _ hh h => h.of_heap hh) Tryd.own started (by kernel_rfl) Tryd.func3
    (ChangeSpec.witness_shaped (enc := enc) (C := Tryd.checked) (os := os) (X := fun w _ => laidMetH Tryd.prog laidL w) false (World.doorLaid Tryd.prog 28 os) #[.agg #[.int .i64 0, .slice none 0 0, .bool false, .bool false]] 8 rfl (World.shaped_of_RefB (by kernel_rfl) (by kernel_rfl)) (by kernel_rfl) (by kernel_rfl) (by kernel_rfl) (door_met os _)) ?_
  intro W base args ds gs before hval0 hW _ _ hL _
  have hval : ∀ (j : Nat) t v, Tryd.f3.params[j]? = some t → args[j]? = some v → Value.okWide Tryd.prog W .any base t v := hval0
  have hW' := hW
  obtain ⟨p, q, hA0, hV, rfl, _, _⟩ := hW
  have hA : DataW.TrodAll enc Tryd.prog W 0 (fun _ => true) true Tryd.f3.params.toList args.toList ds p := hA0
  rw [Tryd.params3] at hA hval
  obtain ⟨v0, vs0, d0, ds0, p0, q0, hargs, rfl, rfl, h0, r0⟩ := trodAll_cons hA
  obtain ⟨rfl, rfl, rfl⟩ := trodAll_nil r0
  obtain rfl : args = #[v0] := by cases args; simp_all
  obtain ⟨rfl, rfl⟩ := trodVars_none hV
  have k0 := h0
  have lt0 : ∀ x ∈ p0, x.block < W.heap.size := by obtain ⟨m, hm⟩ := k0; exact DataW.trod_lt m _ _ _ hm
  obtain ⟨n0, a0, len0, cap0, z0, f0, g0, rfl, w0⟩ := can_open (hval 0 24 v0 rfl rfl) h0
  clear hA0 hval0
  refine (historyCancels_walk _ _ _ _ _ _ _ W w0 (moves_laid hL)).mono fun e W' ⟨he, bel⟩ => ?_
  subst he
  exact ⟨_, rfl, _, _, _, [], _, [], hW', trodAll_mk1 (shut_bool Tryd.underlying4 _), (trodAll_cons_mk (Below.trod Tryd.laidOut (by kernel_rfl) (of_decide_eq_true (by kernel_rfl)) k0 bel lt0) trodAll_mk0), rfl, bel.frame _, fun h => by cases h⟩

theorem historyCancels_row : Rows.HistoryCancelsSaid :=
  OpenClaim.holds_of_wide 3 Tryd.f3 rfl rfl rfl rfl rfl rfl rfl ⟨rfl, rfl, rfl, rfl, rfl⟩ rfl rfl rfl rfl rfl (by kernel_rfl) Tryd.func3 (by kernel_rfl)
    (of_decide_eq_true (by kernel_rfl)) (by unfold Func.isWrapper; first | (rw [if_pos (by decide +kernel)]; kernel_rfl) | (rw [if_neg (by decide +kernel)]; exact ⟨rfl, rfl⟩))
    (fun os started H enc _ => historyCancels_lifted os started H enc)

theorem historyCancels_holds : Rows.HistoryCancelsCardSaid :=
  Claim7.holds_tied_plain_at .later [] [.data] true Rows.historyCancelsCard.stood.harness false
    historyCancels_row (fun _ h => by cases h) (by kernel_rfl) (fun _ h => by cases h) historyCancels_row_tie rfl ⟨rfl, rfl⟩ (by kernel_rfl) rfl
    (fun f fn hf hfn => by
      obtain rfl : f = 3 := Option.some.inj ((show Tryd.prog.funcNamed "tiller/tillerlaw09.HistoryCancels" = some 3 by kernel_rfl).symm.trans hf) |>.symm
      obtain rfl : fn = Tryd.f3 := (Option.some.inj (Tryd.func3.symm.trans hfn)).symm
      exact ⟨by kernel_rfl, fun j t ht => by
        rw [Tryd.params3] at ht
        have hm : t ∈ [24] := by simpa using Array.mem_of_getElem? ht
        have hall : ([24].all fun u => !Tryd.prog.wantsStandIn u) = true := by kernel_rfl
        exact (show Tryd.prog.wantsStandIn t = false by simpa using List.all_eq_true.1 hall t hm)⟩)
    (by kernel_rfl)

end Go.Proofs.YtdecceekodpjiaaDoor
