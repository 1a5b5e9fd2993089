/-
  HistorySignals holds for every number and list: the law's call returns true and leaves its arguments as they were. No condition; the listed variable is tied to the program's text.
-/
import Derived.Test.YtdecceekodpjiaaDoorHN5
import Derived.Test.YtdecceekodpjiaaDoorHN6
import Derived.Deep.QuietTactic
import Derived.BigQuiet
namespace Go.Proofs.YtdecceekodpjiaaDoor
open Go.ChangeShapes Go.WideShapes Go.ChangeAt Go.RowKit Go.Deep

theorem seven {w : World} {b : Nat} {T : TypeId} {u0 u1 u2 u3 u4 u5 u6 : Value} (h : w.heap[b]? = some (.cells #[u0, u1, u2, u3, u4, u5, u6] T (0, 0))) : (w.cell? ⟨b, 0, none⟩ = some u0 ∧ w.cell? ⟨b, 1, none⟩ = some u1 ∧ w.cell? ⟨b, 2, none⟩ = some u2 ∧ w.cell? ⟨b, 3, none⟩ = some u3 ∧ w.cell? ⟨b, 4, none⟩ = some u4 ∧ w.cell? ⟨b, 5, none⟩ = some u5 ∧ w.cell? ⟨b, 6, none⟩ = some u6) ∧ w.frozen? ⟨b, 6, none⟩ = false := by
  simp [World.cell?, World.frozen?, h]

theorem sevenSet {w : World} {b : Nat} {T : TypeId} {u0 u1 u2 u3 u4 u5 u6 : Value} (h : w.heap[b]? = some (.cells #[u0, u1, u2, u3, u4, u5, u6] T (0, 0))) (v : Value) : (w.setCell ⟨b, 6, none⟩ v).heap[b]? = some (.cells #[u0, u1, u2, u3, u4, u5, v] T (0, 0)) := by
  simp [World.setCell, Array.getElem?_modify, h]

set_option maxRecDepth 100000 in
set_option maxHeartbeats 8000000 in
theorem historySignals_walk (many : Int) (a : Option Addr) (len cap : Nat) (B : Nat → Bool) (w : World) (hB : BoolsAt w a len B) (M : MovesAt w) :
    Calls Tryd.prog 4 #[.int .i64 many, .slice a len cap] w fun e w' => e = .returned (.bool true) ∧ Below w.heap.size w w' := by
  obtain ⟨nn, hnn, hn1, hn2⟩ : ∃ nn : Nat, 1 + many % 10 = (nn : Int) ∧ 1 ≤ nn ∧ nn ≤ 10 := ⟨(1 + many % 10).toNat, by omega, by omega, by omega⟩
  have hWi := within_any w many 10 (by decide) (by decide)
  have hwr : IntKind.i64.wrap (1 + many % 10) = (nn : Int) := by rw [hnn, IntKind.wrap_i64]; omega
  obtain ⟨i0, hi0, hz0, hz1, hz2⟩ := info_parts Tryd.info32
  have HBo := hid hB
  have HM := hid M
  have HJ0 : Hid (BJ w (w.alloc (.cells #[.string ⟨#[119]⟩, .slice none 0 0] 28)) w.heap.size none 0 (sgNs 0) []) := ⟨heap_alloc_new _ _, Bld.nil _ _, Kept.alloc _ _ _, Nat.le_refl _⟩
  clear hB M
  go_enter Tryd.func4, Tryd.ntmps4
  go_wp2_with (first
    | (go_at_call 7; refine hWi.mono ?_; rintro e w1 ⟨rfl, hw⟩; subst w1; clear hWi)
    | fail)
  go_loopw [7] (fun q wr => ∃ (k : Nat) (a' : Option Addr) (c' : Nat) (vs : List Value), k ≤ nn ∧ q = .int .i64 k ∧ Hid (BJ w wr w.heap.size a' c' (sgNs k) vs)) (fun q _ => nn - (intOf q).toNat)
  case atStart => exact ⟨0, none, 0, [], Nat.zero_le _, rfl, HJ0⟩
  case round =>
    obtain ⟨k, a', c', vs, hk, rfl, J⟩ := hrel
    clear HJ0
    by_cases hlt : k < nn
    · have e0 : (k : Int) < (nn : Int) := by omega
      have hcv : (convert 29 9 (.slice (some ⟨wr.heap.size, 0, none⟩) 1 1)).run Tryd.prog (wr.alloc (.cells #[.int .u8 (97 + (k : Int))] 5)) = .ok (.string (sgName k)) (wr.alloc (.cells #[.int .u8 (97 + (k : Int))] 5)) := by
        rw [← sgName_str k (by omega)]
        exact byte_s1 wr _ (by omega)
      go_upto_region 7 with fail
      have KU : Kept (fun _ => False) wr ((wr.alloc (.cells #[.int .u8 (97 + (k : Int))] 5)).alloc (.cells #[.string (sgName k), .int .i64 4, .string ⟨#[115]⟩, .string ⟨#[]⟩, .int .i64 0, .int .i64 0, .slice none 0 0] 32)) := (Kept.alloc _ _ _).and (Kept.alloc _ _ _)
      have hxU := heap_alloc_new (wr.alloc (.cells #[.int .u8 (97 + (k : Int))] 5)) (.cells #[.string (sgName k), .int .i64 4, .string ⟨#[115]⟩, .string ⟨#[]⟩, .int .i64 0, .int .i64 0, .slice none 0 0] 32)
      rw [World.size_alloc] at hxU
      have hsw := (Array.getElem?_eq_some_iff.1 J.out.box).1
      clear hcv
      generalize ((wr.alloc (.cells #[.int .u8 (97 + (k : Int))] 5)).alloc (.cells #[.string (sgName k), .int .i64 4, .string ⟨#[115]⟩, .string ⟨#[]⟩, .int .i64 0, .int .i64 0, .slice none 0 0] 32)) = U at *
      by_cases hk0 : k = 0
      · have q0 : ¬ (0 : Int) < (k : Int) := by omega
        have hxV := hxU
        have JV := J.out.new' KU
        have Hk0 := hid hk0
        clear hxU KU hk0
        go_upto_region 9 with fail
        obtain ⟨V, hV⟩ : ∃ V, V = U := ⟨_, rfl⟩
        subst hV
        obtain ⟨⟨x0, x1, x2, x3, x4, x5, x6⟩, _⟩ := seven hxV
        have hbV : V.heap[w.heap.size]? = some (.cells #[.string ⟨#[119]⟩, .slice a' k c'] 28 (0, 0)) := by have h := JV.box; rwa [sgNs_len] at h
        obtain ⟨⟨d0, d1⟩, _, _⟩ := pairFz hbV
        have hsV : w.heap.size < V.heap.size := (Array.getElem?_eq_some_iff.1 hbV).1
        have JA := JV.new' (Kept.alloc (fun _ => False) V (.cells #[.string (sgName k), .int .i64 4, .string ⟨#[115]⟩, .string ⟨#[]⟩, .int .i64 0, .int .i64 0, .slice none 0 0] 32))
        have hrow : (V.alloc (.cells #[.string (sgName k), .int .i64 4, .string ⟨#[115]⟩, .string ⟨#[]⟩, .int .i64 0, .int .i64 0, .slice none 0 0] 32)).ownsRow (w.heap.size + 1) 32 7 (.slice a' k c') k (flatB (sgNs k) vs) := by have h := JA.bld.row; rwa [sgNs_len] at h
        have HP : Hid (∀ (w3 : World) (a3 : Option Addr) (c3 : Nat), w3.ownsRow (w.heap.size + 1) 32 7 (.slice a3 (k + 1) c3) (k + 1) (flatB (sgNs k) vs ++ ndC (sgN k) (.slice none 0 0)) → (V.alloc (.cells #[.string (sgName k), .int .i64 4, .string ⟨#[115]⟩, .string ⟨#[]⟩, .int .i64 0, .int .i64 0, .slice none 0 0] 32)).grownBy w3 (Value.slice a' k c').ownBlock → Hid (BJ w (w3.setCell ⟨w.heap.size, 1, none⟩ (.slice a3 (k + 1) c3)) w.heap.size a3 c3 (sgNs (k + 1)) (vs ++ [.slice none 0 0]))) := fun w3 a3 c3 ho hg => by
          have h := JA.push (n := sgN k) (v := .slice none 0 0) (by rw [sgNs_len]; exact ho) (by rw [sgNs_len]; exact hg) (.inl ⟨by rw [Hk0.out]; rfl, rfl⟩)
          rw [sgNs_len, ← sgNs_snoc] at h
          exact h
        have HG : Hid (∀ w3, (V.alloc (.cells #[.string (sgName k), .int .i64 4, .string ⟨#[115]⟩, .string ⟨#[]⟩, .int .i64 0, .int .i64 0, .slice none 0 0] 32)).grownBy w3 (Value.slice a' k c').ownBlock → w3.heap[w.heap.size]? = some (.cells #[.string ⟨#[119]⟩, .slice a' k c'] 28 (0, 0))) := fun w3 hg => by
          have h := JA.grown (by rw [sgNs_len]; exact hg)
          rwa [sgNs_len] at h
        clear JA JV hbV hxV
        go_wp2_with (first
          | (at_builtin; refine wpList_append_src _ rfl _ _ 26 rfl (w.heap.size + 1) 32 i0 _ 7 96 Tryd.underlying26 hi0 hz0 hz1 hz2 rfl (by decide) (.slice a' k c') k _ rfl hrow _ rfl 1 (ndC (sgN k) (.slice none 0 0)) (.inl ⟨_, 1, rfl, rfl, World.news_of_block (heap_alloc_new _ _)⟩) (by intro u hu; simp only [ndC, List.mem_cons, List.not_mem_nil, or_false] at hu; rcases hu with rfl | rfl | rfl | rfl | rfl | rfl | rfl <;> rfl) (by unfold maxLen; omega) (by omega) (by simp; omega) ?_; intro a3 cap3 w3 ho3 hg3 _ hl3; have hb3 := HG.out w3 hg3; obtain ⟨⟨p0, p1⟩, q0, q1⟩ := pairFz hb3; have HO3 := hid ho3; have HG3 := hid hg3; clear ho3 hg3 hb3 hrow)
          | fail)
        go_roundw
        case rel => exact ⟨k + 1, a3, cap3, _, by omega, by go_num, HP.out _ a3 cap3 HO3.out HG3.out⟩
        case measure => simp [intOf]; omega
      · obtain ⟨j, rfl⟩ : ∃ j, k = j + 1 := ⟨k - 1, by omega⟩
        have hjl : j < (sgNs (j + 1)).length := by rw [sgNs_len]; omega
        have JU := J.out.new' KU
        obtain ⟨hcc, g, rfl, hnm0⟩ := JU.bld.cell hjl
        rw [sgNs_at] at hnm0
        rw [sgNs_len] at hcc
        have hnm : U.cell? ⟨g, j * 7, none⟩ = some (.string (sgName j)) := hnm0
        clear hnm0
        have hbU : U.heap[w.heap.size]? = some (.cells #[.string ⟨#[119]⟩, .slice (some ⟨g, 0, none⟩) (j + 1) c'] 28 (0, 0)) := by have h := JU.box; rwa [sgNs_len] at h
        obtain ⟨⟨d0, d1⟩, _, _⟩ := pairFz hbU
        have KT := Kept.alloc (fun _ => False) U (.cells #[.string (sgName j)] 9)
        have hxT := (KT.block _ (Array.getElem?_eq_some_iff.1 hxU).1 (fun h => h)).trans hxU
        have hxs := (Array.getElem?_eq_some_iff.1 hxU).1
        obtain ⟨⟨x0, x1, x2, x3, x4, x5, x6⟩, fr⟩ := seven hxT
        have HxU := hid hxU
        have HKU := hid KU
        clear hxU hxT KU KT JU hbU hk0
        have q0 : (0 : Int) < (j : Int) + 1 := by omega
        go_upto_region 9 with fail
        clear x0 x1 x2 x3 x4 x5 x6 fr d0 d1 hnm
        have KS := Kept.setCell (S := fun q => q = wr.heap.size + 1) U ⟨wr.heap.size + 1, 6, none⟩ (.slice (some ⟨U.heap.size, 0, none⟩) 1 1) rfl
        have hsS : (U.setCell ⟨wr.heap.size + 1, 6, none⟩ (.slice (some ⟨U.heap.size, 0, none⟩) 1 1)).heap.size = U.heap.size := by simp [World.setCell]
        have KA := Kept.alloc (fun _ => False) (U.setCell ⟨wr.heap.size + 1, 6, none⟩ (.slice (some ⟨U.heap.size, 0, none⟩) 1 1)) (.cells #[.string (sgName j)] 9)
        have KV : Kept (fun _ => False) wr ((U.setCell ⟨wr.heap.size + 1, 6, none⟩ (.slice (some ⟨U.heap.size, 0, none⟩) 1 1)).alloc (.cells #[.string (sgName j)] 9)) := (HKU.out.trans KS (fun q h => .inr (by omega))).and KA
        have hx1 := sevenSet HxU.out (.slice (some ⟨U.heap.size, 0, none⟩) 1 1)
        have hxV := (KA.block _ (Array.getElem?_eq_some_iff.1 hx1).1 (fun h => h)).trans hx1
        have JV := J.out.new' KV
        have hTv := heap_alloc_new (U.setCell ⟨wr.heap.size + 1, 6, none⟩ (.slice (some ⟨U.heap.size, 0, none⟩) 1 1)) (.cells #[.string (sgName j)] 9)
        rw [hsS] at hTv
        have HTv := hid hTv
        clear KS KV HxU HKU hTv hx1 KA hsS
        generalize ((U.setCell ⟨wr.heap.size + 1, 6, none⟩ (.slice (some ⟨U.heap.size, 0, none⟩) 1 1)).alloc (.cells #[.string (sgName j)] 9)) = V at *
        obtain ⟨⟨x0, x1, x2, x3, x4, x5, x6⟩, _⟩ := seven hxV
        have hbV : V.heap[w.heap.size]? = some (.cells #[.string ⟨#[119]⟩, .slice (some ⟨g, 0, none⟩) (j + 1) c'] 28 (0, 0)) := by have h := JV.box; rwa [sgNs_len] at h
        obtain ⟨⟨d0, d1⟩, _, _⟩ := pairFz hbV
        have hsV : w.heap.size < V.heap.size := (Array.getElem?_eq_some_iff.1 hbV).1
        have JA := JV.new' (Kept.alloc (fun _ => False) V (.cells #[.string (sgName (j + 1)), .int .i64 4, .string ⟨#[115]⟩, .string ⟨#[]⟩, .int .i64 0, .int .i64 0, .slice (some ⟨U.heap.size, 0, none⟩) 1 1] 32))
        have hrow : (V.alloc (.cells #[.string (sgName (j + 1)), .int .i64 4, .string ⟨#[115]⟩, .string ⟨#[]⟩, .int .i64 0, .int .i64 0, .slice (some ⟨U.heap.size, 0, none⟩) 1 1] 32)).ownsRow (w.heap.size + 1) 32 7 (.slice (some ⟨g, 0, none⟩) (j + 1) c') (j + 1) (flatB (sgNs (j + 1)) vs) := by have h := JA.bld.row; rwa [sgNs_len] at h
        have JAt := hid (((Kept.alloc (fun _ => False) V (.cells #[.string (sgName (j + 1)), .int .i64 4, .string ⟨#[115]⟩, .string ⟨#[]⟩, .int .i64 0, .int .i64 0, .slice (some ⟨U.heap.size, 0, none⟩) 1 1] 32)).block _ (Array.getElem?_eq_some_iff.1 HTv.out).1 (fun h => h)).trans HTv.out)
        have HP : Hid (∀ (w3 : World) (a3 : Option Addr) (c3 : Nat), w3.ownsRow (w.heap.size + 1) 32 7 (.slice a3 (j + 1 + 1) c3) (j + 1 + 1) (flatB (sgNs (j + 1)) vs ++ ndC (sgN (j + 1)) (.slice (some ⟨U.heap.size, 0, none⟩) 1 1)) → (V.alloc (.cells #[.string (sgName (j + 1)), .int .i64 4, .string ⟨#[115]⟩, .string ⟨#[]⟩, .int .i64 0, .int .i64 0, .slice (some ⟨U.heap.size, 0, none⟩) 1 1] 32)).grownBy w3 (Value.slice (some ⟨g, 0, none⟩) (j + 1) c').ownBlock → Hid (BJ w (w3.setCell ⟨w.heap.size, 1, none⟩ (.slice a3 (j + 1 + 1) c3)) w.heap.size a3 c3 (sgNs (j + 1 + 1)) (vs ++ [.slice (some ⟨U.heap.size, 0, none⟩) 1 1]))) := fun w3 a3 c3 ho hg => by
          have h := JA.push (n := sgN (j + 1)) (v := .slice (some ⟨U.heap.size, 0, none⟩) 1 1) (by rw [sgNs_len]; exact ho) (by rw [sgNs_len]; exact hg) (.inr ⟨U.heap.size, sgName j, rfl, by show (1 : Nat) ≤ 100; decide, rfl, (JAt.out)⟩)
          rw [sgNs_len, ← sgNs_snoc] at h
          exact h
        have HG : Hid (∀ w3, (V.alloc (.cells #[.string (sgName (j + 1)), .int .i64 4, .string ⟨#[115]⟩, .string ⟨#[]⟩, .int .i64 0, .int .i64 0, .slice (some ⟨U.heap.size, 0, none⟩) 1 1] 32)).grownBy w3 (Value.slice (some ⟨g, 0, none⟩) (j + 1) c').ownBlock → w3.heap[w.heap.size]? = some (.cells #[.string ⟨#[119]⟩, .slice (some ⟨g, 0, none⟩) (j + 1) c'] 28 (0, 0))) := fun w3 hg => by
          have h := JA.grown (by rw [sgNs_len]; exact hg)
          rwa [sgNs_len] at h
        clear JA JV hbV hxV
        go_wp2_with (first
          | (at_builtin; refine wpList_append_src _ rfl _ _ 26 rfl (w.heap.size + 1) 32 i0 _ 7 96 Tryd.underlying26 hi0 hz0 hz1 hz2 rfl (by decide) (.slice (some ⟨g, 0, none⟩) (j + 1) c') (j + 1) _ rfl hrow _ rfl 1 (ndC (sgN (j + 1)) (.slice (some ⟨U.heap.size, 0, none⟩) 1 1)) (.inl ⟨_, 1, rfl, rfl, World.news_of_block (heap_alloc_new _ _)⟩) (by intro u hu; simp only [ndC, List.mem_cons, List.not_mem_nil, or_false] at hu; rcases hu with rfl | rfl | rfl | rfl | rfl | rfl | rfl <;> rfl) (by unfold maxLen; omega) (by omega) (by simp; omega) ?_; intro a3 cap3 w3 ho3 hg3 _ hl3; have hb3 := HG.out w3 hg3; obtain ⟨⟨p0, p1⟩, q0, q1⟩ := pairFz hb3; have HO3 := hid ho3; have HG3 := hid hg3; clear ho3 hg3 hb3 hrow)
          | fail)
        go_roundw
        case rel => exact ⟨j + 1 + 1, a3, cap3, _, by omega, by go_num, HP.out _ a3 cap3 HO3.out HG3.out⟩
        case measure => simp [intOf]; omega
    · obtain rfl : k = nn := by omega
      have e0 : ¬ (k : Int) < (k : Int) := by omega
      have hbx : wr.heap[w.heap.size]? = some (.cells #[.string ⟨#[119]⟩, .slice a' k c'] 28 (0, 0)) := by have h := J.out.box; rwa [sgNs_len] at h
      have HNd := hid (J.out.bld.nodes (sgNs_ok k))
      have D : DefAt wr a' (sgNs k) := ⟨HNd.out, by rw [sgNs_len]; omega, fun b o h => by
        obtain ⟨b', o', _, _, e, _, h0, _⟩ := HNd.out.at (i := 0) (by rw [sgNs_len]; omega)
        rw [h] at e
        simp only [Option.some.injEq, Addr.mk.injEq, and_true] at e
        obtain ⟨rfl, rfl⟩ := e
        exact World.block_lt_of_cell? wr _ h0, sgNs_names k, HM.out.kept J.out.kept (fun h => h)⟩
      obtain ⟨W1, hW1⟩ : ∃ W1, W1 = wr := ⟨_, rfl⟩
      subst hW1
      have HK1 := hid J.out.kept
      have HD := hid D
      have HB1 := hid hbx
      obtain ⟨⟨d0, d1⟩, _, _⟩ := pairFz hbx
      have hz1 : w.heap.size < W1.heap.size := (Array.getElem?_eq_some_iff.1 hbx).1
      obtain ⟨r, hp0, hrs⟩ := sig_start hn1 hn2
      have hS := step_ok (c := c') (n := k) D (sgNs_len k) (zeroSt_rd _) zeroSt_small (q := sgQ0) (by show (1 : Nat) ≤ _; decide) (by show 0 ≤ _; decide) hp0
      dsimp only [zeroSt, sgQ0] at hS
      have Hrs := hid hrs
      clear hbx HNd D J hp0 hrs hlt hi0 hz0 hz1 hz2
      have hz1 : w.heap.size < W1.heap.size := (Array.getElem?_eq_some_iff.1 HB1.out).1
      go_upto_region 11 with (first
        | (go_at_call 8; refine hS.mono ?_; rintro e w4 ⟨ae, ce, a6, c6, a7, c7, at_, ct, rfl, A4, K4⟩; clear hS)
        | fail)
      have KV := K4.and (Kept.alloc (fun _ => False) w4 (.cells #[.string r.st.dfn, .string r.st.id, .string r.st.par, .string r.st.pnode, .int .i64 r.st.status, .string r.st.text, .slice a6 r.st.nodes.length c6, .slice a7 r.st.sigs.length c7, .int .i64 r.st.events] 39))
      have X0 := ans_sbox (sb := w4.heap.size) A4 (fun g h1 h2 => by omega)
      have hz4 := K4.size
      have hsb1 : W1.heap.size ≤ w4.heap.size := hz4
      generalize hsb : w4.heap.size = sb at *
      have HX0 : Hid (SBox (w4.alloc (.cells #[.string r.st.dfn, .string r.st.id, .string r.st.par, .string r.st.pnode, .int .i64 r.st.status, .string r.st.text, .slice a6 r.st.nodes.length c6, .slice a7 r.st.sigs.length c7, .int .i64 r.st.events] 39)) sb sb (sgSt k 0 0) a6 c6 a7 c7) := by
        have h := X0
        show SBox _ _ _ _ _ _ _ _
        rw [← Hrs.out]
        exact h
      have HKV := hid KV
      have hlen0 : r.st.nodes.length = (sgSt k 0 0).nodes.length := by rw [Hrs.out]
      clear A4 K4 KV X0 d0 d1 hsb hlen0
      generalize (w4.alloc (.cells #[.string r.st.dfn, .string r.st.id, .string r.st.par, .string r.st.pnode, .int .i64 r.st.status, .string r.st.text, .slice a6 r.st.nodes.length c6, .slice a7 r.st.sigs.length c7, .int .i64 r.st.events] 39)) = V4 at *
      go_wp2_with fail
      go_loopw [13, 14, 15] (fun gq tq iq wr => ∃ (g t i : Nat) (a6 : Option Addr) (c6 : Nat) (a7 : Option Addr) (c7 : Nat), g ≤ k ∧ t ≤ 32 ∧ i ≤ 50 ∧ gq = .int .i64 g ∧ tq = .int .i64 t ∧ iq = .int .i64 i ∧ SBox wr sb sb (sgSt k g t) a6 c6 a7 c7 ∧ Kept (fun _ => False) W1 wr) (fun _ _ q _ => 50 - (intOf q).toNat)
      case atStart => exact ⟨0, 0, 0, a6, c6, a7, c7, Nat.zero_le _, Nat.zero_le _, Nat.zero_le _, rfl, rfl, rfl, HX0.out, HKV.out⟩
      case round =>
        clear HX0 HKV
        obtain ⟨g, t, i, a6, c6, a7, c7, hg, ht, hi, rfl, rfl, rfl, X, K⟩ := hrel
        obtain ⟨s, hs⟩ : ∃ s, s = sgSt k g t := ⟨_, rfl⟩
        have HZ : Hid (Small s) := by show Small s; rw [hs]; exact sgSt_small hn2 hg ht
        have hstat : s.status = if g = k then 2 else 1 := by rw [hs]; rfl
        have hsig : s.sigs.length = t := by rw [hs]; show (List.replicate t _).length = t; simp
        rw [← hs] at X
        have Hs := hid hs
        obtain ⟨⟨_, _, _, _, t4, _, _, t7, _⟩, _⟩ := nine X.blk
        have HX := hid X
        have HK := hid K
        have hz1s : W1.heap.size ≤ sb := hsb1
        have hsbw : sb < wr.heap.size := (Array.getElem?_eq_some_iff.1 X.blk).1
        clear hs
        by_cases hgo : (i < len ∧ i < 50) ∧ g < k
        · obtain ⟨⟨hlt, h50⟩, hgk⟩ := hgo
          have e1 : (i : Int) < (len : Int) := by omega
          have e2 : (i : Int) < 50 := by omega
          have hst : (s.status == 1) = true := by rw [hstat, if_neg (by omega)]; rfl
          obtain ⟨b, o, rfl, hbc⟩ : ∃ b o, a = some ⟨b, o, none⟩ ∧ ∀ i, i < len → w.cell? ⟨b, o + i, none⟩ = some (.bool (B i)) := by
            rcases HBo.out with h | h
            · omega
            · exact h
          have b1 := keepC HK1.out (hbc i hlt) (fun _ _ h => h)
          have b2 := keepC (HK.out.and (Kept.alloc (fun _ => False) wr (.cells #[.int .i64 2, .string ⟨#[]⟩, .string ⟨#[116]⟩, .string ⟨#[111, 116, 104, 101, 114]⟩, .int .i64 0, .int .i64 0, .int .i64 0, .string ⟨#[]⟩, .string ⟨#[]⟩] 34))) b1 (fun _ _ h => h)
          clear hbc hstat hsig X K
          cases hBi : B i with
          | true =>
            rw [hBi] at b1 b2
            have hcv : (convert 29 9 (.slice (some ⟨wr.heap.size + 1, 0, none⟩) 1 1)).run Tryd.prog ((wr.alloc (.cells #[.int .i64 2, .string ⟨#[]⟩, .string ⟨#[116]⟩, .string ⟨#[111, 116, 104, 101, 114]⟩, .int .i64 0, .int .i64 0, .int .i64 0, .string ⟨#[]⟩, .string ⟨#[]⟩] 34)).alloc (.cells #[.int .u8 (97 + (g : Int))] 5)) = .ok (.string (sgName g)) ((wr.alloc (.cells #[.int .i64 2, .string ⟨#[]⟩, .string ⟨#[116]⟩, .string ⟨#[111, 116, 104, 101, 114]⟩, .int .i64 0, .int .i64 0, .int .i64 0, .string ⟨#[]⟩, .string ⟨#[]⟩] 34)).alloc (.cells #[.int .u8 (97 + (g : Int))] 5)) := by
              have h := byte_s1 (wr.alloc (.cells #[.int .i64 2, .string ⟨#[]⟩, .string ⟨#[116]⟩, .string ⟨#[111, 116, 104, 101, 114]⟩, .int .i64 0, .int .i64 0, .int .i64 0, .string ⟨#[]⟩, .string ⟨#[]⟩] 34)) (97 + (g : Int)) (by omega)
              rw [World.size_alloc, sgName_str g (by omega)] at h
              exact h
            obtain ⟨r2, hp, hr2⟩ := sig_got (t := t) hn2 hgk ht
            have Hp := hid (show stepP ⟨#[119]⟩ (sgNs k) s (sgQ g) = (r2, 0) by rw [Hs.out]; exact hp)
            have Hr2 := hid hr2
            clear hp hr2
            go_upto_region 20 with fail
            have KV : Kept (fun _ => False) W1 ((wr.alloc (.cells #[.int .i64 2, .string ⟨#[]⟩, .string ⟨#[115]⟩, .string (sgName g), .int .i64 0, .int .i64 0, .int .i64 0, .string ⟨#[]⟩, .string ⟨#[]⟩] 34)).alloc (.cells #[.int .u8 (97 + (g : Int))] 5)) := (HK.out.and (Kept.alloc _ _ _)).and (Kept.alloc _ _ _)
            have hI0 := heap_alloc_new wr (.cells #[.int .i64 2, .string ⟨#[]⟩, .string ⟨#[115]⟩, .string (sgName g), .int .i64 0, .int .i64 0, .int .i64 0, .string ⟨#[]⟩, .string ⟨#[]⟩] 34)
            have hIV := ((Kept.alloc (fun _ => False) (wr.alloc (.cells #[.int .i64 2, .string ⟨#[]⟩, .string ⟨#[115]⟩, .string (sgName g), .int .i64 0, .int .i64 0, .int .i64 0, .string ⟨#[]⟩, .string ⟨#[]⟩] 34)) (.cells #[.int .u8 (97 + (g : Int))] 5)).block wr.heap.size (Array.getElem?_eq_some_iff.1 hI0).1 (fun h => h)).trans hI0
            have XV := HX.out.new ((Kept.alloc (fun _ => False) wr (.cells #[.int .i64 2, .string ⟨#[]⟩, .string ⟨#[115]⟩, .string (sgName g), .int .i64 0, .int .i64 0, .int .i64 0, .string ⟨#[]⟩, .string ⟨#[]⟩] 34)).and (Kept.alloc (fun _ => False) _ (.cells #[.int .u8 (97 + (g : Int))] 5)))
            clear hI0 hcv b2 t4
            generalize ((wr.alloc (.cells #[.int .i64 2, .string ⟨#[]⟩, .string ⟨#[115]⟩, .string (sgName g), .int .i64 0, .int .i64 0, .int .i64 0, .string ⟨#[]⟩, .string ⟨#[]⟩] 34)).alloc (.cells #[.int .u8 (97 + (g : Int))] 5)) = V at *

            have dB := (KV.block _ (Array.getElem?_eq_some_iff.1 HB1.out).1 (fun h => h)).trans HB1.out
            obtain ⟨⟨d0, d1⟩, _, _⟩ := pairFz dB
            obtain ⟨⟨n0, n1, n2, n3, n4, n5, n6, n7, n8⟩, _⟩ := nine hIV
            obtain ⟨⟨u0, u1, u2, u3, u4, u5, u6, u7, u8⟩, _⟩ := nine XV.blk
            have hS := step_ok (c := c') (n := k) (HD.out.new KV) (sgNs_len k) (XV.rd HZ.out) HZ.out (q := sgQ g) (by show (1 : Nat) ≤ _; decide) (by show (1 : Nat) ≤ _; decide) Hp.out
            dsimp only [sgQ] at hS
            have HXV := hid XV
            have HKV := hid KV
            have HIV := hid hIV
            clear XV KV hIV dB
            go_upto_region 21 with (first
              | (go_at_call 8; refine hS.mono ?_; rintro e w7 ⟨fe, ge, e6, f6, e7, f7, ft, gt, rfl, A7, K7⟩; clear hS)
              | fail)
            have KA7 := Kept.alloc (fun _ => False) w7 (.cells #[.string r2.st.dfn, .string r2.st.id, .string r2.st.par, .string r2.st.pnode, .int .i64 r2.st.status, .string r2.st.text, .slice e6 r2.st.nodes.length f6, .slice e7 r2.st.sigs.length f7, .int .i64 r2.st.events] 39)
            have hz7 := K7.size
            have KV7 := K7.and KA7
            have hsbV : sb < V.heap.size := (Array.getElem?_eq_some_iff.1 HXV.out.blk).1
            have HXB := hid (ans_sbox (sb := sb) A7 (fun g h1 h2 => by omega))
            clear A7
            have X7 := HXV.out.new KV7
            have HK7 := hid (HKV.out.and KV7)
            have HI7 := hid ((KV7.block _ (Array.getElem?_eq_some_iff.1 HIV.out).1 (fun h => h)).trans HIV.out)
            have bi7 := keepC (HKV.out.and KV7) b1 (fun _ _ h => h)
            have hb7 := X7.blk
            clear K7 KA7 KV7 u0 u1 u2 u3 u4 u5 u6 u7 u8 d0 d1 n0 n1 n2 n3 n4 n5 n6 n7 n8
            generalize (w7.alloc (.cells #[.string r2.st.dfn, .string r2.st.id, .string r2.st.par, .string r2.st.pnode, .int .i64 r2.st.status, .string r2.st.text, .slice e6 r2.st.nodes.length f6, .slice e7 r2.st.sigs.length f7, .int .i64 r2.st.events] 39)) = V7 at *
            generalize w7.heap.size = xb at *

            obtain ⟨⟨v0, v1, v2, v3, v4, v5, v6, v7, v8⟩, g0, g1, g2, g3, g4, g5, g6, g7, g8⟩ := nine hb7
            obtain ⟨⟨x0, x1, x2, x3, x4, x5, x6, x7, x8⟩, _⟩ := nine HXB.out.blk
            have HPut := hid (HXB.out.put hb7)
            have HI := HI7.out
            clear X7 hb7
            go_upto_region 30 with fail
            clear v0 v1 v2 v3 v4 v5 v6 v7 v8 g0 g1 g2 g3 g4 g5 g6 g7 g8 x0 x1 x2 x3 x4 x5 x6 x7 x8 bi7
            have X8 := HPut.out.1
            have K8 := HPut.out.2
            have hI8 := (K8.block _ (Array.getElem?_eq_some_iff.1 HI).1 (by omega)).trans HI
            have HK8 : Hid (Kept (fun _ => False) W1 (((((((((V7.setCell ⟨sb, 0, none⟩ (.string r2.st.dfn)).setCell ⟨sb, 1, none⟩ (.string r2.st.id)).setCell ⟨sb, 2, none⟩ (.string r2.st.par)).setCell ⟨sb, 3, none⟩ (.string r2.st.pnode)).setCell ⟨sb, 4, none⟩ (.int .i64 r2.st.status)).setCell ⟨sb, 5, none⟩ (.string r2.st.text)).setCell ⟨sb, 6, none⟩ (.slice e6 r2.st.nodes.length f6)).setCell ⟨sb, 7, none⟩ (.slice e7 r2.st.sigs.length f7)).setCell ⟨sb, 8, none⟩ (.int .i64 r2.st.events))) := HK7.out.trans K8 (fun j h => .inr (by omega))
            clear HI K8 HPut HXB HI7
            generalize (((((((((V7.setCell ⟨sb, 0, none⟩ (.string r2.st.dfn)).setCell ⟨sb, 1, none⟩ (.string r2.st.id)).setCell ⟨sb, 2, none⟩ (.string r2.st.par)).setCell ⟨sb, 3, none⟩ (.string r2.st.pnode)).setCell ⟨sb, 4, none⟩ (.int .i64 r2.st.status)).setCell ⟨sb, 5, none⟩ (.string r2.st.text)).setCell ⟨sb, 6, none⟩ (.slice e6 r2.st.nodes.length f6)).setCell ⟨sb, 7, none⟩ (.slice e7 r2.st.sigs.length f7)).setCell ⟨sb, 8, none⟩ (.int .i64 r2.st.events)) = V8 at *
            obtain ⟨⟨_, _, _, i3, _, _, _, _, _⟩, _⟩ := nine hI8
            obtain ⟨⟨_, _, _, _, _, _, s6, _, _⟩, _⟩ := nine X8.blk
            have hgl : g < r2.st.nodes.length := by rw [Hr2.out]; show g < ((List.range k).map _).length; simp; omega
            have hgl' : (g : Int) < (r2.st.nodes.length : Int) := by omega
            have hnl : r2.st.nodes.length ≤ 100 := by rw [Hr2.out]; show ((List.range k).map _).length ≤ 100; simp; omega
            have hN : r2.st.nodes[g] = ⟨3, 0, sgName g⟩ := by
              have h : r2.st.nodes[g]? = some ⟨3, 0, sgName g⟩ := by
                rw [Hr2.out]
                show ((List.range k).map (sgNode (g + 1)))[g]? = _
                rw [List.getElem?_map, List.getElem?_range hgk]
                show some (sgNode (g + 1) g) = _
                unfold sgNode
                rw [if_pos (by omega)]
              rw [List.getElem?_eq_getElem hgl] at h
              exact Option.some.inj h
            obtain ⟨hcc, b6, o6, rfl, c0, _, c2⟩ := flat_ns (flat_of_owns X8.nodes) hgl
            rw [hN] at c0 c2
            have c0 : V8.cell? ⟨b6, o6 + g * 3, none⟩ = some (.int .i64 3) := c0
            have c2 : V8.cell? ⟨b6, o6 + g * 3 + 2, none⟩ = some (.string (sgName g)) := c2
            have w1_ : IntKind.i64.wrap (g : Int) = (g : Int) := by rw [IntKind.wrap_i64]; omega
            have HX8 : Hid (SBox V8 sb sb (sgSt k (g + 1) t) (some ⟨b6, o6, none⟩) f6 e7 f7) := by
              show SBox _ _ _ _ _ _ _ _
              rw [← Hr2.out]
              exact X8
            clear X8 hI8 hN
            go_wp2_with (first | go_quiet (fail) | fail)
            go_roundw
            case rel => exact ⟨g + 1, t, i + 1, some ⟨b6, o6, none⟩, f6, e7, f7, by omega, by omega, by omega, by go_num, rfl, by go_num, HX8.out.new (Kept.drewN _ _ _), HK8.out.and (Kept.drewN _ _ _)⟩
            case measure => simp [intOf]; omega
          | false =>
            rw [hBi] at b1 b2
            have hI0 := heap_alloc_new wr (.cells #[.int .i64 2, .string ⟨#[]⟩, .string ⟨#[116]⟩, .string ⟨#[111, 116, 104, 101, 114]⟩, .int .i64 0, .int .i64 0, .int .i64 0, .string ⟨#[]⟩, .string ⟨#[]⟩] 34)
            have KI := Kept.alloc (fun _ => False) wr (.cells #[.int .i64 2, .string ⟨#[]⟩, .string ⟨#[116]⟩, .string ⟨#[111, 116, 104, 101, 114]⟩, .int .i64 0, .int .i64 0, .int .i64 0, .string ⟨#[]⟩, .string ⟨#[]⟩] 34)
            go_upto_region 20 with fail
            have KV := HK.out.and KI
            have hIV := hI0
            have XV := HX.out.new KI
            clear hI0 KI b2 t4
            generalize (wr.alloc (.cells #[.int .i64 2, .string ⟨#[]⟩, .string ⟨#[116]⟩, .string ⟨#[111, 116, 104, 101, 114]⟩, .int .i64 0, .int .i64 0, .int .i64 0, .string ⟨#[]⟩, .string ⟨#[]⟩] 34)) = V at *
            by_cases ht32 : t < 32
            · obtain ⟨r2, hp, hr2⟩ := sig_kept hn2 hgk ht32
              have Hp := hid (show stepP ⟨#[119]⟩ (sgNs k) s sgQt = (r2, 0) by rw [Hs.out]; exact hp)
              have Hr2 := hid hr2
              have e5 : (t : Int) < 32 := by omega
              clear hp hr2
              have dB := (KV.block _ (Array.getElem?_eq_some_iff.1 HB1.out).1 (fun h => h)).trans HB1.out
              obtain ⟨⟨d0, d1⟩, _, _⟩ := pairFz dB
              obtain ⟨⟨n0, n1, n2, n3, n4, n5, n6, n7, n8⟩, _⟩ := nine hIV
              obtain ⟨⟨u0, u1, u2, u3, u4, u5, u6, u7, u8⟩, _⟩ := nine XV.blk
              have hS := step_ok (c := c') (n := k) (HD.out.new KV) (sgNs_len k) (XV.rd HZ.out) HZ.out (q := sgQt) (by show (1 : Nat) ≤ _; decide) (by show 5 ≤ _; decide) Hp.out
              dsimp only [sgQt, otherB] at hS
              have HXV := hid XV
              have HKV := hid KV
              have HIV := hid hIV
              clear XV KV hIV dB
              go_upto_region 21 with (first
                | (go_at_call 8; refine hS.mono ?_; rintro e w7 ⟨fe, ge, e6, f6, e7, f7, ft, gt, rfl, A7, K7⟩; clear hS)
                | fail)
              have KA7 := Kept.alloc (fun _ => False) w7 (.cells #[.string r2.st.dfn, .string r2.st.id, .string r2.st.par, .string r2.st.pnode, .int .i64 r2.st.status, .string r2.st.text, .slice e6 r2.st.nodes.length f6, .slice e7 r2.st.sigs.length f7, .int .i64 r2.st.events] 39)
              have hz7 := K7.size
              have KV7 := K7.and KA7
              have hsbV : sb < V.heap.size := (Array.getElem?_eq_some_iff.1 HXV.out.blk).1
              have HXB := hid (ans_sbox (sb := sb) A7 (fun g h1 h2 => by omega))
              clear A7
              have X7 := HXV.out.new KV7
              have HK7 := hid (HKV.out.and KV7)
              have HI7 := hid ((KV7.block _ (Array.getElem?_eq_some_iff.1 HIV.out).1 (fun h => h)).trans HIV.out)
              have bi7 := keepC (HKV.out.and KV7) b1 (fun _ _ h => h)
              have hb7 := X7.blk
              clear K7 KA7 KV7 u0 u1 u2 u3 u4 u5 u6 u7 u8 d0 d1 n0 n1 n2 n3 n4 n5 n6 n7 n8
              generalize (w7.alloc (.cells #[.string r2.st.dfn, .string r2.st.id, .string r2.st.par, .string r2.st.pnode, .int .i64 r2.st.status, .string r2.st.text, .slice e6 r2.st.nodes.length f6, .slice e7 r2.st.sigs.length f7, .int .i64 r2.st.events] 39)) = V7 at *
              generalize w7.heap.size = xb at *
              obtain ⟨⟨v0, v1, v2, v3, v4, v5, v6, v7, v8⟩, g0, g1, g2, g3, g4, g5, g6, g7, g8⟩ := nine hb7
              obtain ⟨⟨x0, x1, x2, x3, x4, x5, x6, x7, x8⟩, _⟩ := nine HXB.out.blk
              have HPut := hid (HXB.out.put hb7)
              have HX8 : Hid (SBox (((((((((V7.setCell ⟨sb, 0, none⟩ (.string r2.st.dfn)).setCell ⟨sb, 1, none⟩ (.string r2.st.id)).setCell ⟨sb, 2, none⟩ (.string r2.st.par)).setCell ⟨sb, 3, none⟩ (.string r2.st.pnode)).setCell ⟨sb, 4, none⟩ (.int .i64 r2.st.status)).setCell ⟨sb, 5, none⟩ (.string r2.st.text)).setCell ⟨sb, 6, none⟩ (.slice e6 r2.st.nodes.length f6)).setCell ⟨sb, 7, none⟩ (.slice e7 r2.st.sigs.length f7)).setCell ⟨sb, 8, none⟩ (.int .i64 r2.st.events)) sb sb (sgSt k g (t + 1)) e6 f6 e7 f7) := by
                show SBox _ _ _ _ _ _ _ _
                have h := HPut.out.1
                rw [Hr2.out] at h ⊢
                exact h
              have HK8 : Hid (Kept (fun _ => False) W1 (((((((((V7.setCell ⟨sb, 0, none⟩ (.string r2.st.dfn)).setCell ⟨sb, 1, none⟩ (.string r2.st.id)).setCell ⟨sb, 2, none⟩ (.string r2.st.par)).setCell ⟨sb, 3, none⟩ (.string r2.st.pnode)).setCell ⟨sb, 4, none⟩ (.int .i64 r2.st.status)).setCell ⟨sb, 5, none⟩ (.string r2.st.text)).setCell ⟨sb, 6, none⟩ (.slice e6 r2.st.nodes.length f6)).setCell ⟨sb, 7, none⟩ (.slice e7 r2.st.sigs.length f7)).setCell ⟨sb, 8, none⟩ (.int .i64 r2.st.events))) := HK7.out.trans HPut.out.2 (fun j h => .inr (by omega))
              clear X7 hb7 HPut
              go_wp2_with fail
              go_roundw
              case rel => exact ⟨g, t + 1, i + 1, e6, f6, e7, f7, by omega, by omega, by omega, rfl, by go_num, by go_num, HX8.out, HK8.out⟩
              case measure => simp [intOf]; omega
            · obtain rfl : t = 32 := by omega
              obtain ⟨r2, hp⟩ := sig_full hn2 hgk
              have Hp := hid (show stepP ⟨#[119]⟩ (sgNs k) s sgQt = (r2, 8) by rw [Hs.out]; exact hp)
              clear hp ht32
              have dB := (KV.block _ (Array.getElem?_eq_some_iff.1 HB1.out).1 (fun h => h)).trans HB1.out
              obtain ⟨⟨d0, d1⟩, _, _⟩ := pairFz dB
              obtain ⟨⟨n0, n1, n2, n3, n4, n5, n6, n7, n8⟩, _⟩ := nine hIV
              obtain ⟨⟨u0, u1, u2, u3, u4, u5, u6, u7, u8⟩, _⟩ := nine XV.blk
              have hS := step_no (c := c') (n := k) (HD.out.new KV) (sgNs_len k) (XV.rd HZ.out) HZ.out (q := sgQt) (by show (1 : Nat) ≤ _; decide) (by show 5 ≤ _; decide) Hp.out  (by decide)
              dsimp only [sgQt, otherB] at hS
              have HXV := hid XV
              have HKV := hid KV
              have HIV := hid hIV
              clear XV KV hIV dB
              go_upto_region 21 with (first
                | (go_at_call 8; refine hS.mono ?_; rintro e w7 ⟨fe, ge, e6, f6, e7, f7, ft, gt, rfl, K7⟩; clear hS)
                | fail)
              have KA7 := Kept.alloc (fun _ => False) w7 (.cells #[.string ⟨#[]⟩, .string ⟨#[]⟩, .string ⟨#[]⟩, .string ⟨#[]⟩, .int .i64 0, .string ⟨#[]⟩, .slice e6 0 f6, .slice e7 0 f7, .int .i64 0] 39)
              have hz7 := K7.size
              have KV7 := K7.and KA7
              have hsbV : sb < V.heap.size := (Array.getElem?_eq_some_iff.1 HXV.out.blk).1

              have X7 := HXV.out.new KV7
              have HK7 := hid (HKV.out.and KV7)
              have HI7 := hid ((KV7.block _ (Array.getElem?_eq_some_iff.1 HIV.out).1 (fun h => h)).trans HIV.out)
              have bi7 := keepC (HKV.out.and KV7) b1 (fun _ _ h => h)
              have hb7 := X7.blk
              clear K7 KA7 KV7 u0 u1 u2 u3 u4 u5 u6 u7 u8 d0 d1 n0 n1 n2 n3 n4 n5 n6 n7 n8
              generalize (w7.alloc (.cells #[.string ⟨#[]⟩, .string ⟨#[]⟩, .string ⟨#[]⟩, .string ⟨#[]⟩, .int .i64 0, .string ⟨#[]⟩, .slice e6 0 f6, .slice e7 0 f7, .int .i64 0] 39)) = V7 at *
              generalize w7.heap.size = xb at *
              have HX8 : Hid (SBox V7 sb sb (sgSt k g 32) a6 c6 a7 c7) := by
                show SBox _ _ _ _ _ _ _ _
                rw [← Hs.out]
                exact X7
              clear X7 hb7
              go_wp2_with fail
              go_roundw
              case rel => exact ⟨g, 32, i + 1, a6, c6, a7, c7, by omega, by omega, by omega, rfl, rfl, by go_num, HX8.out, HK7.out⟩
              case measure => simp [intOf]; omega
        · have hW := wakes_any wr (HM.out.kept (HK1.out.and K) (fun h => h))
          have f1 : ((s.sigs.length : Int) == (t : Int)) = true := by rw [hsig]; simp
          clear X K hsig
          by_cases hgk : g = k
          · have f2 : (s.status == 2) = true := by rw [hstat, if_pos hgk]; rfl
            have f3 : (s.status == 1) = false := by rw [hstat, if_pos hgk]; rfl
            have f4 : ((g : Int) == (k : Int)) = true := by rw [hgk]; simp
            clear hstat hgo hgk
            by_cases hl : i < len
            · have e1 : (i : Int) < (len : Int) := by omega
              by_cases h5 : i < 50
              · have e2 : (i : Int) < 50 := by omega
                go_wp2_with (first
                  | (go_at_call 9; refine hW.mono ?_; rintro e w8 ⟨rfl, K8⟩; clear hW)
                  | fail)
                go_ret
                exact ⟨rfl, ((HK1.out.and HK.out).and K8).none⟩
              · have e2 : ¬ (i : Int) < 50 := by omega
                go_wp2_with (first
                  | (go_at_call 9; refine hW.mono ?_; rintro e w8 ⟨rfl, K8⟩; clear hW)
                  | fail)
                go_ret
                exact ⟨rfl, ((HK1.out.and HK.out).and K8).none⟩
            · have e1 : ¬ (i : Int) < (len : Int) := by omega
              go_wp2_with (first
                | (go_at_call 9; refine hW.mono ?_; rintro e w8 ⟨rfl, K8⟩; clear hW)
                | fail)
              go_ret
              exact ⟨rfl, ((HK1.out.and HK.out).and K8).none⟩
          · have f2 : (s.status == 2) = false := by rw [hstat, if_neg hgk]; rfl
            have f4 : ((g : Int) == (k : Int)) = false := by simp; omega
            clear hstat
            by_cases hl : i < len
            · have e1 : (i : Int) < (len : Int) := by omega
              have e2 : ¬ (i : Int) < 50 := by omega
              clear hgo hgk
              go_wp2_with (first
                | (go_at_call 9; refine hW.mono ?_; rintro e w8 ⟨rfl, K8⟩; clear hW)
                | fail)
              go_ret
              exact ⟨rfl, ((HK1.out.and HK.out).and K8).none⟩
            · have e1 : ¬ (i : Int) < (len : Int) := by omega
              clear hgo hgk
              go_wp2_with (first
                | (go_at_call 9; refine hW.mono ?_; rintro e w8 ⟨rfl, K8⟩; clear hW)
                | fail)
              go_ret
              exact ⟨rfl, ((HK1.out.and HK.out).and K8).none⟩

set_option maxRecDepth 100000 in
theorem historySignals_lifted (os : Os) (started : os.Started) (H : Type) (enc : TypeId × Value → H) :
    ReturnsInHanded {} Tryd.checked os 4 .any (fun w args => (Rows.historySignalsSpec.pre enc Tryd.prog Tryd.f4 [] false w args ∧ laidMetH Tryd.prog laidL w) ∧ sizedMet enc Tryd.prog Tryd.f4 (OpenSpec.ofChange Rows.historySignalsSpec) false w args)
      (Rows.historySignalsSpec.post enc Tryd.prog Tryd.f4 false true false false) := by
  refine returnsInHanded_of_change_and (C := Tryd.checked) (X := fun w _ => laidMetH Tryd.prog laidL w) (fun _ _ _ hh h => h.of_heap hh) Tryd.own started (by kernel_rfl) Tryd.func4
    (ChangeSpec.witness_shaped (enc := enc) (C := Tryd.checked) (os := os) (X := fun w _ => laidMetH Tryd.prog laidL w) false (World.doorLaid Tryd.prog 28 os) #[.int .i64 0, .slice none 0 0] 8 rfl (World.shaped_of_RefB (by kernel_rfl) (by kernel_rfl)) (by kernel_rfl) (by kernel_rfl) (by kernel_rfl) (door_met os _)) ?_
  intro W base args ds gs before hval0 hW _ _ hL _
  have hval : ∀ (j : Nat) t v, Tryd.f4.params[j]? = some t → args[j]? = some v → Value.okWide Tryd.prog W .any base t v := hval0
  have hW' := hW
  obtain ⟨p, q, hA0, hV, rfl, _, _⟩ := hW
  have hA : DataW.TrodAll enc Tryd.prog W 0 (fun _ => true) true Tryd.f4.params.toList args.toList ds p := hA0
  rw [Tryd.params4] at hA hval
  obtain ⟨v0, vs0, d0, ds0, p0, q0, hargs, rfl, rfl, h0, r0⟩ := trodAll_cons hA
  obtain ⟨v1, vs1, d1, ds1, p1, q1, rfl, rfl, rfl, h1, r1⟩ := trodAll_cons r0
  obtain ⟨rfl, rfl, rfl⟩ := trodAll_nil r1
  obtain rfl : args = #[v0, v1] := by cases args; simp_all
  obtain ⟨rfl, rfl⟩ := trodVars_none hV
  have k0 := h0
  have k1 := h1
  have lt0 : ∀ x ∈ p0, x.block < W.heap.size := by obtain ⟨m, hm⟩ := k0; exact DataW.trod_lt m _ _ _ hm
  have lt1 : ∀ x ∈ p1, x.block < W.heap.size := by obtain ⟨m, hm⟩ := k1; exact DataW.trod_lt m _ _ _ hm
  obtain ⟨n0, rfl, _, _, x0⟩ := open_int Tryd.underlying3 (hval 0 3 v0 rfl rfl) h0
  obtain ⟨a1', len1', cap1', rfl⟩ := okWide_slice Tryd.underlying22 (hval 1 22 v1 rfl rfl)
  obtain ⟨a1, len1, cap1, z1, e1, w1⟩ : ∃ a len cap B, Value.slice a1' len1' cap1' = .slice a len cap ∧ BoolsAt W a len B := by
    obtain ⟨fuel, hf⟩ := h1
    exact bools_open Tryd.underlying22 Tryd.underlying4 (by kernel_rfl) hf
  simp only [Value.slice.injEq] at e1
  obtain ⟨rfl, rfl, rfl⟩ := e1
  clear hA0 hval0
  refine (historySignals_walk _ _ _ _ _ W w1 (moves_laid hL)).mono fun e W' ⟨he, bel⟩ => ?_
  subst he
  exact ⟨_, rfl, _, _, _, [], _, [], hW', trodAll_mk1 (shut_bool Tryd.underlying4 _), (trodAll_cons_mk (Below.trod Tryd.laidOut (by kernel_rfl) (of_decide_eq_true (by kernel_rfl)) k0 bel lt0) (trodAll_cons_mk (Below.trod Tryd.laidOut (by kernel_rfl) (of_decide_eq_true (by kernel_rfl)) k1 bel lt1) trodAll_mk0)), rfl, bel.frame _, fun h => by cases h⟩

theorem historySignals_row : Rows.HistorySignalsSaid :=
  OpenClaim.holds_of_wide 4 Tryd.f4 rfl rfl rfl rfl rfl rfl rfl ⟨rfl, rfl, rfl, rfl, rfl⟩ rfl rfl rfl rfl rfl (by kernel_rfl) Tryd.func4 (by kernel_rfl)
    (of_decide_eq_true (by kernel_rfl)) (by unfold Func.isWrapper; first | (rw [if_pos (by decide +kernel)]; kernel_rfl) | (rw [if_neg (by decide +kernel)]; exact ⟨rfl, rfl⟩))
    (fun os started H enc _ => historySignals_lifted os started H enc)

theorem historySignals_holds : Rows.HistorySignalsCardSaid :=
  Claim7.holds_tied_plain_at .later [] [.data] true Rows.historySignalsCard.stood.harness false
    historySignals_row (fun _ h => by cases h) (by kernel_rfl) (fun _ h => by cases h) historySignals_row_tie rfl ⟨rfl, rfl⟩ (by kernel_rfl) rfl
    (fun f fn hf hfn => by
      obtain rfl : f = 4 := Option.some.inj ((show Tryd.prog.funcNamed "tiller/tillerlaw09.HistorySignals" = some 4 by kernel_rfl).symm.trans hf) |>.symm
      obtain rfl : fn = Tryd.f4 := (Option.some.inj (Tryd.func4.symm.trans hfn)).symm
      exact ⟨by kernel_rfl, fun j t ht => by
        rw [Tryd.params4] at ht
        have hm : t ∈ [3, 22] := by simpa using Array.mem_of_getElem? ht
        have hall : ([3, 22].all fun u => !Tryd.prog.wantsStandIn u) = true := by kernel_rfl
        exact (show Tryd.prog.wantsStandIn t = false by simpa using List.all_eq_true.1 hall t hm)⟩)
    (by kernel_rfl)

end Go.Proofs.YtdecceekodpjiaaDoor
