/-
  State: a workflow, written by the program.
-/
import Derived.Test.YtdbplemcjnlfiaaGreatDoorFStN
import Derived.Test.YtdbplemcjnlfiaaGreatDoorFStP9
import Derived.Test.YtdbplemcjnlfiaaGreatDoorFStP10
import Derived.Test.YtdbplemcjnlfiaaGreatDoorFStP12
import Derived.Test.YtdbplemcjnlfiaaGreatDoorFStP19
import Derived.Deep.LoopGhost
import Derived.Deep.CutRange
namespace Go.Proofs.YtdbplemcjnlfiaaGreatDoor
open Go.RowKit Go.Sort

theorem int_eq {a b : Int} (h : a = b) : Value.int .i64 a = .int .i64 b := by rw [h]

set_option maxRecDepth 100000 in
set_option maxHeartbeats 16000000 in
theorem state_any (w : World) (dn : ByteArray) (ad : Option Addr) (ld cd : Nat) (df id pa pn : ByteArray) (st : Int) (tx : ByteArray) (an : Option Addr) (ln cn : Nat) (ag : Option Addr) (lg cg : Nat) (ev : Int) (Nm : Nat → ByteArray) (St Tr : Nat → Int) (Tx : Nat → ByteArray) (z1 : df.size ≤ 1048576) (z2 : id.size ≤ 1048576) (z3 : tx.size ≤ 1048576) (z4 : -9223372036854775808 ≤ ev) (z5 : ev ≤ 9223372036854775807) (R : NdsIn w an ln St Tr Tx) (hl : ln ≤ 40) (D : NmsIn w ad ld Nm) (hd : ld ≤ 40) (T : Utf8At w) (T10 : Pow10 w) :
    Calls Tryz.prog 13 #[.agg #[.string dn, .slice ad ld cd], .agg #[.string df, .string id, .string pa, .string pn, .int .i64 st, .string tx, .slice an ln cn, .slice ag lg cg, .int .i64 ev]] w fun e w' => e = .returned (.string (mkB (stateL id df st tx ev (min ld ln) ln Nm St Tr Tx))) ∧ Kept (fun _ => False) w w' := by
  have HR := hid R
  have HD := hid D
  have HT := hid T
  have HP := hid T10
  have a1 := quote_len id
  have a2 := quote_len df
  have a3 := quote_len (mkB (wordsL st))
  have a4 := wordsL_len st
  have a5 := quote_len tx
  have a6 := itoa_le ev z4 z5
  have a9 := ovN_le St ln
  have a7 := itoa_le ((ovN St ln : Nat) : Int) (by omega) (by omega)
  have a8 := itoa_le ((ln : Int) - ((ovN St ln : Nat) : Int)) (by omega) (by omega)
  rw [mkB_size] at a3
  have HA4 := hid a4
  have HA9 := hid a9
  have HZ1 := hid z1
  have HZ2 := hid z2
  have HZ3 := hid z3
  have HZ := hid (And.intro z4 z5)
  obtain ⟨p1, pH1, r1⟩ := run_cat [123, 34, 102, 108, 111, 119, 34, 58] (quoteP id) (by first | omega | (simp only [List.length_cons, List.length_nil]; omega))
  have pl1 : p1.length = ([123, 34, 102, 108, 111, 119, 34, 58] : List UInt8).length + (quoteP id).length := by rw [pH1.out, List.length_append]
  simp only [List.length_cons, List.length_nil] at pl1
  obtain ⟨p2, pH2, r2⟩ := run_cat p1 [44, 34, 100, 101, 102, 34, 58] (by first | omega | (simp only [List.length_cons, List.length_nil]; omega))
  have pl2 : p2.length = (p1).length + ([44, 34, 100, 101, 102, 34, 58] : List UInt8).length := by rw [pH2.out, List.length_append]
  simp only [List.length_cons, List.length_nil] at pl2
  obtain ⟨p3, pH3, r3⟩ := run_cat p2 (quoteP df) (by first | omega | (simp only [List.length_cons, List.length_nil]; omega))
  have pl3 : p3.length = (p2).length + (quoteP df).length := by rw [pH3.out, List.length_append]
  obtain ⟨x1, xH1, s1⟩ := run_cat [44, 34, 115, 116, 97, 116, 117, 115, 34, 58] (quoteP (mkB (wordsL st))) (by first | omega | (simp only [List.length_cons, List.length_nil]; omega))
  have xl1 : x1.length = ([44, 34, 115, 116, 97, 116, 117, 115, 34, 58] : List UInt8).length + (quoteP (mkB (wordsL st))).length := by rw [xH1.out, List.length_append]
  simp only [List.length_cons, List.length_nil] at xl1
  obtain ⟨x2, xH2, s2⟩ := run_cat x1 [44, 34, 116, 101, 120, 116, 34, 58] (by first | omega | (simp only [List.length_cons, List.length_nil]; omega))
  have xl2 : x2.length = (x1).length + ([44, 34, 116, 101, 120, 116, 34, 58] : List UInt8).length := by rw [xH2.out, List.length_append]
  simp only [List.length_cons, List.length_nil] at xl2
  obtain ⟨x3, xH3, s3⟩ := run_cat x2 (quoteP tx) (by first | omega | (simp only [List.length_cons, List.length_nil]; omega))
  have xl3 : x3.length = (x2).length + (quoteP tx).length := by rw [xH3.out, List.length_append]
  obtain ⟨b1, bH1, t1'⟩ := run_cat [44, 34, 101, 118, 101, 110, 116, 115, 34, 58] (Lib.itoa ev) (by simp only [List.length_cons, List.length_nil]; omega)
  have t1 : ∀ W, (Op.stringOp .add ⟨#[44, 34, 101, 118, 101, 110, 116, 115, 34, 58]⟩ (mkB (Lib.itoa ev))).run Tryz.prog W = .ok (.string (mkB b1)) W := t1'
  have bl1 : b1.length = 10 + (Lib.itoa ev).length := by rw [bH1.out, List.length_append]; rfl
  obtain ⟨c1, cH1, u1⟩ := run_cat [44, 34, 111, 118, 101, 114, 34, 58] (Lib.itoa ((ovN St ln : Nat) : Int)) (by first | omega | (simp only [List.length_cons, List.length_nil]; omega))
  have cl1 : c1.length = ([44, 34, 111, 118, 101, 114, 34, 58] : List UInt8).length + (Lib.itoa ((ovN St ln : Nat) : Int)).length := by rw [cH1.out, List.length_append]
  simp only [List.length_cons, List.length_nil] at cl1
  obtain ⟨c2, cH2, u2⟩ := run_cat c1 [44, 34, 108, 101, 102, 116, 34, 58] (by first | omega | (simp only [List.length_cons, List.length_nil]; omega))
  have cl2 : c2.length = (c1).length + ([44, 34, 108, 101, 102, 116, 34, 58] : List UInt8).length := by rw [cH2.out, List.length_append]
  simp only [List.length_cons, List.length_nil] at cl2
  obtain ⟨c3, cH3, u3⟩ := run_cat c2 (Lib.itoa ((ln : Int) - ((ovN St ln : Nat) : Int))) (by first | omega | (simp only [List.length_cons, List.length_nil]; omega))
  have cl3 : c3.length = (c2).length + (Lib.itoa ((ln : Int) - ((ovN St ln : Nat) : Int))).length := by rw [cH3.out, List.length_append]
  have HPL : Hid (p3.length ≤ 13000000 ∧ x3.length ≤ 7000000 ∧ b1.length ≤ 40 ∧ c3.length ≤ 100) := by show _ ∧ _; omega
  clear pl1 pl2 pl3 xl1 xl2 xl3 cl1 cl2 cl3 bl1 t1' a1 a2 a4 a5 a6 a7 a8 a9
  have K0 : Kept (fun _ => False) w (w.alloc (.cells #[.string dn, .slice ad ld cd] 38)) := Kept.alloc _ _ _
  have hb := heap_alloc_new w (.cells #[.string dn, .slice ad ld cd] 38)
  have K1 : Kept (fun _ => False) (w.alloc (.cells #[.string dn, .slice ad ld cd] 38)) ((w.alloc (.cells #[.string dn, .slice ad ld cd] 38)).alloc (.cells #[.string df, .string id, .string pa, .string pn, .int .i64 st, .string tx, .slice an ln cn, .slice ag lg cg, .int .i64 ev] 42)) := Kept.alloc _ _ _
  have hb1 := heap_alloc_new (w.alloc (.cells #[.string dn, .slice ad ld cd] 38)) (.cells #[.string df, .string id, .string pa, .string pn, .int .i64 st, .string tx, .slice an ln cn, .slice ag lg cg, .int .i64 ev] 42)
  have hsz : (w.alloc (.cells #[.string dn, .slice ad ld cd] 38)).heap.size = w.heap.size + 1 := World.size_alloc _ _
  rw [hsz] at hb1
  have hb0 : ((w.alloc (.cells #[.string dn, .slice ad ld cd] 38)).alloc (.cells #[.string df, .string id, .string pa, .string pn, .int .i64 st, .string tx, .slice an ln cn, .slice ag lg cg, .int .i64 ev] 42)).heap[w.heap.size]? = some (.cells #[.string dn, .slice ad ld cd] 38) := by
    rw [K1.block w.heap.size (by rw [hsz]; omega) (fun h => h)]; exact hb
  clear R D T T10 hb hsz
  go_enter Tryz.func13, Tryz.ntmps13
  go_upto_region 2 with fail
  have HK1 := hid (K0.and K1)
  have HB0 := hid hb0
  have HB1 := hid hb1
  clear K0 K1 hb0 hb1
  generalize (w.alloc (.cells #[.string dn, .slice ad ld cd] 38)).alloc (.cells #[.string df, .string id, .string pa, .string pn, .int .i64 st, .string tx, .slice an ln cn, .slice ag lg cg, .int .i64 ev] 42) = W at *
  generalize hgs : w.heap.size + 1 = gs at *
  generalize w.heap.size = gd at *
  clear hgs
  have HC : Hid (∀ V, Kept (fun _ => False) W V → V.cell? ⟨gs, 0, none⟩ = some (.string df) ∧ V.cell? ⟨gs, 1, none⟩ = some (.string id) ∧ V.cell? ⟨gs, 2, none⟩ = some (.string pa) ∧ V.cell? ⟨gs, 3, none⟩ = some (.string pn) ∧ V.cell? ⟨gs, 4, none⟩ = some (.int .i64 st) ∧ V.cell? ⟨gs, 5, none⟩ = some (.string tx) ∧ V.cell? ⟨gs, 6, none⟩ = some (.slice an ln cn) ∧ V.cell? ⟨gs, 7, none⟩ = some (.slice ag lg cg) ∧ V.cell? ⟨gs, 8, none⟩ = some (.int .i64 ev) ∧ V.cell? ⟨gd, 1, none⟩ = some (.slice ad ld cd)) := fun V KV => by
    refine ⟨?_, ?_, ?_, ?_, ?_, ?_, ?_, ?_, ?_, ?_⟩
    all_goals refine cellKept3 KV ?_
    all_goals first | (simp [World.cell?, HB1.out]; done) | (simp [World.cell?, HB0.out]; done)
  clear HB0 HB1
  obtain ⟨e0, e1, e2, e3, e4, e5, e6, e7, e8, e9⟩ := HC.out W (Kept.refl _ _)
  go_wp2_with fail
  go_loopg [5, 7, 13] ln (fun gk ov pv i wr => ∃ (j : Nat), j ≤ ln ∧ gk + j = ln ∧ i = .int .i64 (j : Int) ∧ ov = .int .i64 ((ovN St j : Nat) : Int) ∧ Kept (fun _ => False) W wr)
  case atStart => exact ⟨0, Nat.zero_le _, by omega, rfl, rfl, Kept.refl _ _⟩
  case round =>
    obtain ⟨j, hj, hgk, rfl, rfl, Kr⟩ := hrel
    have HKr := hid Kr
    clear Kr
    by_cases hlt : j < ln
    · have e0 : (j : Int) < (ln : Int) := by omega
      rcases HR.out.kept (HK1.out.and HKr.out) with h0 | ⟨bn, on, rfl, hcn⟩
      · omega
      obtain ⟨⟨n0, n1, n2⟩, _, _, _⟩ := hcn j hlt
      have HN : Hid (ovN St (j + 1) = ovN St j + if St j = 3 then 1 else 0) := rfl
      have HL := hid (ovN_le St j)
      clear hcn
      generalize hs : St j = ns at *
      generalize Tr j = nt at *
      generalize Tx j = nx at *
      clear hs
      go_upto_region 5 with fail
      have KA := hid (Kept.alloc (fun _ => False) wr (.cells #[.int .i64 ns, .int .i64 nt, .string nx] 67))
      have hbn := heap_alloc_new wr (.cells #[.int .i64 ns, .int .i64 nt, .string nx] 67)
      generalize wr.alloc (.cells #[.int .i64 ns, .int .i64 nt, .string nx] 67) = W4 at *
      generalize wr.heap.size = gn at *
      have m0 : W4.cell? ⟨gn, 0, none⟩ = some (.int .i64 ns) := by simp [World.cell?, hbn]
      clear hbn n0 n1 n2
      by_cases h3 : ns = 3
      · have HN2 : Hid (ovN St (j + 1) = ovN St j + 1) := by show _ = _; rw [HN.out, if_pos h3]
        have e1 : (ns == 3) = true := by rw [beq_iff_eq]; exact h3
        have hov : IntKind.i64.wrap (((ovN St j : Nat) : Int) + 1) = ((ovN St j : Nat) : Int) + 1 := by rw [IntKind.wrap_i64]; have := HL.out; omega
        clear h3
        go_wp2
        go_roundg (ln - (j + 1))
        case measure => omega
        case rel => exact ⟨j + 1, by omega, by omega, by go_num, by rw [HN2.out]; go_num, HKr.out.and KA.out⟩
      · have HN2 : Hid (ovN St (j + 1) = ovN St j) := by show _ = _; rw [HN.out, if_neg h3]; rfl
        have e1 : (ns == 3) = false := by rw [beq_eq_false_iff_ne]; exact h3
        clear h3
        go_wp2
        go_roundg (ln - (j + 1))
        case measure => omega
        case rel => exact ⟨j + 1, by omega, by omega, by go_num, by rw [HN2.out], HKr.out.and KA.out⟩
    · have e0 : ¬ (j : Int) < (ln : Int) := by omega
      have HJ : Hid (j = ln) := by show j = ln; omega
      obtain rfl : j = ln := HJ.out
      clear hlt
      obtain ⟨wb, hwb⟩ : ∃ x, x = wr := ⟨_, rfl⟩
      subst wr
      go_upto_region 9 with fail
      have HS0 := hid (BSt.begun wb)
      have HG : Hid (∀ V, Kept (fun _ => False) wb V → V.cell? ⟨gs, 0, none⟩ = some (.string df) ∧ V.cell? ⟨gs, 1, none⟩ = some (.string id) ∧ V.cell? ⟨gs, 2, none⟩ = some (.string pa) ∧ V.cell? ⟨gs, 3, none⟩ = some (.string pn) ∧ V.cell? ⟨gs, 4, none⟩ = some (.int .i64 st) ∧ V.cell? ⟨gs, 5, none⟩ = some (.string tx) ∧ V.cell? ⟨gs, 6, none⟩ = some (.slice an j cn) ∧ V.cell? ⟨gs, 7, none⟩ = some (.slice ag lg cg) ∧ V.cell? ⟨gs, 8, none⟩ = some (.int .i64 ev) ∧ V.cell? ⟨gd, 1, none⟩ = some (.slice ad ld cd)) := fun V KV => HC.out V (HKr.out.and KV)
      generalize wb.alloc (.cells #[.pointer none, .slice none 0 0] 49) = W5 at *
      generalize wb.heap.size = g at *
      have HTr := hid (HT.out.kept (HK1.out.and HKr.out))
      have HPr := hid (HP.out.kept (HK1.out.and HKr.out))
      refine wp_onlyN (stP9 (W := W5) (Q := fun V => BSt wb V g p3) (fun V hV => by obtain ⟨e0, e1, e2, e3, e4, e5, e6, e7, e8, e9⟩ := HG.out V hV.kept; exact ⟨e0, e1⟩) _ (fun V KV => by obtain ⟨e0, e1, e2, e3, e4, e5, e6, e7, e8, e9⟩ := HG.out V (HS0.out.call KV).kept; exact ⟨e0, e1⟩) (h1 := fun V KV => quote_any V id (by have := HZ2.out; omega) (HTr.out.kept (HS0.out.call KV).kept)) (h2 := fun V KV => quote_any V df (by have := HZ1.out; omega) (HTr.out.kept (HS0.out.call KV).kept)) (h3 := fun V KV => write_any (HS0.out.call KV) (mkB p3) (by rw [mkB_size]; have := HPL.out.1; simp only [List.length_nil]; omega)) (r1 := r1) (r2 := r2) (r3 := r3) (h := ?_))
      intro v23 v24 v25 v26 v27 v28 v29 v30 v31 v32 w1 S1
      have HS1 := hid S1
      clear S1 r1 r2 r3
      go_wp2
      refine wp_onlyN (stP10 (W := w1) (Q := fun V => BSt wb V g (p3 ++ x3)) (fun V hV => by obtain ⟨e0, e1, e2, e3, e4, e5, e6, e7, e8, e9⟩ := HG.out V hV.kept; exact ⟨e4, e5⟩) _ (fun V KV => by obtain ⟨e0, e1, e2, e3, e4, e5, e6, e7, e8, e9⟩ := HG.out V (HS1.out.call KV).kept; exact ⟨e4, e5⟩) (h1 := fun V KV => words_any V st) (h2 := fun V KV => quote_any V (mkB (wordsL st)) (by rw [mkB_size]; have := HA4.out; omega) (HTr.out.kept (HS1.out.call KV).kept)) (h3 := fun V KV => quote_any V tx (by have := HZ3.out; omega) (HTr.out.kept (HS1.out.call KV).kept)) (h4 := fun V KV => write_any (HS1.out.call KV) (mkB x3) (by rw [mkB_size]; have := HPL.out; omega)) (r1 := s1) (r2 := s2) (r3 := s3) (h := ?_))
      intro v33 v34 v35 v36 v37 v38 v39 v40 v41 v42 v43 w2 S2
      have HS2 := hid S2
      clear S2 s1 s2 s3
      have hI := itoa_any w2 (HPr.out.kept HS2.out.kept) ev HZ.out.1 HZ.out.2
      obtain ⟨e0, e1, e2, e3, e4, e5, e6, e7, e8, e9⟩ := HG.out w2 HS2.out.kept
      clear e0 e1 e2 e3 e4 e5 e6 e7 e9
      go_upto_region 12 with (first
        | (go_at_call 29; refine hI.mono ?_; rintro e w3 ⟨rfl, K3⟩; clear hI e8; have hW := write_any (HS2.out.call K3) (mkB b1) (by rw [mkB_size, List.length_append]; have := HPL.out; omega); clear K3)
        | (go_at_call 18; refine hW.mono ?_; rintro e w4 ⟨rfl, S4⟩; clear hW; have HS4 : Hid (BSt wb w4 g (p3 ++ x3 ++ b1)) := S4; clear S4)
        | fail)
      have hsub : IntKind.i64.wrap ((j : Int) - ((ovN St j : Nat) : Int)) = (j : Int) - ((ovN St j : Nat) : Int) := by rw [IntKind.wrap_i64]; have := HA9.out; omega
      refine wp_onlyN (stP12 (W := w4) (Q := fun V => BSt wb V g (p3 ++ x3 ++ b1 ++ c3)) (fun V hV => by obtain ⟨e0, e1, e2, e3, e4, e5, e6, e7, e8, e9⟩ := HG.out V hV.kept; exact e6) _ (fun V KV => by obtain ⟨e0, e1, e2, e3, e4, e5, e6, e7, e8, e9⟩ := HG.out V (HS4.out.call KV).kept; exact e6) (h1 := fun V KV => itoa_any V (HPr.out.kept (HS4.out.call KV).kept) _ (by have := HA9.out; omega) (by have := HA9.out; omega)) (h2 := fun V KV => itoa_any V (HPr.out.kept (HS4.out.call KV).kept) _ (by have := HA9.out; omega) (by have := HA9.out; omega)) (h3 := fun V KV => write_any (HS4.out.call KV) (mkB c3) (by rw [mkB_size, List.length_append, List.length_append]; have := HPL.out; omega)) (r1 := u1) (r2 := u2) (r3 := u3) (hsub := hsub) (h := ?_))
      intro v49 v50 v51 v52 v53 v54 v55 v56 v57 v58 v59 v60 w5 S5
      have HS5 := hid S5
      clear S5 hsub u1 u2 u3
      have hW := write_any HS5.out ⟨#[44, 34, 110, 111, 100, 101, 115, 34, 58, 91]⟩ (by show _ + 10 ≤ _; simp only [List.length_append]; have := HPL.out; omega)
      go_upto_region 14 with (first
        | (go_at_call 18; refine hW.mono ?_; rintro e w6 ⟨rfl, S6⟩; clear hW; have HS6 : Hid (BSt wb w6 g (p3 ++ x3 ++ b1 ++ c3 ++ [44, 34, 110, 111, 100, 101, 115, 34, 58, 91])) := S6; clear S6)
        | fail)
      obtain ⟨P, hP⟩ : ∃ P, P = p3 ++ x3 ++ b1 ++ c3 ++ [44, 34, 110, 111, 100, 101, 115, 34, 58, 91] := ⟨_, rfl⟩
      have HP' := hid hP
      rw [← hP] at HS6
      clear hP
      obtain ⟨f, hf⟩ : ∃ f, f = fun i => nodeL (Nm i) (St i) (Tr i) (Tx i) := ⟨_, rfl⟩
      have HF := hid hf
      clear hf
      obtain ⟨M, hM⟩ : ∃ M, M = min ld j := ⟨_, rfl⟩
      have HM := hid hM
      clear hM
      obtain ⟨e0, e1, e2, e3, e4, e5, e6, e7, e8, e9⟩ := HG.out w6 HS6.out.kept
      clear e0 e1 e2 e3 e4 e5 e7 e8
      go_cut [68, 69] from 62 to 69 (fun v u wx => v = .int .i64 (M : Int) ∧ u = .int .i64 0 ∧ wx = w6)
      case first =>
        go_wp2_with fail
        go_meet
        case rel => exact ⟨int_eq (by rw [HM.out]; omega), rfl, rfl⟩
      case rest =>
        obtain ⟨hc1, hc2, hcw⟩ := hcut
        subst wc
        subst hc1
        subst hc2
        clear e6 e9
        have HME : Hid (P = headL id df st tx ev ((ovN St j : Nat) : Int) ((j : Int) - ((ovN St j : Nat) : Int))) := by
          show P = _
          rw [HP'.out, pH3.out, pH2.out, pH1.out, xH3.out, xH2.out, xH1.out, bH1.out, cH3.out, cH2.out, cH1.out]
          unfold headL
          simp only [List.append_assoc]
        have HPP : Hid (P.length ≤ 40000000) := by
          show _ ≤ _
          rw [HP'.out]
          simp only [List.length_append, List.length_cons, List.length_nil]
          have := HPL.out
          omega
        have HMN : Hid (M ≤ ld ∧ M ≤ j ∧ M ≤ 40) := by
          show M ≤ ld ∧ M ≤ j ∧ M ≤ 40
          rw [HM.out]
          omega
        have HLA : Hid (∀ k, k ≤ M → (accL P f k).length ≤ 900000000000) := fun k hk => by
          have h1 := HPP.out
          have h5 := HMN.out
          have h2 : (nodesL f k).length ≤ k * 20000001 := by
            rcases Nat.eq_zero_or_pos k with h0 | h0
            · subst h0; simp [nodesL]
            · rcases HD.out with hz | ⟨bd, od, _, hcd⟩
              · omega
              rcases HR.out with hz | ⟨bn, on, _, hcn⟩
              · omega
              rw [HF.out]
              exact nodesL_len _ k (fun i hi => nodeL_len _ _ _ _ (hcd i (by omega)).2 (hcn i (by omega)).2.1 (hcn i (by omega)).2.2.1 (hcn i (by omega)).2.2.2) k (Nat.le_refl _)
          unfold accL
          rw [List.length_append]
          omega
        have HS7 : Hid (BSt wb w6 g (accL P f 0)) := by
          show BSt wb w6 g (P ++ [])
          rw [List.append_nil]
          exact HS6.out
        go_wp2_with fail
        go_loopg [9, 69] M (fun gk jv i wn => ∃ (k : Nat), k ≤ M ∧ gk + k = M ∧ i = .int .i64 (k : Int) ∧ BSt wb wn g (accL P f k))
        case atStart => exact ⟨0, Nat.zero_le _, by omega, rfl, HS7.out⟩
        case round =>
          obtain ⟨k, hk, hgk2, rfl, S8⟩ := hrel
          have HS8 := hid S8
          clear S8
          have HN := hid (accL_next P f k)
          have HLK := hid (HLA.out k hk)
          by_cases hlt : k < M
          · have e0 : (k : Int) < (M : Int) := by omega
            rcases HD.out.kept (HK1.out.and HKr.out) with h0 | ⟨bd, od, rfl, hcd⟩
            · have := HMN.out; omega
            rcases HR.out.kept (HK1.out.and HKr.out) with h0 | ⟨bn, on, rfl, hcn⟩
            · have := HMN.out; omega
            have hjd : (k : Int) < (ld : Int) := by have := HMN.out; omega
            have hjn : (k : Int) < (j : Int) := by have := HMN.out; omega
            obtain ⟨d0, g1⟩ := hcd k (by omega)
            obtain ⟨⟨n0, n1, n2⟩, g2, g3, g4⟩ := hcn k (by omega)
            have HFJ : Hid (f k = nodeL (Nm k) (St k) (Tr k) (Tx k)) := by show f k = _; rw [HF.out]
            clear hcd hcn
            generalize Nm k = nm at *
            generalize St k = ns at *
            generalize Tr k = nt at *
            generalize Tx k = nx at *
            have HNL := hid (nodeL_len nm ns nt nx g1 g2 g3 g4)
            have HD0 := hid d0
            have HN3 := hid (And.intro n0 (And.intro n1 n2))
            have HX3 : Hid (∀ V, Kept (fun _ => False) wb V → V.cell? ⟨bd, od + k * 7, none⟩ = some (.string nm) ∧ V.cell? ⟨bn, on + k * 3, none⟩ = some (.int .i64 ns) ∧ V.cell? ⟨bn, on + k * 3 + 1, none⟩ = some (.int .i64 nt) ∧ V.cell? ⟨bn, on + k * 3 + 2, none⟩ = some (.string nx) ∧ V.cell? ⟨gd, 1, none⟩ = some (.slice (some ⟨bd, od, none⟩) ld cd) ∧ V.cell? ⟨gs, 6, none⟩ = some (.slice (some ⟨bn, on, none⟩) j cn)) := fun V KV => by
              obtain ⟨e0, e1, e2, e3, e4, e5, e6, e7, e8, e9⟩ := HG.out V KV
              exact ⟨cellKept3 KV d0, cellKept3 KV n0, cellKept3 KV n1, cellKept3 KV n2, e9, e6⟩
            have HSZ := hid (And.intro g1 (And.intro g2 (And.intro g3 g4)))
            clear d0 n0 n1 n2 g1 g2 g3 g4
            obtain ⟨B1, hB1⟩ : ∃ B1, B1 = accL P f k ++ (if k = 0 then ([] : List UInt8) else [44]) := ⟨_, rfl⟩
            have HB1 := hid hB1
            have HL1 : Hid (B1.length ≤ 900000000001) := by
              show _ ≤ _
              have h := HLK.out
              rw [hB1, List.length_append]
              have h3 : (if k = 0 then ([] : List UInt8) else [44]).length ≤ 1 := by split <;> simp
              omega
            clear hB1
            obtain ⟨b5, hb5⟩ : ∃ b5 : Bool, b5 = decide (0 < k) := ⟨_, rfl⟩
            have HB5 := hid hb5
            clear hb5
            go_upto_region 17 with fail
            go_cut [69, 73] from 69 to 88 (fun u v wx => u = .int .i64 (k : Int) ∧ v = .bool b5 ∧ wx = wr)
            case first =>
              go_wp2_with fail
              go_meet
              case rel => exact ⟨rfl, by rw [HB5.out], rfl⟩
            case rest =>
              obtain ⟨hc4, hc5, hcw5⟩ := hcut
              subst wc
              subst hc4
              subst hc5
              go_upto_if 73 with fail
              go_cut [69] from 69 to 88 (fun u wx => u = .int .i64 (k : Int) ∧ BSt wb wx g B1)
              case first =>
                cases b5 with
                | false =>
                  have HJ0 : Hid (k = 0) := by
                    have h := of_decide_eq_false HB5.out.symm
                    show k = 0
                    omega
                  go_wp2_with fail
                  go_meet
                  case rel => exact ⟨rfl, by rw [HB1.out, if_pos HJ0.out, List.append_nil]; exact HS8.out⟩
                | true =>
                  have HJ0 : Hid (¬ k = 0) := by
                    have h := of_decide_eq_true HB5.out.symm
                    show ¬ k = 0
                    omega
                  have hWb := writeByte_any HS8.out 44 (by have := HLK.out; omega)
                  change Calls Tryz.prog 16 #[_, .int .u8 44] _ _ at hWb
                  go_wp2_with (first
                    | (go_at_call 16; refine hWb.mono ?_; rintro e w8 ⟨rfl, S9⟩; clear hWb)
                    | fail)
                  go_meet
                  case rel => exact ⟨rfl, by rw [HB1.out, if_neg HJ0.out]; exact S9⟩
              case rest =>
                obtain ⟨hc6, S9⟩ := hcut
                subst hc6
                have HS9 := hid S9
                clear S9
                go_wp2_with fail
                refine wp_onlyN (stP19 (W := wc) (bn := bn) (on := on) (bd := bd) (od := od) (cd := cd) (cn := cn) (Q := fun V => BSt wb V g (B1 ++ nodeL nm ns nt nx)) (fun V hV => HX3.out V hV.kept) _ (fun V KV => HX3.out V (HS9.out.call KV).kept) (h1 := fun V KV => node_any V nm ns nt nx HSZ.out.1 HSZ.out.2.1 HSZ.out.2.2.1 HSZ.out.2.2.2 (HTr.out.kept (HS9.out.call KV).kept) (HPr.out.kept (HS9.out.call KV).kept)) (h2 := fun V KV => write_any (HS9.out.call KV) (mkB (nodeL nm ns nt nx)) (by rw [mkB_size]; have := HL1.out; have := HNL.out; omega)) (hj := hjd) (hj2 := hjn) (h := ?_))
                intro v75 v76 v77 v78 v79 v80 v81 v82 v83 v84 v85 v86 v87 w9 S10
                have HS10 := hid S10
                clear S10
                go_wp2
                go_roundg (M - (k + 1))
                case measure => omega
                case rel =>
                  refine ⟨k + 1, by omega, by omega, by go_num, ?_⟩
                  rw [HN.out, ← HB1.out, HFJ.out]
                  exact HS10.out
          · have e0 : ¬ (k : Int) < (M : Int) := by omega
            have HKM : Hid (k = M) := by show k = M; omega
            have hW := write_any HS8.out ⟨#[93, 125]⟩ (by show _ + 2 ≤ _; have := HLK.out; omega)
            go_wp2_with (first
              | (go_at_call 18; refine hW.mono ?_; rintro e w8 ⟨rfl, S9⟩; clear hW; have hQ := string_any S9; clear S9)
              | (go_at_call 20; refine hQ.mono ?_; rintro e w9 ⟨rfl, K9⟩; clear hQ)
              | fail)
            go_ret
            refine ⟨?_, HK1.out.and (HKr.out.and K9)⟩
            show Ending.returned (.string (mkB (accL P f k ++ [93, 125]))) = _
            rw [HKM.out, HM.out]
            unfold accL stateL
            rw [HME.out, HF.out]

end Go.Proofs.YtdbplemcjnlfiaaGreatDoor
