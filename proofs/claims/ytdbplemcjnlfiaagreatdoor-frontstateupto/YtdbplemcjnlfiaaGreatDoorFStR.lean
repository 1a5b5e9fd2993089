/-
  The document's State.
-/
import Derived.Test.YtdbplemcjnlfiaaGreatDoorFStC
import Derived.Test.YtdbplemcjnlfiaaGreatDoorFStR2
import Derived.Test.YtdbplemcjnlfiaaGreatDoorFStR9
import Derived.Deep.LoopGhost
import Derived.Deep.CutRange
namespace Go.Proofs.YtdbplemcjnlfiaaGreatDoor
open Go.RowKit Go.Sort

set_option maxRecDepth 100000 in
set_option maxHeartbeats 8000000 in
theorem refState_any (w : World) (dn : ByteArray) (ad : Option Addr) (ld cd : Nat) (df id pa pn : ByteArray) (st : Int) (tx : ByteArray) (an : Option Addr) (ln cn : Nat) (ag : Option Addr) (lg cg : Nat) (ev : Int) (Nm : Nat → ByteArray) (St Tr : Nat → Int) (Tx : Nat → ByteArray) (z1 : df.size ≤ 1048576) (z2 : id.size ≤ 1048576) (z3 : tx.size ≤ 1048576) (z4 : -9223372036854775808 ≤ ev) (z5 : ev ≤ 9223372036854775807) (R : NdsIn w an ln St Tr Tx) (hl : ln ≤ 40) (D : NmsIn w ad ld Nm) (hd : ld ≤ 40) :
    Calls Tryz.prog 14 #[.agg #[.string dn, .slice ad ld cd], .agg #[.string df, .string id, .string pa, .string pn, .int .i64 st, .string tx, .slice an ln cn, .slice ag lg cg, .int .i64 ev]] w fun e w' => e = .returned (.string (mkB (stateL id df st tx ev (min ld ln) ln Nm St Tr Tx))) ∧ Kept (fun _ => False) w w' := by
  have HR := hid R
  have HD := hid D
  have a1 := quote_len id
  have a2 := quote_len df
  have a3 := quote_len (mkB (wordsL st))
  have a4 := wordsL_len st
  have a5 := quote_len tx
  have a6 := itoa_le ev z4 z5
  have a9 := ovN_le St ln
  have a7 := itoa_le ((ovN St ln : Nat) : Int) (by omega) (by omega)
  have a8 := itoa_le ((ln : Int) - ((ovN St ln : Nat) : Int)) (by omega) (by omega)
  rw [mkB_size] at a3
  have HA4 := hid a4
  have HA9 := hid a9
  have HZ1 := hid z1
  have HZ2 := hid z2
  have HZ3 := hid z3
  have HZ := hid (And.intro z4 z5)
  obtain ⟨p1, pH1, r1⟩ := run_cat [123, 34, 102, 108, 111, 119, 34, 58] (quoteP id) (by first | omega | (simp only [List.length_cons, List.length_nil]; omega))
  have pl1 : p1.length = ([123, 34, 102, 108, 111, 119, 34, 58] : List UInt8).length + (quoteP id).length := by rw [pH1.out, List.length_append]
  simp only [List.length_cons, List.length_nil] at pl1
  obtain ⟨p2, pH2, r2⟩ := run_cat p1 [44, 34, 100, 101, 102, 34, 58] (by first | omega | (simp only [List.length_cons, List.length_nil]; omega))
  have pl2 : p2.length = (p1).length + ([44, 34, 100, 101, 102, 34, 58] : List UInt8).length := by rw [pH2.out, List.length_append]
  simp only [List.length_cons, List.length_nil] at pl2
  obtain ⟨p3, pH3, r3⟩ := run_cat p2 (quoteP df) (by first | omega | (simp only [List.length_cons, List.length_nil]; omega))
  have pl3 : p3.length = (p2).length + (quoteP df).length := by rw [pH3.out, List.length_append]
  obtain ⟨p4, pH4, r4⟩ := run_cat p3 [44, 34, 115, 116, 97, 116, 117, 115, 34, 58] (by first | omega | (simp only [List.length_cons, List.length_nil]; omega))
  have pl4 : p4.length = (p3).length + ([44, 34, 115, 116, 97, 116, 117, 115, 34, 58] : List UInt8).length := by rw [pH4.out, List.length_append]
  simp only [List.length_cons, List.length_nil] at pl4
  obtain ⟨p5, pH5, r5⟩ := run_cat p4 (quoteP (mkB (wordsL st))) (by first | omega | (simp only [List.length_cons, List.length_nil]; omega))
  have pl5 : p5.length = (p4).length + (quoteP (mkB (wordsL st))).length := by rw [pH5.out, List.length_append]
  obtain ⟨p6, pH6, r6⟩ := run_cat p5 [44, 34, 116, 101, 120, 116, 34, 58] (by first | omega | (simp only [List.length_cons, List.length_nil]; omega))
  have pl6 : p6.length = (p5).length + ([44, 34, 116, 101, 120, 116, 34, 58] : List UInt8).length := by rw [pH6.out, List.length_append]
  simp only [List.length_cons, List.length_nil] at pl6
  obtain ⟨p7, pH7, r7⟩ := run_cat p6 (quoteP tx) (by first | omega | (simp only [List.length_cons, List.length_nil]; omega))
  have pl7 : p7.length = (p6).length + (quoteP tx).length := by rw [pH7.out, List.length_append]
  obtain ⟨p8, pH8, r8⟩ := run_cat p7 [44, 34, 101, 118, 101, 110, 116, 115, 34, 58] (by first | omega | (simp only [List.length_cons, List.length_nil]; omega))
  have pl8 : p8.length = (p7).length + ([44, 34, 101, 118, 101, 110, 116, 115, 34, 58] : List UInt8).length := by rw [pH8.out, List.length_append]
  simp only [List.length_cons, List.length_nil] at pl8
  obtain ⟨p9, pH9, r9⟩ := run_cat p8 (Lib.itoa ev) (by first | omega | (simp only [List.length_cons, List.length_nil]; omega))
  have pl9 : p9.length = (p8).length + (Lib.itoa ev).length := by rw [pH9.out, List.length_append]
  obtain ⟨p10, pH10, r10⟩ := run_cat p9 [44, 34, 111, 118, 101, 114, 34, 58] (by first | omega | (simp only [List.length_cons, List.length_nil]; omega))
  have pl10 : p10.length = (p9).length + ([44, 34, 111, 118, 101, 114, 34, 58] : List UInt8).length := by rw [pH10.out, List.length_append]
  simp only [List.length_cons, List.length_nil] at pl10
  obtain ⟨p11, pH11, r11⟩ := run_cat p10 (Lib.itoa ((ovN St ln : Nat) : Int)) (by first | omega | (simp only [List.length_cons, List.length_nil]; omega))
  have pl11 : p11.length = (p10).length + (Lib.itoa ((ovN St ln : Nat) : Int)).length := by rw [pH11.out, List.length_append]
  obtain ⟨p12, pH12, r12⟩ := run_cat p11 [44, 34, 108, 101, 102, 116, 34, 58] (by first | omega | (simp only [List.length_cons, List.length_nil]; omega))
  have pl12 : p12.length = (p11).length + ([44, 34, 108, 101, 102, 116, 34, 58] : List UInt8).length := by rw [pH12.out, List.length_append]
  simp only [List.length_cons, List.length_nil] at pl12
  obtain ⟨p13, pH13, r13⟩ := run_cat p12 (Lib.itoa ((ln : Int) - ((ovN St ln : Nat) : Int))) (by first | omega | (simp only [List.length_cons, List.length_nil]; omega))
  have pl13 : p13.length = (p12).length + (Lib.itoa ((ln : Int) - ((ovN St ln : Nat) : Int))).length := by rw [pH13.out, List.length_append]
  obtain ⟨p14, pH14, r14⟩ := run_cat p13 [44, 34, 110, 111, 100, 101, 115, 34, 58, 91] (by first | omega | (simp only [List.length_cons, List.length_nil]; omega))
  have pl14 : p14.length = (p13).length + ([44, 34, 110, 111, 100, 101, 115, 34, 58, 91] : List UInt8).length := by rw [pH14.out, List.length_append]
  simp only [List.length_cons, List.length_nil] at pl14
  have HE : Hid (p14 = headL id df st tx ev ((ovN St ln : Nat) : Int) ((ln : Int) - ((ovN St ln : Nat) : Int))) := by
    show p14 = _
    rw [pH14.out, pH13.out, pH12.out, pH11.out, pH10.out, pH9.out, pH8.out, pH7.out, pH6.out, pH5.out, pH4.out, pH3.out, pH2.out, pH1.out]
    unfold headL
    simp only [List.append_assoc]
  have HPL : Hid (p14.length ≤ 30000000) := by show _ ≤ _; omega
  clear pl1 pl2 pl3 pl4 pl5 pl6 pl7 pl8 pl9 pl10 pl11 pl12 pl13 pl14 a1 a2 a3 a4 a5 a6 a7 a8 a9
  have K0 : Kept (fun _ => False) w (w.alloc (.cells #[.string dn, .slice ad ld cd] 38)) := Kept.alloc _ _ _
  have hb := heap_alloc_new w (.cells #[.string dn, .slice ad ld cd] 38)
  have K1 : Kept (fun _ => False) (w.alloc (.cells #[.string dn, .slice ad ld cd] 38)) ((w.alloc (.cells #[.string dn, .slice ad ld cd] 38)).alloc (.cells #[.string df, .string id, .string pa, .string pn, .int .i64 st, .string tx, .slice an ln cn, .slice ag lg cg, .int .i64 ev] 42)) := Kept.alloc _ _ _
  have hb1 := heap_alloc_new (w.alloc (.cells #[.string dn, .slice ad ld cd] 38)) (.cells #[.string df, .string id, .string pa, .string pn, .int .i64 st, .string tx, .slice an ln cn, .slice ag lg cg, .int .i64 ev] 42)
  have hsz : (w.alloc (.cells #[.string dn, .slice ad ld cd] 38)).heap.size = w.heap.size + 1 := World.size_alloc _ _
  rw [hsz] at hb1
  have hb0 : ((w.alloc (.cells #[.string dn, .slice ad ld cd] 38)).alloc (.cells #[.string df, .string id, .string pa, .string pn, .int .i64 st, .string tx, .slice an ln cn, .slice ag lg cg, .int .i64 ev] 42)).heap[w.heap.size]? = some (.cells #[.string dn, .slice ad ld cd] 38) := by
    rw [K1.block w.heap.size (by rw [hsz]; omega) (fun h => h)]; exact hb
  clear R D hb hsz
  go_enter Tryz.func14, Tryz.ntmps14
  go_wp2_with fail
  have HK1 := hid (K0.and K1)
  have HB0 := hid hb0
  have HB1 := hid hb1
  clear K0 K1 hb0 hb1
  generalize (w.alloc (.cells #[.string dn, .slice ad ld cd] 38)).alloc (.cells #[.string df, .string id, .string pa, .string pn, .int .i64 st, .string tx, .slice an ln cn, .slice ag lg cg, .int .i64 ev] 42) = W at *
  generalize hgs : w.heap.size + 1 = gs at *
  generalize w.heap.size = gd at *
  clear hgs
  have HC : Hid (∀ V, Kept (fun _ => False) W V → V.cell? ⟨gs, 0, none⟩ = some (.string df) ∧ V.cell? ⟨gs, 1, none⟩ = some (.string id) ∧ V.cell? ⟨gs, 2, none⟩ = some (.string pa) ∧ V.cell? ⟨gs, 3, none⟩ = some (.string pn) ∧ V.cell? ⟨gs, 4, none⟩ = some (.int .i64 st) ∧ V.cell? ⟨gs, 5, none⟩ = some (.string tx) ∧ V.cell? ⟨gs, 6, none⟩ = some (.slice an ln cn) ∧ V.cell? ⟨gs, 7, none⟩ = some (.slice ag lg cg) ∧ V.cell? ⟨gs, 8, none⟩ = some (.int .i64 ev) ∧ V.cell? ⟨gd, 1, none⟩ = some (.slice ad ld cd)) := fun V KV => by
    refine ⟨?_, ?_, ?_, ?_, ?_, ?_, ?_, ?_, ?_, ?_⟩
    all_goals refine cellKept3 KV ?_
    all_goals first | (simp [World.cell?, HB1.out]; done) | (simp [World.cell?, HB0.out]; done)
  clear HB0 HB1
  obtain ⟨e0, e1, e2, e3, e4, e5, e6, e7, e8, e9⟩ := HC.out W (Kept.refl _ _)
  have hCt := count_any W df id pa pn st tx an ln cn ag lg cg ev St Tr Tx (HR.out.kept HK1.out) hl
  go_upto_region 2 with (first
    | (go_at_call 31; refine hCt.mono ?_; rintro e W2 ⟨rfl, K2⟩; clear hCt e0 e1 e2 e3 e4 e5 e6 e7 e8 e9; have HK2 := hid K2; clear K2)
    | fail)
  refine wp_onlyN (stR2 _ (fun V KV => by obtain ⟨e0, e1, e2, e3, e4, e5, e6, e7, e8, e9⟩ := HC.out V (HK2.out.and KV); exact ⟨e0, e1, e4, e5, e8⟩) (h1 := fun V KV => refQuote_any V id (by have := HZ2.out; omega)) (h2 := fun V KV => refQuote_any V df (by have := HZ1.out; omega)) (h3 := fun V KV => refWords_any V st) (h4 := fun V KV => refQuote_any V (mkB (wordsL st)) (by rw [mkB_size]; have := HA4.out; omega)) (h5 := fun V KV => refQuote_any V tx (by have := HZ3.out; omega)) (h6 := fun V KV => digits_any V ev HZ.out.1 HZ.out.2) (h7 := fun V KV => digits_any V _ (by have := HA9.out; omega) (by have := HA9.out; omega)) (h8 := fun V KV => digits_any V _ (by have := HA9.out; omega) (by have := HA9.out; omega)) (r1 := r1) (r2 := r2) (r3 := r3) (r4 := r4) (r5 := r5) (r6 := r6) (r7 := r7) (r8 := r8) (r9 := r9) (r10 := r10) (r11 := r11) (r12 := r12) (r13 := r13) (r14 := r14) (h := ?_))
  intro v15 v16 v17 v18 v19 v20 v21 v22 v23 v24 v25 v26 v27 v28 v29 v30 v31 v32 v33 v34 v35 v36 v37 v38 v39 v40 v41 v42 v43 v44 v45 v46 v47 v48 W3 K3
  have HK3 := hid (HK2.out.and K3)
  clear K3 HK2 r1 r2 r3 r4 r5 r6 r7 r8 r9 r10 r11 r12 r13 r14
  obtain ⟨f, hf⟩ : ∃ f, f = fun i => nodeL (Nm i) (St i) (Tr i) (Tx i) := ⟨_, rfl⟩
  have HF := hid hf
  clear hf
  have HMN : Hid (min ld ln = min ld ln) := hid rfl
  go_wp2
  go_loopg [7, 8, 9] ln (fun gk sv i pv wr => ∃ (j : Nat), j ≤ ln ∧ j ≤ ld ∧ gk + j = ln ∧ i = .int .i64 (j : Int) ∧ sv = .string (mkB (accL p14 f j)) ∧ Kept (fun _ => False) W wr)
  case atStart => exact ⟨0, Nat.zero_le _, Nat.zero_le _, by omega, rfl, by simp [accL, nodesL], HK3.out⟩
  case round =>
    obtain ⟨j, hj1, hj2, hgk, rfl, rfl, Kr⟩ := hrel
    have HKr := hid Kr
    clear Kr
    obtain ⟨e0, e1, e2, e3, e4, e5, e6, e7, e8, e9⟩ := HC.out wr HKr.out
    clear e0 e1 e2 e3 e4 e5 e7 e8
    obtain ⟨b2, hb2⟩ : ∃ b2 : Bool, b2 = decide (j < ln ∧ j < ld) := ⟨_, rfl⟩
    have HB2 := hid hb2
    clear hb2
    have HN := hid (accL_next p14 f j)
    generalize hB0 : accL p14 f j = B0 at *
    have HBE : Hid (B0 = accL p14 f j) := hB0.symm
    clear hB0
    go_upto_region 4 with fail
    go_cut [60] from 49 to 98 (fun v wx => v = .bool b2 ∧ wx = wr)
    case first =>
      by_cases h1 : (j : Int) < (ln : Int)
      · by_cases h2 : (j : Int) < (ld : Int)
        · have HB : Hid (b2 = true) := by show b2 = true; rw [HB2.out, decide_eq_true_eq]; omega
          go_wp2_with fail
          go_meet
          case rel => exact ⟨by rw [HB.out], rfl⟩
        · have HB : Hid (b2 = false) := by show b2 = false; rw [HB2.out, decide_eq_false_iff_not]; omega
          go_wp2_with fail
          go_meet
          case rel => exact ⟨by rw [HB.out], rfl⟩
      · have HB : Hid (b2 = false) := by show b2 = false; rw [HB2.out, decide_eq_false_iff_not]; omega
        go_wp2_with fail
        go_meet
        case rel => exact ⟨by rw [HB.out], rfl⟩
    case rest =>
      obtain ⟨hc2, hcw⟩ := hcut
      subst wc
      subst hc2
      cases b2 with
      | false =>
        have HX : Hid (j = min ld ln) := by
          have h := of_decide_eq_false HB2.out.symm
          show j = _
          omega
        have HLB : Hid (B0.length ≤ 900000000000) := by
          show _ ≤ _
          have h1 := HPL.out
          have h2 : (nodesL f j).length ≤ j * 20000001 := by
            rcases Nat.eq_zero_or_pos j with h0 | h0
            · subst h0; simp [nodesL]
            · rcases HD.out with hz | ⟨bd, od, _, hcd⟩
              · omega
              rcases HR.out with hz | ⟨bn, on, _, hcn⟩
              · omega
              rw [HF.out]
              exact nodesL_len _ j (fun i hi => nodeL_len _ _ _ _ (hcd i (by omega)).2 (hcn i (by omega)).2.1 (hcn i (by omega)).2.2.1 (hcn i (by omega)).2.2.2) j (Nat.le_refl _)
          rw [HBE.out]
          unfold accL
          rw [List.length_append]
          omega
        obtain ⟨X1, HX1, r1'⟩ := run_cat B0 [93, 125] (by have := HLB.out; simp only [List.length_cons, List.length_nil]; omega)
        have r1 : ∀ W, (Op.stringOp .add (mkB B0) ⟨#[93, 125]⟩).run Tryz.prog W = .ok (.string (mkB X1)) W := r1'
        clear r1'
        go_wp2_with fail
        go_ret
        refine ⟨?_, HK1.out.and HKr.out⟩
        show Ending.returned (.string (mkB X1)) = _
        rw [HX1.out, HBE.out, HX.out]
        unfold accL stateL
        rw [HE.out, HF.out]
      | true =>
        have hb2 : j < ln ∧ j < ld := of_decide_eq_true HB2.out.symm
        obtain ⟨h1, h2⟩ := hb2
        have hj : (j : Int) < (ld : Int) := by omega
        have hj2' : (j : Int) < (ln : Int) := by omega
        rcases HD.out.kept (HK1.out.and HKr.out) with h0 | ⟨bd, od, rfl, hcd⟩
        · omega
        rcases HR.out.kept (HK1.out.and HKr.out) with h0 | ⟨bn, on, rfl, hcn⟩
        · omega
        have HLJ : Hid (B0.length ≤ 900000000000) := by
          show _ ≤ _
          have h1 := HPL.out
          have h2 : (nodesL f j).length ≤ j * 20000001 := by
            rw [HF.out]
            exact nodesL_len _ j (fun i hi => nodeL_len _ _ _ _ (hcd i (by omega)).2 (hcn i (by omega)).2.1 (hcn i (by omega)).2.2.1 (hcn i (by omega)).2.2.2) j (Nat.le_refl _)
          rw [HBE.out]
          unfold accL
          rw [List.length_append]
          omega
        obtain ⟨d0, g1⟩ := hcd j h2
        obtain ⟨⟨n0, n1, n2⟩, g2, g3, g4⟩ := hcn j h1
        have HFJ : Hid (f j = nodeL (Nm j) (St j) (Tr j) (Tx j)) := by show f j = _; rw [HF.out]
        clear hcd hcn
        generalize Nm j = nm at *
        generalize St j = ns at *
        generalize Tr j = nt at *
        generalize Tx j = nx at *
        obtain ⟨B1, hB1⟩ : ∃ B1, B1 = B0 ++ (if j = 0 then ([] : List UInt8) else [44]) := ⟨_, rfl⟩
        have HB1 := hid hB1
        have HL1 : Hid (B1.length ≤ 900000000001) := by
          show _ ≤ _
          have h := HLJ.out
          rw [hB1, List.length_append]
          have h3 : (if j = 0 then ([] : List UInt8) else [44]).length ≤ 1 := by split <;> simp
          omega
        clear hB1
        obtain ⟨b5, hb5⟩ : ∃ b5 : Bool, b5 = decide (0 < j) := ⟨_, rfl⟩
        have HB5 := hid hb5
        clear hb5
        have HD0 := hid d0
        have HN3 := hid (And.intro n0 (And.intro n1 n2))
        clear d0 n0 n1 n2
        go_upto_region 6 with fail
        go_cut [64] from 49 to 98 (fun v wx => v = .bool b5 ∧ wx = wr)
        case first =>
          go_wp2_with fail
          go_meet
          case rel => exact ⟨by rw [HB5.out], rfl⟩
        case rest =>
          obtain ⟨hc5, hcw5⟩ := hcut
          subst wc
          subst hc5
          go_upto_if 64 with fail
          go_cut [7] from 49 to 98 (fun sv wx => sv = .string (mkB B1) ∧ wx = wr)
          case first =>
            cases b5 with
            | false =>
              have HJ0 : Hid (j = 0) := by
                have h := of_decide_eq_false HB5.out.symm
                show j = 0
                omega
              go_wp2_with fail
              go_meet
              case rel => exact ⟨by rw [HB1.out, if_pos HJ0.out, List.append_nil], rfl⟩
            | true =>
              have HJ0 : Hid (¬ j = 0) := by
                have h := of_decide_eq_true HB5.out.symm
                show ¬ j = 0
                omega
              obtain ⟨X1, HX1, r1'⟩ := run_cat B0 [44] (by have := HLJ.out; simp only [List.length_cons, List.length_nil]; omega)
              have r1 : ∀ W, (Op.stringOp .add (mkB B0) ⟨#[44]⟩).run Tryz.prog W = .ok (.string (mkB X1)) W := r1'
              clear r1'
              go_wp2_with fail
              go_meet
              case rel => exact ⟨by rw [HX1.out, HB1.out, if_neg HJ0.out], rfl⟩
          case rest =>
            obtain ⟨hc6, hcw6⟩ := hcut
            subst wc
            subst hc6
            obtain ⟨n0, n1, n2⟩ := HN3.out
            go_upto_region 9 with fail
            have KA := hid (Kept.alloc (fun _ => False) wr (.cells #[.int .i64 ns, .int .i64 nt, .string nx] 67))
            have hbn := heap_alloc_new wr (.cells #[.int .i64 ns, .int .i64 nt, .string nx] 67)
            generalize wr.alloc (.cells #[.int .i64 ns, .int .i64 nt, .string nx] 67) = W4 at *
            generalize wr.heap.size = gn at *
            have HBN := hid hbn
            have hl1 := HL1.out
            have b1 := quote_len nm
            have b2 := quote_len (mkB (standL ns))
            have b3 := quote_len nx
            have b4 := standL_len ns
            have b5 := itoa_le nt g3 g4
            rw [mkB_size] at b2
            have HB4 := hid b4
            have HS1 := hid g1
            have HS2 := hid g2
            have HS := hid (And.intro g3 g4)
            obtain ⟨s1, sH1, t1⟩ := run_cat B1 [123, 34, 110, 97, 109, 101, 34, 58] (by first | omega | (simp only [List.length_cons, List.length_nil]; omega))
            have sl1 : s1.length = (B1).length + ([123, 34, 110, 97, 109, 101, 34, 58] : List UInt8).length := by rw [sH1.out, List.length_append]
            simp only [List.length_cons, List.length_nil] at sl1
            obtain ⟨s2, sH2, t2⟩ := run_cat s1 (quoteP nm) (by first | omega | (simp only [List.length_cons, List.length_nil]; omega))
            have sl2 : s2.length = (s1).length + (quoteP nm).length := by rw [sH2.out, List.length_append]
            obtain ⟨s3, sH3, t3⟩ := run_cat s2 [44, 34, 115, 116, 97, 116, 117, 115, 34, 58] (by first | omega | (simp only [List.length_cons, List.length_nil]; omega))
            have sl3 : s3.length = (s2).length + ([44, 34, 115, 116, 97, 116, 117, 115, 34, 58] : List UInt8).length := by rw [sH3.out, List.length_append]
            simp only [List.length_cons, List.length_nil] at sl3
            obtain ⟨s4, sH4, t4⟩ := run_cat s3 (quoteP (mkB (standL ns))) (by first | omega | (simp only [List.length_cons, List.length_nil]; omega))
            have sl4 : s4.length = (s3).length + (quoteP (mkB (standL ns))).length := by rw [sH4.out, List.length_append]
            obtain ⟨s5, sH5, t5⟩ := run_cat s4 [44, 34, 116, 114, 121, 34, 58] (by first | omega | (simp only [List.length_cons, List.length_nil]; omega))
            have sl5 : s5.length = (s4).length + ([44, 34, 116, 114, 121, 34, 58] : List UInt8).length := by rw [sH5.out, List.length_append]
            simp only [List.length_cons, List.length_nil] at sl5
            obtain ⟨s6, sH6, t6⟩ := run_cat s5 (Lib.itoa nt) (by first | omega | (simp only [List.length_cons, List.length_nil]; omega))
            have sl6 : s6.length = (s5).length + (Lib.itoa nt).length := by rw [sH6.out, List.length_append]
            obtain ⟨s7, sH7, t7⟩ := run_cat s6 [44, 34, 116, 101, 120, 116, 34, 58] (by first | omega | (simp only [List.length_cons, List.length_nil]; omega))
            have sl7 : s7.length = (s6).length + ([44, 34, 116, 101, 120, 116, 34, 58] : List UInt8).length := by rw [sH7.out, List.length_append]
            simp only [List.length_cons, List.length_nil] at sl7
            obtain ⟨s8, sH8, t8⟩ := run_cat s7 (quoteP nx) (by first | omega | (simp only [List.length_cons, List.length_nil]; omega))
            have sl8 : s8.length = (s7).length + (quoteP nx).length := by rw [sH8.out, List.length_append]
            obtain ⟨s9, sH9, t9⟩ := run_cat s8 [125] (by first | omega | (simp only [List.length_cons, List.length_nil]; omega))
            have sl9 : s9.length = (s8).length + ([125] : List UInt8).length := by rw [sH9.out, List.length_append]
            simp only [List.length_cons, List.length_nil] at sl9
            have HS9 : Hid (s9 = B1 ++ nodeL nm ns nt nx) := by
              show s9 = _
              rw [sH9.out, sH8.out, sH7.out, sH6.out, sH5.out, sH4.out, sH3.out, sH2.out, sH1.out]
              unfold nodeL
              simp only [List.append_assoc]
            clear sl1 sl2 sl3 sl4 sl5 sl6 sl7 sl8 sl9 b1 b2 b3 b4 b5 g1 g2 g3 g4 hl1 hbn
            refine wp_onlyN (stR9 _ (fun V KV => ⟨cellKept3 (KA.out.and KV) HD0.out, (HC.out V (HKr.out.and (KA.out.and KV))).2.2.2.2.2.2.2.2.2, cellKept3 KV (by simp [World.cell?, HBN.out]), cellKept3 KV (by simp [World.cell?, HBN.out]), cellKept3 KV (by simp [World.cell?, HBN.out])⟩) (h1 := fun V KV => refQuote_any V nm (by have := HS1.out; omega)) (h2 := fun V KV => refStanding_any V ns) (h3 := fun V KV => refQuote_any V (mkB (standL ns)) (by rw [mkB_size]; have := HB4.out; omega)) (h4 := fun V KV => digits_any V nt HS.out.1 HS.out.2) (h5 := fun V KV => refQuote_any V nx (by have := HS2.out; omega)) (r1 := t1) (r2 := t2) (r3 := t3) (r4 := t4) (r5 := t5) (r6 := t6) (r7 := t7) (r8 := t8) (r9 := t9) (hj := hj) (h := ?_))
            intro v72 v73 v74 v75 v76 v77 v78 v79 v80 v81 v82 v83 v84 v85 v86 v87 v88 v89 v90 v91 v92 v93 v94 v95 v96 v97 v98 W9 K9
            have HK9 := hid K9
            clear K9 t1 t2 t3 t4 t5 t6 t7 t8 t9
            go_wp2
            go_roundg (ln - (j + 1))
            case measure => omega
            case rel =>
              refine ⟨j + 1, by omega, by omega, by omega, by go_num, ?_, HKr.out.and (KA.out.and HK9.out)⟩
              rw [HS9.out, HN.out, HB1.out, HFJ.out]

end Go.Proofs.YtdbplemcjnlfiaaGreatDoor
