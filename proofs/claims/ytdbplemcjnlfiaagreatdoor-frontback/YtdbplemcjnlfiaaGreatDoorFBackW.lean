/-
  FrontBack, walked: what is written of texts and numbers as a body is read as them. For every list of fields and of numbers, and every text of blanks.
-/
import Derived.Test.YtdbplemcjnlfiaaGreatDoorFBackK
import Derived.Test.YtdbplemcjnlfiaaGreatDoorFWakes
import Derived.Test.YtdbplemcjnlfiaaGreatDoorFBk12a
import Derived.Test.YtdbplemcjnlfiaaGreatDoorFBk12b
import Derived.Test.YtdbplemcjnlfiaaGreatDoorFBk12c
import Derived.Test.YtdbplemcjnlfiaaGreatDoorFBk12d
import Derived.Test.YtdbplemcjnlfiaaGreatDoorFBk12e
import Derived.Test.YtdbplemcjnlfiaaGreatDoorFBk15
import Derived.Deep.LoopGhost
import Derived.Deep.CutRange
namespace Go.Proofs.YtdbplemcjnlfiaaGreatDoor
open Go.ChangeShapes Go.WideShapes Go.ChangeAt Go.RowKit Go.Deep Go.Shelf

set_option maxRecDepth 100000 in
set_option maxHeartbeats 16000000 in
theorem frontBack_walk (w : World) (a : Option Addr) (len cap : Nat) (K V : Nat → ByteArray) (a2 : Option Addr) (len2 cap2 : Nat) (z : Nat → Int) (bl : ByteArray) (hlen : len ≤ 9223372036854775807) (hP : PrsIn w a len K V) (hN : NumsIn w a2 len2 z) (T : Utf8At w) (M : MaxAt w) :
    Calls Tryz.prog 3 #[.slice a len cap, .slice a2 len2 cap2, .string bl] w fun e w' => e = .returned (.bool true) ∧ Below w.heap.size w w' := by
  have HT := hid T
  have HM := hid M
  have HP := hid hP
  have HN := hid hN
  clear T M hP hN
  go_enter Tryz.func3, Tryz.ntmps3
  go_wp2
  go_loopg [7, 8] 5 (fun gk gv i wr => ∃ (j : Nat) (g : List UInt8), j ≤ bl.size ∧ j ≤ 5 ∧ gk + j = 5 ∧ i = .int .i64 (j : Int) ∧ gv = .string (mkB g) ∧ g.length ≤ j ∧ (∀ x ∈ g, blankB x = true) ∧ wr = w)
  case atStart => exact ⟨0, [], Nat.zero_le _, Nat.zero_le _, by omega, rfl, rfl, Nat.le_refl _, (fun x hx => by cases hx), rfl⟩
  case round =>
    obtain ⟨j, g, hj, hj5, hgk, rfl, rfl, hgl, hgb, hwr⟩ := hrel
    subst wr
    have HG := hid hgb
    clear hgb
    obtain ⟨b, hb⟩ : ∃ b : Bool, b = decide (j < bl.size ∧ j < 5) := ⟨_, rfl⟩
    have HBB := hid hb
    clear hb
    go_upto_region 3 with fail
    go_cut [24] from 17 to 55 (fun v wx => v = .bool b ∧ wx = w)
    case first =>
      by_cases h1 : (j : Int) < (bl.size : Int)
      · by_cases h2 : (j : Int) < 5
        · have HB : Hid (b = true) := by show b = true; rw [HBB.out, decide_eq_true_eq]; omega
          go_wp2_with fail
          go_meet
          case rel => exact ⟨by rw [HB.out], rfl⟩
        · have HB : Hid (b = false) := by show b = false; rw [HBB.out, decide_eq_false_iff_not]; omega
          go_wp2_with fail
          go_meet
          case rel => exact ⟨by rw [HB.out], rfl⟩
      · have HB : Hid (b = false) := by show b = false; rw [HBB.out, decide_eq_false_iff_not]; omega
        go_wp2_with fail
        go_meet
        case rel => exact ⟨by rw [HB.out], rfl⟩
    case rest =>
      obtain ⟨hc, hcw⟩ := hcut
      subst wc
      subst hc
      cases b with
      | true =>
        have hb2 : j < bl.size ∧ j < 5 := of_decide_eq_true HBB.out.symm
        obtain ⟨h1, h2⟩ := hb2
        have e1 : (j : Int) < (bl.size : Int) := by omega
        have e2 : (j : Int) < 5 := by omega
        have e3 : (j : Int) + 1 ≤ (bl.size : Int) := by omega
        have hix := ix_str bl h1
        have hcat : ∀ W, (Op.stringOp .add (mkB g) (bl.extract j (j + 1))).run Tryz.prog W = .ok (.string (mkB (g ++ [bl[j]'h1]))) W := fun W => by
          rw [ext_one bl h1]
          exact run_add W g [bl[j]'h1] (by simp; omega)
        have HGB : Hid ((((bl[j]'h1).toNat : Nat) : Int) = 32 ∨ (((bl[j]'h1).toNat : Nat) : Int) = 9 ∨ (((bl[j]'h1).toNat : Nat) : Int) = 10 ∨ (((bl[j]'h1).toNat : Nat) : Int) = 13 → ∀ x ∈ g ++ [bl[j]'h1], blankB x = true) := fun hb x hx => by
          rcases List.mem_append.1 hx with hx | hx
          · exact HG.out x hx
          · simp only [List.mem_singleton] at hx
            subst hx
            exact (blank_num _).2 hb
        generalize (((bl[j]'h1).toNat : Nat) : Int) = x at *
        generalize bl[j]'h1 = c at *
        by_cases h32 : x = 32
        · subst h32
          go_wp2
          go_roundg (5 - (j + 1))
          case measure => omega
          case rel => exact ⟨j + 1, g ++ [c], by omega, by omega, by omega, by go_num, rfl, by rw [List.length_append, List.length_singleton]; omega, HGB.out (by simp), by trivial⟩
        have b32 : (x == 32) = false := by rw [beq_eq_false_iff_ne]; exact h32
        by_cases h10 : x = 10
        · subst h10
          go_wp2
          go_roundg (5 - (j + 1))
          case measure => omega
          case rel => exact ⟨j + 1, g ++ [c], by omega, by omega, by omega, by go_num, rfl, by rw [List.length_append, List.length_singleton]; omega, HGB.out (by simp), by trivial⟩
        have b10 : (x == 10) = false := by rw [beq_eq_false_iff_ne]; exact h10
        by_cases h13 : x = 13
        · subst h13
          go_wp2
          go_roundg (5 - (j + 1))
          case measure => omega
          case rel => exact ⟨j + 1, g ++ [c], by omega, by omega, by omega, by go_num, rfl, by rw [List.length_append, List.length_singleton]; omega, HGB.out (by simp), by trivial⟩
        have b13 : (x == 13) = false := by rw [beq_eq_false_iff_ne]; exact h13
        by_cases h9 : x = 9
        · subst h9
          go_wp2
          go_roundg (5 - (j + 1))
          case measure => omega
          case rel => exact ⟨j + 1, g ++ [c], by omega, by omega, by omega, by go_num, rfl, by rw [List.length_append, List.length_singleton]; omega, HGB.out (by simp), by trivial⟩
        have b9 : (x == 9) = false := by rw [beq_eq_false_iff_ne]; exact h9
        clear hcat
        go_wp2
        go_roundg (5 - (j + 1))
        case measure => omega
        case rel => exact ⟨j + 1, g, by omega, by omega, by omega, by go_num, rfl, by omega, HG.out, by trivial⟩
      | false =>
        have h5 : g.length ≤ 5 := by omega
        obtain ⟨G1, HG1, r1'⟩ := run_cat g [123] (by rw [List.length_singleton]; omega)
        have r1 : ∀ W, (Op.stringOp .add (mkB g) ⟨#[123]⟩).run Tryz.prog W = .ok (.string (mkB G1)) W := r1'
        have l1 : G1.length = g.length + 1 := by rw [HG1.out, List.length_append, List.length_singleton]
        obtain ⟨G2, HG2, r2⟩ := run_cat G1 g (by omega)
        clear l1 r1'
        go_wp2
        go_loopg [9, 10, 11] len (fun gk sv wv i wr => ∃ (j : Nat) (fs : List Fd), j ≤ len ∧ gk + j = len ∧ i = .int .i64 (j : Int) ∧ sv = .string (mkB (bodyL g fs)) ∧ LSt w wr wv (fs.map fdP) ∧ BInv g fs)
        case atStart => exact ⟨0, [], Nat.zero_le _, by omega, rfl, by rw [HG2.out, HG1.out]; simp [bodyL, fldsL], LSt.nil w _ (Kept.refl _ _), BInv.nil g⟩
        case round =>
          obtain ⟨j, fs, hj, hgk, rfl, rfl, hLS, hBI⟩ := hrel
          have HBI := hid hBI
          have hfl := hBI.len
          have HLS := hid hLS
          obtain ⟨av, cv, rfl, hrow, KW⟩ := hLS
          have HROW := hid hrow
          have HKW := hid KW
          have hml : (fs.map fdP).length = fs.length := by simp
          have HPA := hid (PairsAt.of_row hrow)
          clear hrow KW hBI
          generalize hm : (fs.map fdP).length = m at *
          have HML : Hid (m = fs.length) := hml
          have HMM := hid hm
          have hm10 : m ≤ 10 := by omega
          clear hm hml
          have HBL : Hid ((bodyL g fs).length ≤ 25000) := by
            show (bodyL g fs).length ≤ 25000
            have hz1 := HBI.out.size
            unfold bodyL
            simp only [List.length_append, List.length_cons, List.length_nil]
            omega
          generalize hB0 : bodyL g fs = B0 at *
          have HB0 : Hid (B0 = bodyL g fs) := hB0.symm
          clear hB0
          obtain ⟨b2, hb2⟩ : ∃ b2 : Bool, b2 = decide (j < len ∧ m < 10) := ⟨_, rfl⟩
          have HB2 := hid hb2
          clear hb2
          go_upto_region 10 with fail
          go_cut [68] from 60 to 183 (fun v wx => v = .bool b2 ∧ wx = wr)
          case first =>
            by_cases h1 : (j : Int) < (len : Int)
            · by_cases h2 : (m : Int) < 10
              · have HB : Hid (b2 = true) := by show b2 = true; rw [HB2.out, decide_eq_true_eq]; omega
                go_wp2_with fail
                go_meet
                case rel => exact ⟨by rw [HB.out], rfl⟩
              · have HB : Hid (b2 = false) := by show b2 = false; rw [HB2.out, decide_eq_false_iff_not]; omega
                go_wp2_with fail
                go_meet
                case rel => exact ⟨by rw [HB.out], rfl⟩
            · have HB : Hid (b2 = false) := by show b2 = false; rw [HB2.out, decide_eq_false_iff_not]; omega
              go_wp2_with fail
              go_meet
              case rel => exact ⟨by rw [HB.out], rfl⟩
          case rest =>
            obtain ⟨hc2, hcw⟩ := hcut
            subst wc
            subst hc2
            cases b2 with
            | false =>
              have hz1 := HBL.out
              obtain ⟨X1, HX1, r5'⟩ := run_cat B0 [125] (by rw [List.length_singleton]; omega)
              have r5 : ∀ W, (Op.stringOp .add (mkB B0) ⟨#[125]⟩).run Tryz.prog W = .ok (.string (mkB X1)) W := r5'
              have l1 : X1.length = B0.length + 1 := by rw [HX1.out, List.length_append, List.length_singleton]
              obtain ⟨X2, HX2, r6⟩ := run_cat X1 g (by omega)
              have l2 : X2.length = X1.length + g.length := by rw [HX2.out, List.length_append]
              have hO : Calls Tryz.prog 9 #[.string (mkB X2)] wr fun e w' => ∃ v, e = .returned (.tuple #[v, .int .i64 0, .int .i64 0]) ∧ LSt wr w' v (fs.map fdP) := by
                have h := object_any wr (mkB X2) (by rw [mkB_size]; omega) (HT.out.kept HKW.out)
                rw [obj_back HG.out fs (by omega) HBI.out.ok HBI.out.apart (by rw [HX2.out, HX1.out, HB0.out]; rfl)] at h
                exact h
              clear hz1 l1 l2 r5'
              go_wp2_with (first
                | (go_at_call 9; refine hO.mono ?_; rintro e W3 ⟨v3, rfl, a3, c3, hv3, hr3, K3⟩; clear hO; rw [HMM.out] at hv3; subst hv3; have HK3 := hid (HKW.out.and K3); have hPs := pairs_same W3 a3 av c3 cv (fs.map fdP) (PairsAt.of_row hr3) (HPA.out.kept K3) (by rw [HMM.out]; omega); rw [HMM.out] at hPs; clear hr3 K3)
                | (go_at_call 10; refine hPs.mono ?_; rintro e W4 ⟨rfl, K4⟩; clear hPs; have HK4 := hid (HK3.out.and K4); clear K4; have hWk := wakes_any W4 (HT.out.kept HK4.out) (HM.out.kept HK4.out))
                | (go_at_call 11; refine hWk.mono ?_; rintro e W5 ⟨rfl, K5⟩; clear hWk)
                | fail)
              go_ret
              exact ⟨rfl, (HK4.out.and K5).below (Nat.le_refl _) (fun i h => h.elim)⟩
            | true =>
              have hb2 : j < len ∧ m < 10 := of_decide_eq_true HB2.out.symm
              obtain ⟨h1, h2⟩ := hb2
              have e1 : (j : Int) < (len : Int) := by omega
              rcases HP.out with h0 | ⟨b, o, rfl, hcell⟩
              · omega
              obtain ⟨c00, c01, s0, s1⟩ := hcell j h1
              clear hcell
              generalize K j = kb at *
              generalize V j = vb at *
              obtain ⟨nm, rfl⟩ : ∃ nm, kb = mkB nm := ⟨kb.data.toList, (mkB_of _).symm⟩
              have HC0 := hid c00
              have c0 := cellKept2 HKW.out c00
              have c1 := cellKept2 HKW.out c01
              clear c00 c01
              have hVk := valid_any wr.drew (mkB nm) s0
              have hVv := valid_any wr.drew vb s1
              have hH := has_any wr.drew av cv (fs.map fdP) nm (HPA.out.kept (Kept.drew _ _)) (by rw [HMM.out]; omega)
              rw [HMM.out] at hH
              go_wp2
              cases hk0 : utfB (mkB nm) ((mkB nm).size + 1) 0 with
              | false =>
                rw [hk0] at hVk
                clear hk0 hVv hH
                refine wp_onlyN (back12a _ c0 c1 e1 hVk ?_)
                intro v71 v72 v73 v74 v75 v76 v77 v78 v79 v80 v81 v82 v83 v84 v85 v86 v87 v88 v89 v90 v91 v92 v93 v94 v95 v96 v97 v98 v99 v100 v101 v102 v103 v104 v105 v106 v107 v108 v109 v110
                go_wp2
                go_roundg (len - (j + 1))
                case measure => omega
                case rel => exact ⟨j + 1, fs, by omega, by omega, by go_num, by rw [HB0.out], HLS.out.kept (Kept.drew _ _), HBI.out⟩
              | true =>
                rw [hk0] at hVk
                have HOK := hid (utfB_ok hk0)
                clear hk0
                cases hv0 : utfB vb (vb.size + 1) 0 with
                | false =>
                  rw [hv0] at hVv
                  clear hv0 hH
                  refine wp_onlyN (back12b _ c0 c1 e1 hVk hVv ?_)
                  intro v71 v72 v73 v74 v75 v76 v77 v78 v79 v80 v81 v82 v83 v84 v85 v86 v87 v88 v89 v90 v91 v92 v93 v94 v95 v96 v97 v98 v99 v100 v101 v102 v103 v104 v105 v106 v107 v108 v109 v110
                  go_wp2
                  go_roundg (len - (j + 1))
                  case measure => omega
                  case rel => exact ⟨j + 1, fs, by omega, by omega, by go_num, by rw [HB0.out], HLS.out.kept (Kept.drew _ _), HBI.out⟩
                | true =>
                  rw [hv0] at hVv
                  have HOV := hid (utfB_ok hv0)
                  clear hv0
                  by_cases hbig : ((mkB nm).size : Int) + (vb.size : Int) > 100
                  · clear hH
                    refine wp_onlyN (back12c _ c0 c1 e1 hVk hVv hbig s0 s1 ?_)
                    intro v71 v72 v73 v74 v75 v76 v77 v78 v79 v80 v81 v82 v83 v84 v85 v86 v87 v88 v89 v90 v91 v92 v93 v94 v95 v96 v97 v98 v99 v100 v101 v102 v103 v104 v105 v106 v107 v108 v109 v110
                    go_wp2
                    go_roundg (len - (j + 1))
                    case measure => omega
                    case rel => exact ⟨j + 1, fs, by omega, by omega, by go_num, by rw [HB0.out], HLS.out.kept (Kept.drew _ _), HBI.out⟩
                  · cases hf0 : (fieldP (fs.map fdP) nm).isSome with
                    | true =>
                      rw [hf0] at hH
                      clear hf0
                      refine wp_onlyN (back12d _ c0 c1 e1 hVk hVv hbig s0 s1 hH ?_)
                      intro v71 v72 v73 v74 v75 v76 v77 v78 v79 v80 v81 v82 v83 v84 v85 v86 v87 v88 v89 v90 v91 v92 v93 v94 v95 v96 v97 v98 v99 v100 v101 v102 v103 v104 v105 v106 v107 v108 v109 v110
                      go_wp2
                      go_roundg (len - (j + 1))
                      case measure => omega
                      case rel => exact ⟨j + 1, fs, by omega, by omega, by go_num, by rw [HB0.out], HLS.out.kept (Kept.drew _ _), HBI.out⟩
                    | false =>
                      rw [hf0] at hH
                      have HF0 := hid hf0
                      clear hf0
                      refine wp_onlyN (back12e _ c0 c1 e1 hVk hVv hbig s0 s1 hH ?_)
                      intro v71 v72 v73 v74 v75 v76 v77 v78 v79 v80 v81 v82 v83 v84 v85 v86 v87 v88 v89 v90 v91 v92 v93 v94 v95 v96 v97 v98 v99 v100 v101 v102 v103 v104 v105 v106 v107 v108 v109 v110
                      have HK1 := hid (Kept.drew (fun _ => False) wr)
                      have HLS1 := hid (HLS.out.kept HK1.out)
                      have HRB : Hid (∀ g, (Value.slice av m cv).ownBlock = some g → g < wr.drew.heap.size) := fun gg hg => ownsRow_blk HROW.out hg
                      have x0 := cellKept2 HK1.out c0
                      have x1 := cellKept2 HK1.out c1
                      generalize wr.drew = W1 at *
                      clear hVk hVv hH c0 c1
                      obtain ⟨P0, hP0⟩ : ∃ P, P = B0 ++ sepL g fs := ⟨_, rfl⟩
                      have HP0 := hid hP0
                      clear hP0
                      obtain ⟨b5, hb5⟩ : ∃ b5 : Bool, b5 = decide (0 < m) := ⟨_, rfl⟩
                      have HB5 := hid hb5
                      clear hb5
                      go_upto_region 13 with fail
                      go_cut [114] from 60 to 183 (fun v wx => v = .bool b5 ∧ wx = W1)
                      case first =>
                        go_wp2_with fail
                        go_meet
                        case rel => exact ⟨by rw [HB5.out], rfl⟩
                      case rest =>
                        obtain ⟨hc5, hcw5⟩ := hcut
                        subst wc
                        subst hc5
                        go_upto_if 114 with fail
                        go_cut [9] from 60 to 183 (fun sv wx => sv = .string (mkB P0) ∧ wx = W1)
                        case first =>
                          cases b5 with
                          | false =>
                            have hemp : fs = [] := by
                              have h := of_decide_eq_false HB5.out.symm
                              exact List.length_eq_zero_iff.1 (by have := HML.out; omega)
                            have hsep : sepL g fs = [] := by unfold sepL; rw [if_pos hemp]
                            have HSEP := hid hsep
                            clear hemp hsep
                            go_wp2_with fail
                            go_meet
                            case rel => exact ⟨by rw [HP0.out, HSEP.out, List.append_nil], rfl⟩
                          | true =>
                            have hemp : fs ≠ [] := fun h => by
                              have h2 := of_decide_eq_true HB5.out.symm
                              rw [HML.out, h] at h2
                              exact absurd h2 (by simp)
                            have hsep : sepL g fs = [44] ++ g := by unfold sepL; rw [if_neg hemp]
                            have HSEP := hid hsep
                            have hz1 := HBL.out
                            obtain ⟨C1, HC1, r3'⟩ := run_cat B0 [44] (by rw [List.length_singleton]; omega)
                            have r3 : ∀ W, (Op.stringOp .add (mkB B0) ⟨#[44]⟩).run Tryz.prog W = .ok (.string (mkB C1)) W := r3'
                            have hc1 : C1.length = B0.length + 1 := by rw [HC1.out, List.length_append, List.length_singleton]
                            obtain ⟨C2, HC2, r4⟩ := run_cat C1 g (by omega)
                            clear hc1 r3'
                            clear hemp hsep hz1
                            go_wp2_with fail
                            go_meet
                            case rel => exact ⟨by rw [HP0.out, HSEP.out, HC2.out, HC1.out, List.append_assoc], rfl⟩
                        case rest =>
                          obtain ⟨hc2, hcw⟩ := hcut
                          subst wc
                          subst hc2
                          have HVL : Hid (vb.data.toList.length = vb.size) := Array.length_toList
                          have hq : ∀ V, (Op.stringOp .add ⟨#[34]⟩ vb).run Tryz.prog V = .ok (.string (mkB (34 :: vb.data.toList))) V := fun V => run_add V [34] vb.data.toList (by rw [HVL.out]; simp; omega)
                          go_wp2_with fail
                          refine wp_onlyN (back15 _ x0 x1 e1 hq ?_)
                          intro v119 v120 v121 v122 v123 v124 v125 v126 v127 v128 v129 v130
                          have HK2 := hid ((Kept.drew (fun _ => False) W1).and (Kept.alloc (fun _ => False) W1.drew (.cells #[.string (mkB nm), .string (mkB (34 :: vb.data.toList))] 26)))
                          have HBX : Hid (BxAt (W1.drew.alloc (.cells #[.string (mkB nm), .string (mkB (34 :: vb.data.toList))] 26)) W1.heap.size (mkB nm) (mkB (34 :: vb.data.toList))) := heap_alloc_new W1.drew _
                          have HGE : Hid (w.heap.size ≤ W1.heap.size) := HLS1.out.row.2.size
                          have HLS2 := hid (HLS1.out.kept HK2.out)
                          have y0 := cellKept2 HK2.out x0
                          have y1 := cellKept2 HK2.out x1
                          generalize W1.drew.alloc (.cells #[.string (mkB nm), .string (mkB (34 :: vb.data.toList))] 26) = W2 at *
                          generalize W1.heap.size = bx at *
                          clear x0 x1 hq
                          have hQv := quote_any W2 vb (by omega) (HT.out.kept HLS2.out.row.2)
                          go_upto_region 17 with (first
                            | (go_at_call 7; refine hQv.mono ?_; rintro e W3 ⟨rfl, K3⟩; clear hQv; have HK3 := hid K3; clear K3)
                            | fail)
                          have HBX3 := hid (HBX.out.kept HK3.out)
                          have HLS3 := hid (HLS2.out.kept HK3.out)
                          clear y0 y1
                          obtain ⟨b3, hb3⟩ : ∃ b3 : Bool, b3 = decide (j < len2 ∧ -1000000000000000 < z j ∧ z j < 1000000000000000) := ⟨_, rfl⟩
                          have HB3 := hid hb3
                          clear hb3
                          go_cut [154] from 60 to 183 (fun v wx => v = .bool b3 ∧ wx = W3)
                          case first =>
                            by_cases h1 : (j : Int) < (len2 : Int)
                            · rcases HN.out.kept HLS3.out.row.2 with h0 | ⟨b4, o4, rfl, hz⟩
                              · omega
                              have hz1 := hz j (by omega)
                              clear hz
                              generalize z j = zj at *
                              by_cases h2 : zj > -1000000000000000
                              · by_cases h3 : zj < 1000000000000000
                                · have HB : Hid (b3 = true) := by show b3 = true; rw [HB3.out, decide_eq_true_eq]; omega
                                  go_wp2_with fail
                                  go_meet
                                  case rel => exact ⟨by rw [HB.out], rfl⟩
                                · have HB : Hid (b3 = false) := by show b3 = false; rw [HB3.out, decide_eq_false_iff_not]; omega
                                  go_wp2_with fail
                                  go_meet
                                  case rel => exact ⟨by rw [HB.out], rfl⟩
                              · have HB : Hid (b3 = false) := by show b3 = false; rw [HB3.out, decide_eq_false_iff_not]; omega
                                go_wp2_with fail
                                go_meet
                                case rel => exact ⟨by rw [HB.out], rfl⟩
                            · have HB : Hid (b3 = false) := by show b3 = false; rw [HB3.out, decide_eq_false_iff_not]; omega
                              go_wp2_with fail
                              go_meet
                              case rel => exact ⟨by rw [HB.out], rfl⟩
                          case rest =>
                            obtain ⟨hc3, hcw3⟩ := hcut
                            subst wc
                            subst hc3
                            go_upto_if 154 with fail
                            go_cut [13] from 60 to 183 (fun tv wx => ∃ (vt v : List UInt8), tv = .string (mkB vt) ∧ VOk vt v ∧ vt.length ≤ 700 ∧ BxAt wx bx (mkB nm) (mkB v) ∧ LSt w wx (.slice av m cv) (fs.map fdP))
                            case first =>
                              cases b3 with
                              | false =>
                                go_wp2_with fail
                                go_meet
                                case rel => exact ⟨_, _, rfl, vok_text HOV.out, by have := quoteP_len vb; omega, HBX3.out, HLS3.out⟩
                              | true =>
                                have hzb : j < len2 ∧ -1000000000000000 < z j ∧ z j < 1000000000000000 := of_decide_eq_true HB3.out.symm
                                have HZ := hid hzb
                                clear hzb
                                rcases HN.out.kept HLS3.out.row.2 with h0 | ⟨b4, o4, rfl, hz⟩
                                · have := HZ.out.1; omega
                                have hz1 := hz j HZ.out.1
                                have i1 : (j : Int) < (len2 : Int) := by have := HZ.out.1; omega
                                clear hz
                                have hDg := digits_any W3 (z j) (by have := HZ.out; omega) (by have := HZ.out; omega)
                                go_wp2_with (first
                                  | (go_at_call 8; refine hDg.mono ?_; rintro e W4 ⟨rfl, K4⟩; clear hDg; have HBX4 := hid (HBX3.out.kept K4); have HLS4 := hid (HLS3.out.kept K4); clear K4 hz1; obtain ⟨x0, x1⟩ := HBX4.out.cells; have f1 := HBX4.out.free 1; have x2 := (HBX4.out.set (mkB (Lib.itoa (z j)))).cells.2)
                                  | fail)
                                go_meet
                                case rel => exact ⟨_, _, rfl, vok_num HZ.out.2.1 HZ.out.2.2, by have := itoa_len HZ.out.2.1 HZ.out.2.2; omega, HBX4.out.set _, HLS4.out.boxed HGE.out HRB.out _⟩
                            case rest =>
                              obtain ⟨vt, v, hvt, hvok, hvl, hbx, hls⟩ := hcut
                              subst hvt
                              have HVK := hid hvok
                              have HVT := hid hvl
                              have HBX5 := hid hbx
                              have HLS5 := hid hls
                              obtain ⟨hrow, KW5⟩ := hls.row
                              have HKW5 := hid KW5
                              have x0 := cellKept2 HKW5.out HC0.out
                              have hQk := quote_any wc (mkB nm) (by omega) (HT.out.kept KW5)
                              have hql := quoteP_len (mkB nm)
                              generalize hqn : quoteP (mkB nm) = Q at *
                              have HQN := hid hqn
                              have HPL : Hid (P0.length ≤ 30000) := by
                                show P0.length ≤ 30000
                                have hz1 := HBL.out
                                have h3 : (sepL g fs).length ≤ 6 := by
                                  unfold sepL; split <;> simp <;> omega
                                rw [HP0.out, List.length_append]
                                omega
                              have hpl := HPL.out
                              obtain ⟨P1, HP1, r1⟩ := run_cat P0 Q (by omega)
                              have l1 : P1.length = P0.length + Q.length := by rw [HP1.out, List.length_append]
                              obtain ⟨P2, HP2, r2⟩ := run_cat P1 g (by omega)
                              have l2 : P2.length = P1.length + g.length := by rw [HP2.out, List.length_append]
                              obtain ⟨P3, HP3, r3'⟩ := run_cat P2 [58] (by rw [List.length_singleton]; omega)
                              have r3 : ∀ W, (Op.stringOp .add (mkB P2) ⟨#[58]⟩).run Tryz.prog W = .ok (.string (mkB P3)) W := r3'
                              have l3 : P3.length = P2.length + 1 := by rw [HP3.out, List.length_append, List.length_singleton]
                              obtain ⟨P4, HP4, r4⟩ := run_cat P3 g (by omega)
                              have l4 : P4.length = P3.length + g.length := by rw [HP4.out, List.length_append]
                              obtain ⟨P5, HP5, r5⟩ := run_cat P4 vt (by omega)
                              have l5 : P5.length = P4.length + vt.length := by rw [HP5.out, List.length_append]
                              obtain ⟨P6, HP6, r6⟩ := run_cat P5 g (by omega)
                              clear l1 l2 l3 l4 l5 r3'
                              have HNL : Hid (nm.length ≤ 100) := by
                                show nm.length ≤ 100
                                have := mkB_size nm
                                omega
                              obtain ⟨i0, hi0, hz0, hz1, hz2⟩ := info_parts Tryz.info26
                              have HMX : Hid (m + 1 ≤ maxLen) := by show m + 1 ≤ maxLen; unfold maxLen; omega
                              have HM9 : Hid (m < 10) := h2
                              clear hqn hql hvok hvl hbx hls KW5 hpl hbig
                              go_wp2_with (first
                                | (go_at_call 7; refine hQk.mono ?_; rintro e W6 ⟨rfl, K6⟩; clear hQk x0; obtain ⟨q0, q1⟩ := (HBX5.out.kept K6).cells; have hrow6 := ownsRow_keep hrow (fun g hg => K6.block g (ownsRow_blk hrow hg) (fun h => h)); have HK6 := hid (HKW5.out.and K6); clear K6 hrow)
                                | (at_builtin; refine wpList_append_src _ rfl _ _ 22 rfl w.heap.size 26 i0 _ 2 32 Tryz.underlying22 hi0 hz0 hz1 hz2 rfl (by decide) (.slice av m cv) m _ rfl (hrow6.alloc _) _ rfl 1 (prC (nm, v)) (.inl ⟨_, 1, rfl, rfl, World.news_of_block (heap_alloc_new _ _)⟩) (prC_one _) HMX.out (by have := HM9.out; omega) (by rw [World.size_alloc]; exact Nat.le_trans HK6.out.size (by omega)) ?_; intro a3 c3 w3 ho3 hg3 _ hl3; have HS3 : Hid (LSt w w3 (.slice a3 (m + 1) c3) (fs.map fdP ++ [(nm, v)])) := LSt.push2 HMM.out HK6.out hrow6 ho3 hg3; clear ho3 hg3 hrow6)
                                | fail)
                              go_roundg (len - (j + 1))
                              case measure => omega
                              case rel =>
                                refine ⟨j + 1, fs ++ [⟨nm, vt, v⟩], by omega, by omega, by go_num, ?_, by rw [List.map_append]; exact HS3.out, HBI.out.push (by omega) (by have := HM9.out; have := HML.out; omega) ⟨HOK.out, HVK.out⟩ HF0.out HNL.out HVT.out⟩
                                rw [HP6.out, HP5.out, HP4.out, HP3.out, HP2.out, HP1.out, HP0.out, HB0.out]
                                unfold bodyL
                                rw [fldsL_next]
                                simp only [fldL, HQN.out, List.append_assoc]

end Go.Proofs.YtdbplemcjnlfiaaGreatDoor
