/-
  DagLoops holds for all definitions and numbers: the law's call returns true and leaves its arguments as they were. No condition; the listed variables are tied to the program's text.
-/
import Derived.Test.YtalhdgelkomaiaaDoorDRow7
import Derived.Test.YtalhdgelkomaiaaDoorDLoops7
import Derived.Deep.QuietTactic
import Derived.BigQuiet
namespace Go.Proofs.YtalhdgelkomaiaaDoor
open Go.ChangeShapes Go.WideShapes Go.ChangeAt Go.RowKit

set_option maxRecDepth 100000 in
set_option maxHeartbeats 8000000 in
theorem dagLoops_walk (name : ByteArray) (a : Option Addr) (c : Nat) (ns : List Nd) (f1 t1 : Int) (w : World) (R : RawAt w a ns) (hc : ns.length ≤ c) :
    Calls Tryd.prog 6 #[.agg #[.string name, .slice a ns.length c], .int .i64 f1, .int .i64 t1] w fun e w' => e = .returned (.bool true) ∧ Below w.heap.size w w' := by
  have hW := fun V => wakes_any V
  have hCut := lawCut_any (w.alloc (.cells #[.string name, .slice a ns.length c] 26)) name a ns.length c ns (R.kept (Kept.alloc (fun _ => False) _ _) (fun _ _ h => h)) rfl hc
  have hlen : (cutNs ns).length ≤ 40 := by unfold cutNs; simp; omega
  have HFew : Hid (∀ n ∈ cutNs ns, n.after.length ≤ 10) := fun n hn => by
    unfold cutNs at hn
    obtain ⟨m, _, rfl⟩ := List.mem_map.1 hn
    show (m.after.take 10).length ≤ 10
    rw [List.length_take]; omega
  generalize cutNs ns = ms at *
  clear R
  have HCk : Hid (∀ V a' c', NodesAt V a' ms → Calls Tryd.prog 12 #[.agg #[.string name, .slice a' ms.length c']] V fun e w' => e = .returned (.tuple #[.int .i64 (checkP name ms).1, .int .i64 (checkP name ms).2]) ∧ Kept (fun _ => False) V w') := fun V a' c' N => check_any V name a' ms.length c' ms N rfl
  by_cases hT : (checkP name ms).2 = 0
  · have T := taken_of hT
    have HT : Hid (Taken name ms) := T
    have HCk2 : Hid (∀ V a' c', NodesAt V a' ms → Calls Tryd.prog 12 #[.agg #[.string name, .slice a' ms.length c']] V fun e w' => e = .returned (.tuple #[.int .i64 (-1), .int .i64 0]) ∧ Kept (fun _ => False) V w') := fun V a' c' N => by
      have h := HCk.out V a' c' N
      rw [T.check] at h
      exact h
    have hlo := T.lo
    obtain ⟨p, hpe, hp⟩ : ∃ p : Nat, f1 % (ms.length : Int) = (p : Int) ∧ p < ms.length := ⟨(f1 % (ms.length : Int)).toNat, by have := Int.emod_nonneg f1 (show (ms.length : Int) ≠ 0 by omega); omega, by have := Int.emod_lt_of_pos f1 (show (0 : Int) < (ms.length : Int) by omega); have := Int.emod_nonneg f1 (show (ms.length : Int) ≠ 0 by omega); omega⟩
    obtain ⟨q, hqe, hq⟩ : ∃ q : Nat, t1 % (ms.length : Int) = (q : Int) ∧ q < ms.length := ⟨(t1 % (ms.length : Int)).toNat, by have := Int.emod_nonneg t1 (show (ms.length : Int) ≠ 0 by omega); omega, by have := Int.emod_lt_of_pos t1 (show (0 : Int) < (ms.length : Int) by omega); have := Int.emod_nonneg t1 (show (ms.length : Int) ≠ 0 by omega); omega⟩
    have WF := fun V => within_any V f1 (ms.length : Int) (by omega) (by omega)
    have WT := fun V => within_any V t1 (ms.length : Int) (by omega) (by omega)
    rw [hpe] at WF
    rw [hqe] at WT
    clear hT HCk T hpe hqe
    go_enter Tryd.func6, Tryd.ntmps6
    go_wp2_with (first
      | (go_at_call 14; refine hCut.mono ?_; rintro e w1 ⟨a', c', rfl, N1, hc1, K1⟩; clear hCut; have hd := boxD K1; obtain ⟨d0, d1⟩ := hd; have B1 := BoxSt.mk' (m := ms.length) (c' := c') K1 N1; have fz := (K1.block w.heap.size (by simp) (fun h => h)).trans (heap_alloc_new _ _); obtain ⟨_, z0, z1⟩ := twoC fz; obtain ⟨⟨x0, x1⟩, _, _⟩ := twoC B1.b0; have hC := HCk2.out _ _ c' B1.nodes; have HB : Hid (BoxSt w ((w1.setCell ⟨w.heap.size, 0, none⟩ (.string name)).setCell ⟨w.heap.size, 1, none⟩ (.slice a' ms.length c')) name a' ms.length c' ms) := B1; clear B1 N1 fz HCk2)
      | (go_at_call 12; refine hC.mono ?_; rintro e w2 ⟨rfl, K2⟩; clear hC; have y0 := keepC K2 x0 (fun _ _ h => h); have y1 := keepC K2 x1 (fun _ _ h => h))
      | (go_at_call 18; have _t := WF w2; refine (WF w2).mono ?_; rintro e w3 ⟨rfl, hw3⟩; subst w3; clear WF _t)
      | (go_at_call 18; refine (WT w2).mono ?_; rintro e w3 ⟨rfl, hw3⟩; subst w3; clear WT)
      | fail)
    have HN2 : Hid (NodesAt w2 a' ms) := keptNew K2 HB.out.nodes
    have HB0 : Hid (w2.heap[w.heap.size]? = some (.cells #[.string name, .slice a' ms.length c'] 26 (0, 0))) := (K2.block _ (Array.getElem?_eq_some_iff.1 HB.out.b0).1 (fun h => h)).trans HB.out.b0
    have HK2 : Hid (Kept (fun _ => False) w w2) := HB.out.kept.and K2
    have hbs := (Array.getElem?_eq_some_iff.1 HB0.out).1
    obtain ⟨b, o, av, cv, rfl, hTp, _, _, _, _, _, _, p6⟩ := HN2.out.at hp
    obtain ⟨b', o', av', cv', e', hTq, q0, _⟩ := HN2.out.at hq
    simp only [Option.some.injEq, Addr.mk.injEq] at e'
    obtain ⟨rfl, rfl, _⟩ := e'
    have hfp := HFew.out _ (List.getElem_mem hp)
    have hL := leads_any w2.drew name (some ⟨b, o, none⟩) c' ms (keptNew (Kept.drew _ w2) HN2.out) (by omega) p q hp hq
    clear HB K2 x0 x1 d0 d1 z0 z1 K1 hTq
    cases hlead : leadP ms q p with
    | false =>
      rw [hlead] at hL
      clear hlead hTp HT HFew
      refine wp_onlyN (loops7F (nm := name) (l := (ms[p]).after) (s := (ms[q]).name) _ y0 y1 p6 q0 hp hq (by omega) hL ?_)
      intro v35 v36 v37 v38 v39 v40 v41 v42 v43 v44 v45 v46 v47 v48 v49 v50 v51 v52 v53 w5 K5
      clear y0 y1 p6 q0 hL
      generalize (ms[p]).after.length = al at *
      go_wp2_with (first
        | (go_at_call 13; refine (hW _).mono ?_; rintro e w6 ⟨rfl, K6⟩; clear hW)
        | fail)
      go_ret
      exact ⟨rfl, ((HK2.out.and K5).and K6).none⟩
    | true =>
      rw [hlead] at hL
      have HPa : Hid (Path ms q p) := leadP_path hlead
      have hA := fun V (KV : Kept (fun _ => False) w2.drew V) => among_any V av cv (ms[p]).after (hTp.kept ((Kept.drew (fun _ => False) w2).and KV) (fun _ _ h => h)) (by omega) (ms[q]).name
      cases ham : amongB (ms[p]).after (ms[q]).name with
      | true =>
        rw [ham] at hA
        clear hlead hTp HT HFew ham HPa
        refine wp_onlyN (loops7T (nm := name) (l := (ms[p]).after) (s := (ms[q]).name) _ y0 y1 p6 q0 hp hq (by omega) hL hA ?_)
        intro v35 v36 v37 v38 v39 v40 v41 v42 v43 v44 v45 v46 v47 v48 v49 v50 v51 v52 v53 w5 K5
        clear y0 y1 p6 q0 hL hA
        generalize (ms[p]).after.length = al at *
        go_wp2_with (first
          | (go_at_call 13; refine (hW _).mono ?_; rintro e w6 ⟨rfl, K6⟩; clear hW)
          | fail)
        go_ret
        exact ⟨rfl, ((HK2.out.and K5).and K6).none⟩
      | false =>
        rw [ham] at hA
        have HNm : Hid ((ms[q]).name ∉ (ms[p]).after) := fun h => by rw [amongB_iff.2 h] at ham; cases ham
        have HTp : Hid (TextsAt w2 (.slice av (ms[p]).after.length cv) (ms[p]).after) := hTp
        clear hlead hTp ham
        refine wp_onlyN (loops7T (nm := name) (l := (ms[p]).after) (s := (ms[q]).name) _ y0 y1 p6 q0 hp hq (by omega) hL hA ?_)
        intro v35 v36 v37 v38 v39 v40 v41 v42 v43 v44 v45 v46 v47 v48 v49 v50 v51 v52 v53 w5 K5
        have HK5 : Hid (Kept (fun _ => False) w2 w5) := K5
        have N5 := keptNew K5 HN2.out
        have r0 := keepC K5 y0 (fun _ _ h => h)
        have r1 := keepC K5 y1 (fun _ _ h => h)
        have r6 := keepC K5 p6 (fun _ _ h => h)
        have r7 := keepC K5 q0 (fun _ _ h => h)
        have HT5 : Hid (TextsAt w5 (.slice av (ms[p]).after.length cv) (ms[p]).after) := HTp.out.kept K5 (fun _ _ h => h)
        have hz5 := K5.size
        obtain ⟨vs, hvl, hvt, hvo, hvs⟩ := N5.src (c := c')
        have hvs := hvs hlo
        clear y0 y1 p6 q0 hL hA K5 HTp
        have HVL : Hid (ms.length = vs.length) := hvl
        have HVT : Hid (∀ i (h1 : i < ms.length) (h2 : i < vs.length), TextsAt w5 vs[i] (ms[i]).after) := hvt
        have HVS : Hid (∀ V, Kept (fun _ => False) w5 V → Src V 7 (.slice (some ⟨b, o, none⟩) ms.length c') ms.length (flatN ms vs)) := hvs
        have HVO : Hid (∀ u ∈ flatN ms vs, u.oneCell' = true) := hvo
        have HN5 : Hid (NodesAt w5 (some ⟨b, o, none⟩) ms) := N5
        have HR6 : Hid (w5.cell? ⟨b, o + p * 7 + 6, none⟩ = some (.slice av (ms[p]).after.length cv)) := r6
        have HR7 : Hid (w5.cell? ⟨b, o + q * 7, none⟩ = some (.string (ms[q]).name)) := r7
        clear hvl hvt hvs hvo N5 r6 r7
        dsimp only
        go_wp2_with fail
        refine wp_onlyN (loops9 (nm := name) (xs := flatN ms vs) _ r0 r1 HVS.out HVO.out (by omega) ?_)
        intro k56 k57 k58 k59 k60 k61 k62 xb a3 c3 W2 D
        have HD : Hid (DefSt w5 W2 xb name a3 ms.length c3 (flatN ms vs)) := D
        obtain ⟨g, rfl, hg1, hg2, hgo, hgc⟩ := row7_at D.row hlo
        have hgx := D.apart g hgo
        have hnew := D.new
        obtain ⟨⟨bx0, bx1⟩, _, _⟩ := twoC D.box
        have s1 := keepC D.kept r1 (fun _ _ h => h)
        have s6 := keepC D.kept HR6.out (fun _ _ h => h)
        have s7 := keepC D.kept HR7.out (fun _ _ h => h)
        have hbl := World.block_lt_of_cell? w5 _ HR7.out
        obtain ⟨gc, gz⟩ := hgc _ _ (flatN_at ms vs p hp (by have := HVL.out; omega) 6 _ rfl)
        have HGC : Hid (∀ k u, (flatN ms vs)[k]? = some u → W2.cell? ⟨g, k, none⟩ = some u) := fun k u hu => (hgc k u hu).1
        have HTx : Hid (TextsAt W2 (.slice av (ms[p]).after.length cv) (ms[p]).after) := HT5.out.kept D.kept (fun _ _ h => h)
        clear D hgc r0 r1 hgo
        dsimp only
        go_wp2_with fail
        refine wp_onlyN (loops10 (s := (ms[q]).name) (l := (ms[p]).after) _ s1 bx1 s6 s7 HTx.out (by omega) hp hq (by omega) _ gc gz (by omega) (fun e => hgx e.symm) (by have h9 : b < w5.heap.size := hbl; omega) ?_)
        intro k63 k64 k65 k66 k67 k68 k69 k70 k71 k72 k73 k74 k75 k76 k77 k78 k79 k80 k81 k82 k83 a4 c4 w4 O4 K4
        have hfine := HN5.out.fine
        have NL := loop_nodes (s := (ms[q]).name) HVL.out (fun n hn => (hfine n hn).1) (fun n hn => by have := HFew.out n hn; omega) (fun n hn => (hfine n hn).2) (hfine _ (List.getElem_mem hq)).1.name HVT.out hg1 hg2 HGC.out HD.out.kept K4 hp O4
        have KS : Kept (fun j => j = g) w4 (w4.setCell ⟨g, p * 7 + 6, none⟩ (.slice a4 ((ms[p]).after.length + 1) c4)) := Kept.setCell _ _ _ rfl
        have hbx := (Array.getElem?_eq_some_iff.1 HD.out.box).1
        have hz4 := K4.size
        have B4 : (w4.setCell ⟨g, p * 7 + 6, none⟩ (.slice a4 ((ms[p]).after.length + 1) c4)).heap[xb]? = some (.cells #[.string name, .slice (some ⟨g, 0, none⟩) ms.length c3] 26 (0, 0)) := ((KS.block xb (by omega) (fun e => hgx e.symm)).trans (K4.block xb hbx (fun h => h))).trans HD.out.box
        have KV : Kept (fun _ => False) w (w4.setCell ⟨g, p * 7 + 6, none⟩ (.slice a4 ((ms[p]).after.length + 1) c4)) := (((HK2.out.and HK5.out).and HD.out.kept).and K4).trans KS (fun j h => .inr (by have := HK2.out.size; omega))
        have hck := loop_check HT.out hp hq HPa.out HNm.out
        have hno := loop_not HT.out hp hq HPa.out
        have hol := ordP_len (loopNs ms p (ms[q]).name)
        have hll := loopNs_len ms p (ms[q]).name
        rw [hll] at hno hol
        clear O4 K4 KS hfine gc gz s1 s6 s7 bx0 bx1 HTx HGC
        generalize w4.setCell ⟨g, p * 7 + 6, none⟩ (.slice a4 ((ms[p]).after.length + 1) c4) = V4 at *
        have hC := check_any V4 name (some ⟨g, 0, none⟩) ms.length c3 _ NL hll
        rw [hck] at hC
        have HOr : Hid (∀ V, Kept (fun _ => False) V4 V → Calls Tryd.prog 21 #[.agg #[.string name, .slice (some ⟨g, 0, none⟩) ms.length c3]] V fun e w' => ∃ av cv, e = .returned (.tuple #[.slice av (ordP (loopNs ms p (ms[q]).name)).length cv, .bool false]) ∧ Kept (fun _ => False) V w') := fun V K => (order_any V name (some ⟨g, 0, none⟩) ms.length c3 _ (keptNew K NL) hll (by omega)).mono (fun e w' ⟨a1, c1, h1, _, h2⟩ => ⟨a1, c1, by rw [h1, show decide ((ordP (loopNs ms p (ms[q]).name)).length = ms.length) = false by simpa using hno], h2⟩)
        have hlt : (((ordP (loopNs ms p (ms[q]).name)).length : Int) < (ms.length : Int)) := by omega
        obtain ⟨⟨t0, t1⟩, _, _⟩ := twoC B4
        clear NL hck hno hol hll B4
        generalize (ordP (loopNs ms p (ms[q]).name)).length = ol at *
        generalize (ms[p]).after.length = al at *
        dsimp only
        go_wp2_with (first
          | (go_at_call 12; refine hC.mono ?_; rintro e w6 ⟨rfl, K6⟩; clear hC; have t0' := keepC K6 t0 (fun _ _ h => h); have t1' := keepC K6 t1 (fun _ _ h => h); have hO := HOr.out w6 K6)
          | (go_at_call 21; refine hO.mono ?_; rintro e w7 ⟨a7, c7, rfl, K7⟩; clear hO; have u0' := keepC K7 t0' (fun _ _ h => h); have u1' := keepC K7 t1' (fun _ _ h => h))
          | (go_at_call 13; refine (hW _).mono ?_; rintro e w8 ⟨rfl, K8⟩; clear hW)
          | fail)
        go_ret
        exact ⟨rfl, (((KV.and K6).and K7).and K8).none⟩
  · have hz : ((checkP name ms).2 == 0) = false := by simpa using hT
    clear hT HFew
    generalize (checkP name ms).2 = z2 at *
    generalize (checkP name ms).1 = z1 at *
    go_enter Tryd.func6, Tryd.ntmps6
    go_wp2_with (first
      | (go_at_call 14; refine hCut.mono ?_; rintro e w1 ⟨a', c', rfl, N1, hc1, K1⟩; clear hCut; have hd := boxD K1; obtain ⟨d0, d1⟩ := hd; have B1 := BoxSt.mk' (m := ms.length) (c' := c') K1 N1; have fz := (K1.block w.heap.size (by simp) (fun h => h)).trans (heap_alloc_new _ _); obtain ⟨_, z0, z1⟩ := twoC fz; obtain ⟨⟨x0, x1⟩, _, _⟩ := twoC B1.b0; have hC := HCk.out _ _ c' B1.nodes; have HK := B1.kept; clear B1 N1 fz HCk)
      | (go_at_call 12; refine hC.mono ?_; rintro e w2 ⟨rfl, K2⟩; clear hC)
      | (go_at_call 13; refine (hW _).mono ?_; rintro e w3 ⟨rfl, K3⟩; clear hW)
      | fail)
    go_ret
    exact ⟨rfl, ((HK.and K2).and K3).none⟩

set_option maxRecDepth 100000 in
theorem dagLoops_lifted (os : Os) (started : os.Started) (H : Type) (enc : TypeId × Value → H) :
    ReturnsInHanded {} Tryd.checked os 6 .any (fun w args => (Rows.dagLoopsSpec.pre enc Tryd.prog Tryd.f6 [] false w args ∧ laidMetH Tryd.prog laidL w) ∧ sizedMet enc Tryd.prog Tryd.f6 (OpenSpec.ofChange Rows.dagLoopsSpec) false w args)
      (Rows.dagLoopsSpec.post enc Tryd.prog Tryd.f6 false true false false) := by
  refine returnsInHanded_of_change_and (C := Tryd.checked) (X := fun w _ => laidMetH Tryd.prog laidL w) (fun _ _ _ hh h => h.of_heap hh) Tryd.own started (by kernel_rfl) Tryd.func6
    (ChangeSpec.witness_shaped (enc := enc) (C := Tryd.checked) (os := os) (X := fun w _ => laidMetH Tryd.prog laidL w) false (World.doorLaid Tryd.prog 62 os) #[.agg #[.string ⟨#[]⟩, .slice none 0 0], .int .i64 0, .int .i64 0] 8 rfl (World.shaped_of_RefB (by kernel_rfl) (by kernel_rfl)) (by kernel_rfl) (by kernel_rfl) (by kernel_rfl) (door_met os _)) ?_
  intro W base args ds gs before hval0 hW _ _ hL _
  have hval : ∀ (j : Nat) t v, Tryd.f6.params[j]? = some t → args[j]? = some v → Value.okWide Tryd.prog W .any base t v := hval0
  have hW' := hW
  obtain ⟨p, q, hA0, hV, rfl, _, _⟩ := hW
  have hA : DataW.TrodAll enc Tryd.prog W 0 (fun _ => true) true Tryd.f6.params.toList args.toList ds p := hA0
  rw [Tryd.params6] at hA hval
  obtain ⟨v0, vs0, d0, ds0, p0, q0, hargs, rfl, rfl, h0, r0⟩ := trodAll_cons hA
  obtain ⟨v1, vs1, d1, ds1, p1, q1, rfl, rfl, rfl, h1, r1⟩ := trodAll_cons r0
  obtain ⟨v2, vs2, d2, ds2, p2, q2, rfl, rfl, rfl, h2, r2⟩ := trodAll_cons r1
  obtain ⟨rfl, rfl, rfl⟩ := trodAll_nil r2
  obtain rfl : args = #[v0, v1, v2] := by cases args; simp_all
  obtain ⟨rfl, rfl⟩ := trodVars_none hV
  have k0 := h0
  have k1 := h1
  have k2 := h2
  have lt0 : ∀ x ∈ p0, x.block < W.heap.size := by obtain ⟨m, hm⟩ := k0; exact DataW.trod_lt m _ _ _ hm
  have lt1 : ∀ x ∈ p1, x.block < W.heap.size := by obtain ⟨m, hm⟩ := k1; exact DataW.trod_lt m _ _ _ hm
  have lt2 : ∀ x ∈ p2, x.block < W.heap.size := by obtain ⟨m, hm⟩ := k2; exact DataW.trod_lt m _ _ _ hm
  obtain ⟨nm0, a0, c0, ns0, rfl, z0, y0, x0, w0⟩ := dv_open (hval 0 26 v0 rfl rfl) h0
  obtain ⟨n1, rfl, _, _, x1⟩ := open_int Tryd.underlying3 (hval 1 3 v1 rfl rfl) h1
  obtain ⟨n2, rfl, _, _, x2⟩ := open_int Tryd.underlying3 (hval 2 3 v2 rfl rfl) h2
  clear hA0 hval0
  refine (dagLoops_walk _ _ _ _ _ _ W w0 y0).mono fun e W' ⟨he, bel⟩ => ?_
  subst he
  exact ⟨_, rfl, _, _, _, [], _, [], hW', trodAll_mk1 (shut_bool Tryd.underlying4 _), (trodAll_cons_mk (Below.trod Tryd.laidOut (by kernel_rfl) (of_decide_eq_true (by kernel_rfl)) k0 bel lt0) (trodAll_cons_mk (Below.trod Tryd.laidOut (by kernel_rfl) (of_decide_eq_true (by kernel_rfl)) k1 bel lt1) (trodAll_cons_mk (Below.trod Tryd.laidOut (by kernel_rfl) (of_decide_eq_true (by kernel_rfl)) k2 bel lt2) trodAll_mk0))), rfl, bel.frame _, fun h => by cases h⟩

theorem dagLoops_row : Rows.DagLoopsSaid :=
  OpenClaim.holds_of_wide 6 Tryd.f6 rfl rfl rfl rfl rfl rfl rfl ⟨rfl, rfl, rfl, rfl, rfl⟩ rfl rfl rfl rfl rfl (by kernel_rfl) Tryd.func6 (by kernel_rfl)
    (of_decide_eq_true (by kernel_rfl)) (by unfold Func.isWrapper; first | (rw [if_pos (by decide +kernel)]; kernel_rfl) | (rw [if_neg (by decide +kernel)]; exact ⟨rfl, rfl⟩))
    (fun os started H enc _ => dagLoops_lifted os started H enc)

theorem dagLoops_holds : Rows.DagLoopsCardSaid :=
  Claim7.holds_tied_plain_at .later [] [.data, .data, .data, .sentinel, .sentinel] true Rows.dagLoopsCard.stood.harness true
    dagLoops_row (fun _ h => by cases h) (by kernel_rfl) (fun _ h => by cases h) dagLoops_row_tie rfl ⟨rfl, rfl⟩ (by kernel_rfl) rfl
    (fun f fn hf hfn => by
      obtain rfl : f = 6 := Option.some.inj ((show Tryd.prog.funcNamed "tiller/tillerlaw08.DagLoops" = some 6 by kernel_rfl).symm.trans hf) |>.symm
      obtain rfl : fn = Tryd.f6 := (Option.some.inj (Tryd.func6.symm.trans hfn)).symm
      exact ⟨by kernel_rfl, fun j t ht => by
        rw [Tryd.params6] at ht
        have hm : t ∈ [26, 3] := by simpa using Array.mem_of_getElem? ht
        have hall : ([26, 3].all fun u => !Tryd.prog.wantsStandIn u) = true := by kernel_rfl
        exact (show Tryd.prog.wantsStandIn t = false by simpa using List.all_eq_true.1 hall t hm)⟩)
    (by kernel_rfl)

end Go.Proofs.YtalhdgelkomaiaaDoor
