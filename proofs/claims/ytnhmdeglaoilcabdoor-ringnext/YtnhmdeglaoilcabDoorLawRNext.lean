/-
  RingNext holds for all hosts and points: the law's call returns true and leaves its arguments as they were. No condition; the listed tables are tied to the program's text.
-/
import Derived.Test.YtnhmdeglaoilcabDoorRCard
import Derived.Test.YtnhmdeglaoilcabDoorRNextK
import Derived.Test.YtnhmdeglaoilcabDoorRHosts
namespace Go.Proofs.YtnhmdeglaoilcabDoor
open Go.ChangeShapes Go.WideShapes Go.ChangeAt Go.RowKit Go.Shelf
attribute [local go_sem] Oper.semAt_some

set_option maxRecDepth 100000 in
set_option maxHeartbeats 8000000 in
theorem ringNext_in (a : Option Addr) (m c : Nat) (zs : List Int) (points : Int) (w : World) (B : IntsAt w a m c zs) :
    CallsIn Fence.wide 3 Tryd.prog 4 #[.slice a m c, .int .i64 points] w fun e w' => e = .returned (.bool true) ∧ Below w.heap.size w w' := by
  have hst := fun (W : World) (a : Addr) (x y : Nat) (m : Mode) => run_store Tryd.prog W a (.complex .f64 x y) m rfl
  have hW := fun V => wakes_any V
  have hH := hosts_any w a m c zs B
  have WP := fun V => within_nat V points 16 (by decide) (by decide)
  refine callsIn_of_wp_marks Tryd.func4 rfl trivial ?_ rfl
  simp only [Tryd.ntmps4, List.size_toArray, List.length_cons, List.length_nil, Nat.reduceAdd, Nat.reduceSub, Array.replicate_succ, Array.replicate_zero, List.push_toArray, List.append_toArray, List.nil_append, List.cons_append]
  gi_wp2_with (first
    | (refine ⟨trivial, ?_⟩; gi_at_call 6; refine (callsIn_wide.2 hH).mono ?_; rintro e w1 ⟨a1, c1, l, rfl, ho, hR, hl12, K1⟩; clear hH)
    | fail)
  · gi_wp2_with (first
      | (refine ⟨trivial, ?_⟩; gi_at_call 12; refine (callsIn_wide.2 (hW _)).mono ?_; rintro e w2 ⟨rfl, K2⟩)
      | fail)
    exact leave_marks (v := .bool true) (w0 := w) (fun W => by simp [results, Tryd.f4, go_sem]) (fun W K => ⟨rfl, K.none⟩) [] _ (K1.and K2) List.nodup_nil (fun _ h => by cases h)
  · have hl0 : (((l.length : Nat) : Int) == 0) = false := by assumption
    have hpos : 0 < l.length := by
      rcases Nat.eq_zero_or_pos l.length with h | h
      · rw [h] at hl0; exact absurd hl0 (by decide)
      · exact h
    have I1 := intsOfRow ho
    have N1 := fun (q : Nat) => new_any _ _ _ _ _ I1 (1 + (q : Int))
    have HR : Hid (Right l) := hR
    clear hl0 ho hR I1 B
    gi_wp2_with (first
      | (refine ⟨trivial, ?_⟩; gi_at_call 7; refine (callsIn_wide.2 (WP _)).mono ?_; rintro e w2 ⟨q, hq16, rfl, hw2⟩; subst w2; clear WP)
      | (refine ⟨trivial, ?_⟩; gi_at_call 8; refine (callsIn_wide.2 (N1 q)).mono ?_; rintro e w5 ⟨K5, (⟨hw, _⟩ | ⟨_, rb, L, rfl, hp, hs, R⟩)⟩; (exact absurd ⟨HR.out, by omega, by omega⟩ hw); clear N1)
      | fail)
    have K15 : Hid (Kept (fun _ => False) w w5) := K1.and K5
    have HRg : Hid (RingAt w5 rb L) := R
    have hq1 : 1 ≤ (1 + (q : Int)) := by omega
    clear R K1 K5 hst
    refine wpIn_loop_n (NI w5 rb) 16 ⟨_, _, _, _, _, _, _, _, _, _, _, _, _, _, _, _, _, _, _, _, _, _, _, _, _, _, _, _, _, _, _, _, _, _, _, _, _, _, _, _, _, _, _, _, _, _, _, _, _, _, _, _, _, _, _, _, _, _, _, _, _, _, _, _, _, _, _, _, _, _, _, _, _, _, _, _, [], rfl, by decide, Kept.refl _ _, List.nodup_nil, fun _ h => (by cases h)⟩ (fun s a W h => ?_) ?_
    · obtain ⟨_, _, _, _, _, _, _, _, _, _, _, _, _, _, _, _, _, _, _, _, _, _, _, _, _, _, _, _, _, _, _, _, _, _, _, _, _, _, _, _, _, _, _, _, _, _, _, _, _, _, _, _, _, _, _, _, _, _, _, _, _, _, _, _, _, _, _, _, _, _, _, _, _, _, _, _, ms, _, hs, _⟩ := h
      exact hs
    intro s act wr hI Kq hKq
    obtain ⟨u0, u1, u2, u3, u4, u5, u7, u9, u10, u11, u12, u13, u14, u15, u16, u17, u18, u19, u20, u21, u22, u23, u24, u25, u26, u27, u28, u29, u30, u31, u32, u33, u34, u35, u36, u37, u38, u39, u40, u41, u42, u43, u44, u45, u46, u47, u48, u49, u50, u51, u52, u53, u54, u55, u56, u57, u58, u59, u60, u61, u62, u63, u64, u65, u66, u67, u68, u69, u70, u71, u72, u73, u74, u75, u76, u77, ms, rfl, hs16, KW, hnd, hm⟩ := hI
    have HM : Hid (ms.Nodup ∧ ∀ b ∈ ms, w5.heap.size ≤ b ∧ wr.heap[b]? = some (.deferred (some []))) := ⟨hnd, hm⟩
    clear hnd hm
    by_cases hlt : s < 16
    · have e16 : (s : Int) < 16 := by omega
      have hil := itoa_len s hlt
      have c1 := fun W => run_cat W [115, 104, 97, 114, 100, 47] (Lib.itoa (s : Int)) (by simp; omega)
      change ∀ W, (Op.stringOp .add ⟨#[115, 104, 97, 114, 100, 47]⟩ (bs (Lib.itoa (s : Int)))).run Tryd.prog W = .ok (.string (bs (shardText (s : Int)))) W at c1
      have PT := fun W => point_any W (bs (shardText (s : Int))) (by rw [bs_size]; unfold shardText; simp; omega)
      rw [bs_list] at PT
      change ∀ W, Calls Tryd.prog 13 _ W (fun e w' => e = .returned (cx (shardPt (s : Int))) ∧ w' = W) at PT
      have hps : InSq (shardPt (s : Int)) := point_in _
      have D := fun V => digitsBs_any V s hlt
      have HG := fun V (K : Kept (fun _ => False) w5 V) => hostDet_any V rb L (HRg.out.kept K) hs s (by omega)
      generalize shardPt (s : Int) = z at *
      generalize bs (shardText (s : Int)) = s2 at *
      generalize bs (Lib.itoa (s : Int)) = s1 at *
      unfold cx at PT
      have hst := fun (W : World) (a : Addr) (x y : Nat) (m : Mode) => run_store Tryd.prog W a (.complex .f64 x y) m rfl
      gi_wp2_with (first
        | (refine ⟨trivial, ?_⟩; gi_at_call 14; refine (callsIn_wide.2 (D _)).mono ?_; rintro e w2 ⟨rfl, K2⟩; clear D)
        | (refine ⟨trivial, ?_⟩; gi_at_call 13; refine (callsIn_wide.2 (PT _)).mono ?_; rintro e w3 ⟨rfl, hw3⟩; subst w3; clear PT)
        | (refine ⟨trivial, ?_⟩; gi_at_call 15; refine (callsIn_wide.2 (rAll_any _ rb)).mono ?_; rintro e w4 ⟨rfl, hw4⟩; subst w4)
        | fail)
      obtain ⟨n0, n1, n2, n3, n4, hXs, KX⟩ := five_new w2 _ _ _ _ _ rfl
      generalize hX : (((((w2.alloc (.cells #[.complex .f64 (fl z.1) (fl z.2)] 35)).alloc (.cells #[.int .i64 0] 3)).alloc (.cells #[.int .i64 (-1)] 3)).alloc (.cells #[.bool false] 4)).alloc (.cells #[.pointer (some ⟨rb, 0, none⟩)] 25)) = X at *
      obtain ⟨⟨a0, c0, h2, hA, _⟩, hsq, hfew⟩ := HRg.out
      have hg5 : ∀ g, a0 = some ⟨g, 0, none⟩ → g < w5.heap.size := fun g e => by
        rcases hA with ⟨e', _⟩ | ⟨g', e', hg', _⟩
        · rw [e'] at e; cases e
        · rw [e'] at e; cases e; exact hg'
      have hpn : ∀ x ∈ L, 0 ≤ x.2 := fun x hx => by
        obtain ⟨y, _, k, _, rfl⟩ := mem_allSpots.1 (hp.mem_iff.1 hx)
        show (0 : Int) ≤ ((y.toNat : Nat) : Int)
        omega
      have hLp : 0 < L.length := List.length_pos_of_mem (hp.mem_iff.2 (mem_allSpots.2 ⟨l[0], List.getElem_mem hpos, 0, by omega, rfl⟩))
      have Kr2 : Kept (fun _ => False) wr X := K2.and KX
      have hb2 := K2.size
      refine range_of rfl (by omega) (gf := 30) (lb := #[.pointer (some ⟨w2.heap.size + 1 + 1 + 1 + 1, 0, none⟩)]) rfl trivial (enters_of Tryd.func30 (by kernel_rfl) rfl) ?_
      intro r hfn hst0 hpend htm hpa has hbo
      have hreq : ({ r with state := .ready, pending := none } : Loop) = r := by
        cases r
        simp only [] at hst0 hpend
        subst hst0 hpend
        rfl
      have K0 : Kept (fun _ => False) X ((X.alloc (.deferred (some []))).alloc (.loop r)) := (Kept.alloc _ _ _).and (Kept.alloc _ _ _)
      have hlt0 : ∀ k o, X.heap[k]? = some o → ((X.alloc (.deferred (some []))).alloc (.loop r)).heap[k]? = some o := fun k o h => (K0.block k (Array.getElem?_eq_some_iff.1 h).1 (fun h => h)).trans h
      have J0 : NJ wr ((X.alloc (.deferred (some []))).alloc (.loop r)) w2.heap.size r z 0 (-1) false := by
        refine ⟨hlt0 _ _ n0, hlt0 _ _ n1, hlt0 _ _ n2, hlt0 _ _ n3, ?_, ?_, Kr2.and K0, hb2⟩
        · rw [Below.heap_alloc _ _ _ (by simp; omega), ← hXs, heap_alloc_new]
        · have h := heap_alloc_new (X.alloc (.deferred (some []))) (.loop r)
          rw [World.size_alloc, hXs] at h
          exact h
      have J00 : NJk wr ((X.alloc (.deferred (some []))).alloc (.loop r)) w2.heap.size r z L 0 := by
        unfold NJk
        simpa [wantK, firstK] using J0
      rw [hXs]
      have hkb : ((X.alloc (.deferred (some []))).alloc (.loop r)).cell? ⟨w2.heap.size + 1 + 1 + 1 + 1, 0, none⟩ = some (.pointer (some ⟨rb, 0, none⟩)) := by
        unfold World.cell?; rw [hlt0 _ _ n4]; rfl
      refine (rAll_in 2 (w2.heap.size + 5 + 1) (w2.heap.size + 1 + 1 + 1 + 1) rb a0 c0 L (fun k W => NJk wr W w2.heap.size r z L k) (fun _ => False) _ (fun k A B h K => NJ.keep h K) ?_ hkb (cellKept ((KW.and Kr2).and K0) h2) (hA.kept ((KW.and Kr2).and K0) (fun _ _ h => h)) hfew J00).mono ?_
      · intro k x W1 J hx
        have hkL : k < L.length := (List.getElem?_eq_some_iff.1 hx).1
        have hxe : L[k] = x := (List.getElem?_eq_some_iff.1 hx).2
        have hah := ahead_front z L hs k hkL
        rw [hxe] at hah
        have BF := fun V => before_any V x.1 z (hsq x (List.mem_of_getElem? hx)) hps
        rw [hah] at BF
        change ∀ V, Calls Tryd.prog 16 #[cx x.1, cx z] V (fun e w' => e = .returned (.bool (decide (k < cntL L z))) ∧ w' = V) at BF
        unfold cx at BF ⊢
        refine yield_gen (W2 := W1) (a1 := ?a1L) J.lp hst0 htm hpa has hbo rfl hfn J.lp ?hA ?hB
        case hA =>
          intro K hK
          gi_wp2
          exact hK
        case hB =>
          have J1 : NJ wr (W1.putObj (w2.heap.size + 5 + 1) (.loop { r with state := .busy })) w2.heap.size { r with state := .busy } z (wantK L z k) (firstK L k) (decide (cntL L z < k)) := NJ.put J _
          have HSZ : Hid ((W1.putObj (w2.heap.size + 5 + 1) (.loop { r with state := .busy })).heap.size = W1.heap.size) := by show _ = _; simp [World.putObj]
          have HJ : Hid (NJk wr W1 w2.heap.size r z L k) := J
          have HREQ : Hid _ := hreq
          have HX : Hid (L[k]? = some x) := hx
          clear htm hpa has hbo hst0 hpend hreq J hxe hah J0 J00 hx
          generalize W1.putObj (w2.heap.size + 5 + 1) (.loop { r with state := .busy }) = W2 at *
          obtain ⟨y0, y1, y2, y3, f1, f2, f3⟩ := J1.cells
          have HJ1 : Hid _ := J1
          clear J1
          by_cases hk0 : k = 0
          · subst hk0
            rw [show firstK L 0 = -1 from rfl] at y2
            rw [show decide (cntL L z < 0) = false by simp] at y3
            by_cases hc : cntL L z = 0
            · rw [show decide (0 < cntL L z) = false by simp; omega] at BF
              have HC : Hid _ := hc
              clear hc
              gi_wp2_with (first
                | (refine ⟨trivial, ?_⟩; gi_at_call 16; refine (callsIn_wide.2 (BF _)).mono ?_; rintro e W3 ⟨rfl, hw3⟩; subst W3)
                | fail)
              have JV := ((HJ1.out.setF x.2).setX x.2).setD true
              refine ⟨JV.lp, ?_, by have h9 := HSZ.out; omega, fun g hg => NJ.same HJ.out (JV.put _) (by have h8 := hg5 g hg; have h9 := KW.size; omega)⟩
              rw [HREQ.out]
              show NJ wr _ _ r z (wantK L z (0 + 1)) (firstK L (0 + 1)) (decide (cntL L z < 0 + 1))
              rw [want_at HX.out HC.out, first_zero HX.out, dec_at HC.out]
              exact JV.put r
            · rw [show decide (0 < cntL L z) = true by simp; omega] at BF
              have HC : Hid _ := hc
              clear hc
              gi_wp2_with (first
                | (refine ⟨trivial, ?_⟩; gi_at_call 16; refine (callsIn_wide.2 (BF _)).mono ?_; rintro e W3 ⟨rfl, hw3⟩; subst W3)
                | fail)
              have JV := HJ1.out.setF x.2
              refine ⟨JV.lp, ?_, by have h9 := HSZ.out; omega, fun g hg => NJ.same HJ.out (JV.put _) (by have h8 := hg5 g hg; have h9 := KW.size; omega)⟩
              rw [HREQ.out]
              show NJ wr _ _ r z (wantK L z (0 + 1)) (firstK L (0 + 1)) (decide (cntL L z < 0 + 1))
              rw [want_no HC.out, first_zero HX.out, dec_no HC.out]
              exact JV.put r
          · have hyf := first_pos hpn hLp hk0
            have HK0 : Hid (k ≠ 0) := hk0
            clear hk0
            rcases Nat.lt_trichotomy (cntL L z) k with hlt' | hc | hlt'
            · rw [decide_eq_true hlt'] at y3
              have hc : cntL L z ≠ k := by omega
              clear BF hlt'
              have HC : Hid _ := hc
              clear hc
              gi_wp2
              refine ⟨trivial, ?_⟩
              gi_wp2
              have JV := HJ1.out
              refine ⟨JV.lp, ?_, by have h9 := HSZ.out; omega, fun g hg => NJ.same HJ.out (JV.put _) (by have h8 := hg5 g hg; have h9 := KW.size; omega)⟩
              rw [HREQ.out]
              show NJ wr _ _ r z (wantK L z (k + 1)) (firstK L (k + 1)) (decide (cntL L z < k + 1))
              rw [want_no HC.out, first_succ HK0.out, dec_no HC.out]
              exact JV.put r
            · rw [show decide (cntL L z < k) = false by simp; omega] at y3
              rw [show decide (k < cntL L z) = false by simp; omega] at BF
              have HC : Hid _ := hc
              clear hc
              gi_wp2_with (first
                | (refine ⟨trivial, ?_⟩; gi_at_call 16; refine (callsIn_wide.2 (BF _)).mono ?_; rintro e W3 ⟨rfl, hw3⟩; subst W3)
                | fail)
              have JV := (HJ1.out.setX x.2).setD true
              refine ⟨JV.lp, ?_, by have h9 := HSZ.out; omega, fun g hg => NJ.same HJ.out (JV.put _) (by have h8 := hg5 g hg; have h9 := KW.size; omega)⟩
              rw [HREQ.out]
              show NJ wr _ _ r z (wantK L z (k + 1)) (firstK L (k + 1)) (decide (cntL L z < k + 1))
              rw [want_at HX.out HC.out, first_succ HK0.out, dec_at HC.out]
              exact JV.put r
            · rw [show decide (cntL L z < k) = false by simp; omega] at y3
              rw [show decide (k < cntL L z) = true by simp; omega] at BF
              have hc : cntL L z ≠ k := by omega
              clear hlt'
              have HC : Hid _ := hc
              clear hc
              gi_wp2_with (first
                | (refine ⟨trivial, ?_⟩; gi_at_call 16; refine (callsIn_wide.2 (BF _)).mono ?_; rintro e W3 ⟨rfl, hw3⟩; subst W3)
                | fail)
              have JV := HJ1.out
              refine ⟨JV.lp, ?_, by have h9 := HSZ.out; omega, fun g hg => NJ.same HJ.out (JV.put _) (by have h8 := hg5 g hg; have h9 := KW.size; omega)⟩
              rw [HREQ.out]
              show NJ wr _ _ r z (wantK L z (k + 1)) (firstK L (k + 1)) (decide (cntL L z < k + 1))
              rw [want_no HC.out, first_succ HK0.out, dec_no HC.out]
              exact JV.put r
      · rintro e W ⟨⟨v1, rfl⟩, J | hF⟩
        · refine ⟨⟨_, rfl⟩, r, J.lp, by rw [hst0]; decide, .inl ⟨hpend, ?_⟩⟩
          have J1 : NJ wr (W.putObj (w2.heap.size + 5 + 1) (.loop { r with state := .exhausted })) w2.heap.size { r with state := .exhausted } z (wantK L z L.length) (firstK L L.length) (decide (cntL L z < L.length)) := NJ.put J _
          generalize W.putObj (w2.heap.size + 5 + 1) (.loop { r with state := .exhausted }) = W2 at *
          obtain ⟨y0, y1, y2, y3, f1, f2, f3⟩ := J1.cells
          have HJ1 : Hid _ := J1
          clear J J1 J0 J00 K0 htm hpa has hbo hst0 hpend hreq hlt0 hkb
          by_cases hc : cntL L z < L.length
          · have hh := want_found hc
            rw [hh] at HG
            simp only [Option.getD_some, Option.isSome_some] at HG
            rw [decide_eq_true hc] at y3
            generalize wantK L z L.length = xw at *
            have e0 : (xw != xw) = false := by simp
            have HH := HG _ (KW.and HJ1.out.K)
            clear hh HG
            gi_wp2_with (first
              | (refine ⟨trivial, ?_⟩; gi_at_call 11; refine (callsIn_wide.2 HH).mono ?_; rintro e W3 ⟨rfl, K3⟩; have JF := HJ1.out.keep K3; obtain ⟨t0, t1, t2, t3, _, _, _⟩ := JF.cells; have HJF : Hid _ := JF; clear HH JF)
              | fail)
            have e8 : ((s : Int) + 1) = ((s + 1 : Nat) : Int) := by push_cast; rfl
            rw [e8]
            refine ⟨_, _, _, _, _, _, _, _, _, _, _, _, _, _, _, _, _, _, _, _, _, _, _, _, _, _, _, _, _, _, _, _, _, _, _, _, _, _, _, _, _, _, _, _, _, _, _, _, _, _, _, _, _, _, _, _, _, _, _, _, _, _, _, _, _, _, _, _, _, _, _, _, _, _, _, _, (w2.heap.size + 5) :: ms, rfl, by omega, KW.and HJF.out.K, List.nodup_cons.2 ⟨fun hmem => ?_, HM.out.1⟩, fun b hb => ?_⟩
            · have h9 := (Array.getElem?_eq_some_iff.1 (HM.out.2 _ hmem).2).1
              omega
            · rcases List.mem_cons.1 hb with rfl | h
              · exact ⟨by have h9 := KW.size; omega, HJF.out.dm⟩
              · have h9 := HM.out.2 b h
                exact ⟨h9.1, (HJF.out.K.block b (Array.getElem?_eq_some_iff.1 h9.2).1 (fun h => h)).trans h9.2⟩
          · have hh := want_first hLp hc
            rw [hh] at HG
            simp only [Option.getD_some, Option.isSome_some] at HG
            rw [decide_eq_false hc] at y3
            generalize firstK L L.length = xf at *
            have e0 : (xf != xf) = false := by simp
            have HJX : Hid (NJ wr (W2.setCell ⟨w2.heap.size + 1, 0, none⟩ (.int .i64 xf)) _ _ _ _ _ _) := HJ1.out.setX xf
            have HH := HG _ (KW.and HJX.out.K)
            clear hh HG
            gi_wp2_with (first
              | (refine ⟨trivial, ?_⟩; gi_at_call 11; refine (callsIn_wide.2 HH).mono ?_; rintro e W3 ⟨rfl, K3⟩; have JF := HJX.out.keep K3; obtain ⟨t0, t1, t2, t3, _, _, _⟩ := JF.cells; have HJF : Hid _ := JF; clear HH JF)
              | fail)
            have e8 : ((s : Int) + 1) = ((s + 1 : Nat) : Int) := by push_cast; rfl
            rw [e8]
            refine ⟨_, _, _, _, _, _, _, _, _, _, _, _, _, _, _, _, _, _, _, _, _, _, _, _, _, _, _, _, _, _, _, _, _, _, _, _, _, _, _, _, _, _, _, _, _, _, _, _, _, _, _, _, _, _, _, _, _, _, _, _, _, _, _, _, _, _, _, _, _, _, _, _, _, _, _, _, (w2.heap.size + 5) :: ms, rfl, by omega, KW.and HJF.out.K, List.nodup_cons.2 ⟨fun hmem => ?_, HM.out.1⟩, fun b hb => ?_⟩
            · have h9 := (Array.getElem?_eq_some_iff.1 (HM.out.2 _ hmem).2).1
              omega
            · rcases List.mem_cons.1 hb with rfl | h
              · exact ⟨by have h9 := KW.size; omega, HJF.out.dm⟩
              · have h9 := HM.out.2 b h
                exact ⟨h9.1, (HJF.out.K.block b (Array.getElem?_eq_some_iff.1 h9.2).1 (fun h => h)).trans h9.2⟩
        · exact hF.elim
    · have e16 : ¬ (s : Int) < 16 := by omega
      gi_wp2_with (first
        | (refine ⟨trivial, ?_⟩; gi_at_call 12; refine (callsIn_wide.2 (hW _)).mono ?_; rintro e w7 ⟨rfl, K7⟩)
        | fail)
      exact leave_marks (v := .bool true) (w0 := w5) (fun W => by simp [results, Tryd.f4, go_sem]) (fun W K => ⟨rfl, (K15.out.and K).none⟩) ms _ (KW.and K7) HM.out.1 (fun b hb => ⟨(HM.out.2 b hb).1, (K7.block b (Array.getElem?_eq_some_iff.1 (HM.out.2 b hb).2).1 (fun h => h)).trans (HM.out.2 b hb).2⟩)

theorem ringNext_walk (a : Option Addr) (m c : Nat) (zs : List Int) (points : Int) (w : World) (B : IntsAt w a m c zs) :
    Calls Tryd.prog 4 #[.slice a m c, .int .i64 points] w fun e w' => e = .returned (.bool true) ∧ Below w.heap.size w w' :=
  callsIn_wide.1 (ringNext_in a m c zs points w B)

set_option maxRecDepth 100000 in
theorem ringNext_lifted (os : Os) (started : os.Started) (H : Type) (enc : TypeId × Value → H) :
    ReturnsInHanded {} Tryd.checked os 4 .any (fun w args => (Rows.ringNextSpec.pre enc Tryd.prog Tryd.f4 [] false w args ∧ laidMetH Tryd.prog laidL w) ∧ sizedMet enc Tryd.prog Tryd.f4 (OpenSpec.ofChange Rows.ringNextSpec) false w args)
      (Rows.ringNextSpec.post enc Tryd.prog Tryd.f4 false true false false) := by
  refine returnsInHanded_of_change_and (C := Tryd.checked) (X := fun w _ => laidMetH Tryd.prog laidL w) (fun _ _ _ hh h => h.of_heap hh) Tryd.own started (by kernel_rfl) Tryd.func4
    (ChangeSpec.witness_shaped (enc := enc) (C := Tryd.checked) (os := os) (X := fun w _ => laidMetH Tryd.prog laidL w) false (World.doorLaid Tryd.prog 24 os) #[.slice none 0 0, .int .i64 0] 8 rfl (World.shaped_of_RefB (by kernel_rfl) (by kernel_rfl)) (by kernel_rfl) (by kernel_rfl) (by kernel_rfl) (door_met os _)) ?_
  intro W base args ds gs before hval0 hW _ _ hL _
  have hval : ∀ (j : Nat) t v, Tryd.f4.params[j]? = some t → args[j]? = some v → Value.okWide Tryd.prog W .any base t v := hval0
  have hW' := hW
  obtain ⟨p, q, hA0, hV, rfl, _, _⟩ := hW
  have hA : DataW.TrodAll enc Tryd.prog W 0 (fun _ => true) true Tryd.f4.params.toList args.toList ds p := hA0
  rw [Tryd.params4] at hA hval
  obtain ⟨v0, vs0, d0, ds0, p0, q0, hargs, rfl, rfl, h0, r0⟩ := trodAll_cons hA
  obtain ⟨v1, vs1, d1, ds1, p1, q1, rfl, rfl, rfl, h1, r1⟩ := trodAll_cons r0
  obtain ⟨rfl, rfl, rfl⟩ := trodAll_nil r1
  obtain rfl : args = #[v0, v1] := by cases args; simp_all
  obtain ⟨rfl, rfl⟩ := trodVars_none hV
  have k0 := h0
  have k1 := h1
  have lt0 : ∀ x ∈ p0, x.block < W.heap.size := by obtain ⟨m, hm⟩ := k0; exact DataW.trod_lt m _ _ _ hm
  have lt1 : ∀ x ∈ p1, x.block < W.heap.size := by obtain ⟨m, hm⟩ := k1; exact DataW.trod_lt m _ _ _ hm
  obtain ⟨a0', len0', cap0', rfl⟩ := okWide_slice Tryd.underlying22 (hval 0 22 v0 rfl rfl)
  obtain ⟨a0, len0, cap0, z0, e0, w0⟩ : ∃ a len cap zs, Value.slice a0' len0' cap0' = .slice a len cap ∧ IntsAt W a len cap zs := by
    obtain ⟨fuel, hf⟩ := h0
    exact ints_open Tryd.underlying22 Tryd.underlying3 (by kernel_rfl) hf
  simp only [Value.slice.injEq] at e0
  obtain ⟨rfl, rfl, rfl⟩ := e0
  obtain ⟨n1, rfl, _, _, x1⟩ := open_int Tryd.underlying3 (hval 1 3 v1 rfl rfl) h1
  clear hA0 hval0
  refine (ringNext_walk _ _ _ _ _ W w0).mono fun e W' ⟨he, bel⟩ => ?_
  subst he
  exact ⟨_, rfl, _, _, _, [], _, [], hW', trodAll_mk1 (shut_bool Tryd.underlying4 _), (trodAll_cons_mk (Below.trod Tryd.laidOut (by kernel_rfl) (of_decide_eq_true (by kernel_rfl)) k0 bel lt0) (trodAll_cons_mk (Below.trod Tryd.laidOut (by kernel_rfl) (of_decide_eq_true (by kernel_rfl)) k1 bel lt1) trodAll_mk0)), rfl, bel.frame _, fun h => by cases h⟩

theorem ringNext_row : Rows.RingNextSaid :=
  OpenClaim.holds_of_wide 4 Tryd.f4 rfl rfl rfl rfl rfl rfl rfl ⟨rfl, rfl, rfl, rfl, rfl⟩ rfl rfl rfl rfl rfl (by kernel_rfl) Tryd.func4 (by kernel_rfl)
    (of_decide_eq_true (by kernel_rfl)) (by unfold Func.isWrapper; first | (rw [if_pos (by decide +kernel)]; kernel_rfl) | (rw [if_neg (by decide +kernel)]; exact ⟨rfl, rfl⟩))
    (fun os started H enc _ => ringNext_lifted os started H enc)

theorem ringNext_holds : Rows.RingNextCardSaid :=
  Claim7.holds_tied_plain_at .later [] [.data, .data, .data] true Rows.ringNextCard.stood.harness false
    ringNext_row (fun _ h => by cases h) (by kernel_rfl) (fun _ h => by cases h) ringNext_row_tie rfl ⟨rfl, rfl⟩ (by kernel_rfl) rfl
    (fun f fn hf hfn => by
      obtain rfl : f = 4 := Option.some.inj ((show Tryd.prog.funcNamed "tiller/tillerlaw06.RingNext" = some 4 by kernel_rfl).symm.trans hf) |>.symm
      obtain rfl : fn = Tryd.f4 := (Option.some.inj (Tryd.func4.symm.trans hfn)).symm
      exact ⟨by kernel_rfl, fun j t ht => by
        rw [Tryd.params4] at ht
        have hm : t ∈ [22, 3] := by simpa using Array.mem_of_getElem? ht
        have hall : ([22, 3].all fun u => !Tryd.prog.wantsStandIn u) = true := by kernel_rfl
        exact (show Tryd.prog.wantsStandIn t = false by simpa using List.all_eq_true.1 hall t hm)⟩)
    (by kernel_rfl)

end Go.Proofs.YtnhmdeglaoilcabDoor
