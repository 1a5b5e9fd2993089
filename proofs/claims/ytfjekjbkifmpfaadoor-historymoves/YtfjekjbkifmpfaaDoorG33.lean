/-
  The document's Apply: no kind of event.
-/
import Derived.Test.YtfjekjbkifmpfaaDoorG25
import Derived.Test.YtfjekjbkifmpfaaDoorG01
import Derived.Deep.CutRange
import Derived.BigQuiet
namespace Go.Proofs.YtfjekjbkifmpfaaDoor.Rf
open Go.RowKit

set_option maxRecDepth 100000 in
set_option maxHeartbeats 16000000 in
theorem apply_other (w : World) (nm : ByteArray) (a : Option Addr) (c : Nat) (ns : List Nd) (hN : NodesAt w a ns) (hn : ns.length ≤ 1000000) (s : St) (v6 v7 : Value) (R : StRd w s v6 v7) (he0 : 0 ≤ s.events) (he1 : s.events ≤ 1000000000000) (ev : Ev) (hk : ∀ k ∈ ([1, 2, 3, 4, 5, 6, 7, 8, 9, 10, 11, 12, 13, 14, 15] : List Int), ev.kind ≠ k) (hs : s.status = 1) (i : Nat) (hf : findP ns ev.node = some i) (him : i < s.nodes.length) :
    Calls Tryd.prog 19 #[.agg #[.string nm, .slice a ns.length c], .agg (stA s v6 v7), .agg #[.int .i64 ev.kind, .string ev.node, .string ev.text, .int .i64 ev.num]] w (ApPost w s v6 v7 (applyR nm ns s ev)) := by
  have _ := hn
  obtain ⟨ek, en, et, ez⟩ := ev
  obtain ⟨x0, x1, x2, x3, x4, x5, ln, ls, x8⟩ := s
  simp only [] at he0 he1 hk hs hf him ⊢
  obtain ⟨va6, vc6, rfl⟩ := R.nodes.shape
  obtain ⟨va7, vc7, rfl⟩ := R.sigs.shape
  simp only [] at R ⊢
  have H1 := hid (hk 1 (by simp))
  have c1 : (ek == 1) = false := by rw [beq_eq_false_iff_ne]; exact H1.out
  have H2 := hid (hk 2 (by simp))
  have c2 : (ek == 2) = false := by rw [beq_eq_false_iff_ne]; exact H2.out
  have H3 := hid (hk 3 (by simp))
  have c3 : (ek == 3) = false := by rw [beq_eq_false_iff_ne]; exact H3.out
  have H4 := hid (hk 4 (by simp))
  have c4 : (ek == 4) = false := by rw [beq_eq_false_iff_ne]; exact H4.out
  have H5 := hid (hk 5 (by simp))
  have c5 : (ek == 5) = false := by rw [beq_eq_false_iff_ne]; exact H5.out
  have H6 := hid (hk 6 (by simp))
  have c6 : (ek == 6) = false := by rw [beq_eq_false_iff_ne]; exact H6.out
  have H7 := hid (hk 7 (by simp))
  have c7 : (ek == 7) = false := by rw [beq_eq_false_iff_ne]; exact H7.out
  have H8 := hid (hk 8 (by simp))
  have c8 : (ek == 8) = false := by rw [beq_eq_false_iff_ne]; exact H8.out
  have H9 := hid (hk 9 (by simp))
  have c9 : (ek == 9) = false := by rw [beq_eq_false_iff_ne]; exact H9.out
  have H10 := hid (hk 10 (by simp))
  have c10 : (ek == 10) = false := by rw [beq_eq_false_iff_ne]; exact H10.out
  have H11 := hid (hk 11 (by simp))
  have c11 : (ek == 11) = false := by rw [beq_eq_false_iff_ne]; exact H11.out
  have H12 := hid (hk 12 (by simp))
  have c12 : (ek == 12) = false := by rw [beq_eq_false_iff_ne]; exact H12.out
  have H13 := hid (hk 13 (by simp))
  have c13 : (ek == 13) = false := by rw [beq_eq_false_iff_ne]; exact H13.out
  have H14 := hid (hk 14 (by simp))
  have c14 : (ek == 14) = false := by rw [beq_eq_false_iff_ne]; exact H14.out
  have H15 := hid (hk 15 (by simp))
  have c15 : (ek == 15) = false := by rw [beq_eq_false_iff_ne]; exact H15.out
  clear hk
  subst hs
  obtain ⟨d0, d1, d2, d3, dz, KW⟩ := ap_boxes w nm a ns.length c ⟨x0, x1, x2, x3, 1, x5, ln, ls, x8⟩ (Value.slice va6 ln.length vc6) (Value.slice va7 ls.length vc7) ⟨ek, en, et, ez⟩
  have hC := refCopied_any _ _ (Value.slice va6 ln.length vc6) (Value.slice va7 ls.length vc7) (R.new KW)
  have HR := hid R
  have HF7 : Hid (ls.length ≤ 1000000) := R.few7
  have HN := hid hN
  unfold stA at hC ⊢
  unfold apD apS apE apZ stA zero9 at d0 d1 d2 d3 dz KW hC
  simp only [] at d0 d1 d2 d3 dz KW hC ⊢
  obtain ⟨⟨p0, p1, p2, p3, p4, p5, p6, p7, p8⟩, _⟩ := nine d1
  have HD0 := hid d0
  have HD1 := hid d1
  have HD2 := hid d2
  have HD3 := hid d3
  have HDZ := hid dz
  have HKW := hid KW
  clear d0 d1 d2 d3 dz KW R hN
  go_enter Tryd.func19, Tryd.ntmps19
  go_upto_region 3 with (first
    | (go_at_call 41; refine hC.mono ?_; rintro e w1 ⟨w6, w7, rfl, O1, K1⟩; obtain ⟨ua6, uc6, rfl⟩ := ownsRow_shape O1.nodes; obtain ⟨ua7, uc7, rfl⟩ := ownsRow_shape O1.sigs; simp only [] at O1; clear hC p0 p1 p2 p3 p4 p5 p6 p7 p8; unfold stA;
        have HO1 := hid O1; have HK1 := hid K1; clear O1 K1)
    | fail)
  have KX : Kept (fun g => g = w1.heap.size) w1 (w1.alloc (.cells #[.string x0, .string x1, .string x2, .string x3, .int .i64 1, .string x5, (Value.slice ua6 ln.length uc6), (Value.slice ua7 ls.length uc7), .int .i64 (x8 + 1)] 33)) := Kept.alloc _ _ _
  have hx4 : w.heap.size + 4 ≤ w1.heap.size := by rw [← HDZ.out]; exact HK1.out.size
  have hbx : (w1.alloc (.cells #[.string x0, .string x1, .string x2, .string x3, .int .i64 1, .string x5, (Value.slice ua6 ln.length uc6), (Value.slice ua7 ls.length uc7), .int .i64 (x8 + 1)] 33)).heap[w1.heap.size]? = some (.cells (stA (⟨x0, x1, x2, x3, 1, x5, ln, ls, x8 + 1⟩ : St) (Value.slice ua6 ln.length uc6) (Value.slice ua7 ls.length uc7)) 33 (0, 0)) := heap_alloc_new w1 _
  have hzx : w1.heap.size < (w1.alloc (.cells #[.string x0, .string x1, .string x2, .string x3, .int .i64 1, .string x5, (Value.slice ua6 ln.length uc6), (Value.slice ua7 ls.length uc7), .int .i64 (x8 + 1)] 33)).heap.size := (Array.getElem?_eq_some_iff.1 hbx).1
  have AP : ApIn w (w1.alloc (.cells #[.string x0, .string x1, .string x2, .string x3, .int .i64 1, .string x5, (Value.slice ua6 ln.length uc6), (Value.slice ua7 ls.length uc7), .int .i64 (x8 + 1)] 33)) nm a ns.length c ⟨x0, x1, x2, x3, 1, x5, ln, ls, x8⟩ (Value.slice va6 ln.length vc6) (Value.slice va7 ls.length vc7) ⟨ek, en, et, ez⟩ w1.heap.size (⟨x0, x1, x2, x3, 1, x5, ln, ls, x8 + 1⟩ : St) (Value.slice ua6 ln.length uc6) (Value.slice ua7 ls.length uc7) := by
    have key : ∀ {k : Nat} {o : Obj}, k < w.heap.size + 4 → ((((w.alloc (.cells #[.string nm, .slice a ns.length c] 24)).alloc (.cells #[.string x0, .string x1, .string x2, .string x3, .int .i64 1, .string x5, (Value.slice va6 ln.length vc6), (Value.slice va7 ls.length vc7), .int .i64 x8] 33)).alloc (.cells #[.int .i64 ek, .string en, .string et, .int .i64 ez] 51)).alloc (.cells #[.string ⟨#[]⟩, .string ⟨#[]⟩, .string ⟨#[]⟩, .string ⟨#[]⟩, .int .i64 0, .string ⟨#[]⟩, .slice none 0 0, .slice none 0 0, .int .i64 0] 33)).heap[k]? = some o → (w1.alloc (.cells #[.string x0, .string x1, .string x2, .string x3, .int .i64 1, .string x5, (Value.slice ua6 ln.length uc6), (Value.slice ua7 ls.length uc7), .int .i64 (x8 + 1)] 33)).heap[k]? = some o := fun {k o} hk h => (KX.block k (Nat.lt_of_lt_of_le (by rw [HDZ.out]; exact hk) HK1.out.size) (by omega)).trans ((HK1.out.block k (by rw [HDZ.out]; exact hk) (fun h => h)).trans h)
    have o6 := HO1.out.nodes
    have o7 := HO1.out.sigs
    have b6 : ∀ g, (Value.slice ua6 ln.length uc6).ownBlock = some g → w.heap.size + 4 ≤ g ∧ g < w1.heap.size := fun g hg => ⟨by rw [← HDZ.out]; exact (o6.lt g hg).1, (o6.lt g hg).2⟩
    have b7 : ∀ g, (Value.slice ua7 ls.length uc7).ownBlock = some g → w.heap.size + 4 ≤ g ∧ g < w1.heap.size := fun g hg => ⟨by rw [← HDZ.out]; exact (o7.lt g hg).1, (o7.lt g hg).2⟩
    exact ⟨key (by omega) HD0.out, key (by omega) HD1.out, key (by omega) HD2.out, key (by omega) HD3.out,
      ⟨hbx, rfl, ownsRow_low (ownsRow_keep o6 (fun g hg => KX.block g (b6 g hg).2 (by have := (b6 g hg).2; omega))) (Nat.zero_le _), ownsRow_low (ownsRow_keep o7 (fun g hg => KX.block g (b7 g hg).2 (by have := (b7 g hg).2; omega))) (Nat.zero_le _), ⟨hx4, hzx⟩, fun g hg => ⟨⟨(b6 g hg).1, by have := (b6 g hg).2; omega⟩, by have := (b6 g hg).2; omega⟩, fun g hg => ⟨⟨(b7 g hg).1, by have := (b7 g hg).2; omega⟩, by have := (b7 g hg).2; omega⟩, fun g h => h.2⟩,
      (HKW.out.and HK1.out).trans KX (fun i hi => .inr (by subst hi; omega))⟩
  clear HO1 HK1 KX hbx hzx HD0 HD1 HD2 HD3
  generalize w1.alloc (.cells #[.string x0, .string x1, .string x2, .string x3, .int .i64 1, .string x5, (Value.slice ua6 ln.length uc6), (Value.slice ua7 ls.length uc7), .int .i64 (x8 + 1)] 33) = V at *
  clear HDZ HKW
  generalize w1.heap.size = bx at *
  have hi := findP_lt hf
  have hFd := refFind_any V nm a ns.length c ns (keptNew AP.keep HN.out) rfl (by omega) en
  rw [hf] at hFd
  obtain ⟨b, o, av, cv, hae, _⟩ := HN.out.at hi
  subst hae
  have HA0 : Hid (∀ (y : Ns), ln[i]? = some y → ∀ (n : Nd), ns[i]? = some n → applyR nm ns (⟨x0, x1, x2, x3, 1, x5, ln, ls, x8⟩ : St) ⟨ek, en, et, ez⟩ = (moveR ls ⟨ek, en, et, ez⟩ n y).map (fun (p : Int × ByteArray × List Sg) => { (⟨x0, x1, x2, x3, 1, x5, ln, ls, x8⟩ : St) with nodes := ln.modify i (fun x => ⟨p.1, if (ek : Int) = 3 then ez else x.tr, if p.2.1 ≠ ⟨#[]⟩ ∨ p.1 = 3 ∨ p.1 = 4 then p.2.1 else x.text⟩), sigs := p.2.2, events := x8 + 1 })) := fun y hy n hn => by
    unfold applyR
    rw [if_neg H1.out, if_neg (by simp), if_neg H13.out, if_neg H15.out]
    dsimp only
    rw [hf]
    dsimp only
    rw [hn, hy]
  have HA := hid (HA0.out _ (List.getElem?_eq_getElem him) _ (List.getElem?_eq_getElem hi))
  clear HA0 hf
  obtain ⟨y0, y1⟩ := twoB AP.d
  obtain ⟨⟨e0, e1, e2, e3⟩, _⟩ := four AP.ev
  obtain ⟨⟨s0, s1, s2, s3, s4, s5, s6, s7, s8⟩, _⟩ := nine AP.st
  have hxb := AP.xs.blk
  change V.heap[bx]? = some (.cells #[.string x0, .string x1, .string x2, .string x3, .int .i64 1, .string x5, (Value.slice ua6 ln.length uc6), (Value.slice ua7 ls.length uc7), .int .i64 (x8 + 1)] 33 (0, 0)) at hxb
  obtain ⟨⟨l0, l1, l2, l3, l4, l5, l6, l7, l8⟩, m0, m1, m2, m3, m4, m5, m6, m7, m8⟩ := nine hxb
  go_upto_region 20 with (first
    | (go_at_call 23; refine hFd.mono ?_; rintro e w2 ⟨rfl, K2⟩; clear hFd)
    | fail)
  replace AP := AP.new K2
  clear y0 y1 e0 e1 e2 e3 s0 s1 s2 s3 s4 s5 s6 s7 s8 l0 l1 l2 l3 l4 l5 l6 l7 l8 m0 m1 m2 m3 m4 m5 m6 m7 m8 hxb K2
  have hxb := AP.xs.blk
  change w2.heap[bx]? = some (.cells #[.string x0, .string x1, .string x2, .string x3, .int .i64 1, .string x5, (Value.slice ua6 ln.length uc6), (Value.slice ua7 ls.length uc7), .int .i64 (x8 + 1)] 33 (0, 0)) at hxb
  obtain ⟨⟨_, _, _, _, _, _, l6, _, _⟩, _⟩ := nine hxb
  obtain ⟨y0, y1⟩ := twoB AP.d
  obtain ⟨b', o', av', cv', hae', hT', k0, k1, k2, _, _, _, _⟩ := (keptNew AP.keep HN.out).at hi
  cases hae'
  obtain ⟨g, cg, hv6, hown, hcap, hrow⟩ := row_at AP.xs.nodes (by show 0 < ln.length; omega)
  obtain ⟨rfl, rfl⟩ : ua6 = some ⟨g, 0, none⟩ ∧ uc6 = cg := by simpa using hv6
  obtain ⟨q0, q1, q2⟩ := nsF_get him
  have r0 := (hrow _ _ q0).1
  have g1 : ¬ (ln.length : Int) ≤ (i : Int) := by omega
  have g2 : (i : Int) < (ln.length : Int) := by omega
  have g3 : (i : Int) < (ns.length : Int) := by omega
  clear hv6 hown hrow q0 q1 q2 hT'
  go_upto_region 23 with (first
    | go_quiet (fail)
    | fail)
  replace AP := AP.new (Kept.drewN (fun _ => False) w2 nq)
  generalize w2.drewN nq = w3 at *
  clear y0 y1 k0 k1 k2 r0 l6 hxb
  have HYS : Hid ((ln[i]).status = (ln[i]).status) := rfl
  obtain ⟨mv, hmv⟩ : ∃ mv, mv = moveR ls ⟨ek, en, et, ez⟩ ns[i] ln[i] := ⟨_, rfl⟩
  rw [← hmv] at HA
  have HMv0 : ∀ nk ys, nk = (ns[i]).kind → ys = (ln[i]).status → mv = moveR ls ⟨ek, en, et, ez⟩ { ns[i] with kind := nk } { ln[i] with status := ys } := fun nk ys h1 h2 => by subst h1 h2; exact hmv
  have HMq := HMv0 _ _ rfl rfl
  clear hmv HMv0
  generalize hnk : (ns[i]).kind = nk at *
  generalize hys : (ln[i]).status = ys at *
  clear hnk hys HYS
  have HMv := hid HMq
  clear HMq
  go_upto_region 25 with fail
  obtain ⟨⟨e0, e1, e2, e3⟩, _⟩ := four AP.ev
  obtain ⟨⟨s0, s1, s2, s3, s4, s5, s6, s7, s8⟩, _⟩ := nine AP.st
  obtain ⟨y0, y1⟩ := twoB AP.d
  have HG : Hid (applyR nm ns (⟨x0, x1, x2, x3, 1, x5, ln, ls, x8⟩ : St) ⟨ek, en, et, ez⟩ = none) := by
    have hm : mv = none := by rw [HMv.out]; unfold moveR; simp [H2.out, H3.out, H4.out, H5.out, H6.out, H7.out, H8.out, H9.out, H10.out, H11.out, H12.out, H14.out]
    show _ = _
    rw [HA.out, hm]
    rfl
  go_upto_region 48 with fail
  go_region
  go_upto_region 55 with fail
  clear y0 y1 e0 e1 e2 e3 s0 s1 s2 s3 s4 s5 s6 s7 s8
  replace AP := AP.new (Kept.drew (fun _ => False) w3)
  generalize w3.drew = w4 at *
  obtain ⟨⟨s0, s1, s2, s3, s4, s5, s6, s7, s8⟩, _⟩ := nine AP.st
  obtain ⟨⟨z0, z1, z2, z3, z4, z5, z6, z7, z8⟩, q0, q1, q2, q3, q4, q5, q6, q7, q8⟩ := nine AP.re
  have E1 := put9 AP.re (.string x0) (.string x1) (.string x2) (.string x3) (.int .i64 1) (.string x5) (Value.slice va6 ln.length vc6) (Value.slice va7 ls.length vc7) (.int .i64 x8)
  have KK := kept9 (S := fun j => j = w.heap.size + 1 + 1 + 1) w4 rfl (.string x0) (.string x1) (.string x2) (.string x3) (.int .i64 1) (.string x5) (Value.slice va6 ln.length vc6) (Value.slice va7 ls.length vc7) (.int .i64 x8)
  obtain ⟨⟨k0, k1, k2, k3, k4, k5, k6, k7, k8⟩, _⟩ := nine E1
  have HKK := hid (AP.keep.trans KK (fun i hi => .inr (by subst hi; omega)))
  clear E1 KK
  go_wp2_with fail
  refine bodyPost_ret (v := .tuple #[.agg #[.string x0, .string x1, .string x2, .string x3, .int .i64 1, .string x5, (Value.slice va6 ln.length vc6), (Value.slice va7 ls.length vc7), .int .i64 x8], .int .i64 12]) (by simp [results, Tryd.results19, go_sem, k0, k1, k2, k3, k4, k5, k6, k7, k8]; try rfl) rfl ?_
  show ApPost _ _ _ _ _ _ _
  rw [HG.out]
  exact ⟨rfl, HKK.out⟩

end Go.Proofs.YtfjekjbkifmpfaaDoor.Rf
