/-
  The document's Apply: a workflow starts.
-/
import Derived.Test.YtfjekjbkifmpfaaDoorG25
import Derived.Deep.CutRange
import Derived.BigQuiet
namespace Go.Proofs.YtfjekjbkifmpfaaDoor.Rf
open Go.RowKit

set_option maxRecDepth 100000 in
set_option maxHeartbeats 16000000 in
theorem apply_start (w : World) (nm : ByteArray) (a : Option Addr) (c : Nat) (ns : List Nd) (hN : NodesAt w a ns) (hn : ns.length ≤ 1000000) (s : St) (v6 v7 : Value) (R : StRd w s v6 v7) (he0 : 0 ≤ s.events) (he1 : s.events ≤ 1000000000000) (ev : Ev) (h1 : ev.kind = 1) (hs : s.status = 0) :
    Calls Tryd.prog 19 #[.agg #[.string nm, .slice a ns.length c], .agg (stA s v6 v7), .agg #[.int .i64 ev.kind, .string ev.node, .string ev.text, .int .i64 ev.num]] w (ApPost w s v6 v7 (applyR nm ns s ev)) := by
  have _ := hn
  obtain ⟨ek, en, et, ez⟩ := ev
  obtain ⟨x0, x1, x2, x3, x4, x5, ln, ls, x8⟩ := s
  simp only [] at he0 he1 h1 hs ⊢
  obtain ⟨va6, vc6, rfl⟩ := R.nodes.shape
  obtain ⟨va7, vc7, rfl⟩ := R.sigs.shape
  simp only [] at R ⊢
  subst h1
  subst hs
  obtain ⟨d0, d1, d2, d3, dz, KW⟩ := ap_boxes w nm a ns.length c ⟨x0, x1, x2, x3, 0, x5, ln, ls, x8⟩ (Value.slice va6 ln.length vc6) (Value.slice va7 ls.length vc7) ⟨1, en, et, ez⟩
  have hC := refCopied_any _ _ (Value.slice va6 ln.length vc6) (Value.slice va7 ls.length vc7) (R.new KW)
  have HR := hid R
  have HF7 : Hid (ls.length ≤ 1000000) := R.few7
  have HN := hid hN
  unfold stA at hC ⊢
  unfold apD apS apE apZ stA zero9 at d0 d1 d2 d3 dz KW hC
  simp only [] at d0 d1 d2 d3 dz KW hC ⊢
  obtain ⟨⟨p0, p1, p2, p3, p4, p5, p6, p7, p8⟩, _⟩ := nine d1
  have HD0 := hid d0
  have HD1 := hid d1
  have HD2 := hid d2
  have HD3 := hid d3
  have HDZ := hid dz
  have HKW := hid KW
  clear d0 d1 d2 d3 dz KW R hN
  go_enter Tryd.func19, Tryd.ntmps19
  go_upto_region 3 with (first
    | (go_at_call 41; refine hC.mono ?_; rintro e w1 ⟨w6, w7, rfl, O1, K1⟩; obtain ⟨ua6, uc6, rfl⟩ := ownsRow_shape O1.nodes; obtain ⟨ua7, uc7, rfl⟩ := ownsRow_shape O1.sigs; simp only [] at O1; clear hC p0 p1 p2 p3 p4 p5 p6 p7 p8; unfold stA;
        have HO1 := hid O1; have HK1 := hid K1; clear O1 K1)
    | fail)
  have KX : Kept (fun g => g = w1.heap.size) w1 (w1.alloc (.cells #[.string x0, .string x1, .string x2, .string x3, .int .i64 0, .string x5, (Value.slice ua6 ln.length uc6), (Value.slice ua7 ls.length uc7), .int .i64 (x8 + 1)] 33)) := Kept.alloc _ _ _
  have hx4 : w.heap.size + 4 ≤ w1.heap.size := by rw [← HDZ.out]; exact HK1.out.size
  have hbx : (w1.alloc (.cells #[.string x0, .string x1, .string x2, .string x3, .int .i64 0, .string x5, (Value.slice ua6 ln.length uc6), (Value.slice ua7 ls.length uc7), .int .i64 (x8 + 1)] 33)).heap[w1.heap.size]? = some (.cells (stA (⟨x0, x1, x2, x3, 0, x5, ln, ls, x8 + 1⟩ : St) (Value.slice ua6 ln.length uc6) (Value.slice ua7 ls.length uc7)) 33 (0, 0)) := heap_alloc_new w1 _
  have hzx : w1.heap.size < (w1.alloc (.cells #[.string x0, .string x1, .string x2, .string x3, .int .i64 0, .string x5, (Value.slice ua6 ln.length uc6), (Value.slice ua7 ls.length uc7), .int .i64 (x8 + 1)] 33)).heap.size := (Array.getElem?_eq_some_iff.1 hbx).1
  have AP : ApIn w (w1.alloc (.cells #[.string x0, .string x1, .string x2, .string x3, .int .i64 0, .string x5, (Value.slice ua6 ln.length uc6), (Value.slice ua7 ls.length uc7), .int .i64 (x8 + 1)] 33)) nm a ns.length c ⟨x0, x1, x2, x3, 0, x5, ln, ls, x8⟩ (Value.slice va6 ln.length vc6) (Value.slice va7 ls.length vc7) ⟨1, en, et, ez⟩ w1.heap.size (⟨x0, x1, x2, x3, 0, x5, ln, ls, x8 + 1⟩ : St) (Value.slice ua6 ln.length uc6) (Value.slice ua7 ls.length uc7) := by
    have key : ∀ {k : Nat} {o : Obj}, k < w.heap.size + 4 → ((((w.alloc (.cells #[.string nm, .slice a ns.length c] 24)).alloc (.cells #[.string x0, .string x1, .string x2, .string x3, .int .i64 0, .string x5, (Value.slice va6 ln.length vc6), (Value.slice va7 ls.length vc7), .int .i64 x8] 33)).alloc (.cells #[.int .i64 1, .string en, .string et, .int .i64 ez] 51)).alloc (.cells #[.string ⟨#[]⟩, .string ⟨#[]⟩, .string ⟨#[]⟩, .string ⟨#[]⟩, .int .i64 0, .string ⟨#[]⟩, .slice none 0 0, .slice none 0 0, .int .i64 0] 33)).heap[k]? = some o → (w1.alloc (.cells #[.string x0, .string x1, .string x2, .string x3, .int .i64 0, .string x5, (Value.slice ua6 ln.length uc6), (Value.slice ua7 ls.length uc7), .int .i64 (x8 + 1)] 33)).heap[k]? = some o := fun {k o} hk h => (KX.block k (Nat.lt_of_lt_of_le (by rw [HDZ.out]; exact hk) HK1.out.size) (by omega)).trans ((HK1.out.block k (by rw [HDZ.out]; exact hk) (fun h => h)).trans h)
    have o6 := HO1.out.nodes
    have o7 := HO1.out.sigs
    have b6 : ∀ g, (Value.slice ua6 ln.length uc6).ownBlock = some g → w.heap.size + 4 ≤ g ∧ g < w1.heap.size := fun g hg => ⟨by rw [← HDZ.out]; exact (o6.lt g hg).1, (o6.lt g hg).2⟩
    have b7 : ∀ g, (Value.slice ua7 ls.length uc7).ownBlock = some g → w.heap.size + 4 ≤ g ∧ g < w1.heap.size := fun g hg => ⟨by rw [← HDZ.out]; exact (o7.lt g hg).1, (o7.lt g hg).2⟩
    exact ⟨key (by omega) HD0.out, key (by omega) HD1.out, key (by omega) HD2.out, key (by omega) HD3.out,
      ⟨hbx, rfl, ownsRow_low (ownsRow_keep o6 (fun g hg => KX.block g (b6 g hg).2 (by have := (b6 g hg).2; omega))) (Nat.zero_le _), ownsRow_low (ownsRow_keep o7 (fun g hg => KX.block g (b7 g hg).2 (by have := (b7 g hg).2; omega))) (Nat.zero_le _), ⟨hx4, hzx⟩, fun g hg => ⟨⟨(b6 g hg).1, by have := (b6 g hg).2; omega⟩, by have := (b6 g hg).2; omega⟩, fun g hg => ⟨⟨(b7 g hg).1, by have := (b7 g hg).2; omega⟩, by have := (b7 g hg).2; omega⟩, fun g h => h.2⟩,
      (HKW.out.and HK1.out).trans KX (fun i hi => .inr (by subst hi; omega))⟩
  clear HO1 HK1 KX hbx hzx HD0 HD1 HD2 HD3
  generalize w1.alloc (.cells #[.string x0, .string x1, .string x2, .string x3, .int .i64 0, .string x5, (Value.slice ua6 ln.length uc6), (Value.slice ua7 ls.length uc7), .int .i64 (x8 + 1)] 33) = V at *
  clear HDZ HKW
  generalize w1.heap.size = bx at *
  have HG : Hid (applyR nm ns (⟨x0, x1, x2, x3, 0, x5, ln, ls, x8⟩ : St) ⟨1, en, et, ez⟩ = some ⟨nm, x1, et, en, 1, x5, List.replicate ns.length ⟨0, 0, ⟨#[]⟩⟩, ls, x8 + 1⟩) := by
    show _ = _
    unfold applyR
    rw [if_pos rfl, if_neg (by simp)]
  obtain ⟨y0, y1⟩ := twoB AP.d
  obtain ⟨⟨e0, e1, e2, e3⟩, _⟩ := four AP.ev
  obtain ⟨⟨s0, s1, s2, s3, s4, s5, s6, s7, s8⟩, _⟩ := nine AP.st
  have hxb := AP.xs.blk
  change V.heap[bx]? = some (.cells #[.string x0, .string x1, .string x2, .string x3, .int .i64 0, .string x5, (Value.slice ua6 ln.length uc6), (Value.slice ua7 ls.length uc7), .int .i64 (x8 + 1)] 33 (0, 0)) at hxb
  obtain ⟨⟨l0, l1, l2, l3, l4, l5, l6, l7, l8⟩, m0, m1, m2, m3, m4, m5, m6, m7, m8⟩ := nine hxb
  go_upto_region 6 with fail
  go_region
  have AP2 := AP.put (V' := ((((V.setCell ⟨bx, 4, none⟩ (.int .i64 1)).setCell ⟨bx, 0, none⟩ (.string nm)).setCell ⟨bx, 2, none⟩ (.string et)).setCell ⟨bx, 3, none⟩ (.string en)).drew) (t' := ⟨nm, x1, et, en, 1, x5, ln, ls, x8 + 1⟩) (((((Kept.setCell (S := fun g => g = bx) _ _ _ rfl).and (Kept.setCell _ _ _ rfl)).and (Kept.setCell _ _ _ rfl)).and (Kept.setCell _ _ _ rfl)).and (Kept.drew _ _)) (by
    exact setB (setB (setB (setB hxb _) _) _) _) rfl rfl
  clear y0 y1 e0 e1 e2 e3 s0 s1 s2 s3 s4 s5 s6 s7 s8 l0 l1 l2 l3 l4 l5 l6 l7 l8 m0 m1 m2 m3 m4 m5 m6 m7 m8 AP hxb
  generalize ((((V.setCell ⟨bx, 4, none⟩ (.int .i64 1)).setCell ⟨bx, 0, none⟩ (.string nm)).setCell ⟨bx, 2, none⟩ (.string et)).setCell ⟨bx, 3, none⟩ (.string en)).drew = V2 at *
  obtain ⟨y0, y1⟩ := twoB AP2.d
  have hxb2 := AP2.xs.blk
  change V2.heap[bx]? = some (.cells #[.string nm, .string x1, .string et, .string en, .int .i64 1, .string x5, (Value.slice ua6 ln.length uc6), (Value.slice ua7 ls.length uc7), .int .i64 (x8 + 1)] 33 (0, 0)) at hxb2
  obtain ⟨⟨l0, l1, l2, l3, l4, l5, l6, l7, l8⟩, m0, m1, m2, m3, m4, m5, m6, m7, m8⟩ := nine hxb2
  obtain ⟨V3, hmk, h3, K3⟩ := make_nodes V2 ns.length (by omega)
  have AP3 := AP2.new K3
  have hxb3 := AP3.xs.blk
  change V3.heap[bx]? = some (.cells #[.string nm, .string x1, .string et, .string en, .int .i64 1, .string x5, (Value.slice ua6 ln.length uc6), (Value.slice ua7 ls.length uc7), .int .i64 (x8 + 1)] 33 (0, 0)) at hxb3
  obtain ⟨⟨_, _, _, _, _, _, n6, _, _⟩, _, _, _, _, _, _, r6, _, _⟩ := nine hxb3
  have hz2 : w.heap.size + 4 ≤ V2.heap.size := by have := AP2.xs.inS; omega
  have hbz : bx < V2.heap.size := AP2.xs.lt
  go_upto_region 8 with fail
  have KS : Kept (fun g => g = bx ∨ ((Value.slice ua6 ln.length uc6) : Value).ownBlock = some g) V3 (V3.setCell ⟨bx, 6, none⟩ (.slice (some ⟨V2.heap.size, 0, none⟩) ns.length ns.length)) := Kept.setCell _ _ _ (.inl rfl)
  have h4 := ownsRow_keep h3 (fun g hg => KS.block g (ownsRow_blk h3 hg) (by have := (h3.lt g hg).1; rintro (h | h); omega; have := (AP2.xs.in6 g h).1.2; omega))
  have AP4 := AP3.row6 KS (l := List.replicate ns.length ⟨0, 0, ⟨#[]⟩⟩) (p6 := .slice (some ⟨V2.heap.size, 0, none⟩) ns.length ns.length) (setB hxb3 _) (by rw [List.length_replicate]; exact ownsRow_low h4 (Nat.zero_le _)) (fun g hg => by have := (h3.lt g hg).1; omega)
  clear y0 y1 l0 l1 l2 l3 l4 l5 l6 l7 l8 m0 m1 m2 m3 m4 m5 m6 m7 m8 AP2 AP3 hxb2 hxb3 hmk h3 h4 K3 KS n6 r6 hbz
  generalize V3.setCell ⟨bx, 6, none⟩ (.slice (some ⟨V2.heap.size, 0, none⟩) ns.length ns.length) = V4 at *
  have E1 := put9 AP4.re (.string (nm)) (.string (x1)) (.string (et)) (.string (en)) (.int .i64 (1)) (.string (x5)) (Value.slice (some ⟨V2.heap.size, 0, none⟩) ns.length ns.length) (Value.slice ua7 ls.length uc7) (.int .i64 (x8 + 1))
  have KK := kept9 (S := fun j => j = w.heap.size + 1 + 1 + 1) V4 rfl (.string (nm)) (.string (x1)) (.string (et)) (.string (en)) (.int .i64 (1)) (.string (x5)) (Value.slice (some ⟨V2.heap.size, 0, none⟩) ns.length ns.length) (Value.slice ua7 ls.length uc7) (.int .i64 (x8 + 1))
  obtain ⟨⟨k0, k1, k2, k3, k4, k5, k6, k7, k8⟩, _⟩ := nine E1
  have HKK := hid (AP4.own KK)
  obtain ⟨⟨z0, z1, z2, z3, z4, z5, z6, z7, z8⟩, q0, q1, q2, q3, q4, q5, q6, q7, q8⟩ := nine AP4.re
  have hxb := AP4.xs.blk
  change V4.heap[bx]? = some (.cells #[.string (nm), .string (x1), .string (et), .string (en), .int .i64 (1), .string (x5), Value.slice (some ⟨V2.heap.size, 0, none⟩) ns.length ns.length, (Value.slice ua7 ls.length uc7), .int .i64 (x8 + 1)] 33 (0, 0)) at hxb
  obtain ⟨⟨l0, l1, l2, l3, l4, l5, l6, l7, l8⟩, _⟩ := nine hxb
  clear E1 KK hxb
  go_wp2_with fail
  refine bodyPost_ret (v := .tuple #[.agg #[.string (nm), .string (x1), .string (et), .string (en), .int .i64 (1), .string (x5), Value.slice (some ⟨V2.heap.size, 0, none⟩) ns.length ns.length, (Value.slice ua7 ls.length uc7), .int .i64 (x8 + 1)], .int .i64 0]) (by simp [results, Tryd.results19, go_sem, k0, k1, k2, k3, k4, k5, k6, k7, k8]; try rfl) rfl ?_
  show ApPost _ _ _ _ _ _ _
  rw [HG.out]
  exact ⟨_, _, rfl, HKK.out.1, HKK.out.2⟩

end Go.Proofs.YtfjekjbkifmpfaaDoor.Rf
