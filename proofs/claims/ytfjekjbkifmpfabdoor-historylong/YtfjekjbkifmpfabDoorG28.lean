/-
  The document's Apply: a workflow starts.
-/
import Derived.Test.YtfjekjbkifmpfabDoorG23
import Derived.Test.YtfjekjbkifmpfabDoorG27
import Derived.Deep.CutRange
import Derived.BigQuiet
namespace Go.Proofs.YtfjekjbkifmpfabDoor.Rf
open Go.RowKit

set_option maxRecDepth 100000 in
set_option maxHeartbeats 16000000 in
theorem apply_start (w : World) (nm : ByteArray) (a : Option Addr) (c : Nat) (ns : List Nd) (hN : NodesAt w a ns) (hn : ns.length ≤ 1000000) (s : St) (v6 v7 : Value) (R : StRd w s v6 v7) (he0 : 0 ≤ s.events) (he1 : s.events ≤ 1000000000000) (ev : Ev) (h1 : ev.kind = 1) (hs : s.status = 0) :
    Calls Tryd.prog 58 #[.agg #[.string nm, .slice a ns.length c], .agg (stA s v6 v7), .agg #[.int .i64 ev.kind, .string ev.node, .string ev.text, .int .i64 ev.num]] w (ApPost w s v6 v7 (applyR nm ns s ev)) := by
  have _ := hn
  obtain ⟨ek, en, et, ez⟩ := ev
  obtain ⟨x0, x1, x2, x3, x4, x5, ln, ls, x8⟩ := s
  simp only [] at he0 he1 h1 hs ⊢
  obtain ⟨va6, vc6, rfl⟩ := R.nodes.shape
  obtain ⟨va7, vc7, rfl⟩ := R.sigs.shape
  simp only [] at R ⊢
  subst h1
  subst hs
  obtain ⟨d0, d1, d2, d3, dz, KW⟩ := ap_boxes w nm a ns.length c ⟨x0, x1, x2, x3, 0, x5, ln, ls, x8⟩ (Value.slice va6 ln.length vc6) (Value.slice va7 ls.length vc7) ⟨1, en, et, ez⟩
  have hC := refCopied_any _ _ (Value.slice va6 ln.length vc6) (Value.slice va7 ls.length vc7) (R.new KW)
  have HR := hid R
  have HF7 : Hid (ls.length ≤ 1000000) := R.few7
  have HN := hid hN
  unfold stA at hC ⊢
  unfold apD apS apE apZ stA zero9 at d0 d1 d2 d3 dz KW hC
  simp only [] at d0 d1 d2 d3 dz KW hC ⊢
  obtain ⟨⟨p0, p1, p2, p3, p4, p5, p6, p7, p8⟩, _⟩ := nine d1
  have HD0 := hid d0
  have HD1 := hid d1
  have HD2 := hid d2
  have HD3 := hid d3
  have HDZ := hid dz
  have HKW := hid KW
  clear d0 d1 d2 d3 dz KW R hN
  go_enter Tryd.func58, Tryd.ntmps58
  go_upto_region 3 with (first
    | (go_at_call 26; refine hC.mono ?_; rintro e w1 ⟨w6, w7, rfl, O1, K1⟩; obtain ⟨ua6, uc6, rfl⟩ := ownsRow_shape O1.nodes; obtain ⟨ua7, uc7, rfl⟩ := ownsRow_shape O1.sigs; simp only [] at O1; clear hC p0 p1 p2 p3 p4 p5 p6 p7 p8; unfold stA;
        have HO1 := hid O1; have HK1 := hid K1; clear O1 K1)
    | fail)
  have KX : Kept (fun g => g = w1.heap.size) w1 (w1.alloc (.cells #[.string x0, .string x1, .string x2, .string x3, .int .i64 0, .string x5, (Value.slice ua6 ln.length uc6), (Value.slice ua7 ls.length uc7), .int .i64 (x8 + 1)] 33)) := Kept.alloc _ _ _
  have hx4 : w.heap.size + 4 ≤ w1.heap.size := by rw [← HDZ.out]; exact HK1.out.size
  have hbx : (w1.alloc (.cells #[.string x0, .string x1, .string x2, .string x3, .int .i64 0, .string x5, (Value.slice ua6 ln.length uc6), (Value.slice ua7 ls.length uc7), .int .i64 (x8 + 1)] 33)).heap[w1.heap.size]? = some (.cells (stA (⟨x0, x1, x2, x3, 0, x5, ln, ls, x8 + 1⟩ : St) (Value.slice ua6 ln.length uc6) (Value.slice ua7 ls.length uc7)) 33 (0, 0)) := heap_alloc_new w1 _
  have hzx : w1.heap.size < (w1.alloc (.cells #[.string x0, .string x1, .string x2, .string x3, .int .i64 0, .string x5, (Value.slice ua6 ln.length uc6), (Value.slice ua7 ls.length uc7), .int .i64 (x8 + 1)] 33)).heap.size := (Array.getElem?_eq_some_iff.1 hbx).1
  have AP : ApIn w (w1.alloc (.cells #[.string x0, .string x1, .string x2, .string x3, .int .i64 0, .string x5, (Value.slice ua6 ln.length uc6), (Value.slice ua7 ls.length uc7), .int .i64 (x8 + 1)] 33)) nm a ns.length c ⟨x0, x1, x2, x3, 0, x5, ln, ls, x8⟩ (Value.slice va6 ln.length vc6) (Value.slice va7 ls.length vc7) ⟨1, en, et, ez⟩ w1.heap.size (⟨x0, x1, x2, x3, 0, x5, ln, ls, x8 + 1⟩ : St) (Value.slice ua6 ln.length uc6) (Value.slice ua7 ls.length uc7) := by
    have key : ∀ {k : Nat} {o : Obj}, k < w.heap.size + 4 → ((((w.alloc (.cells #[.string nm, .slice a ns.length c] 24)).alloc (.cells #[.string x0, .string x1, .string x2, .string x3, .int .i64 0, .string x5, (Value.slice va6 ln.length vc6), (Value.slice va7 ls.length vc7), .int .i64 x8] 33)).alloc (.cells #[.int .i64 1, .string en, .string et, .int .i64 ez] 78)).alloc (.cells #[.string ⟨#[]⟩, .string ⟨#[]⟩, .string ⟨#[]⟩, .string ⟨#[]⟩, .int .i64 0, .string ⟨#[]⟩, .slice none 0 0, .slice none 0 0, .int .i64 0] 33)).heap[k]? = some o → (w1.alloc (.cells #[.string x0, .string x1, .string x2, .string x3, .int .i64 0, .string x5, (Value.slice ua6 ln.length uc6), (Value.slice ua7 ls.length uc7), .int .i64 (x8 + 1)] 33)).heap[k]? = some o := fun {k o} hk h => (KX.block k (Nat.lt_of_lt_of_le (by rw [HDZ.out]; exact hk) HK1.out.size) (by omega)).trans ((HK1.out.block k (by rw [HDZ.out]; exact hk) (fun h => h)).trans h)
    have o6 := HO1.out.nodes
    have o7 := HO1.out.sigs
    have b6 : ∀ g, (Value.slice ua6 ln.length uc6).ownBlock = some g → w.heap.size + 4 ≤ g ∧ g < w1.heap.size := fun g hg => ⟨by rw [← HDZ.out]; exact (o6.lt g hg).1, (o6.lt g hg).2⟩
    have b7 : ∀ g, (Value.slice ua7 ls.length uc7).ownBlock = some g → w.heap.size + 4 ≤ g ∧ g < w1.heap.size := fun g hg => ⟨by rw [← HDZ.out]; exact (o7.lt g hg).1, (o7.lt g hg).2⟩
    exact ⟨key (by omega) HD0.out, key (by omega) HD1.out, key (by omega) HD2.out, key (by omega) HD3.out,
      ⟨hbx, rfl, ownsRow_low (ownsRow_keep o6 (fun g hg => KX.block g (b6 g hg).2 (by have := (b6 g hg).2; omega))) (Nat.zero_le _), ownsRow_low (ownsRow_keep o7 (fun g hg => KX.block g (b7 g hg).2 (by have := (b7 g hg).2; omega))) (Nat.zero_le _), ⟨hx4, hzx⟩, fun g hg => ⟨⟨(b6 g hg).1, by have := (b6 g hg).2; omega⟩, by have := (b6 g hg).2; omega⟩, fun g hg => ⟨⟨(b7 g hg).1, by have := (b7 g hg).2; omega⟩, by have := (b7 g hg).2; omega⟩, fun g h => h.2⟩,
      (HKW.out.and HK1.out).trans KX (fun i hi => .inr (by subst hi; omega))⟩
  clear HO1 HK1 KX hbx hzx HD0 HD1 HD2 HD3
  generalize w1.alloc (.cells #[.string x0, .string x1, .string x2, .string x3, .int .i64 0, .string x5, (Value.slice ua6 ln.length uc6), (Value.slice ua7 ls.length uc7), .int .i64 (x8 + 1)] 33) = V at *
  clear HDZ HKW
  generalize w1.heap.size = bx at *
  have HG : Hid (applyR nm ns (⟨x0, x1, x2, x3, 0, x5, ln, ls, x8⟩ : St) ⟨1, en, et, ez⟩ = some ⟨nm, x1, et, en, 1, x5, List.replicate ns.length ⟨0, 0, ⟨#[]⟩⟩, ls, x8 + 1⟩) := by
    show _ = _
    unfold applyR
    rw [if_pos rfl, if_neg (by simp)]
  obtain ⟨y0, y1⟩ := twoB AP.d
  obtain ⟨⟨e0, e1, e2, e3⟩, _⟩ := four AP.ev
  obtain ⟨⟨s0, s1, s2, s3, s4, s5, s6, s7, s8⟩, _⟩ := nine AP.st
  have hxb := AP.xs.blk
  change V.heap[bx]? = some (.cells #[.string x0, .string x1, .string x2, .string x3, .int .i64 0, .string x5, (Value.slice ua6 ln.length uc6), (Value.slice ua7 ls.length uc7), .int .i64 (x8 + 1)] 33 (0, 0)) at hxb
  obtain ⟨⟨l0, l1, l2, l3, l4, l5, l6, l7, l8⟩, m0, m1, m2, m3, m4, m5, m6, m7, m8⟩ := nine hxb
  go_upto_region 6 with fail
  go_region
  have AP2 := AP.put (V' := ((((V.setCell ⟨bx, 4, none⟩ (.int .i64 1)).setCell ⟨bx, 0, none⟩ (.string nm)).setCell ⟨bx, 2, none⟩ (.string et)).setCell ⟨bx, 3, none⟩ (.string en)).drew) (t' := ⟨nm, x1, et, en, 1, x5, ln, ls, x8 + 1⟩) (((((Kept.setCell (S := fun g => g = bx) _ _ _ rfl).and (Kept.setCell _ _ _ rfl)).and (Kept.setCell _ _ _ rfl)).and (Kept.setCell _ _ _ rfl)).and (Kept.drew _ _)) (by
    exact setB (setB (setB (setB hxb _) _) _) _) rfl rfl
  clear y0 y1 e0 e1 e2 e3 s0 s1 s2 s3 s4 s5 s6 s7 s8 l0 l1 l2 l3 l4 l5 l6 l7 l8 m0 m1 m2 m3 m4 m5 m6 m7 m8 AP hxb
  generalize ((((V.setCell ⟨bx, 4, none⟩ (.int .i64 1)).setCell ⟨bx, 0, none⟩ (.string nm)).setCell ⟨bx, 2, none⟩ (.string et)).setCell ⟨bx, 3, none⟩ (.string en)).drew = V2 at *
  obtain ⟨y0, y1⟩ := twoB AP2.d
  have hxb2 := AP2.xs.blk
  change V2.heap[bx]? = some (.cells #[.string nm, .string x1, .string et, .string en, .int .i64 1, .string x5, (Value.slice ua6 ln.length uc6), (Value.slice ua7 ls.length uc7), .int .i64 (x8 + 1)] 33 (0, 0)) at hxb2
  obtain ⟨⟨l0, l1, l2, l3, l4, l5, l6, l7, l8⟩, m0, m1, m2, m3, m4, m5, m6, m7, m8⟩ := nine hxb2
  obtain ⟨V3, hmk, h3, K3⟩ := make_nodes V2 ns.length (by omega)
  have AP3 := AP2.new K3
  have hxb3 := AP3.xs.blk
  change V3.heap[bx]? = some (.cells #[.string nm, .string x1, .string et, .string en, .int .i64 1, .string x5, (Value.slice ua6 ln.length uc6), (Value.slice ua7 ls.length uc7), .int .i64 (x8 + 1)] 33 (0, 0)) at hxb3
  obtain ⟨⟨_, _, _, _, _, _, n6, _, _⟩, _, _, _, _, _, _, r6, _, _⟩ := nine hxb3
  have hz2 : w.heap.size + 4 ≤ V2.heap.size := by have := AP2.xs.inS; omega
  have hbz : bx < V2.heap.size := AP2.xs.lt
  go_upto_region 8 with fail
  have KS : Kept (fun g => g = bx ∨ ((Value.slice ua6 ln.length uc6) : Value).ownBlock = some g) V3 (V3.setCell ⟨bx, 6, none⟩ (.slice (some ⟨V2.heap.size, 0, none⟩) ns.length ns.length)) := Kept.setCell _ _ _ (.inl rfl)
  have h4 := ownsRow_keep h3 (fun g hg => KS.block g (ownsRow_blk h3 hg) (by have := (h3.lt g hg).1; rintro (h | h); omega; have := (AP2.xs.in6 g h).1.2; omega))
  have AP4 := AP3.row6 KS (l := List.replicate ns.length ⟨0, 0, ⟨#[]⟩⟩) (p6 := .slice (some ⟨V2.heap.size, 0, none⟩) ns.length ns.length) (setB hxb3 _) (by rw [List.length_replicate]; exact ownsRow_low h4 (Nat.zero_le _)) (fun g hg => by have := (h3.lt g hg).1; omega)
  clear y0 y1 l0 l1 l2 l3 l4 l5 l6 l7 l8 m0 m1 m2 m3 m4 m5 m6 m7 m8 AP2 AP3 hxb2 hxb3 hmk h3 h4 K3 KS n6 r6 hbz
  generalize V3.setCell ⟨bx, 6, none⟩ (.slice (some ⟨V2.heap.size, 0, none⟩) ns.length ns.length) = V4 at *
  have E1 := put9 AP4.re (.string (nm)) (.string (x1)) (.string (et)) (.string (en)) (.int .i64 (1)) (.string (x5)) (Value.slice (some ⟨V2.heap.size, 0, none⟩) ns.length ns.length) (Value.slice ua7 ls.length uc7) (.int .i64 (x8 + 1))
  have KK := kept9 (S := fun j => j = w.heap.size + 1 + 1 + 1) V4 rfl (.string (nm)) (.string (x1)) (.string (et)) (.string (en)) (.int .i64 (1)) (.string (x5)) (Value.slice (some ⟨V2.heap.size, 0, none⟩) ns.length ns.length) (Value.slice ua7 ls.length uc7) (.int .i64 (x8 + 1))
  obtain ⟨⟨k0, k1, k2, k3, k4, k5, k6, k7, k8⟩, _⟩ := nine E1
  have HKK := hid (AP4.own KK)
  obtain ⟨⟨z0, z1, z2, z3, z4, z5, z6, z7, z8⟩, q0, q1, q2, q3, q4, q5, q6, q7, q8⟩ := nine AP4.re
  have hxb := AP4.xs.blk
  change V4.heap[bx]? = some (.cells #[.string (nm), .string (x1), .string (et), .string (en), .int .i64 (1), .string (x5), Value.slice (some ⟨V2.heap.size, 0, none⟩) ns.length ns.length, (Value.slice ua7 ls.length uc7), .int .i64 (x8 + 1)] 33 (0, 0)) at hxb
  obtain ⟨⟨l0, l1, l2, l3, l4, l5, l6, l7, l8⟩, _⟩ := nine hxb
  clear E1 KK hxb
  go_wp2_with fail
  refine bodyPost_ret (v := .tuple #[.agg #[.string (nm), .string (x1), .string (et), .string (en), .int .i64 (1), .string (x5), Value.slice (some ⟨V2.heap.size, 0, none⟩) ns.length ns.length, (Value.slice ua7 ls.length uc7), .int .i64 (x8 + 1)], .int .i64 0]) (by simp [results, Tryd.results58, go_sem, k0, k1, k2, k3, k4, k5, k6, k7, k8]; try rfl) rfl ?_
  show ApPost _ _ _ _ _ _ _
  rw [HG.out]
  exact ⟨_, _, rfl, HKK.out.1, HKK.out.2⟩

end Go.Proofs.YtfjekjbkifmpfabDoor.Rf

/-
  do: an input, by its kind.
-/
namespace Go.Proofs.YtfjekjbkifmpfabDoor
open Go.RowKit

section
variable {w0 w : World} {H : Nat → Prop} {rb : Nat} {nm : ByteArray} {a : Option Addr} {c : Nat} {ns : List Nd} {r : Rn} {m : Nat}

set_option maxRecDepth 100000 in
set_option maxHeartbeats 8000000 in
theorem do_any (E : Env w0 w H a ns) (R : RAt w H rb nm a ns.length c r) (F : Fit r m) (hn : ns.length ≤ 64) (h6 : r.st.nodes.length ≤ 64) (hm : m ≤ 100000) (q : Inp) (hq : q.name.size ≤ 100000000) (ht : q.text.size ≤ maxLen) :
    Calls Tryd.prog 25 #[.pointer (some ⟨rb, 0, none⟩), inpV q] w (DoPost w H rb nm a ns.length c (doP nm ns r q)) := by
  have KA := Kept.alloc (fun _ => False) w (.cells #[.int .i64 q.kind, .string q.node, .string q.name, .string q.text, .int .i64 q.tr, .int .i64 q.status, .int .i64 q.now, .string q.par, .string q.pnode] 38)
  have R1 := R.new KA
  have E1 := E.new KA
  obtain ⟨v6, v7, v12, v13, hb, _⟩ := R1.opened
  obtain ⟨_, _, _, _, _, _, x6, _⟩ := runCells hb
  have HKA := hid KA
  have HR := hid R
  clear R E KA hb
  by_cases k1 : q.kind = 1
  · have HW := hid (show doP nm ns r q = startP nm ns r q by unfold doP; rw [if_pos k1])
    have e1 : (q.kind == 1) = true := by simp [k1]
    have hD := start_any E1 R1 F hn h6 hm q hq
    unfold inpV at hD ⊢
    clear k1 E1 R1 x6
    go_enter Tryd.func25, Tryd.ntmps25
    go_wp2_with (first
      | (go_at_call 33; refine hD.mono ?_; rintro e w7 ⟨rfl, X7⟩; clear hD)
      | fail)
    go_ret
    refine ⟨by rw [HW.out]; rfl, ?_⟩
    rw [HW.out]
    exact X7.first HKA.out
  have e1 : (q.kind == 1) = false := by simp [k1]
  by_cases s0 : r.st.status = 0
  · have HW := hid (show doP nm ns r q = (r, 6) by unfold doP; rw [if_neg k1, if_pos s0])
    have f0 : (r.st.status == 0) = true := by simp [s0]
    unfold inpV
    clear k1 s0 E1 R1
    go_enter Tryd.func25, Tryd.ntmps25
    go_wp2_with fail
    go_ret
    refine ⟨by rw [HW.out]; rfl, ?_⟩
    rw [HW.out]
    exact RGoes.keep HR.out HKA.out
  have f0 : (r.st.status == 0) = false := by simp [s0]
  by_cases s1 : r.st.status = 1
  rotate_left
  · have HW := hid (show doP nm ns r q = (r, 11) by unfold doP; rw [if_neg k1, if_neg s0, if_pos s1])
    have f1 : (r.st.status != 1) = true := by simp [s1]
    unfold inpV
    clear k1 s0 s1 E1 R1
    go_enter Tryd.func25, Tryd.ntmps25
    go_wp2_with fail
    go_ret
    refine ⟨by rw [HW.out]; rfl, ?_⟩
    rw [HW.out]
    exact RGoes.keep HR.out HKA.out
  have f1 : (r.st.status != 1) = false := by simp [s1]
  by_cases k2 : q.kind = 2
  · have HW := hid (show doP nm ns r q = signalP nm ns r q by unfold doP; rw [if_neg k1, if_neg s0, if_neg (fun h => h s1), if_pos k2])
    have e2 : (q.kind == 2) = true := by simp [k2]
    have hD := signal_any E1 R1 F hn h6 hm q
    unfold inpV at hD ⊢
    clear k1 s0 s1 k2 E1 R1
    go_enter Tryd.func25, Tryd.ntmps25
    go_wp2_with (first
      | (go_at_call 34; refine hD.mono ?_; rintro e w7 ⟨rfl, X7⟩; clear hD)
      | fail)
    go_ret
    refine ⟨by rw [HW.out]; rfl, ?_⟩
    rw [HW.out]
    exact X7.first HKA.out
  have e2 : (q.kind == 2) = false := by simp [k2]
  by_cases k3 : q.kind = 3
  · have HW := hid (show doP nm ns r q = takeP nm ns r q by unfold doP; rw [if_neg k1, if_neg s0, if_neg (fun h => h s1), if_neg k2, if_pos k3])
    have e3 : (q.kind == 3) = true := by simp [k3]
    have hD := take_any E1 R1 F hm q
    unfold inpV at hD ⊢
    clear k1 s0 s1 k2 k3 E1 R1
    go_enter Tryd.func25, Tryd.ntmps25
    go_wp2_with (first
      | (go_at_call 35; refine hD.mono ?_; rintro e w7 ⟨rfl, X7⟩; clear hD)
      | fail)
    go_ret
    refine ⟨by rw [HW.out]; rfl, ?_⟩
    rw [HW.out]
    exact X7.first HKA.out
  have e3 : (q.kind == 3) = false := by simp [k3]
  by_cases k4 : q.kind = 4
  · have HW := hid (show doP nm ns r q = completeP nm ns r q by unfold doP; rw [if_neg k1, if_neg s0, if_neg (fun h => h s1), if_neg k2, if_neg k3, if_pos k4])
    have e4 : (q.kind == 4) = true := by simp [k4]
    have hD := complete_any E1 R1 F hn h6 hm q
    unfold inpV at hD ⊢
    clear k1 s0 s1 k2 k3 k4 E1 R1
    go_enter Tryd.func25, Tryd.ntmps25
    go_wp2_with (first
      | (go_at_call 36; refine hD.mono ?_; rintro e w7 ⟨rfl, X7⟩; clear hD)
      | fail)
    go_ret
    refine ⟨by rw [HW.out]; rfl, ?_⟩
    rw [HW.out]
    exact X7.first HKA.out
  have e4 : (q.kind == 4) = false := by simp [k4]
  by_cases k5 : q.kind = 5
  · have HW := hid (show doP nm ns r q = failP nm ns r q by unfold doP; rw [if_neg k1, if_neg s0, if_neg (fun h => h s1), if_neg k2, if_neg k3, if_neg k4, if_pos k5])
    have e5 : (q.kind == 5) = true := by simp [k5]
    have hD := fail_any E1 R1 F hn hm q
    unfold inpV at hD ⊢
    clear k1 s0 s1 k2 k3 k4 k5 E1 R1
    go_enter Tryd.func25, Tryd.ntmps25
    go_wp2_with (first
      | (go_at_call 37; refine hD.mono ?_; rintro e w7 ⟨rfl, X7⟩; clear hD)
      | fail)
    go_ret
    refine ⟨by rw [HW.out]; rfl, ?_⟩
    rw [HW.out]
    exact X7.first HKA.out
  have e5 : (q.kind == 5) = false := by simp [k5]
  by_cases k6 : q.kind = 6
  · have HW := hid (show doP nm ns r q = fireP nm ns r q by unfold doP; rw [if_neg k1, if_neg s0, if_neg (fun h => h s1), if_neg k2, if_neg k3, if_neg k4, if_neg k5, if_pos k6])
    have e6 : (q.kind == 6) = true := by simp [k6]
    have hD := fire_any E1 R1 F hn h6 hm q
    unfold inpV at hD ⊢
    clear k1 s0 s1 k2 k3 k4 k5 k6 E1 R1
    go_enter Tryd.func25, Tryd.ntmps25
    go_wp2_with (first
      | (go_at_call 38; refine hD.mono ?_; rintro e w7 ⟨rfl, X7⟩; clear hD)
      | fail)
    go_ret
    refine ⟨by rw [HW.out]; rfl, ?_⟩
    rw [HW.out]
    exact X7.first HKA.out
  have e6 : (q.kind == 6) = false := by simp [k6]
  by_cases k7 : q.kind = 7
  · have HW := hid (show doP nm ns r q = kidP nm ns r q by unfold doP; rw [if_neg k1, if_neg s0, if_neg (fun h => h s1), if_neg k2, if_neg k3, if_neg k4, if_neg k5, if_neg k6, if_pos k7])
    have e7 : (q.kind == 7) = true := by simp [k7]
    have hD := child_any E1 R1 F hn h6 hm q
    unfold inpV at hD ⊢
    clear k1 s0 s1 k2 k3 k4 k5 k6 k7 E1 R1
    go_enter Tryd.func25, Tryd.ntmps25
    go_wp2_with (first
      | (go_at_call 39; refine hD.mono ?_; rintro e w7 ⟨rfl, X7⟩; clear hD)
      | fail)
    go_ret
    refine ⟨by rw [HW.out]; rfl, ?_⟩
    rw [HW.out]
    exact X7.first HKA.out
  have e7 : (q.kind == 7) = false := by simp [k7]
  by_cases k8 : q.kind = 8
  · have HW := hid (show doP nm ns r q = cancelP nm ns r q by unfold doP; rw [if_neg k1, if_neg s0, if_neg (fun h => h s1), if_neg k2, if_neg k3, if_neg k4, if_neg k5, if_neg k6, if_neg k7, if_pos k8])
    have e8 : (q.kind == 8) = true := by simp [k8]
    have hD := cancel_any E1 R1 F hn hm q ht
    unfold inpV at hD ⊢
    clear k1 s0 s1 k2 k3 k4 k5 k6 k7 k8 E1 R1
    go_enter Tryd.func25, Tryd.ntmps25
    go_wp2_with (first
      | (go_at_call 40; refine hD.mono ?_; rintro e w7 ⟨rfl, X7⟩; clear hD)
      | fail)
    go_ret
    refine ⟨by rw [HW.out]; rfl, ?_⟩
    rw [HW.out]
    exact X7.first HKA.out
  have e8 : (q.kind == 8) = false := by simp [k8]
  have HW := hid (show doP nm ns r q = (r, 1) by unfold doP; rw [if_neg k1, if_neg s0, if_neg (fun h => h s1), if_neg k2, if_neg k3, if_neg k4, if_neg k5, if_neg k6, if_neg k7, if_neg k8])
  unfold inpV
  clear k1 s0 s1 k2 k3 k4 k5 k6 k7 k8 E1 R1
  go_enter Tryd.func25, Tryd.ntmps25
  go_wp2_with fail
  go_ret
  refine ⟨by rw [HW.out]; rfl, ?_⟩
  rw [HW.out]
  exact RGoes.keep HR.out HKA.out

end

end Go.Proofs.YtfjekjbkifmpfabDoor
