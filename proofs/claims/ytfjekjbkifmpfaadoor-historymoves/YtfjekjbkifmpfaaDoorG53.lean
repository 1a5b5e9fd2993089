/-
  The document's does, in memory.
-/
import Derived.Test.YtfjekjbkifmpfaaDoorG52
import Derived.Test.YtfjekjbkifmpfaaDoorG51
import Derived.Test.YtfjekjbkifmpfaaDoorG28
import Derived.Test.YtfjekjbkifmpfaaDoorG04
import Derived.Test.YtfjekjbkifmpfaaDoorG32
import Derived.Test.YtfjekjbkifmpfaaDoorG07
import Derived.Test.YtfjekjbkifmpfaaDoorG06
import Derived.Test.YtfjekjbkifmpfaaDoorG19
import Derived.Test.YtfjekjbkifmpfaaDoorG34
import Derived.Deep.Cut
namespace Go.Proofs.YtfjekjbkifmpfaaDoor.Rf
open Go.RowKit

theorem setId_any {w : World} {H : Nat → Prop} {rb : Nat} {nm : ByteArray} {a : Option Addr} {n c : Nat} {r : Rn} (R : RAt w H rb nm a n c r) (x : ByteArray) : RAt (w.setCell ⟨rb, 3, none⟩ (.string x)) H rb nm a n c { r with st := { r.st with id := x } } ∧ Kept H w (w.setCell ⟨rb, 3, none⟩ (.string x)) := by
  obtain ⟨F, G, v6, v7, v12, v13, RN, hH, ht⟩ := R
  have KS : Kept (fun j => j = rb) w (w.setCell ⟨rb, 3, none⟩ (.string x)) := Kept.setCell _ _ _ rfl
  have hz : (w.setCell ⟨rb, 3, none⟩ (.string x)).heap.size = w.heap.size := by simp [World.setCell]
  have hFr := RN.st.inS
  have hb := blk_set RN.st.blk (so := 2) rfl (j := 1) (by simp [stL]) (.string x)
  have hG : ∀ g, G g → g ≠ rb := fun g hg h => RN.out g hg (h ▸ hFr)
  refine ⟨⟨F, G, v6, v7, v12, v13, ⟨⟨hb, RN.st.off, ownsRow_keep RN.st.nodes (fun g hg => KS.block g (ownsRow_blk RN.st.nodes hg) (RN.st.in6 g hg).2), ownsRow_keep RN.st.sigs (fun g hg => KS.block g (ownsRow_blk RN.st.sigs hg) (RN.st.in7 g hg).2), hFr, RN.st.in6, RN.st.in7, fun g h => by rw [hz]; exact RN.st.top g h⟩, ownsRow_keep RN.evs (fun g hg => KS.block g (ownsRow_blk RN.evs hg) (hG g (RN.in12 g hg))), ownsRow_keep RN.tks (fun g hg => KS.block g (ownsRow_blk RN.tks hg) (hG g (RN.in13 g hg))), RN.in12, RN.in13, RN.out, fun g h => by rw [hz]; exact RN.topG g h⟩, hH, fun g h => by rw [hz]; exact ht g h⟩, KS.mono (fun j h => h ▸ hH rb (.inl hFr))⟩

/-- A workflow that has just begun. -/
theorem start_fine {nm : ByteArray} {ns : List Nd} {r : Rn} (h0 : r.st.status = 0) (x y : ByteArray) : Fine ns (evR nm ns r ⟨1, x, y, 0⟩).st ∧ (evR nm ns r ⟨1, x, y, 0⟩).st.status = 1 := by
  have h : (evR nm ns r ⟨1, x, y, 0⟩).st = { r.st with status := 1, dfn := nm, par := y, pnode := x, nodes := List.replicate ns.length ⟨0, 0, ⟨#[]⟩⟩, events := r.st.events + 1 } := by
    unfold evR applyR
    simp [h0]
  rw [h]
  refine ⟨⟨by simp, fun z hz _ => ?_⟩, rfl⟩
  obtain ⟨_, rfl⟩ := List.mem_replicate.1 hz
  rfl

set_option maxRecDepth 100000 in
set_option maxHeartbeats 8000000 in
theorem does_any {w0 w : World} {H : Nat → Prop} {rb : Nat} {nm : ByteArray} {a : Option Addr} {c : Nat} {ns : List Nd} {r : Rn} {m : Nat} (E : Env w0 w H a ns) (R : RAt w H rb nm a ns.length c r) (F : Fit r m) (hm : m ≤ 390000) (hn : ns.length ≤ 64) (hpos : 0 < ns.length) (S : Sound ns) (M : Met ns r.st) (q : Inp) (hq : q.name.size ≤ 100000000) :
    Calls Tryd.prog 48 #[.pointer (some ⟨rb, 0, none⟩), inpV q] w fun e w' => e = .returned (.int .i64 (doesR nm ns r q).2) ∧ RGoes w H rb nm a ns.length c (doesR nm ns r q).1 w' := by
  have K0 : Kept (fun _ => False) w (w.alloc (.cells #[.int .i64 q.kind, .string q.node, .string q.name, .string q.text, .int .i64 q.tr, .int .i64 q.status, .int .i64 q.now, .string q.par, .string q.pnode] 39)) := Kept.alloc _ _ _
  have hI := heap_alloc_new w (.cells #[.int .i64 q.kind, .string q.node, .string q.name, .string q.text, .int .i64 q.tr, .int .i64 q.status, .int .i64 q.now, .string q.par, .string q.pnode] 39)
  have htop : ∀ g, H g → g < w.heap.size := by
    obtain ⟨_, _, _, _, _, _, _, _, _, htop⟩ := R.opened
    exact htop
  obtain ⟨res, hres⟩ : ∃ res, res = doesR nm ns r q := ⟨_, rfl⟩
  rw [← hres]
  have HRes := hid hres
  obtain ⟨⟨i0, i1, i2, i3, i4, i5, i6, i7, i8⟩, _⟩ := nine hI
  have HI := hid hI
  have HT := hid htop
  have HE1 := hid (E.new K0)
  have HR1 := hid (R.new K0)
  have HR0 := hid R
  have HE0 := hid E
  have HK0 := hid K0
  have HF := hid F
  have HM := hid M
  have HS := hid S
  unfold inpV
  clear K0 hI htop hres E R F M S
  obtain ⟨v6, v7, v12, v13, hb, _, _, _, _, _⟩ := HR1.out.opened
  obtain ⟨x0, x1, x2, x3, x4, x5, x6, x7, x8, x9, x10, x11⟩ := runCells hb
  clear hb
  have FN : r.st.status = 1 → Fine ns r.st := fun h => ⟨HM.out.2 (by rw [h]; decide), HM.out.1⟩
  by_cases k1 : q.kind = 1
  · by_cases h0 : r.st.status = 0
    · have HQ : Hid (doesR nm ns r q = (goOnP nm ns (evR nm ns { r with st := { r.st with id := q.name } } ⟨1, q.pnode, q.par, 0⟩), 0)) := by
        show _ = _
        unfold doesR
        rw [if_pos k1, if_neg (not_not_intro h0)]
      have f1 : (q.kind == 1) = true := by rw [beq_iff_eq]; exact k1
      have e0 : (r.st.status != 0) = false := by rw [bne_eq_false_iff_eq]; exact h0
      obtain ⟨RS, KS⟩ := setId_any HR1.out q.name
      have htopS : ∀ g, H g → g < (w.alloc (.cells #[.int .i64 q.kind, .string q.node, .string q.name, .string q.text, .int .i64 q.tr, .int .i64 q.status, .int .i64 q.now, .string q.par, .string q.pnode] 39)).heap.size := fun g h => Nat.lt_of_lt_of_le (HT.out g h) HK0.out.size
      have ES : Env w0 ((w.alloc (.cells #[.int .i64 q.kind, .string q.node, .string q.name, .string q.text, .int .i64 q.tr, .int .i64 q.status, .int .i64 q.now, .string q.par, .string q.pnode] 39)).setCell ⟨rb, 3, none⟩ (.string q.name)) H a ns := ⟨HE1.out.nodes, HE1.out.few, HE1.out.low, HE1.out.names, HE1.out.moves, HE1.out.high, HE1.out.keep.and (KS.mono HE1.out.high)⟩
      have F0 : Fit { r with st := { r.st with id := q.name } } m := ⟨hq, HF.out.nodes, HF.out.sigs, HF.out.ev0, HF.out.ev1, HF.out.evs, HF.out.tks⟩
      have hE := eventE ES RS F0 (by omega) ⟨1, q.pnode, q.par, 0⟩
      simp only [] at hE
      have F2 := evR_fit (nm := nm) (ns := ns) F0 (by omega) ⟨1, q.pnode, q.par, 0⟩
      obtain ⟨FN2, hs2⟩ := start_fine (nm := nm) (ns := ns) (r := { r with st := { r.st with id := q.name } }) h0 q.pnode q.par
      have hI2 := (KS.block _ (Array.getElem?_eq_some_iff.1 HI.out).1 (fun h => absurd (HT.out _ h) (Nat.lt_irrefl _))).trans HI.out
      obtain ⟨⟨_, _, j2, _, _, _, _, j7, j8⟩, _⟩ := nine hI2
      have fr3 : (w.alloc (.cells #[.int .i64 q.kind, .string q.node, .string q.name, .string q.text, .int .i64 q.tr, .int .i64 q.status, .int .i64 q.now, .string q.par, .string q.pnode] 39)).frozen? ⟨rb, 3, none⟩ = false := by
        obtain ⟨_, _, _, _, _, _, RN, _, _⟩ := HR1.out
        have hb := RN.st.blk
        simp [World.frozen?, hb, stL]
      have HKS := hid KS
      have HES := hid ES
      clear k1 h0 FN hI2 ES RS F0 KS htopS
      go_enter Tryd.func48, Tryd.ntmps48
      go_upto_region 6 with (first
        | (go_at_call 63; refine hE.mono ?_; rintro e w2 ⟨rfl, X2⟩; clear hE)
        | fail)
      obtain ⟨H2, E2, R2, hH2, K2⟩ := env_goes HES.out X2
      have hT := on_any E2 R2 F2 (by omega) hn hpos HS.out FN2 hs2
      have HH2 := hid hH2
      have HK2 := hid K2
      clear hH2 K2 X2 R2 E2 i0 i1 i2 i3 i4 i5 i6 i7 i8 j2 j7 j8 x0 x1 x2 x3 x4 x5 x6 x7 x8 x9 x10 x11 fr3
      go_wp2_with (first
        | (go_at_call 64; refine hT.mono ?_; rintro e w3 ⟨rfl, X3⟩; clear hT)
        | fail)
      go_ret
      obtain rfl := HRes.out.trans HQ.out
      refine ⟨rfl, ?_⟩
      exact RGoes.first HK0.out (RGoes.trans (fun g h => .inl h) HKS.out (RGoes.trans (fun g h => (HH2.out g h).imp (fun h => h) (fun h => by simpa [World.setCell] using h)) HK2.out X3))
    · have HQ : Hid (doesR nm ns r q = (r, 7)) := by
        show _ = _
        unfold doesR
        rw [if_pos k1, if_pos h0]
      have f1 : (q.kind == 1) = true := by rw [beq_iff_eq]; exact k1
      have e0 : (r.st.status != 0) = true := by rw [bne_iff_ne]; exact h0
      clear k1 h0 FN
      go_enter Tryd.func48, Tryd.ntmps48
      go_wp2_with fail
      go_ret
      obtain rfl := HRes.out.trans HQ.out
      refine ⟨rfl, ?_⟩
      exact RGoes.first HK0.out (RGoes.keep HR1.out (Kept.refl _ _))
  have f1 : (q.kind == 1) = false := by rw [beq_eq_false_iff_ne]; exact k1
  by_cases h0 : r.st.status = 0
  · have HQ : Hid (doesR nm ns r q = (r, 6)) := by
      show _ = _
      unfold doesR
      rw [if_neg k1, if_pos h0]
    have e1 : (r.st.status == 0) = true := by rw [beq_iff_eq]; exact h0
    clear k1 h0 FN
    go_enter Tryd.func48, Tryd.ntmps48
    go_wp2_with fail
    go_ret
    obtain rfl := HRes.out.trans HQ.out
    refine ⟨rfl, ?_⟩
    exact RGoes.first HK0.out (RGoes.keep HR1.out (Kept.refl _ _))
  by_cases h1 : r.st.status = 1
  rotate_left
  · have HQ : Hid (doesR nm ns r q = (r, 11)) := by
      show _ = _
      unfold doesR
      rw [if_neg k1, if_neg h0, if_pos h1]
    have e1 : (r.st.status == 0) = false := by rw [beq_eq_false_iff_ne]; exact h0
    have e2 : (r.st.status != 1) = true := by rw [bne_iff_ne]; exact h1
    clear k1 h0 h1 FN
    go_enter Tryd.func48, Tryd.ntmps48
    go_wp2_with fail
    go_ret
    obtain rfl := HRes.out.trans HQ.out
    refine ⟨rfl, ?_⟩
    exact RGoes.first HK0.out (RGoes.keep HR1.out (Kept.refl _ _))
  have e1 : (r.st.status == 0) = false := by rw [beq_eq_false_iff_ne]; exact h0
  have e2 : (r.st.status != 1) = false := by rw [bne_eq_false_iff_eq]; exact h1
  by_cases k2 : q.kind = 2
  · have HQ : Hid (doesR nm ns r q = signalR nm ns r q) := by
      show _ = _
      unfold doesR
      rw [if_neg k1, if_neg h0, if_neg (not_not_intro h1), if_pos k2]
    have f2 : (q.kind == 2) = true := by rw [beq_iff_eq]; exact k2
    have hT := signal_any HE1.out HR1.out HF.out (by omega) hn hpos HS.out (FN h1) h1 q (Nat.le_trans hq (by decide))
    unfold inpV at hT
    clear k1 k2 h0 h1 FN
    go_enter Tryd.func48, Tryd.ntmps48
    go_wp2_with (first
      | (go_at_call 65; refine hT.mono ?_; rintro e w3 ⟨rfl, X3⟩; clear hT)
      | fail)
    go_ret
    obtain rfl := HRes.out.trans HQ.out
    exact ⟨rfl, RGoes.first HK0.out X3⟩
  have f2 : (q.kind == 2) = false := by rw [beq_eq_false_iff_ne]; exact k2
  by_cases k3 : q.kind = 3
  · have HQ : Hid (doesR nm ns r q = activityR nm ns r q) := by
      show _ = _
      unfold doesR
      rw [if_neg k1, if_neg h0, if_neg (not_not_intro h1), if_neg k2, if_pos (.inl k3)]
    have f3 : (q.kind == 3) = true := by rw [beq_iff_eq]; exact k3
    have hT := activity_any HE1.out HR1.out HF.out (by omega) hn hpos HS.out (FN h1) h1 q
    unfold inpV at hT
    clear k1 k2 k3 h0 h1 FN
    go_enter Tryd.func48, Tryd.ntmps48
    go_wp2_with (first
      | (go_at_call 66; refine hT.mono ?_; rintro e w3 ⟨rfl, X3⟩; clear hT)
      | fail)
    go_ret
    obtain rfl := HRes.out.trans HQ.out
    exact ⟨rfl, RGoes.first HK0.out X3⟩
  have f3 : (q.kind == 3) = false := by rw [beq_eq_false_iff_ne]; exact k3
  by_cases k4 : q.kind = 4
  · have HQ : Hid (doesR nm ns r q = activityR nm ns r q) := by
      show _ = _
      unfold doesR
      rw [if_neg k1, if_neg h0, if_neg (not_not_intro h1), if_neg k2, if_pos (.inr (.inl k4))]
    have f4 : (q.kind == 4) = true := by rw [beq_iff_eq]; exact k4
    have hT := activity_any HE1.out HR1.out HF.out (by omega) hn hpos HS.out (FN h1) h1 q
    unfold inpV at hT
    clear k1 k2 k3 k4 h0 h1 FN
    go_enter Tryd.func48, Tryd.ntmps48
    go_wp2_with (first
      | (go_at_call 66; refine hT.mono ?_; rintro e w3 ⟨rfl, X3⟩; clear hT)
      | fail)
    go_ret
    obtain rfl := HRes.out.trans HQ.out
    exact ⟨rfl, RGoes.first HK0.out X3⟩
  have f4 : (q.kind == 4) = false := by rw [beq_eq_false_iff_ne]; exact k4
  by_cases k5 : q.kind = 5
  · have HQ : Hid (doesR nm ns r q = activityR nm ns r q) := by
      show _ = _
      unfold doesR
      rw [if_neg k1, if_neg h0, if_neg (not_not_intro h1), if_neg k2, if_pos (.inr (.inr k5))]
    have f5 : (q.kind == 5) = true := by rw [beq_iff_eq]; exact k5
    have hT := activity_any HE1.out HR1.out HF.out (by omega) hn hpos HS.out (FN h1) h1 q
    unfold inpV at hT
    clear k1 k2 k3 k4 k5 h0 h1 FN
    go_enter Tryd.func48, Tryd.ntmps48
    go_wp2_with (first
      | (go_at_call 66; refine hT.mono ?_; rintro e w3 ⟨rfl, X3⟩; clear hT)
      | fail)
    go_ret
    obtain rfl := HRes.out.trans HQ.out
    exact ⟨rfl, RGoes.first HK0.out X3⟩
  have f5 : (q.kind == 5) = false := by rw [beq_eq_false_iff_ne]; exact k5
  by_cases k6 : q.kind = 6
  · have HQ : Hid (doesR nm ns r q = fireR nm ns r q) := by
      show _ = _
      unfold doesR
      rw [if_neg k1, if_neg h0, if_neg (not_not_intro h1), if_neg k2, if_neg (show ¬ (q.kind = 3 ∨ q.kind = 4 ∨ q.kind = 5) by omega), if_pos k6]
    have f6 : (q.kind == 6) = true := by rw [beq_iff_eq]; exact k6
    have hT := fire_any HE1.out HR1.out HF.out (by omega) hn hpos HS.out (FN h1) h1 q
    unfold inpV at hT
    clear k1 k2 k3 k4 k5 k6 h0 h1 FN
    go_enter Tryd.func48, Tryd.ntmps48
    go_wp2_with (first
      | (go_at_call 67; refine hT.mono ?_; rintro e w3 ⟨rfl, X3⟩; clear hT)
      | fail)
    go_ret
    obtain rfl := HRes.out.trans HQ.out
    exact ⟨rfl, RGoes.first HK0.out X3⟩
  have f6 : (q.kind == 6) = false := by rw [beq_eq_false_iff_ne]; exact k6
  by_cases k7 : q.kind = 7
  · have HQ : Hid (doesR nm ns r q = childR nm ns r q) := by
      show _ = _
      unfold doesR
      rw [if_neg k1, if_neg h0, if_neg (not_not_intro h1), if_neg k2, if_neg (show ¬ (q.kind = 3 ∨ q.kind = 4 ∨ q.kind = 5) by omega), if_neg k6, if_pos k7]
    have f7 : (q.kind == 7) = true := by rw [beq_iff_eq]; exact k7
    have hT := child_any HE1.out HR1.out HF.out (by omega) hn hpos HS.out (FN h1) h1 q
    unfold inpV at hT
    clear k1 k2 k3 k4 k5 k6 k7 h0 h1 FN
    go_enter Tryd.func48, Tryd.ntmps48
    go_wp2_with (first
      | (go_at_call 68; refine hT.mono ?_; rintro e w3 ⟨rfl, X3⟩; clear hT)
      | fail)
    go_ret
    obtain rfl := HRes.out.trans HQ.out
    exact ⟨rfl, RGoes.first HK0.out X3⟩
  have f7 : (q.kind == 7) = false := by rw [beq_eq_false_iff_ne]; exact k7
  by_cases k8 : q.kind = 8
  · by_cases ht : 256 < q.text.size
    · have HQ : Hid (doesR nm ns r q = (r, 9)) := by
        show _ = _
        unfold doesR
        rw [if_neg k1, if_neg h0, if_neg (not_not_intro h1), if_neg k2, if_neg (show ¬ (q.kind = 3 ∨ q.kind = 4 ∨ q.kind = 5) by omega), if_neg k6, if_neg k7, if_pos k8, if_pos ht]
      have f8 : (q.kind == 8) = true := by rw [beq_iff_eq]; exact k8
      have e9 : (256 : Int) < (q.text.size : Int) := by omega
      clear k1 k2 k3 k4 k5 k6 k7 k8 h0 h1 ht FN
      go_enter Tryd.func48, Tryd.ntmps48
      go_wp2_with fail
      go_ret
      obtain rfl := HRes.out.trans HQ.out
      refine ⟨rfl, ?_⟩
      exact RGoes.first HK0.out (RGoes.keep HR1.out (Kept.refl _ _))
    · have HQ : Hid (doesR nm ns r q = (closedR nm ns r 4 q.text, 0)) := by
        show _ = _
        unfold doesR
        rw [if_neg k1, if_neg h0, if_neg (not_not_intro h1), if_neg k2, if_neg (show ¬ (q.kind = 3 ∨ q.kind = 4 ∨ q.kind = 5) by omega), if_neg k6, if_neg k7, if_pos k8, if_neg ht]
      have f8 : (q.kind == 8) = true := by rw [beq_iff_eq]; exact k8
      have e9 : ¬ ((256 : Int) < (q.text.size : Int)) := by omega
      have hT := closed_any HE1.out HR1.out HF.out (by omega) hn 4 q.text
      clear k1 k2 k3 k4 k5 k6 k7 k8 h0 h1 ht FN
      go_enter Tryd.func48, Tryd.ntmps48
      go_upto_region 26 with fail
      go_wp2_with (first
        | (go_at_call 69; refine hT.mono ?_; rintro e w3 ⟨rfl, X3⟩; clear hT)
        | fail)
      go_ret
      obtain rfl := HRes.out.trans HQ.out
      exact ⟨rfl, RGoes.first HK0.out X3⟩
  have f8 : (q.kind == 8) = false := by rw [beq_eq_false_iff_ne]; exact k8
  have HQ : Hid (doesR nm ns r q = (r, 1)) := by
    show _ = _
    unfold doesR
    rw [if_neg k1, if_neg h0, if_neg (not_not_intro h1), if_neg k2, if_neg (show ¬ (q.kind = 3 ∨ q.kind = 4 ∨ q.kind = 5) by omega), if_neg k6, if_neg k7, if_neg k8]
  clear k1 k2 k3 k4 k5 k6 k7 k8 h0 h1 FN
  go_enter Tryd.func48, Tryd.ntmps48
  go_wp2_with fail
  go_ret
  obtain rfl := HRes.out.trans HQ.out
  refine ⟨rfl, ?_⟩
  exact RGoes.first HK0.out (RGoes.keep HR1.out (Kept.refl _ _))

end Go.Proofs.YtfjekjbkifmpfaaDoor.Rf

/-
  The document's Step, in memory.
-/
namespace Go.Proofs.YtfjekjbkifmpfaaDoor.Rf
open Go.RowKit

/-- The run that Step makes. -/
theorem run_new {w5 : World} {B : Nat} {nm : ByteArray} {a : Option Addr} {n c : Nat} {s : St} {u6 u7 : Value} {now : Int} (O : StOwn w5 B s u6 u7) (hB : B ≤ w5.heap.size) :
    ∃ H : Nat → Prop, RAt (w5.alloc (.cells #[.string nm, .slice a n c, .string s.dfn, .string s.id, .string s.par, .string s.pnode, .int .i64 s.status, .string s.text, u6, u7, .int .i64 s.events, .int .i64 now, .slice none 0 0, .slice none 0 0] 106)) H w5.heap.size nm a n c ⟨s, now, [], []⟩ ∧ ∀ g, H g → B ≤ g := by
  have K := Kept.alloc (fun _ => False) w5 (.cells #[.string nm, .slice a n c, .string s.dfn, .string s.id, .string s.par, .string s.pnode, .int .i64 s.status, .string s.text, u6, u7, .int .i64 s.events, .int .i64 now, .slice none 0 0, .slice none 0 0] 106)
  have b6 : ∀ g, u6.ownBlock = some g → B ≤ g ∧ g < w5.heap.size := fun g hg => ⟨(O.nodes.lt g hg).1, ownsRow_blk O.nodes hg⟩
  have b7 : ∀ g, u7.ownBlock = some g → B ≤ g ∧ g < w5.heap.size := fun g hg => ⟨(O.sigs.lt g hg).1, ownsRow_blk O.sigs hg⟩
  refine ⟨fun g => g = w5.heap.size ∨ u6.ownBlock = some g ∨ u7.ownBlock = some g, ⟨fun g => g = w5.heap.size ∨ u6.ownBlock = some g ∨ u7.ownBlock = some g, fun _ => False, u6, u7, .slice none 0 0, .slice none 0 0, ⟨⟨heap_alloc_new _ _, rfl, ?_, ?_, .inl rfl, fun g hg => ⟨.inr (.inl hg), Nat.ne_of_lt (b6 g hg).2⟩, fun g hg => ⟨.inr (.inr hg), Nat.ne_of_lt (b7 g hg).2⟩, fun g hg => ?_⟩, World.ownsRow_nil _ _ _ _, World.ownsRow_nil _ _ _ _, (fun g hg => by cases hg), (fun g hg => by cases hg), (fun g hg => hg.elim), (fun g hg => hg.elim)⟩, fun g hg => hg.elim id (fun h => h.elim), fun g hg => ?_⟩, fun g hg => ?_⟩
  · exact ownsRow_low (ownsRow_keep O.nodes (fun g hg => K.block g (b6 g hg).2 (fun h => h))) (Nat.zero_le _)
  · exact ownsRow_low (ownsRow_keep O.sigs (fun g hg => K.block g (b7 g hg).2 (fun h => h))) (Nat.zero_le _)
  · rw [World.size_alloc]
    rcases hg with h | h | h
    · omega
    · have := b6 g h; omega
    · have := b7 g h; omega
  · rw [World.size_alloc]
    rcases hg with h | h | h
    · omega
    · have := b6 g h; omega
    · have := b7 g h; omega
  · rcases hg with h | h | h
    · omega
    · exact (b6 g h).1
    · exact (b7 g h).1

set_option maxRecDepth 100000 in
set_option maxHeartbeats 8000000 in
theorem refStep_any (w : World) (nm : ByteArray) (a : Option Addr) (c : Nat) (ns : List Nd) (hN : NodesAt w a ns) (hn : ns.length ≤ 64) (hlow : ∀ b o, a = some ⟨b, o, none⟩ → b < w.heap.size) (hnm : ∀ x ∈ ns, x.name.size ≤ 100000000) (M : MovesAt w) (s : St) (v6 v7 : Value) (S : StRd w s v6 v7) (Z : Small s) (q : Inp) (hq : q.name.size ≤ 100000000) (hpos : 0 < ns.length) (SD : Sound ns) (MT : Met ns s) :
    Calls Tryd.prog 31 #[.agg #[.string nm, .slice a ns.length c], .agg (stA s v6 v7), inpV q] w (StepPost w (stepP nm ns s q)) := by
  obtain ⟨W0, hW0⟩ : ∃ W0, W0 = ((((w.alloc (.cells #[.string nm, .slice a ns.length c] 24)).alloc (.cells (stA s v6 v7) 33)).alloc (.cells #[.int .i64 q.kind, .string q.node, .string q.name, .string q.text, .int .i64 q.tr, .int .i64 q.status, .int .i64 q.now, .string q.par, .string q.pnode] 39)).alloc (.cells #[.string ⟨#[]⟩, .string ⟨#[]⟩, .string ⟨#[]⟩, .string ⟨#[]⟩, .int .i64 0, .string ⟨#[]⟩, .slice none 0 0, .slice none 0 0, .int .i64 0] 33)) := ⟨_, rfl⟩
  have hsz : W0.heap.size = w.heap.size + 4 := by rw [hW0]; simp [World.size_alloc]
  have K1 : Kept (fun _ => False) (w.alloc (.cells #[.string nm, .slice a ns.length c] 24)) W0 := by rw [hW0]; exact ((Kept.alloc _ _ _).and (Kept.alloc _ _ _)).and (Kept.alloc _ _ _)
  have K2 : Kept (fun _ => False) ((w.alloc (.cells #[.string nm, .slice a ns.length c] 24)).alloc (.cells (stA s v6 v7) 33)) W0 := by rw [hW0]; exact (Kept.alloc _ _ _).and (Kept.alloc _ _ _)
  have K3 : Kept (fun _ => False) (((w.alloc (.cells #[.string nm, .slice a ns.length c] 24)).alloc (.cells (stA s v6 v7) 33)).alloc (.cells #[.int .i64 q.kind, .string q.node, .string q.name, .string q.text, .int .i64 q.tr, .int .i64 q.status, .int .i64 q.now, .string q.par, .string q.pnode] 39)) W0 := by rw [hW0]; exact Kept.alloc _ _ _
  have KW : Kept (fun _ => False) w W0 := (Kept.alloc _ _ _).and K1
  have b1 := (K1.block w.heap.size (by rw [World.size_alloc]; omega) (fun h => h)).trans (heap_alloc_new _ _)
  have b2 : W0.heap[w.heap.size + 1]? = some (.cells (stA s v6 v7) 33 (0, 0)) := by
    have h := heap_alloc_new (w.alloc (.cells #[.string nm, .slice a ns.length c] 24)) (.cells (stA s v6 v7) 33)
    rw [World.size_alloc] at h
    exact (K2.block _ (by simp [World.size_alloc]) (fun h => h)).trans h
  have b3 : W0.heap[w.heap.size + 1 + 1]? = some (.cells #[.int .i64 q.kind, .string q.node, .string q.name, .string q.text, .int .i64 q.tr, .int .i64 q.status, .int .i64 q.now, .string q.par, .string q.pnode] 39 (0, 0)) := by
    have h := heap_alloc_new ((w.alloc (.cells #[.string nm, .slice a ns.length c] 24)).alloc (.cells (stA s v6 v7) 33)) (.cells #[.int .i64 q.kind, .string q.node, .string q.name, .string q.text, .int .i64 q.tr, .int .i64 q.status, .int .i64 q.now, .string q.par, .string q.pnode] 39)
    rw [World.size_alloc, World.size_alloc] at h
    exact (K3.block _ (by simp [World.size_alloc]) (fun h => h)).trans h
  have b4 : W0.heap[w.heap.size + 1 + 1 + 1]? = some (.cells #[.string ⟨#[]⟩, .string ⟨#[]⟩, .string ⟨#[]⟩, .string ⟨#[]⟩, .int .i64 0, .string ⟨#[]⟩, .slice none 0 0, .slice none 0 0, .int .i64 0] 33 (0, 0)) := by
    have h := heap_alloc_new (((w.alloc (.cells #[.string nm, .slice a ns.length c] 24)).alloc (.cells (stA s v6 v7) 33)).alloc (.cells #[.int .i64 q.kind, .string q.node, .string q.name, .string q.text, .int .i64 q.tr, .int .i64 q.status, .int .i64 q.now, .string q.par, .string q.pnode] 39)) (.cells #[.string ⟨#[]⟩, .string ⟨#[]⟩, .string ⟨#[]⟩, .string ⟨#[]⟩, .int .i64 0, .string ⟨#[]⟩, .slice none 0 0, .slice none 0 0, .int .i64 0] 33)
    rw [World.size_alloc, World.size_alloc, World.size_alloc, ← hW0] at h
    exact h
  obtain ⟨d0, d1⟩ := pairC b1
  unfold stA at b2
  obtain ⟨⟨t0, t1, t2, t3, t4, t5, t6, t7, t8⟩, _⟩ := nine b2
  obtain ⟨⟨_, _, _, _, _, _, q6, _, _⟩, _⟩ := nine b3
  have hC := refCopied_any W0.drew s v6 v7 (S.new (KW.and (Kept.drew _ _)))
  have hC' : Calls Tryd.prog 41 #[.agg #[.string s.dfn, .string s.id, .string s.par, .string s.pnode, .int .i64 s.status, .string s.text, v6, v7, .int .i64 s.events]] W0.drew fun e w' => ∃ u6 u7, e = .returned (.agg #[.string s.dfn, .string s.id, .string s.par, .string s.pnode, .int .i64 s.status, .string s.text, u6, u7, .int .i64 s.events]) ∧ StOwn w' W0.drew.heap.size s u6 u7 ∧ Kept (fun _ => False) W0.drew w' := hC
  have HB3 := hid b3
  have HB4 := hid b4
  have HKW := hid KW
  have HN := hid hN
  have HM := hid M
  have HZ := hid Z
  have Hlow := hid hlow
  have Hnm := hid hnm
  have HSd := hid SD
  have HMet := hid MT
  unfold stA at hW0
  unfold inpV stA
  clear SD MT hC S K1 K2 K3 KW b1 b2 b3 b4 hN M Z hlow hnm
  go_enter Tryd.func31, Tryd.ntmps31
  go_upto_region 1 with fail
  rw [← hW0]
  refine wp_onlyN (sp1 (P := fun V u6 u7 => StOwn V W0.drew.heap.size s u6 u7) _ d0 d1 t0 t1 t2 t3 t4 t5 t6 t7 t8 q6 hC' ?_)
  intro _ _ _ _ _ _ _ u6 u7 w5 O5 K5
  clear d0 d1 t0 t1 t2 t3 t4 t5 t6 t7 t8 q6 hC' hW0
  have hs5 := K5.size
  obtain ⟨H, R, hH⟩ := run_new (nm := nm) (a := a) (n := ns.length) (c := c) (now := q.now) O5 (show W0.heap.size ≤ _ from hs5)
  have hH : ∀ g, H g → W0.heap.size ≤ g := hH
  have KR := Kept.alloc (fun _ => False) w5 (.cells #[.string nm, .slice a ns.length c, .string s.dfn, .string s.id, .string s.par, .string s.pnode, .int .i64 s.status, .string s.text, u6, u7, .int .i64 s.events, .int .i64 q.now, .slice none 0 0, .slice none 0 0] 106)
  have KWR := (HKW.out.and K5).and KR
  have E : Env w (w5.alloc (.cells #[.string nm, .slice a ns.length c, .string s.dfn, .string s.id, .string s.par, .string s.pnode, .int .i64 s.status, .string s.text, u6, u7, .int .i64 s.events, .int .i64 q.now, .slice none 0 0, .slice none 0 0] 106)) H a ns := ⟨HN.out, by omega, Hlow.out, Hnm.out, HM.out, fun g h => by have := hH g h; omega, KWR.mono (fun _ h => h.elim)⟩
  have F : Fit ⟨s, q.now, [], []⟩ 100000 := ⟨HZ.out.idsz, by have := HZ.out.nodes; show s.nodes.length ≤ _; omega, HZ.out.sigs, HZ.out.ev0, by have := HZ.out.ev1; show s.events ≤ _; omega, Nat.zero_le _, Nat.zero_le _⟩
  have hD := does_any E R F (by omega) hn hpos HSd.out HMet.out q hq
  have b3' := ((K5.and KR).block _ (Array.getElem?_eq_some_iff.1 HB3.out).1 (fun h => h)).trans HB3.out
  have b4' := ((K5.and KR).block _ (Array.getElem?_eq_some_iff.1 HB4.out).1 (fun h => h)).trans HB4.out
  obtain ⟨⟨q0, q1, q2, q3, q4, q5, q6, q7, q8⟩, _⟩ := nine b3'
  have HB4' := hid b4'
  have HH := hid hH
  have HKWR := hid KWR
  have HE := hid E
  unfold inpV at hD
  have hws : w5.heap.size < (w5.alloc (.cells #[.string nm, .slice a ns.length c, .string s.dfn, .string s.id, .string s.par, .string s.pnode, .int .i64 s.status, .string s.text, u6, u7, .int .i64 s.events, .int .i64 q.now, .slice none 0 0, .slice none 0 0] 106)).heap.size := by rw [World.size_alloc]; omega
  obtain ⟨p, hp⟩ : ∃ p, doesR nm ns ⟨s, q.now, [], []⟩ q = p := ⟨_, rfl⟩
  have HP := hid (show stepP nm ns s q = p from (step_same HSd.out HMet.out q).symm.trans hp)
  rw [hp] at hD
  clear O5 K5 KR KWR E R F b3' b4' hH HB3 HB4 hp HKW
  generalize (w5.alloc (.cells #[.string nm, .slice a ns.length c, .string s.dfn, .string s.id, .string s.par, .string s.pnode, .int .i64 s.status, .string s.text, u6, u7, .int .i64 s.events, .int .i64 q.now, .slice none 0 0, .slice none 0 0] 106)) = WR at *
  generalize w5.heap.size = rb at *
  obtain ⟨r, ee⟩ := p
  by_cases he : ee = 0
  · subst he
    have e1 : ((0 : Int) != 0) = false := rfl
    go_upto_region 5 with (first
      | (go_at_call 48; refine hD.mono ?_; rintro e w7 ⟨rfl, X7⟩; clear hD q0 q1 q2 q3 q4 q5 q6 q7 q8)
      | fail)
    have b7 := (X7.2.block _ (Array.getElem?_eq_some_iff.1 HB4'.out).1 (fun h => by have := HH.out _ h; omega)).trans HB4'.out
    obtain ⟨⟨H7, ⟨F7, G7, z6, z7, z12, z13, RN, hHF, htop⟩, hH7⟩, K7⟩ := X7
    obtain ⟨a6, c6, rfl⟩ := ownsRow_shape RN.st.nodes
    obtain ⟨a7, c7, rfl⟩ := ownsRow_shape RN.st.sigs
    obtain ⟨a12, c12, rfl⟩ := ownsRow_shape RN.evs
    obtain ⟨a13, c13, rfl⟩ := ownsRow_shape RN.tks
    have hbk := RN.st.blk
    obtain ⟨x2, x3, x4, x5, x6, x7, x8, x9, x10, x12, x13⟩ := eleven (show w7.heap[rb]? = some (.cells #[.string nm, .slice a ns.length c, .string r.st.dfn, .string r.st.id, .string r.st.par, .string r.st.pnode, .int .i64 r.st.status, .string r.st.text, .slice a6 r.st.nodes.length c6, .slice a7 r.st.sigs.length c7, .int .i64 r.st.events, .int .i64 r.now, .slice a12 r.evs.length c12, .slice a13 r.tks.length c13] _ (0, 0)) from hbk)
    have hge : ∀ g, H7 g → W0.heap.size ≤ g := fun g h => (hH7 g h).elim (HH.out g) (fun h => by have := HKWR.out.size; have := HB4'.out; have := (Array.getElem?_eq_some_iff.1 HB4'.out).1; omega)
    have hrb : w.heap.size + 1 + 1 + 1 ≠ rb := fun h => by have := hge rb (hHF rb (.inl RN.st.inS)); omega
    have A7 : AnsAt w7 W0.heap.size r (.slice a12 r.evs.length c12) (.slice a6 r.st.nodes.length c6) (.slice a7 r.st.sigs.length c7) (.slice a13 r.tks.length c13) := ⟨ownsRow_high RN.evs (fun g hg => hge g (hHF g (.inr (RN.in12 g hg)))), ownsRow_high RN.st.nodes (fun g hg => hge g (hHF g (.inl (RN.st.in6 g hg).1))), ownsRow_high RN.st.sigs (fun g hg => hge g (hHF g (.inl (RN.st.in7 g hg).1))), ownsRow_high RN.tks (fun g hg => hge g (hHF g (.inr (RN.in13 g hg))))⟩
    have HA7 := hid A7
    have HK7 : Hid (Kept (fun _ => False) w w7) := HKWR.out.trans K7 (fun g h => .inr (by have := HH.out g h; omega))
    clear A7 RN hbk hHF htop hH7 hge K7
    refine wp_onlyN (sp5 _ x2 x3 x4 x5 x6 x7 x8 x9 x10 x12 x13 b7 (Ne.symm hrb) ?_)
    intro _ _ _ _ _ _ _ _ _ _ _ _ w8 b8 K8
    clear x2 x3 x4 x5 x6 x7 x8 x9 x10 x12 x13 b7
    obtain ⟨⟨y0, y1, y2, y3, y4, y5, y6, y7, y8⟩, _⟩ := nine b8
    go_wp2_with fail
    refine bodyPost_ret (by simp [results, Tryd.results31, go_sem, y0, y1, y2, y3, y4, y5, y6, y7, y8]; try rfl) rfl ?_
    have hans : ansP (r, 0) = r := rfl
    have hkeep : ∀ {T sz n : Nat} {v : Value} {xs : List Value}, w7.ownsRow W0.heap.size T sz v n xs → w8.ownsRow w.heap.size T sz v n xs := fun {T sz n v xs} h => ownsRow_low (ownsRow_keep h (fun g hg => K8.block g (ownsRow_blk h hg) (fun e => by have := (h.lt g hg).1; omega))) (by omega)
    refine ⟨.slice a12 r.evs.length c12, .slice a6 r.st.nodes.length c6, .slice a7 r.st.sigs.length c7, .slice a13 r.tks.length c13, ?_, ?_, HK7.out.trans K8 (fun g h => .inr (by omega))⟩
    · rw [HP.out, hans]; rfl
    · rw [HP.out, hans]
      exact ⟨hkeep HA7.out.evs, hkeep HA7.out.nodes, hkeep HA7.out.sigs, hkeep HA7.out.tks⟩
  · have e1 : (ee != 0) = true := by simp [he]
    go_wp2_with (first
      | (go_at_call 48; refine hD.mono ?_; rintro e w7 ⟨rfl, X7⟩; clear hD q0 q1 q2 q3 q4 q5 q6 q7 q8; have b7 := (X7.2.block _ (Array.getElem?_eq_some_iff.1 HB4'.out).1 (fun h => by have := HH.out _ h; omega)).trans HB4'.out; obtain ⟨⟨p0, p1, p2, p3, p4, p5, p6, p7, p8⟩, f0, f1, f2, f3, f4, f5, f6, f7, f8⟩ := nine b7; have HB7 := hid b7; have HX7 := hid X7.2; clear X7 b7)
      | fail)
    have b8 := put9 HB7.out (.string ⟨#[]⟩) (.string ⟨#[]⟩) (.string ⟨#[]⟩) (.string ⟨#[]⟩) (.int .i64 0) (.string ⟨#[]⟩) (.slice none 0 0) (.slice none 0 0) (.int .i64 0)
    obtain ⟨⟨y0, y1, y2, y3, y4, y5, y6, y7, y8⟩, _⟩ := nine b8
    have K8 := kept9 (S := fun j => j = w.heap.size + 1 + 1 + 1) w7 rfl (.string ⟨#[]⟩) (.string ⟨#[]⟩) (.string ⟨#[]⟩) (.string ⟨#[]⟩) (.int .i64 0) (.string ⟨#[]⟩) (.slice none 0 0) (.slice none 0 0) (.int .i64 0)
    refine bodyPost_ret (by simp [results, Tryd.results31, go_sem, y0, y1, y2, y3, y4, y5, y6, y7, y8]; try rfl) rfl ?_
    have hans : ansP (r, ee) = ⟨zeroSt, 0, [], []⟩ := by unfold ansP; rw [if_neg he]
    refine ⟨.slice none 0 0, .slice none 0 0, .slice none 0 0, .slice none 0 0, ?_, ?_, (HKWR.out.trans HX7.out (fun g h => .inr (by have := HH.out g h; omega))).trans K8 (fun g h => .inr (by omega))⟩
    · rw [HP.out, hans]; rfl
    · rw [HP.out, hans]
      exact ⟨World.ownsRow_nil _ _ _ _, World.ownsRow_nil _ _ _ _, World.ownsRow_nil _ _ _ _, World.ownsRow_nil _ _ _ _⟩

end Go.Proofs.YtfjekjbkifmpfaaDoor.Rf

/-
  play's input: an input is done by the program and by the document; both answer alike.
-/
namespace Go.Proofs.YtfjekjbkifmpfaaDoor.Rf
open Go.RowKit

/-- A play in memory: the definition, the state, all its events. -/
structure PlAt (w : World) (H : Nat → Prop) (pb : Nat) (nm : ByteArray) (a : Option Addr) (n c : Nat) (s : St) (l : List Ev) (v6 v7 v11 : Value) : Prop where
  blk : w.heap[pb]? = some (.cells #[.string nm, .slice a n c, .string s.dfn, .string s.id, .string s.par, .string s.pnode, .int .i64 s.status, .string s.text, v6, v7, .int .i64 s.events, v11] 36 (0, 0))
  nodes : w.ownsRow 0 61 3 v6 s.nodes.length (nsF s.nodes)
  sigs : w.ownsRow 0 88 2 v7 s.sigs.length (sgF s.sigs)
  evs : w.ownsRow 0 51 4 v11 l.length (evF l)
  inP : H pb
  in6 : ∀ g, v6.ownBlock = some g → H g
  in7 : ∀ g, v7.ownBlock = some g → H g
  in11 : ∀ g, v11.ownBlock = some g → H g
  top : ∀ g, H g → g < w.heap.size

theorem PlAt.new {w w' : World} {H : Nat → Prop} {pb : Nat} {nm : ByteArray} {a : Option Addr} {n c : Nat} {s : St} {l : List Ev} {v6 v7 v11 : Value} (P : PlAt w H pb nm a n c s l v6 v7 v11) (K : Kept (fun g => w.heap.size ≤ g) w w') : PlAt w' H pb nm a n c s l v6 v7 v11 :=
  ⟨(K.block _ (P.top _ P.inP) (Nat.not_le.2 (P.top _ P.inP))).trans P.blk, ownsRow_keep P.nodes (fun g hg => K.block g (P.top g (P.in6 g hg)) (Nat.not_le.2 (P.top g (P.in6 g hg)))), ownsRow_keep P.sigs (fun g hg => K.block g (P.top g (P.in7 g hg)) (Nat.not_le.2 (P.top g (P.in7 g hg)))), ownsRow_keep P.evs (fun g hg => K.block g (P.top g (P.in11 g hg)) (Nat.not_le.2 (P.top g (P.in11 g hg)))), P.inP, P.in6, P.in7, P.in11, fun g h => Nat.lt_of_lt_of_le (P.top g h) K.size⟩

/-- What a call leaves of a play. -/
def PlGoes (w : World) (H : Nat → Prop) (pb : Nat) (nm : ByteArray) (a : Option Addr) (n c : Nat) (s : St) (l : List Ev) (w' : World) : Prop :=
  (∃ (H' : Nat → Prop) (v6 v7 v11 : Value), PlAt w' H' pb nm a n c s l v6 v7 v11 ∧ ∀ g, H' g → H g ∨ w.heap.size ≤ g) ∧ Kept H w w'

theorem twelve {w : World} {b : Nat} {T : TypeId} {u0 u1 u2 u3 u4 u5 u6 u7 u8 u9 u10 u11 : Value} (h : w.heap[b]? = some (.cells #[u0, u1, u2, u3, u4, u5, u6, u7, u8, u9, u10, u11] T (0, 0))) :
    (w.cell? ⟨b, 0, none⟩ = some u0 ∧ w.cell? ⟨b, 1, none⟩ = some u1 ∧ w.cell? ⟨b, 2, none⟩ = some u2 ∧ w.cell? ⟨b, 3, none⟩ = some u3 ∧ w.cell? ⟨b, 4, none⟩ = some u4 ∧ w.cell? ⟨b, 5, none⟩ = some u5 ∧ w.cell? ⟨b, 6, none⟩ = some u6 ∧ w.cell? ⟨b, 7, none⟩ = some u7 ∧ w.cell? ⟨b, 8, none⟩ = some u8 ∧ w.cell? ⟨b, 9, none⟩ = some u9 ∧ w.cell? ⟨b, 10, none⟩ = some u10 ∧ w.cell? ⟨b, 11, none⟩ = some u11) ∧
    (w.frozen? ⟨b, 2, none⟩ = false ∧ w.frozen? ⟨b, 3, none⟩ = false ∧ w.frozen? ⟨b, 4, none⟩ = false ∧ w.frozen? ⟨b, 5, none⟩ = false ∧ w.frozen? ⟨b, 6, none⟩ = false ∧ w.frozen? ⟨b, 7, none⟩ = false ∧ w.frozen? ⟨b, 8, none⟩ = false ∧ w.frozen? ⟨b, 9, none⟩ = false ∧ w.frozen? ⟨b, 10, none⟩ = false ∧ w.frozen? ⟨b, 11, none⟩ = false) := by
  simp [World.cell?, World.frozen?, h]

theorem ansAt_keep {V V' : World} {B mb : Nat} {r : Rn} {ve u6 u7 vt : Value} (A : AnsAt V B r ve u6 u7 vt) (h : mb < B ∨ V.heap.size ≤ mb) (K : Kept (fun j => j = mb) V V') : AnsAt V' B r ve u6 u7 vt :=
  ⟨ownsRow_keep A.evs (fun g hg => K.block g (ownsRow_blk A.evs hg) (fun e => by have := (A.evs.lt g hg); omega)), ownsRow_keep A.nodes (fun g hg => K.block g (ownsRow_blk A.nodes hg) (fun e => by have := (A.nodes.lt g hg); omega)), ownsRow_keep A.sigs (fun g hg => K.block g (ownsRow_blk A.sigs hg) (fun e => by have := (A.sigs.lt g hg); omega)), ownsRow_keep A.tks (fun g hg => K.block g (ownsRow_blk A.tks hg) (fun e => by have := (A.tks.lt g hg); omega))⟩

/-- What stands at V of an answer stays, where nothing from its base on is touched. -/
theorem ansAt_in {V V' : World} {B : Nat} {S : Nat → Prop} {r : Rn} {ve u6 u7 vt : Value} (A : AnsAt V B r ve u6 u7 vt) (h : ∀ g, B ≤ g → g < V.heap.size → ¬ S g) (K : Kept S V V') : AnsAt V' B r ve u6 u7 vt :=
  ⟨ownsRow_keep A.evs (fun g hg => K.block g (ownsRow_blk A.evs hg) (h g (A.evs.lt g hg).1 (A.evs.lt g hg).2)), ownsRow_keep A.nodes (fun g hg => K.block g (ownsRow_blk A.nodes hg) (h g (A.nodes.lt g hg).1 (A.nodes.lt g hg).2)), ownsRow_keep A.sigs (fun g hg => K.block g (ownsRow_blk A.sigs hg) (h g (A.sigs.lt g hg).1 (A.sigs.lt g hg).2)), ownsRow_keep A.tks (fun g hg => K.block g (ownsRow_blk A.tks hg) (h g (A.tks.lt g hg).1 (A.tks.lt g hg).2))⟩

theorem stepPost_open {w : World} {p : Rn × Int} {e : Ending} {w' : World} (h : StepPost w p e w') : ∃ (ve : Value) (a6 : Option Addr) (c6 : Nat) (a7 : Option Addr) (c7 : Nat) (vt : Value), e = .returned (.tuple #[ve, .agg #[.string (ansP p).st.dfn, .string (ansP p).st.id, .string (ansP p).st.par, .string (ansP p).st.pnode, .int .i64 (ansP p).st.status, .string (ansP p).st.text, .slice a6 (ansP p).st.nodes.length c6, .slice a7 (ansP p).st.sigs.length c7, .int .i64 (ansP p).st.events], vt, .int .i64 p.2]) ∧ AnsAt w' w.heap.size (ansP p) ve (.slice a6 (ansP p).st.nodes.length c6) (.slice a7 (ansP p).st.sigs.length c7) vt ∧ Kept (fun _ => False) w w' := by
  obtain ⟨ve, u6, u7, vt, he, A, K⟩ := h
  obtain ⟨a6, c6, rfl⟩ := ownsRow_shape A.nodes
  obtain ⟨a7, c7, rfl⟩ := ownsRow_shape A.sigs
  exact ⟨ve, a6, c6, a7, c7, vt, he, A, K⟩

def nineAtP (V : World) (pb : Nat) (t : St) (p6 p7 : Value) : World := ((((((((V.setCell ⟨pb, 2, none⟩ (.string t.dfn)).setCell ⟨pb, 3, none⟩ (.string t.id)).setCell ⟨pb, 4, none⟩ (.string t.par)).setCell ⟨pb, 5, none⟩ (.string t.pnode)).setCell ⟨pb, 6, none⟩ (.int .i64 t.status)).setCell ⟨pb, 7, none⟩ (.string t.text)).setCell ⟨pb, 8, none⟩ p6).setCell ⟨pb, 9, none⟩ p7).setCell ⟨pb, 10, none⟩ (.int .i64 t.events)

theorem nineAtP_blk {V : World} {pb : Nat} {T : TypeId} {u0 u1 u2 u3 u4 u5 u6 u7 u8 u9 u10 u11 p6 p7 : Value} {t : St} (h : V.heap[pb]? = some (.cells #[u0, u1, u2, u3, u4, u5, u6, u7, u8, u9, u10, u11] T (0, 0))) :
    (nineAtP V pb t p6 p7).heap[pb]? = some (.cells #[u0, u1, .string t.dfn, .string t.id, .string t.par, .string t.pnode, .int .i64 t.status, .string t.text, p6, p7, .int .i64 t.events, u11] T (0, 0)) := by
  unfold nineAtP
  simp [World.setCell, Array.getElem?_modify, h]

theorem nineAtP_kept {S : Nat → Prop} (V : World) {pb : Nat} (hS : S pb) (t : St) (p6 p7 : Value) : Kept S V (nineAtP V pb t p6 p7) := by
  unfold nineAtP
  exact ((((((((Kept.setCell _ _ _ hS).and (Kept.setCell _ _ _ hS)).and (Kept.setCell _ _ _ hS)).and (Kept.setCell _ _ _ hS)).and (Kept.setCell _ _ _ hS)).and (Kept.setCell _ _ _ hS)).and (Kept.setCell _ _ _ hS)).and (Kept.setCell _ _ _ hS)).and (Kept.setCell _ _ _ hS)

theorem evF_app (l m : List Ev) : evF (l ++ m) = evF l ++ evF m := by unfold evF; rw [List.flatMap_append]

/-- What is new may as well be left out. -/
theorem kept_old {w w' : World} {H : Nat → Prop} (K : Kept (fun g => H g ∨ w.heap.size ≤ g) w w') : Kept H w w' := (Kept.refl H w).trans K (fun _ h => h)

def playS (nm : ByteArray) (ns : List Nd) (s : St) (q : Inp) : St := if (stepP nm ns s q).2 = 0 then (stepP nm ns s q).1.st else s
def playL (nm : ByteArray) (ns : List Nd) (s : St) (l : List Ev) (q : Inp) : List Ev := if (stepP nm ns s q).2 = 0 then l ++ (stepP nm ns s q).1.evs else l

set_option maxRecDepth 100000 in
set_option maxHeartbeats 16000000 in
theorem input_any {w0 w : World} {H : Nat → Prop} {pb : Nat} {nm : ByteArray} {a : Option Addr} {c : Nat} {ns : List Nd} {s : St} {l : List Ev} {v6 v7 v11 : Value} (E : Env w0 w H a ns) (P : PlAt w H pb nm a ns.length c s l v6 v7 v11) (Z : Small s) (hl : l.length ≤ 100000000) (hn : ns.length ≤ 64) (hpos : 0 < ns.length) (SD : Sound ns) (MT : Met ns s) (q : Inp) (hq : q.name.size ≤ 100000000) (ht : q.text.size ≤ maxLen)
    (hev : (stepP nm ns s q).1.evs.length ≤ 1000000) (htk : (stepP nm ns s q).1.tks.length ≤ 1000000) (hns6 : (stepP nm ns s q).1.st.nodes.length ≤ 1000000) (hsg7 : (stepP nm ns s q).1.st.sigs.length ≤ 1000000) :
    Calls Tryd.prog 12 #[.pointer (some ⟨pb, 0, none⟩), inpV q] w fun e w' => e = .returned (.bool true) ∧ PlGoes w H pb nm a ns.length c (playS nm ns s q) (playL nm ns s l q) w' ∧ Kept (fun g => v11.ownBlock = some g ∨ g = pb) w w' := by
  obtain ⟨e0, hi, hz0, hz1, hz22⟩ := info_parts Tryd.info51
  obtain ⟨a6, c6, rfl⟩ := ownsRow_shape P.nodes
  obtain ⟨a7, c7, rfl⟩ := ownsRow_shape P.sigs
  obtain ⟨a11, c11, rfl⟩ := ownsRow_shape P.evs
  obtain ⟨p, hp⟩ : ∃ p, p = stepP nm ns s q := ⟨_, rfl⟩
  have hpS : playS nm ns s q = if p.2 = 0 then p.1.st else s := by unfold playS; rw [hp]
  have hpL : playL nm ns s l q = if p.2 = 0 then l ++ p.1.evs else l := by unfold playL; rw [hp]
  obtain ⟨sF, hsF⟩ : ∃ x, x = playS nm ns s q := ⟨_, rfl⟩
  obtain ⟨lF, hlF⟩ : ∃ x, x = playL nm ns s l q := ⟨_, rfl⟩
  rw [← hsF, ← hlF]
  have HSL : Hid ((p.2 = 0 → sF = p.1.st ∧ lF = l ++ p.1.evs) ∧ (p.2 ≠ 0 → sF = s ∧ lF = l)) := ⟨fun h => ⟨by rw [hsF, hpS, if_pos h], by rw [hlF, hpL, if_pos h]⟩, fun h => ⟨by rw [hsF, hpS, if_neg h], by rw [hlF, hpL, if_neg h]⟩⟩
  rw [← hp] at hev htk hns6 hsg7
  have K2 : Kept (fun _ => False) w ((w.alloc (.cells #[.int .i64 q.kind, .string q.node, .string q.name, .string q.text, .int .i64 q.tr, .int .i64 q.status, .int .i64 q.now, .string q.par, .string q.pnode] 39)).alloc (.cells #[.string s.dfn, .string s.id, .string s.par, .string s.pnode, .int .i64 s.status, .string s.text, .slice a6 s.nodes.length c6, .slice a7 s.sigs.length c7, .int .i64 s.events] 33)) := (Kept.alloc _ _ _).and (Kept.alloc _ _ _)
  obtain ⟨hN, hM, _⟩ := E.here
  have hlow : ∀ b o, a = some ⟨b, o, none⟩ → b < w.heap.size := fun b o h => Nat.lt_of_lt_of_le (E.low b o h) E.keep.size
  have hRd : StRd w s _ _ := ⟨flat_of_owns P.nodes, flat_of_owns P.sigs, by have := Z.nodes; omega, by have := Z.sigs; omega⟩
  have hA := fun V (KV : Kept (fun _ => False) w V) => Calls.mono (step_any V nm a c ns (keptNew KV hN) hn (fun b o h => Nat.lt_of_lt_of_le (hlow b o h) KV.size) E.names (hM.kept KV (fun h => h)) s _ _ (hRd.new KV) Z q hq ht) (fun e w' h => stepPost_open h)
  have hB := fun V (KV : Kept (fun _ => False) w V) => Calls.mono (refStep_any V nm a c ns (keptNew KV hN) hn (fun b o h => Nat.lt_of_lt_of_le (hlow b o h) KV.size) E.names (hM.kept KV (fun h => h)) s _ _ (hRd.new KV) Z q hq hpos SD MT) (fun e w' h => stepPost_open h)
  rw [← hp] at hA hB
  unfold stA inpV at hA hB
  simp only [] at hA hB
  have hI : ((w.alloc (.cells #[.int .i64 q.kind, .string q.node, .string q.name, .string q.text, .int .i64 q.tr, .int .i64 q.status, .int .i64 q.now, .string q.par, .string q.pnode] 39)).alloc (.cells #[.string s.dfn, .string s.id, .string s.par, .string s.pnode, .int .i64 s.status, .string s.text, .slice a6 s.nodes.length c6, .slice a7 s.sigs.length c7, .int .i64 s.events] 33)).heap[w.heap.size]? = some (.cells #[.int .i64 q.kind, .string q.node, .string q.name, .string q.text, .int .i64 q.tr, .int .i64 q.status, .int .i64 q.now, .string q.par, .string q.pnode] 39 (0, 0)) := ((Kept.alloc (fun _ => False) (w.alloc (.cells #[.int .i64 q.kind, .string q.node, .string q.name, .string q.text, .int .i64 q.tr, .int .i64 q.status, .int .i64 q.now, .string q.par, .string q.pnode] 39)) (.cells #[.string s.dfn, .string s.id, .string s.par, .string s.pnode, .int .i64 s.status, .string s.text, .slice a6 s.nodes.length c6, .slice a7 s.sigs.length c7, .int .i64 s.events] 33)).block w.heap.size (by simp) (fun h => h)).trans (heap_alloc_new w (.cells #[.int .i64 q.kind, .string q.node, .string q.name, .string q.text, .int .i64 q.tr, .int .i64 q.status, .int .i64 q.now, .string q.par, .string q.pnode] 39))
  have hW : ((w.alloc (.cells #[.int .i64 q.kind, .string q.node, .string q.name, .string q.text, .int .i64 q.tr, .int .i64 q.status, .int .i64 q.now, .string q.par, .string q.pnode] 39)).alloc (.cells #[.string s.dfn, .string s.id, .string s.par, .string s.pnode, .int .i64 s.status, .string s.text, .slice a6 s.nodes.length c6, .slice a7 s.sigs.length c7, .int .i64 s.events] 33)).heap[w.heap.size + 1]? = some (.cells #[.string s.dfn, .string s.id, .string s.par, .string s.pnode, .int .i64 s.status, .string s.text, .slice a6 s.nodes.length c6, .slice a7 s.sigs.length c7, .int .i64 s.events] 33 (0, 0)) := by
    have h := heap_alloc_new (w.alloc (.cells #[.int .i64 q.kind, .string q.node, .string q.name, .string q.text, .int .i64 q.tr, .int .i64 q.status, .int .i64 q.now, .string q.par, .string q.pnode] 39)) (.cells #[.string s.dfn, .string s.id, .string s.par, .string s.pnode, .int .i64 s.status, .string s.text, .slice a6 s.nodes.length c6, .slice a7 s.sigs.length c7, .int .i64 s.events] 33)
    rwa [World.size_alloc] at h
  have hp2 := (K2.block pb (P.top _ P.inP) (fun h => h)).trans P.blk
  obtain ⟨⟨x0, x1, x2, x3, x4, x5, x6, x7, x8, x9, x10, x11⟩, _⟩ := twelve P.blk
  have y2 := keepC (Kept.alloc (fun _ => False) w (.cells #[.int .i64 q.kind, .string q.node, .string q.name, .string q.text, .int .i64 q.tr, .int .i64 q.status, .int .i64 q.now, .string q.par, .string q.pnode] 39)) x2 (fun _ _ h => h)
  have y3 := keepC (Kept.alloc (fun _ => False) w (.cells #[.int .i64 q.kind, .string q.node, .string q.name, .string q.text, .int .i64 q.tr, .int .i64 q.status, .int .i64 q.now, .string q.par, .string q.pnode] 39)) x3 (fun _ _ h => h)
  have y4 := keepC (Kept.alloc (fun _ => False) w (.cells #[.int .i64 q.kind, .string q.node, .string q.name, .string q.text, .int .i64 q.tr, .int .i64 q.status, .int .i64 q.now, .string q.par, .string q.pnode] 39)) x4 (fun _ _ h => h)
  have y5 := keepC (Kept.alloc (fun _ => False) w (.cells #[.int .i64 q.kind, .string q.node, .string q.name, .string q.text, .int .i64 q.tr, .int .i64 q.status, .int .i64 q.now, .string q.par, .string q.pnode] 39)) x5 (fun _ _ h => h)
  have y6 := keepC (Kept.alloc (fun _ => False) w (.cells #[.int .i64 q.kind, .string q.node, .string q.name, .string q.text, .int .i64 q.tr, .int .i64 q.status, .int .i64 q.now, .string q.par, .string q.pnode] 39)) x6 (fun _ _ h => h)
  have y7 := keepC (Kept.alloc (fun _ => False) w (.cells #[.int .i64 q.kind, .string q.node, .string q.name, .string q.text, .int .i64 q.tr, .int .i64 q.status, .int .i64 q.now, .string q.par, .string q.pnode] 39)) x7 (fun _ _ h => h)
  have y8 := keepC (Kept.alloc (fun _ => False) w (.cells #[.int .i64 q.kind, .string q.node, .string q.name, .string q.text, .int .i64 q.tr, .int .i64 q.status, .int .i64 q.now, .string q.par, .string q.pnode] 39)) x8 (fun _ _ h => h)
  have y9 := keepC (Kept.alloc (fun _ => False) w (.cells #[.int .i64 q.kind, .string q.node, .string q.name, .string q.text, .int .i64 q.tr, .int .i64 q.status, .int .i64 q.now, .string q.par, .string q.pnode] 39)) x9 (fun _ _ h => h)
  have y10 := keepC (Kept.alloc (fun _ => False) w (.cells #[.int .i64 q.kind, .string q.node, .string q.name, .string q.text, .int .i64 q.tr, .int .i64 q.status, .int .i64 q.now, .string q.par, .string q.pnode] 39)) x10 (fun _ _ h => h)
  have HP := hid P
  have HZZ : Hid (s.nodes.length ≤ 1000000 ∧ s.sigs.length ≤ 1000000) := ⟨by have := Z.nodes; omega, by have := Z.sigs; omega⟩
  have HK2 := hid K2
  have HI := hid hI
  have HW := hid hW
  have HP2 := hid hp2
  have Hans : Hid (p.2 = 0 → ansP p = p.1) := fun h => by unfold ansP; rw [if_pos h]
  have hans6 : (ansP p).st.nodes.length ≤ 1000000 := by
    unfold ansP
    split
    · exact hns6
    · exact Nat.zero_le _
  have hans7 : (ansP p).st.sigs.length ≤ 1000000 := by
    unfold ansP
    split
    · exact hsg7
    · exact Nat.zero_le _
  have HA := hid hA
  have HB := hid hB
  unfold inpV
  clear P K2 hN hM hlow hRd hI hW hp2 E Z SD MT hq ht hp hpS hpL hsF hlF x0 x1 x2 x3 x4 x5 x6 x7 x8 x9 x10 x11 hA hB
  generalize hans : ansP p = t at *
  go_enter Tryd.func12, Tryd.ntmps12
  go_upto_region 2 with fail
  clear y2 y3 y4 y5 y6 y7 y8 y9 y10
  obtain ⟨⟨z0, z1, z2, z3, z4, z5, z6, z7, z8, z9, z10, z11⟩, _⟩ := twelve HP2.out
  obtain ⟨⟨i0, i1, i2, i3, i4, i5, i6, i7, i8⟩, _⟩ := nine HI.out
  refine wp_onlyN (pl2 (Q := fun B V ve u6 u7 vt => AnsAt V B t ve u6 u7 vt) _ z0 z1 z2 z3 z4 z5 z6 z7 z8 z9 z10 i0 i1 i2 i3 i4 i5 i6 i7 i8 (fun V KV => HA.out V (HK2.out.and ((Kept.drew _ _).and KV))) (fun B w1 w2 ve p6 p7 vt mb A h K => ansAt_keep A h K) ?_)
  intro _ _ _ _ _ _ _ _ _ _ _ _ _ _ _ mb B ve b6 d6 b7 d7 vt w3 hmb hB1 hbx A1 K3
  have HA1 := hid A1
  have HK3 := hid K3
  have HBX := hid hbx
  have hw23 := K3.size
  have hlt1 := (Array.getElem?_eq_some_iff.1 hbx).1
  clear z0 z1 z2 z3 z4 z5 z6 z7 z8 z9 z10 z11 i0 i1 i2 i3 i4 i5 i6 i7 i8 A1 K3 hbx
  obtain ⟨⟨z0, z1, z2, z3, z4, z5, z6, z7, z8, z9, z10, z11⟩, _⟩ := twelve ((HK3.out.block pb (Array.getElem?_eq_some_iff.1 HP2.out).1 (fun h => h)).trans HP2.out)
  obtain ⟨⟨i0, i1, i2, i3, i4, i5, i6, i7, i8⟩, _⟩ := nine ((HK3.out.block _ (Array.getElem?_eq_some_iff.1 HI.out).1 (fun h => h)).trans HI.out)
  go_upto_region 3 with fail
  refine wp_onlyN (pl3 (Q := fun B V ve u6 u7 vt => AnsAt V B t ve u6 u7 vt) _ z0 z1 z2 z3 z4 z5 z6 z7 z8 z9 z10 i0 i1 i2 i3 i4 i5 i6 i7 i8 (fun V KV => HB.out V ((HK2.out.and HK3.out).and ((Kept.drew _ _).and KV))) (fun B w1 w2 ve p6 p7 vt mb A h K => ansAt_keep A h K) ?_)
  intro _ _ _ _ _ _ _ _ _ _ _ _ _ _ _ mc B2 vb f6 g6 f7 g7 vu w4 hmc hB2 hbx2 A2 K4
  have HA2 := hid A2
  have HK4 := hid K4
  have HBX2 := hid hbx2
  have hlt2 := (Array.getElem?_eq_some_iff.1 hbx2).1
  clear z0 z1 z2 z3 z4 z5 z6 z7 z8 z9 z10 z11 i0 i1 i2 i3 i4 i5 i6 i7 i8 A2 K4 hbx2 HA HB HI
  have hw34 := HK4.out.size
  have HK24 := hid (HK3.out.and HK4.out)
  have HP4 := hid ((HK24.out.block pb (Array.getElem?_eq_some_iff.1 HP2.out).1 (fun h => h)).trans HP2.out)
  obtain ⟨⟨z0, z1, z2, z3, z4, z5, z6, z7, z8, z9, z10, z11⟩, _⟩ := twelve HP4.out
  obtain ⟨⟨j0, j1, j2, j3, j4, j5, j6, j7, j8⟩, _⟩ := nine ((HK24.out.block _ (Array.getElem?_eq_some_iff.1 HW.out).1 (fun h => h)).trans HW.out)
  obtain ⟨⟨r0, r1, r2, r3, r4, r5, r6, r7, r8⟩, _⟩ := nine ((HK4.out.block mb hlt1 (fun h => h)).trans HBX.out)
  obtain ⟨⟨s0, s1, s2, s3, s4, s5, s6, s7, s8⟩, _⟩ := nine HBX2.out
  obtain ⟨ea, ec, rfl⟩ := ownsRow_shape HA1.out.evs
  obtain ⟨ta, tc, rfl⟩ := ownsRow_shape HA1.out.tks
  obtain ⟨eb, ed, rfl⟩ := ownsRow_shape HA2.out.evs
  obtain ⟨tb, td, rfl⟩ := ownsRow_shape HA2.out.tks
  have A14 : AnsAt w4 B t _ _ _ _ := ansAt_in HA1.out (fun _ _ _ h => h) HK4.out
  have HA14 := hid A14
  have hRs : StRd w s _ _ := ⟨flat_of_owns HP.out.nodes, flat_of_owns HP.out.sigs, HZZ.out.1, HZZ.out.2⟩
  go_upto_region 4 with fail
  refine wp_onlyN (pl4 _ z2 z3 z4 z5 z6 z7 z8 z9 z10 j0 j1 j2 j3 j4 j5 j6 j7 j8 r0 r1 r2 r3 r4 r5 r6 r7 r8 s0 s1 s2 s3 s4 s5 s6 s7 s8
    (fun V KV => eventsSame_any V _ _ _ _ t.evs ((flat_of_owns HA14.out.evs).new ((Kept.drew _ _).and KV)) ((flat_of_owns HA2.out.evs).new ((Kept.drew _ _).and KV)))
    (fun V KV => stateSame_any V t.st _ _ _ _ _ _ _ _ (StRd.new ⟨flat_of_owns HA14.out.nodes, flat_of_owns HA14.out.sigs, hans6, hans7⟩ ((Kept.drew _ _).and KV)) (StRd.new ⟨flat_of_owns HA2.out.nodes, flat_of_owns HA2.out.sigs, hans6, hans7⟩ ((Kept.drew _ _).and KV)))
    (fun V KV => tasksSame_any V _ _ _ _ t.tks ((flat_of_owns HA14.out.tks).new ((Kept.drew _ _).and KV)) ((flat_of_owns HA2.out.tks).new ((Kept.drew _ _).and KV)))
    (fun V KV => stateSame_any V s _ _ _ _ _ _ _ _ (hRs.new ((HK2.out.and HK24.out).and ((Kept.drew _ _).and KV))) (hRs.new ((HK2.out.and HK24.out).and ((Kept.drew _ _).and KV)))) ?_)
  intro _ _ _ _ _ _ _ _ _ _ _ _ _ _ _ _ _ _ _ _ _ _ _ _ _ _ _ _ _ w5 K5
  have HK5 := hid K5
  clear z0 z1 z2 z3 z4 z5 z6 z7 z8 z9 z10 z11 j0 j1 j2 j3 j4 j5 j6 j7 j8 r0 r1 r2 r3 r4 r5 r6 r7 r8 s0 s1 s2 s3 s4 s5 s6 s7 s8 A14 K5 hRs
  have HKA := hid ((HK2.out.and HK24.out).and HK5.out)
  by_cases hz : p.2 = 0
  · have e1 : (p.2 != 0) = false := by rw [bne_eq_false_iff_eq]; exact hz
    obtain ⟨rfl, rfl⟩ := HSL.out.1 hz
    obtain rfl := Hans.out hz
    clear hz
    have hz2 := HK2.out.size
    have hpbw : pb < w.heap.size := HP.out.top _ HP.out.inP
    have A15 := ansAt_in HA14.out (fun _ _ _ h => h) HK5.out
    have A25 := ansAt_in HA2.out (fun _ _ _ h => h) HK5.out
    have hS6 := fun g hg => HA1.out.nodes.lt g hg
    have hS7 := fun g hg => HA1.out.sigs.lt g hg
    have hSe := fun g hg => HA1.out.evs.lt g hg
    have hSt := fun g hg => HA1.out.tks.lt g hg
    obtain ⟨⟨r0, r1, r2, r3, r4, r5, r6, r7, r8⟩, _⟩ := nine (((HK4.out.and HK5.out).block mb hlt1 (fun h => h)).trans HBX.out)
    have h1 := spoilState_any w5 p.1.st _ _ _ _ (ownsRow_low A15.nodes (Nat.zero_le _)) (ownsRow_low A15.sigs (Nat.zero_le _)) hans6 hans7
    have HA15 := hid A15
    have HA25 := hid A25
    clear A15 A25
    go_upto_region 9 with (first
      | (go_at_call 20; refine h1.mono ?_; rintro e w6 ⟨rfl, K6⟩; clear h1)
      | fail)
    have t6 := ownsRow_keep HA15.out.tks (fun g hg => K6.block g (ownsRow_blk HA15.out.tks hg) (fun h => h.elim (fun h => own_apart HA15.out.nodes HA15.out.tks (by decide) g h hg) (fun h => own_apart HA15.out.sigs HA15.out.tks (by decide) g h hg)))
    have v6 := ownsRow_keep HA15.out.evs (fun g hg => K6.block g (ownsRow_blk HA15.out.evs hg) (fun h => h.elim (fun h => own_apart HA15.out.nodes HA15.out.evs (by decide) g h hg) (fun h => own_apart HA15.out.sigs HA15.out.evs (by decide) g h hg)))
    have h2 := spoilTasks_any w6 _ _ _ _ (ownsRow_low t6 (Nat.zero_le _)) htk
    have HV6 := hid v6
    have HT6 := hid t6
    have HK6 : Hid (Kept (fun g => B ≤ g ∧ g < w3.heap.size) w5 w6) := K6.mono (fun g h => h.elim (hS6 g) (hS7 g))
    clear r0 r1 r2 r3 r4 r5 r6 r7 r8 K6 v6 t6
    go_upto_region 10 with (first
      | (go_at_call 34; refine h2.mono ?_; rintro e w7 ⟨rfl, K7⟩; clear h2)
      | fail)
    have v7 := ownsRow_keep HV6.out (fun g hg => K7.block g (ownsRow_blk HV6.out hg) (fun h => own_apart HT6.out HV6.out (by decide) g h hg))
    have h3 := spoilEvents_any w7 _ _ _ _ (ownsRow_low v7 (Nat.zero_le _)) hev
    have HK7 : Hid (Kept (fun g => B ≤ g ∧ g < w3.heap.size) w5 w7) := HK6.out.and (K7.mono (fun g h => hSt g h))
    clear K7 v7
    go_upto_region 11 with (first
      | (go_at_call 35; refine h3.mono ?_; rintro e w8 ⟨rfl, K8⟩; clear h3)
      | fail)
    have KS : Kept (fun g => B ≤ g ∧ g < w3.heap.size) w5 w8 := HK7.out.and (K8.mono (fun g h => hSe g h))
    have KW8 : Kept (fun g => w.heap.size ≤ g) w w8 := (HKA.out.mono (fun _ h => h.elim)).and (KS.mono (fun g h => by omega))
    have P8 := HP.out.new KW8
    have A28 := ansAt_in HA25.out (fun g h1 h2 h => by omega) KS
    have hbx8 := (KS.block mc (Nat.lt_of_lt_of_le hlt2 HK5.out.size) (by omega)).trans ((HK5.out.block mc hlt2 (fun h => h)).trans HBX2.out)
    obtain ⟨⟨z0, z1, z2, z3, z4, z5, z6, z7, z8, z9, z10, z11⟩, y2, y3, y4, y5, y6, y7, y8, y9, y10, y11⟩ := twelve P8.blk
    have hsr := (flat_of_owns A28.evs).src
    have h1c : ∀ u ∈ evF p.1.evs, u.oneCell' = true := evF_one _
    have HP8 := hid P8
    have HA28 := hid A28
    have HBX8 := hid hbx8
    have HKW8 := hid KW8
    have hpb8 : pb < w8.heap.size := Nat.lt_of_lt_of_le hpbw KW8.size
    have hmc8 := (Array.getElem?_eq_some_iff.1 hbx8).1
    clear KS KW8 P8 A28 hbx8 K8
    go_upto_region 12 with (first
      | (at_builtin; refine wpList_append_src _ rfl _ _ 34 rfl 0 51 e0 _ 4 48 Tryd.underlying34 hi hz0 hz1 hz22 rfl (by decide) (.slice a11 l.length c11) l.length _ rfl HP8.out.evs _ rfl p.1.evs.length _ hsr h1c (by unfold maxLen; omega) (by omega) (Nat.zero_le _) ?_; intro a9 cap9 w9 ho9 hg9 _ hl9; have KG := Kept.grown (S := fun g => (Value.slice a11 l.length c11).ownBlock = some g) hg9 (fun g e => e); have hb9 := (KG.block pb hpb8 (fun h => own_ne HP8.out.evs HP8.out.blk (by decide) _ h rfl)).trans HP8.out.blk; obtain ⟨⟨_, _, _, _, _, _, _, _, _, _, _, u11⟩, _, _, _, _, _, _, _, _, _, f11⟩ := twelve hb9)
      | fail)
    have hin11 : ∀ g, (Value.slice a11 l.length c11).ownBlock = some g → g < w.heap.size := fun g hg => HP.out.top g (HP.out.in11 g hg)
    have K9 : Kept (fun g => (Value.slice a11 l.length c11).ownBlock = some g ∨ g = pb) w8 (w9.setCell ⟨pb, 11, none⟩ (.slice a9 (l.length + p.1.evs.length) cap9)) := (KG.mono (fun g h => .inl h)).and (Kept.setCell _ _ _ (.inr rfl))
    have hb10 : (w9.setCell ⟨pb, 11, none⟩ (.slice a9 (l.length + p.1.evs.length) cap9)).heap[pb]? = some (.cells #[.string nm, .slice a ns.length c, .string s.dfn, .string s.id, .string s.par, .string s.pnode, .int .i64 s.status, .string s.text, .slice a6 s.nodes.length c6, .slice a7 s.sigs.length c7, .int .i64 s.events, .slice a9 (l.length + p.1.evs.length) cap9] 36 (0, 0)) := setB hb9 (o := 11) _
    have hne9 : ∀ g, (Value.slice a9 (l.length + p.1.evs.length) cap9).ownBlock = some g → g ≠ pb := own_ne ho9 hb9 (by decide)
    have o10 := ownsRow_keep ho9 (fun g hg => (Kept.setCell (S := fun j => j = pb) w9 ⟨pb, 11, none⟩ (.slice a9 (l.length + p.1.evs.length) cap9) rfl).block g (ownsRow_blk ho9 hg) (hne9 g hg))
    have hb9in : ∀ g, (Value.slice a9 (l.length + p.1.evs.length) cap9).ownBlock = some g → H g ∨ w.heap.size ≤ g := fun g hg => by
      rcases hl9 with h | h
      · exact .inl (HP.out.in11 g (h ▸ hg))
      · have h2 : some g = some w8.heap.size := by rw [← hg]; exact h
        have h3 := Option.some.inj h2
        have h4 := HKW8.out.size
        exact .inr (by omega)
    have A10 := ansAt_in HA28.out (fun g h1 h2 h => by
      rcases h with h | h
      · have := hin11 g h; omega
      · omega) K9
    have hbx10 := (K9.block mc hmc8 (fun h => by
      rcases h with h | h
      · have := hin11 mc h; omega
      · omega)).trans HBX8.out
    have HA10 := hid A10
    have HO10 := hid o10
    have HB10 := hid hb10
    have HK9 := hid K9
    have hw10 := K9.size
    clear z0 z1 z2 z3 z4 z5 z6 z7 z8 z9 z10 z11 y2 y3 y4 y5 y6 y7 y8 y9 y10 y11 hsr h1c ho9 hg9 hl9 KG hb9 u11 f11 K9 hb10 o10 A10
    generalize w9.setCell ⟨pb, 11, none⟩ (.slice a9 (l.length + p.1.evs.length) cap9) = wx at *
    obtain ⟨⟨z0, z1, z2, z3, z4, z5, z6, z7, z8, z9, z10, z11⟩, y2, y3, y4, y5, y6, y7, y8, y9, y10, y11⟩ := twelve HB10.out
    obtain ⟨⟨s0, s1, s2, s3, s4, s5, s6, s7, s8⟩, _⟩ := nine hbx10
    have hmp : mc ≠ pb := by omega
    have hmp' : pb ≠ mc := by omega
    go_wp2_with fail
    go_ret
    refine ⟨rfl, ?_⟩
    have KF := nineAtP_kept (S := fun j => j = pb) wx rfl p.1.st (.slice f6 p.1.st.nodes.length g6) (.slice f7 p.1.st.sigs.length g7)
    have hzF : (nineAtP wx pb p.1.st (.slice f6 p.1.st.nodes.length g6) (.slice f7 p.1.st.sigs.length g7)).heap.size = wx.heap.size := by unfold nineAtP; simp [World.setCell]
    have KHF : Kept H w (nineAtP wx pb p.1.st (.slice f6 p.1.st.nodes.length g6) (.slice f7 p.1.st.sigs.length g7)) := kept_old ((HKW8.out.mono (fun g h => .inr h)).trans (HK9.out.and (KF.mono (fun g h => .inr h))) (fun g h => by
      rcases h with h | h
      · exact .inl (.inl (HP.out.in11 g h))
      · exact .inl (.inl (h ▸ HP.out.inP))))
    have KVV : Kept (fun g => (Value.slice a11 l.length c11).ownBlock = some g ∨ g = pb) w (nineAtP wx pb p.1.st (.slice f6 p.1.st.nodes.length g6) (.slice f7 p.1.st.sigs.length g7)) := kept_old ((HKW8.out.mono (fun g h => .inr h)).trans (HK9.out.and (KF.mono (fun g h => .inr h))) (fun g h => .inl (.inl h)))
    refine ⟨⟨⟨fun g => H g ∨ (w.heap.size ≤ g ∧ g < wx.heap.size), .slice f6 p.1.st.nodes.length g6, .slice f7 p.1.st.sigs.length g7, .slice a9 (l.length + p.1.evs.length) cap9, ⟨nineAtP_blk HB10.out, ?_, ?_, ?_, .inl HP.out.inP, fun g hg => .inr ?_, fun g hg => .inr ?_, fun g hg => ?_, fun g h => ?_⟩, fun g h => h.imp (fun h => h) (fun h => h.1)⟩, KHF⟩, KVV⟩
    · exact ownsRow_low (ownsRow_keep HA10.out.nodes (fun g hg => KF.block g (ownsRow_blk HA10.out.nodes hg) (fun h => by have := (HA10.out.nodes.lt g hg).1; omega))) (Nat.zero_le _)
    · exact ownsRow_low (ownsRow_keep HA10.out.sigs (fun g hg => KF.block g (ownsRow_blk HA10.out.sigs hg) (fun h => by have := (HA10.out.sigs.lt g hg).1; omega))) (Nat.zero_le _)
    · have h := ownsRow_keep HO10.out (fun g hg => KF.block g (ownsRow_blk HO10.out hg) (hne9 g hg))
      rw [List.length_append, evF_app]
      exact h
    · have := HA10.out.nodes.lt g hg
      exact ⟨by omega, this.2⟩
    · have := HA10.out.sigs.lt g hg
      exact ⟨by omega, this.2⟩
    · exact (hb9in g hg).imp (fun h => h) (fun h => ⟨h, ownsRow_blk HO10.out hg⟩)
    · show g < (nineAtP _ _ _ _ _).heap.size
      rw [hzF]
      rcases h with h | h
      · exact Nat.lt_of_lt_of_le (HP.out.top g h) (by have := HKW8.out.size; omega)
      · exact h.2
  · have e1 : (p.2 != 0) = true := by rw [bne_iff_ne]; exact hz
    obtain ⟨rfl, rfl⟩ := HSL.out.2 hz
    clear hz
    go_wp2_with fail
    go_ret
    refine ⟨rfl, ?_⟩
    exact ⟨⟨⟨H, _, _, _, HP.out.new (HKA.out.mono (fun _ h => h.elim)), fun g h => .inl h⟩, HKA.out.mono (fun _ h => h.elim)⟩, HKA.out.mono (fun _ h => h.elim)⟩

end Go.Proofs.YtfjekjbkifmpfaaDoor.Rf

/-
  A play as the laws have it: behind k inputs.
-/
namespace Go.Proofs.YtfjekjbkifmpfaaDoor.Rf
open Go.RowKit

/-- A play behind k inputs; all that it has lies above w2's end. -/
def PlSt (w2 wr : World) (pb : Nat) (nm : ByteArray) (a : Option Addr) (c : Nat) (ns : List Nd) (k : Nat) (s : St) (l : List Ev) : Prop :=
  (∃ (H : Nat → Prop) (v6 v7 v11 : Value), Env w2 wr H a ns ∧ PlAt wr H pb nm a ns.length c s l v6 v7 v11) ∧ MOk ns k s ∧ l.length ≤ 400000 * k

theorem PlSt.new {w2 wr wr' : World} {pb : Nat} {nm : ByteArray} {a : Option Addr} {c : Nat} {ns : List Nd} {k : Nat} {s : St} {l : List Ev} (X : PlSt w2 wr pb nm a c ns k s l) (K : Kept (fun _ => False) wr wr') : PlSt w2 wr' pb nm a c ns k s l := by
  obtain ⟨⟨H, v6, v7, v11, E, P⟩, M, hl⟩ := X
  exact ⟨⟨H, v6, v7, v11, E.new K, P.new (K.mono (fun _ h => h.elim))⟩, M, hl⟩

theorem PlSt.keep {w2 wr : World} {pb : Nat} {nm : ByteArray} {a : Option Addr} {c : Nat} {ns : List Nd} {k : Nat} {s : St} {l : List Ev} (X : PlSt w2 wr pb nm a c ns k s l) : Kept (fun _ => False) w2 wr := by
  obtain ⟨⟨H, v6, v7, v11, E, P⟩, M, hl⟩ := X
  exact (Kept.refl (fun _ => False) w2).trans E.keep (fun _ h => .inr h)

theorem PlSt.start {w2 : World} {nm : ByteArray} {a : Option Addr} {c : Nat} {ns : List Nd} (D : DefAt w2 a ns) :
    PlSt w2 (w2.alloc (.cells #[.string nm, .slice a ns.length c, .string ⟨#[]⟩, .string ⟨#[]⟩, .string ⟨#[]⟩, .string ⟨#[]⟩, .int .i64 0, .string ⟨#[]⟩, .slice none 0 0, .slice none 0 0, .int .i64 0, .slice none 0 0] 36)) w2.heap.size nm a c ns 0 zeroSt [] := by
  refine ⟨⟨fun g => g = w2.heap.size, .slice none 0 0, .slice none 0 0, .slice none 0 0, ⟨D.nodes, by have := D.few; omega, D.low, D.names, D.moves, fun g h => Nat.le_of_eq h.symm, Kept.alloc _ _ _⟩, ⟨heap_alloc_new _ _, World.ownsRow_nil _ _ _ _, World.ownsRow_nil _ _ _ _, World.ownsRow_nil _ _ _ _, rfl, fun g h => (by cases h), fun g h => (by cases h), fun g h => (by cases h), fun g h => ?_⟩⟩, MOk.zero ns, Nat.zero_le _⟩
  rw [World.size_alloc]
  have h : g = w2.heap.size := h
  omega

theorem play_input {w2 wr : World} {pb : Nat} {nm : ByteArray} {a : Option Addr} {c : Nat} {ns : List Nd} {k : Nat} {s : St} {l : List Ev} (X : PlSt w2 wr pb nm a c ns k s l) (T : Taken nm ns) (hk : k ≤ 200) (q : Inp) (hq : q.name.size ≤ 300) (ht : q.text.size ≤ maxLen) :
    Calls Tryd.prog 12 #[.pointer (some ⟨pb, 0, none⟩), inpV q] wr fun e w' => e = .returned (.bool true) ∧ PlSt w2 w' pb nm a c ns (k + 1) (playS nm ns s q) (playL nm ns s l q) ∧ Kept (fun g => w2.heap.size ≤ g) wr w' ∧ ∀ (vw : Value) (n : Nat) (xs : List Value), wr.ownsRow 0 61 3 vw n xs → w'.ownsRow 0 61 3 vw n xs := by
  obtain ⟨⟨H, v6, v7, v11, E, P⟩, M, hl⟩ := X
  have hi := T.hi
  have hlo := T.lo
  have Z := M.small hk
  have F := stepP_fit (nm := nm) (ns := ns) (by omega) Z q (by omega)
  refine (input_any E P Z (by omega) (by omega) hlo T.sound M.met q (by omega) ht (by have := F.evs; omega) (by have := F.tks; omega) F.nodes (by have := F.sigs; omega)).mono ?_
  rintro e w' ⟨rfl, ⟨⟨H', u6, u7, u11, P', hH⟩, K⟩, KVV⟩
  have hM := M.step (nm := nm) T.sound hi q hq
  refine ⟨rfl, ⟨⟨H', u6, u7, u11, ⟨E.nodes, E.few, E.low, E.names, E.moves, fun g h => (hH g h).elim (E.high g) (fun h => Nat.le_trans E.keep.size h), E.keep.and (K.mono E.high)⟩, P'⟩, ?_, ?_⟩, K.mono E.high, fun vw n xs hw => ownsRow_keep hw (fun g hg => KVV.block g (ownsRow_blk hw hg) (fun h => h.elim (fun h => own_apart P.evs hw (by decide) g h hg) (fun h => own_ne hw P.blk (by decide) g hg h)))⟩
  · unfold playS
    split
    · exact hM
    · exact M.next
  · unfold playL
    have := F.evs
    split
    · rw [List.length_append]; omega
    · omega

end Go.Proofs.YtfjekjbkifmpfaaDoor.Rf
