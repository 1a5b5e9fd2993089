/-
  signal, start.
-/
import Derived.Test.YtfjekjbkifmpfaaDoorG29
namespace Go.Proofs.YtfjekjbkifmpfaaDoor
open Go.RowKit

theorem RAt.setId {w : World} {H : Nat → Prop} {rb : Nat} {nm : ByteArray} {a : Option Addr} {n c : Nat} {r : Rn} (R : RAt w H rb nm a n c r) (x : ByteArray) : RAt (w.setCell ⟨rb, 3, none⟩ (.string x)) H rb nm a n c { r with st := { r.st with id := x } } ∧ Kept H w (w.setCell ⟨rb, 3, none⟩ (.string x)) := by
  obtain ⟨F, G, v6, v7, v12, v13, RN, hH, ht⟩ := R
  have KS : Kept (fun j => j = rb) w (w.setCell ⟨rb, 3, none⟩ (.string x)) := Kept.setCell _ _ _ rfl
  have hz : (w.setCell ⟨rb, 3, none⟩ (.string x)).heap.size = w.heap.size := by simp [World.setCell]
  have hFr := RN.st.inS
  have hb := blk_set RN.st.blk (so := 2) rfl (j := 1) (by simp [stL]) (.string x)
  have hG : ∀ g, G g → g ≠ rb := fun g hg h => RN.out g hg (h ▸ hFr)
  refine ⟨⟨F, G, v6, v7, v12, v13, ⟨⟨hb, RN.st.off, ownsRow_keep RN.st.nodes (fun g hg => KS.block g (ownsRow_blk RN.st.nodes hg) (RN.st.in6 g hg).2), ownsRow_keep RN.st.sigs (fun g hg => KS.block g (ownsRow_blk RN.st.sigs hg) (RN.st.in7 g hg).2), hFr, RN.st.in6, RN.st.in7, fun g h => by rw [hz]; exact RN.st.top g h⟩, ownsRow_keep RN.evs (fun g hg => KS.block g (ownsRow_blk RN.evs hg) (hG g (RN.in12 g hg))), ownsRow_keep RN.tks (fun g hg => KS.block g (ownsRow_blk RN.tks hg) (hG g (RN.in13 g hg))), RN.in12, RN.in13, RN.out, fun g h => by rw [hz]; exact RN.topG g h⟩, hH, fun g h => by rw [hz]; exact ht g h⟩, KS.mono (fun j h => h ▸ hH rb (.inl hFr))⟩

section
variable {w0 w : World} {H : Nat → Prop} {rb : Nat} {nm : ByteArray} {a : Option Addr} {c : Nat} {ns : List Nd} {r : Rn} {m : Nat}

set_option maxRecDepth 100000 in
set_option maxHeartbeats 8000000 in
theorem start_any (E : Env w0 w H a ns) (R : RAt w H rb nm a ns.length c r) (F : Fit r m) (hn : ns.length ≤ 64) (h6 : r.st.nodes.length ≤ 64) (hm : m ≤ 100000) (q : Inp) (hq : q.name.size ≤ 100000000) :
    Calls Tryd.prog 52 #[.pointer (some ⟨rb, 0, none⟩), inpV q] w (DoPost w H rb nm a ns.length c (startP nm ns r q)) := by
  unfold inpV
  have KA := Kept.alloc (fun _ => False) w (.cells #[.int .i64 q.kind, .string q.node, .string q.name, .string q.text, .int .i64 q.tr, .int .i64 q.status, .int .i64 q.now, .string q.par, .string q.pnode] 39)
  have qb := heap_alloc_new w (.cells #[.int .i64 q.kind, .string q.node, .string q.name, .string q.text, .int .i64 q.tr, .int .i64 q.status, .int .i64 q.now, .string q.par, .string q.pnode] 39)
  obtain ⟨_, _, y2, _, _, _, _, y7, y8⟩ := nineQ qb
  have R1 := R.new KA
  have E1 := E.new KA
  obtain ⟨v6, v7, v12, v13, hb, _, _, hHr, _, htop⟩ := R1.opened
  obtain ⟨_, _, _, x3, _, _, x6, _⟩ := runCells hb
  have fz : (w.alloc (.cells #[.int .i64 q.kind, .string q.node, .string q.name, .string q.text, .int .i64 q.tr, .int .i64 q.status, .int .i64 q.now, .string q.par, .string q.pnode] 39)).frozen? ⟨rb, 3, none⟩ = false := by simp [World.frozen?, hb]
  have hlt : rb < w.heap.size := by obtain ⟨_, _, _, _, _, _, _, hH, ht⟩ := R; exact ht rb hHr
  have HKA := hid KA
  have HR := hid R
  have HE := hid E
  clear R E KA htop
  by_cases hs : r.st.status = 0
  · have e0 : (r.st.status != 0) = false := by simp [hs]
    obtain ⟨R2, K2⟩ := HR.out.setId q.name
    have KB := Kept.alloc (fun _ => False) (w.setCell ⟨rb, 3, none⟩ (.string q.name)) (.cells #[.int .i64 q.kind, .string q.node, .string q.name, .string q.text, .int .i64 q.tr, .int .i64 q.status, .int .i64 q.now, .string q.par, .string q.pnode] 39)
    have E2 : Env w0 (w.setCell ⟨rb, 3, none⟩ (.string q.name)) H a ns := ⟨HE.out.nodes, HE.out.few, HE.out.low, HE.out.names, HE.out.moves, HE.out.high, HE.out.keep.and (K2.mono HE.out.high)⟩
    have F2 : Fit { r with st := { r.st with id := q.name } } m := ⟨hq, F.nodes, F.sigs, F.ev0, F.ev1, F.evs, F.tks⟩
    have hT := tell0 (E2.new KB) (R2.new KB) F2 hm ⟨1, q.pnode, q.par, 0⟩
    have HW := hid (show startP nm ns r q = (goOnP nm ns (tellP nm ns { r with st := { r.st with id := q.name } } ⟨1, q.pnode, q.par, 0⟩ []), 0) by unfold startP; rw [if_neg (by simp [hs])])
    have HE2 := hid (E2.new KB)
    have HF2 := hid F2
    have HK2 := hid K2
    have HKB := hid KB
    clear hs R1 E1 R2 E2 F2 K2 hb qb hHr KB
    go_enter Tryd.func52, Tryd.ntmps52
    go_wp2_with (first
      | (go_at_call 73; refine hT.mono ?_; rintro e w6 ⟨rfl, X6⟩; clear hT; have hG := goOn_tell0 HE2.out HF2.out hn h6 hm X6; clear X6)
      | (go_at_call 74; refine hG.mono ?_; rintro e w7 ⟨rfl, X7⟩; clear hG)
      | fail)
    go_ret
    refine ⟨by rw [HW.out]; rfl, ?_⟩
    rw [HW.out]
    exact (X7.first HKB.out).trans (fun g h => .inl h) HK2.out
  · have e0 : (r.st.status != 0) = true := by simp [hs]
    have HW := hid (show startP nm ns r q = (r, 7) by unfold startP; rw [if_pos hs])
    clear hs R1 E1 hb qb hHr
    go_enter Tryd.func52, Tryd.ntmps52
    go_wp2_with fail
    go_ret
    refine ⟨by rw [HW.out]; rfl, ?_⟩
    rw [HW.out]
    exact RGoes.keep HR.out HKA.out

set_option maxRecDepth 100000 in
set_option maxHeartbeats 8000000 in
theorem signal_any (E : Env w0 w H a ns) (R : RAt w H rb nm a ns.length c r) (F : Fit r m) (hn : ns.length ≤ 64) (h6 : r.st.nodes.length ≤ 64) (hm : m ≤ 100000) (q : Inp) :
    Calls Tryd.prog 53 #[.pointer (some ⟨rb, 0, none⟩), inpV q] w (DoPost w H rb nm a ns.length c (signalP nm ns r q)) := by
  unfold inpV
  have KA := Kept.alloc (fun _ => False) w (.cells #[.int .i64 q.kind, .string q.node, .string q.name, .string q.text, .int .i64 q.tr, .int .i64 q.status, .int .i64 q.now, .string q.par, .string q.pnode] 39)
  have qb := heap_alloc_new w (.cells #[.int .i64 q.kind, .string q.node, .string q.name, .string q.text, .int .i64 q.tr, .int .i64 q.status, .int .i64 q.now, .string q.par, .string q.pnode] 39)
  have hN := name_any (w.alloc (.cells #[.int .i64 q.kind, .string q.node, .string q.name, .string q.text, .int .i64 q.tr, .int .i64 q.status, .int .i64 q.now, .string q.par, .string q.pnode] 39)) q.name
  have hWt := busyWait_any (E.new KA) (R.new KA) q.name
  obtain ⟨_, _, y2, y3, _⟩ := nineQ qb
  have HC : Hid (∀ w5, Kept (fun _ => False) (w.alloc (.cells #[.int .i64 q.kind, .string q.node, .string q.name, .string q.text, .int .i64 q.tr, .int .i64 q.status, .int .i64 q.now, .string q.par, .string q.pnode] 39)) w5 → (w5.cell? ⟨w.heap.size, 2, none⟩ = some (.string q.name) ∧ w5.cell? ⟨w.heap.size, 3, none⟩ = some (.string q.text))) := fun w5 K5 => ⟨keepC K5 y2 (fun _ _ h => h), keepC K5 y3 (fun _ _ h => h)⟩
  have HKA := hid KA
  have HE := hid E
  have HR := hid R
  have HF := hid F
  clear E R F KA qb
  by_cases hnm : nameP q.name = false
  · have HW := hid (show signalP nm ns r q = (r, 17) by unfold signalP; rw [if_pos hnm])
    rw [hnm] at hN
    clear hnm hWt
    go_enter Tryd.func53, Tryd.ntmps53
    go_wp2_with (first
      | (go_at_call 75; refine hN.mono ?_; rintro e w4 ⟨rfl, hw4⟩; subst w4; clear hN)
      | fail)
    go_ret
    refine ⟨by rw [HW.out]; rfl, ?_⟩
    rw [HW.out]
    exact RGoes.keep HR.out HKA.out
  have hnt : nameP q.name = true := by simpa using hnm
  rw [hnt] at hN
  by_cases hb : 256 < q.text.size
  · have e0 : (256 : Int) < (q.text.size : Int) := by omega
    have HW := hid (show signalP nm ns r q = (r, 9) by unfold signalP; rw [if_neg hnm, if_pos hb])
    clear hnm hnt hb hWt
    go_enter Tryd.func53, Tryd.ntmps53
    go_wp2_with (first
      | (go_at_call 75; refine hN.mono ?_; rintro e w4 ⟨rfl, hw4⟩; subst w4; clear hN)
      | fail)
    go_ret
    refine ⟨by rw [HW.out]; rfl, ?_⟩
    rw [HW.out]
    exact RGoes.keep HR.out HKA.out
  have e0 : ¬ (256 : Int) < (q.text.size : Int) := by omega
  cases hbw : busyWaitP ns r.st q.name with
  | some i =>
    have HW := hid (show signalP nm ns r q = (goOnP nm ns (tellP nm ns r ⟨12, nmAt ns i, q.text, 0⟩ []), 0) by unfold signalP; rw [if_neg hnm, if_neg hb, hbw])
    have hwn : waitNm ns r.st q.name = nmAt ns i := by unfold waitNm; rw [hbw]
    rw [hwn, hbw] at hWt
    simp only [Option.isSome_some] at hWt
    generalize nmAt ns i = wn at *
    clear hnm hnt hb hbw hwn
    go_enter Tryd.func53, Tryd.ntmps53
    go_wp2_with (first
      | (go_at_call 75; refine hN.mono ?_; rintro e w4 ⟨rfl, hw4⟩; subst w4; clear hN)
      | (go_at_call 76; refine hWt.mono ?_; rintro e w5 ⟨rfl, K5⟩; clear hWt; obtain ⟨z2, z3⟩ := HC.out w5 K5; have KK := HKA.out.and K5; have HE5 := hid (HE.out.new KK); have hT := tell0 (HE.out.new KK) (HR.out.new KK) HF.out hm ⟨12, wn, q.text, 0⟩)
      | (go_at_call 73; refine hT.mono ?_; rintro e w6 ⟨rfl, X6⟩; clear hT; have hG := goOn_tell0 HE5.out HF.out hn h6 hm X6; clear X6)
      | (go_at_call 74; refine hG.mono ?_; rintro e w7 ⟨rfl, X7⟩; clear hG)
      | fail)
    go_ret
    refine ⟨by rw [HW.out]; rfl, ?_⟩
    rw [HW.out]
    exact X7.first KK
  | none =>
    have hsg : signalP nm ns r q = if 32 ≤ r.st.sigs.length then (r, 8) else (tellP nm ns r ⟨13, q.name, q.text, 0⟩ [], 0) := by unfold signalP; rw [if_neg hnm, if_neg hb, hbw]
    rw [hbw] at hWt
    simp only [Option.isSome_none] at hWt
    have HC9 : Hid (∀ w5, Kept (fun _ => False) w w5 → ∃ a7 c7, w5.cell? ⟨rb, 9, none⟩ = some (.slice a7 r.st.sigs.length c7)) := fun w5 KK => by
      obtain ⟨v6, v7, v12, v13, hb5, _, hn7, _⟩ := (HR.out.new KK).opened
      obtain ⟨a7, c7, rfl⟩ := ownsRow_shape hn7
      obtain ⟨_, _, _, _, _, _, _, _, _, x9, _⟩ := runCells hb5
      exact ⟨a7, c7, x9⟩
    generalize waitNm ns r.st q.name = wn at *
    have hsl := HF.out.sigs
    by_cases h32 : 32 ≤ r.st.sigs.length
    · rw [if_pos h32] at hsg
      have HW := hid hsg
      have e3 : (32 : Int) ≤ (r.st.sigs.length : Int) := by omega
      clear hnm hnt hb hbw hsg h32
      go_enter Tryd.func53, Tryd.ntmps53
      go_wp2_with (first
        | (go_at_call 75; refine hN.mono ?_; rintro e w4 ⟨rfl, hw4⟩; subst w4; clear hN)
        | (go_at_call 76; refine hWt.mono ?_; rintro e w5 ⟨rfl, K5⟩; clear hWt; obtain ⟨z2, z3⟩ := HC.out w5 K5; have KK := HKA.out.and K5; obtain ⟨a7, c7, x9⟩ := HC9.out w5 KK)
        | fail)
      go_ret
      refine ⟨by rw [HW.out]; rfl, ?_⟩
      rw [HW.out]
      exact RGoes.keep HR.out KK
    · rw [if_neg h32] at hsg
      have HW := hid hsg
      have e3 : ¬ (32 : Int) ≤ (r.st.sigs.length : Int) := by omega
      clear hnm hnt hb hbw hsg h32
      go_enter Tryd.func53, Tryd.ntmps53
      go_wp2_with (first
        | (go_at_call 75; refine hN.mono ?_; rintro e w4 ⟨rfl, hw4⟩; subst w4; clear hN)
        | (go_at_call 76; refine hWt.mono ?_; rintro e w5 ⟨rfl, K5⟩; clear hWt; obtain ⟨z2, z3⟩ := HC.out w5 K5; have KK := HKA.out.and K5; obtain ⟨a7, c7, x9⟩ := HC9.out w5 KK; have hT := tell0 (HE.out.new KK) (HR.out.new KK) HF.out hm ⟨13, q.name, q.text, 0⟩)
        | (go_at_call 73; refine hT.mono ?_; rintro e w7 ⟨rfl, X7⟩; clear hT)
        | fail)
      go_ret
      refine ⟨by rw [HW.out]; rfl, ?_⟩
      rw [HW.out]
      exact X7.first KK

end

end Go.Proofs.YtfjekjbkifmpfaaDoor
