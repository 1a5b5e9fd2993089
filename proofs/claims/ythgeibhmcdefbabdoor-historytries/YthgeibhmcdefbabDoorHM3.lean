/-
  signal, start.
-/
import Derived.Test.YthgeibhmcdefbabDoorHM2
namespace Go.Proofs.YthgeibhmcdefbabDoor
open Go.RowKit

theorem RAt.setId {w : World} {H : Nat → Prop} {rb : Nat} {nm : ByteArray} {a : Option Addr} {n c : Nat} {r : Rn} (R : RAt w H rb nm a n c r) (x : ByteArray) : RAt (w.setCell ⟨rb, 3, none⟩ (.string x)) H rb nm a n c { r with st := { r.st with id := x } } ∧ Kept H w (w.setCell ⟨rb, 3, none⟩ (.string x)) := by
  obtain ⟨F, G, v6, v7, v12, v13, RN, hH, ht⟩ := R
  have KS : Kept (fun j => j = rb) w (w.setCell ⟨rb, 3, none⟩ (.string x)) := Kept.setCell _ _ _ rfl
  have hz : (w.setCell ⟨rb, 3, none⟩ (.string x)).heap.size = w.heap.size := by simp [World.setCell]
  have hFr := RN.st.inS
  have hb := blk_set RN.st.blk (so := 2) rfl (j := 1) (by simp [stL]) (.string x)
  have hG : ∀ g, G g → g ≠ rb := fun g hg h => RN.out g hg (h ▸ hFr)
  refine ⟨⟨F, G, v6, v7, v12, v13, ⟨⟨hb, RN.st.off, ownsRow_keep RN.st.nodes (fun g hg => KS.block g (ownsRow_blk RN.st.nodes hg) (RN.st.in6 g hg).2), ownsRow_keep RN.st.sigs (fun g hg => KS.block g (ownsRow_blk RN.st.sigs hg) (RN.st.in7 g hg).2), hFr, RN.st.in6, RN.st.in7, fun g h => by rw [hz]; exact RN.st.top g h⟩, ownsRow_keep RN.evs (fun g hg => KS.block g (ownsRow_blk RN.evs hg) (hG g (RN.in12 g hg))), ownsRow_keep RN.tks (fun g hg => KS.block g (ownsRow_blk RN.tks hg) (hG g (RN.in13 g hg))), RN.in12, RN.in13, RN.out, fun g h => by rw [hz]; exact RN.topG g h⟩, hH, fun g h => by rw [hz]; exact ht g h⟩, KS.mono (fun j h => h ▸ hH rb (.inl hFr))⟩

section
variable {w0 w : World} {H : Nat → Prop} {rb : Nat} {nm : ByteArray} {a : Option Addr} {c : Nat} {ns : List Nd} {r : Rn} {m : Nat}

set_option maxRecDepth 100000 in
set_option maxHeartbeats 8000000 in
theorem start_any (E : Env w0 w H a ns) (R : RAt w H rb nm a ns.length c r) (F : Fit r m) (hn : ns.length ≤ 64) (h6 : r.st.nodes.length ≤ 64) (hm : m ≤ 100000) (q : Inp) (hq : q.name.size ≤ 100000000) :
    Calls Tryd.prog 36 #[.pointer (some ⟨rb, 0, none⟩), inpV q] w (DoPost w H rb nm a ns.length c (startP nm ns r q)) := by
  unfold inpV
  have KA := Kept.alloc (fun _ => False) w (.cells #[.int .i64 q.kind, .string q.node, .string q.name, .string q.text, .int .i64 q.tr, .int .i64 q.status, .int .i64 q.now, .string q.par, .string q.pnode] 38)
  have qb := heap_alloc_new w (.cells #[.int .i64 q.kind, .string q.node, .string q.name, .string q.text, .int .i64 q.tr, .int .i64 q.status, .int .i64 q.now, .string q.par, .string q.pnode] 38)
  obtain ⟨_, _, y2, _, _, _, _, y7, y8⟩ := nineQ qb
  have R1 := R.new KA
  have E1 := E.new KA
  obtain ⟨v6, v7, v12, v13, hb, _, _, hHr, _, htop⟩ := R1.opened
  obtain ⟨_, _, _, x3, _, _, x6, _⟩ := runCells hb
  have fz : (w.alloc (.cells #[.int .i64 q.kind, .string q.node, .string q.name, .string q.text, .int .i64 q.tr, .int .i64 q.status, .int .i64 q.now, .string q.par, .string q.pnode] 38)).frozen? ⟨rb, 3, none⟩ = false := by simp [World.frozen?, hb]
  have hlt : rb < w.heap.size := by obtain ⟨_, _, _, _, _, _, _, hH, ht⟩ := R; exact ht rb hHr
  have HKA := hid KA
  have HR := hid R
  have HE := hid E
  clear R E KA htop
  by_cases hs : r.st.status = 0
  · have e0 : (r.st.status != 0) = false := by simp [hs]
    obtain ⟨R2, K2⟩ := HR.out.setId q.name
    have KB := Kept.alloc (fun _ => False) (w.setCell ⟨rb, 3, none⟩ (.string q.name)) (.cells #[.int .i64 q.kind, .string q.node, .string q.name, .string q.text, .int .i64 q.tr, .int .i64 q.status, .int .i64 q.now, .string q.par, .string q.pnode] 38)
    have E2 : Env w0 (w.setCell ⟨rb, 3, none⟩ (.string q.name)) H a ns := ⟨HE.out.nodes, HE.out.few, HE.out.low, HE.out.names, HE.out.moves, HE.out.high, HE.out.keep.and (K2.mono HE.out.high)⟩
    have F2 : Fit { r with st := { r.st with id := q.name } } m := ⟨hq, F.nodes, F.sigs, F.ev0, F.ev1, F.evs, F.tks⟩
    have hT := tell0 (E2.new KB) (R2.new KB) F2 hm ⟨1, q.pnode, q.par, 0⟩
    have HW := hid (show startP nm ns r q = (goOnP nm ns (tellP nm ns { r with st := { r.st with id := q.name } } ⟨1, q.pnode, q.par, 0⟩ []), 0) by unfold startP; rw [if_neg (by simp [hs])])
    have HE2 := hid (E2.new KB)
    have HF2 := hid F2
    have HK2 := hid K2
    have HKB := hid KB
    clear hs R1 E1 R2 E2 F2 K2 hb qb hHr KB
    go_enter Tryd.func36, Tryd.ntmps36
    go_wp2_with (first
      | (go_at_call 54; refine hT.mono ?_; rintro e w6 ⟨rfl, X6⟩; clear hT; have hG := goOn_tell0 HE2.out HF2.out hn h6 hm X6; clear X6)
      | (go_at_call 55; refine hG.mono ?_; rintro e w7 ⟨rfl, X7⟩; clear hG)
      | fail)
    go_ret
    refine ⟨by rw [HW.out]; rfl, ?_⟩
    rw [HW.out]
    exact (X7.first HKB.out).trans (fun g h => .inl h) HK2.out
  · have e0 : (r.st.status != 0) = true := by simp [hs]
    have HW := hid (show startP nm ns r q = (r, 7) by unfold startP; rw [if_pos hs])
    clear hs R1 E1 hb qb hHr
    go_enter Tryd.func36, Tryd.ntmps36
    go_wp2_with fail
    go_ret
    refine ⟨by rw [HW.out]; rfl, ?_⟩
    rw [HW.out]
    exact RGoes.keep HR.out HKA.out

set_option maxRecDepth 100000 in
set_option maxHeartbeats 8000000 in
theorem signal_any (E : Env w0 w H a ns) (R : RAt w H rb nm a ns.length c r) (F : Fit r m) (hn : ns.length ≤ 64) (h6 : r.st.nodes.length ≤ 64) (hm : m ≤ 100000) (q : Inp) :
    Calls Tryd.prog 37 #[.pointer (some ⟨rb, 0, none⟩), inpV q] w (DoPost w H rb nm a ns.length c (signalP nm ns r q)) := by
  unfold inpV
  have KA := Kept.alloc (fun _ => False) w (.cells #[.int .i64 q.kind, .string q.node, .string q.name, .string q.text, .int .i64 q.tr, .int .i64 q.status, .int .i64 q.now, .string q.par, .string q.pnode] 38)
  have qb := heap_alloc_new w (.cells #[.int .i64 q.kind, .string q.node, .string q.name, .string q.text, .int .i64 q.tr, .int .i64 q.status, .int .i64 q.now, .string q.par, .string q.pnode] 38)
  have hN := name_any (w.alloc (.cells #[.int .i64 q.kind, .string q.node, .string q.name, .string q.text, .int .i64 q.tr, .int .i64 q.status, .int .i64 q.now, .string q.par, .string q.pnode] 38)) q.name
  have hWt := busyWait_any (E.new KA) (R.new KA) q.name
  obtain ⟨_, _, y2, y3, _⟩ := nineQ qb
  have HC : Hid (∀ w5, Kept (fun _ => False) (w.alloc (.cells #[.int .i64 q.kind, .string q.node, .string q.name, .string q.text, .int .i64 q.tr, .int .i64 q.status, .int .i64 q.now, .string q.par, .string q.pnode] 38)) w5 → (w5.cell? ⟨w.heap.size, 2, none⟩ = some (.string q.name) ∧ w5.cell? ⟨w.heap.size, 3, none⟩ = some (.string q.text))) := fun w5 K5 => ⟨keepC K5 y2 (fun _ _ h => h), keepC K5 y3 (fun _ _ h => h)⟩
  have HKA := hid KA
  have HE := hid E
  have HR := hid R
  have HF := hid F
  clear E R F KA qb
  by_cases hnm : nameP q.name = false
  · have HW := hid (show signalP nm ns r q = (r, 17) by unfold signalP; rw [if_pos hnm])
    rw [hnm] at hN
    clear hnm hWt
    go_enter Tryd.func37, Tryd.ntmps37
    go_wp2_with (first
      | (go_at_call 56; refine hN.mono ?_; rintro e w4 ⟨rfl, hw4⟩; subst w4; clear hN)
      | fail)
    go_ret
    refine ⟨by rw [HW.out]; rfl, ?_⟩
    rw [HW.out]
    exact RGoes.keep HR.out HKA.out
  have hnt : nameP q.name = true := by simpa using hnm
  rw [hnt] at hN
  by_cases hb : 256 < q.text.size
  · have e0 : (256 : Int) < (q.text.size : Int) := by omega
    have HW := hid (show signalP nm ns r q = (r, 9) by unfold signalP; rw [if_neg hnm, if_pos hb])
    clear hnm hnt hb hWt
    go_enter Tryd.func37, Tryd.ntmps37
    go_wp2_with (first
      | (go_at_call 56; refine hN.mono ?_; rintro e w4 ⟨rfl, hw4⟩; subst w4; clear hN)
      | fail)
    go_ret
    refine ⟨by rw [HW.out]; rfl, ?_⟩
    rw [HW.out]
    exact RGoes.keep HR.out HKA.out
  have e0 : ¬ (256 : Int) < (q.text.size : Int) := by omega
  cases hbw : busyWaitP ns r.st q.name with
  | some i =>
    have HW := hid (show signalP nm ns r q = (goOnP nm ns (tellP nm ns r ⟨12, nmAt ns i, q.text, 0⟩ []), 0) by unfold signalP; rw [if_neg hnm, if_neg hb, hbw])
    have hwn : waitNm ns r.st q.name = nmAt ns i := by unfold waitNm; rw [hbw]
    rw [hwn, hbw] at hWt
    simp only [Option.isSome_some] at hWt
    generalize nmAt ns i = wn at *
    clear hnm hnt hb hbw hwn
    go_enter Tryd.func37, Tryd.ntmps37
    go_wp2_with (first
      | (go_at_call 56; refine hN.mono ?_; rintro e w4 ⟨rfl, hw4⟩; subst w4; clear hN)
      | (go_at_call 57; refine hWt.mono ?_; rintro e w5 ⟨rfl, K5⟩; clear hWt; obtain ⟨z2, z3⟩ := HC.out w5 K5; have KK := HKA.out.and K5; have HE5 := hid (HE.out.new KK); have hT := tell0 (HE.out.new KK) (HR.out.new KK) HF.out hm ⟨12, wn, q.text, 0⟩)
      | (go_at_call 54; refine hT.mono ?_; rintro e w6 ⟨rfl, X6⟩; clear hT; have hG := goOn_tell0 HE5.out HF.out hn h6 hm X6; clear X6)
      | (go_at_call 55; refine hG.mono ?_; rintro e w7 ⟨rfl, X7⟩; clear hG)
      | fail)
    go_ret
    refine ⟨by rw [HW.out]; rfl, ?_⟩
    rw [HW.out]
    exact X7.first KK
  | none =>
    have hsg : signalP nm ns r q = if 32 ≤ r.st.sigs.length then (r, 8) else (tellP nm ns r ⟨13, q.name, q.text, 0⟩ [], 0) := by unfold signalP; rw [if_neg hnm, if_neg hb, hbw]
    rw [hbw] at hWt
    simp only [Option.isSome_none] at hWt
    have HC9 : Hid (∀ w5, Kept (fun _ => False) w w5 → ∃ a7 c7, w5.cell? ⟨rb, 9, none⟩ = some (.slice a7 r.st.sigs.length c7)) := fun w5 KK => by
      obtain ⟨v6, v7, v12, v13, hb5, _, hn7, _⟩ := (HR.out.new KK).opened
      obtain ⟨a7, c7, rfl⟩ := ownsRow_shape hn7
      obtain ⟨_, _, _, _, _, _, _, _, _, x9, _⟩ := runCells hb5
      exact ⟨a7, c7, x9⟩
    generalize waitNm ns r.st q.name = wn at *
    have hsl := HF.out.sigs
    by_cases h32 : 32 ≤ r.st.sigs.length
    · rw [if_pos h32] at hsg
      have HW := hid hsg
      have e3 : (32 : Int) ≤ (r.st.sigs.length : Int) := by omega
      clear hnm hnt hb hbw hsg h32
      go_enter Tryd.func37, Tryd.ntmps37
      go_wp2_with (first
        | (go_at_call 56; refine hN.mono ?_; rintro e w4 ⟨rfl, hw4⟩; subst w4; clear hN)
        | (go_at_call 57; refine hWt.mono ?_; rintro e w5 ⟨rfl, K5⟩; clear hWt; obtain ⟨z2, z3⟩ := HC.out w5 K5; have KK := HKA.out.and K5; obtain ⟨a7, c7, x9⟩ := HC9.out w5 KK)
        | fail)
      go_ret
      refine ⟨by rw [HW.out]; rfl, ?_⟩
      rw [HW.out]
      exact RGoes.keep HR.out KK
    · rw [if_neg h32] at hsg
      have HW := hid hsg
      have e3 : ¬ (32 : Int) ≤ (r.st.sigs.length : Int) := by omega
      clear hnm hnt hb hbw hsg h32
      go_enter Tryd.func37, Tryd.ntmps37
      go_wp2_with (first
        | (go_at_call 56; refine hN.mono ?_; rintro e w4 ⟨rfl, hw4⟩; subst w4; clear hN)
        | (go_at_call 57; refine hWt.mono ?_; rintro e w5 ⟨rfl, K5⟩; clear hWt; obtain ⟨z2, z3⟩ := HC.out w5 K5; have KK := HKA.out.and K5; obtain ⟨a7, c7, x9⟩ := HC9.out w5 KK; have hT := tell0 (HE.out.new KK) (HR.out.new KK) HF.out hm ⟨13, q.name, q.text, 0⟩)
        | (go_at_call 54; refine hT.mono ?_; rintro e w7 ⟨rfl, X7⟩; clear hT)
        | fail)
      go_ret
      refine ⟨by rw [HW.out]; rfl, ?_⟩
      rw [HW.out]
      exact X7.first KK

end

end Go.Proofs.YthgeibhmcdefbabDoor

/-
  take.
-/
namespace Go.Proofs.YthgeibhmcdefbabDoor
open Go.RowKit

set_option maxRecDepth 100000 in
set_option maxHeartbeats 8000000 in
theorem take_any {w0 w : World} {H : Nat → Prop} {rb : Nat} {nm : ByteArray} {a : Option Addr} {c : Nat} {ns : List Nd} {r : Rn} {m : Nat} (E : Env w0 w H a ns) (R : RAt w H rb nm a ns.length c r) (F : Fit r m) (hm : m ≤ 100000) (q : Inp) :
    Calls Tryd.prog 38 #[.pointer (some ⟨rb, 0, none⟩), inpV q] w (DoPost w H rb nm a ns.length c (takeP nm ns r q)) := by
  have KA : Kept (fun _ => False) w ((w.alloc (.cells #[.int .i64 q.kind, .string q.node, .string q.name, .string q.text, .int .i64 q.tr, .int .i64 q.status, .int .i64 q.now, .string q.par, .string q.pnode] 38)).alloc (.cells #[.int .i64 1] 3)) := (Kept.alloc _ _ _).and (Kept.alloc _ _ _)
  have hB := rfind_any (E.new KA) (R.new KA) F (by omega) q.node (some ⟨(w.alloc (.cells #[.int .i64 q.kind, .string q.node, .string q.name, .string q.text, .int .i64 q.tr, .int .i64 q.status, .int .i64 q.now, .string q.par, .string q.pnode] 38)).heap.size, 0, none⟩) 1 [1] (by decide) (cells1_new _ 1 _)
  rw [World.size_alloc, show ([1] : List Int).length = 1 from rfl] at hB
  unfold inpV
  have qq := (Kept.alloc (fun _ => False) (w.alloc (.cells #[.int .i64 q.kind, .string q.node, .string q.name, .string q.text, .int .i64 q.tr, .int .i64 q.status, .int .i64 q.now, .string q.par, .string q.pnode] 38)) (.cells #[.int .i64 1] 3)).block w.heap.size (by rw [World.size_alloc]; omega) (fun h => h) |>.trans (heap_alloc_new w (.cells #[.int .i64 q.kind, .string q.node, .string q.name, .string q.text, .int .i64 q.tr, .int .i64 q.status, .int .i64 q.now, .string q.par, .string q.pnode] 38))
  have HQ := hid qq
  have HKA := hid KA
  have HE := hid E
  have HR := hid R
  have HF := hid F
  have Ht : Hid (∀ g, H g → g < w.heap.size) := by obtain ⟨_, _, _, _, _, _, _, _, ht⟩ := R; exact ht
  clear E R F KA qq
  cases hk : findK ns r.st q.node [1] with
  | none =>
    have HW := hid (show takeP nm ns r q = (r, 6) by unfold takeP; rw [hk])
    rw [hk] at hB
    simp only [Option.isSome_none] at hB
    generalize (findP ns q.node).getD 0 = j at *
    clear hk
    go_enter Tryd.func38, Tryd.ntmps38
    go_wp2_with (first
      | (go_at_call 58; refine hB.mono ?_; rintro e w5 ⟨rfl, K5⟩; clear hB)
      | fail)
    go_ret
    refine ⟨by rw [HW.out]; rfl, ?_⟩
    rw [HW.out]
    exact RGoes.keep HR.out (HKA.out.and K5)
  | some i =>
    obtain ⟨h1, h6, hfp, _⟩ := findK_some hk
    have htk : takeP nm ns r q = if (r.st.nodes[i]).status = 1 then (tellP nm ns r ⟨3, q.node, ⟨#[]⟩, IntKind.i64.wrap ((r.st.nodes[i]).tr + 1)⟩ (alarmL r q ns[i] (IntKind.i64.wrap ((r.st.nodes[i]).tr + 1))), 0) else (r, 12) := by
      unfold takeP
      rw [hk]
      dsimp only
      rw [List.getElem?_eq_getElem h1, List.getElem?_eq_getElem h6]
    have HT := hid htk
    rw [hk, hfp] at hB
    simp only [Option.isSome_some, Option.getD_some] at hB
    have e1 : (i : Int) < (ns.length : Int) := by omega
    have e6 : (i : Int) < (r.st.nodes.length : Int) := by omega
    have cells : ∀ w5, Kept (fun _ => False) w w5 → ∃ b o g n6 c6, w5.cell? ⟨rb, 1, none⟩ = some (.slice (some ⟨b, o, none⟩) ns.length c) ∧ w5.cell? ⟨b, o + i * 7 + 4, none⟩ = some (.int .i64 (ns[i]).delay) ∧ w5.cell? ⟨rb, 8, none⟩ = some (.slice (some ⟨g, 0, none⟩) n6 c6) ∧ n6 = r.st.nodes.length ∧ w5.cell? ⟨g, i * 3, none⟩ = some (.int .i64 (r.st.nodes[i]).status) ∧ w5.cell? ⟨g, i * 3 + 1, none⟩ = some (.int .i64 (r.st.nodes[i]).tr) ∧ w5.cell? ⟨rb, 11, none⟩ = some (.int .i64 r.now) := fun w5 KK => by
      obtain ⟨v6, v7, v12, v13, hb, hn6, _, _, _, _⟩ := (HR.out.new KK).opened
      obtain ⟨_, x1, _, _, _, _, _, _, x8, _, _, x11⟩ := runCells hb
      obtain ⟨b, o, av, cv, hae, hT, _, _, _, _, c4, _⟩ := (keptNew KK HE.out.here.1).at h1
      subst hae
      obtain ⟨g, cg, hv, _, _, hrow⟩ := row_at hn6 (by omega)
      subst hv
      exact ⟨b, o, g, _, cg, x1, c4, x8, rfl, (hrow _ _ (nsF_get h6).1).1, (hrow _ _ (nsF_get h6).2.1).1, x11⟩
    have HC := hid cells
    have HQ1 : Hid (∀ w5, Kept (fun _ => False) ((w.alloc (.cells #[.int .i64 q.kind, .string q.node, .string q.name, .string q.text, .int .i64 q.tr, .int .i64 q.status, .int .i64 q.now, .string q.par, .string q.pnode] 38)).alloc (.cells #[.int .i64 1] 3)) w5 → w5.cell? ⟨w.heap.size, 1, none⟩ = some (.string q.node)) := fun w5 K5 => (nineQ ((K5.block w.heap.size (Array.getElem?_eq_some_iff.1 HQ.out).1 (fun h => h)).trans HQ.out)).2.1
    clear hk hfp htk cells HQ
    unfold alarmL at HT
    generalize (r.st.nodes[i]).tr = zt at *
    obtain ⟨z1, hz1⟩ : ∃ z1, IntKind.i64.wrap (zt + 1) = z1 := ⟨_, rfl⟩
    rw [hz1] at HT
    by_cases hs : (r.st.nodes[i]).status = 1
    · have e2 : ((r.st.nodes[i]).status != 1) = false := by simp [hs]
      rw [if_pos hs] at HT
      clear hs
      by_cases hd : 0 < (ns[i]).delay
      · rw [if_pos hd] at HT
        obtain ⟨z2, hz2⟩ : ∃ z2, IntKind.i64.wrap (r.now + (ns[i]).delay) = z2 := ⟨_, rfl⟩
        rw [hz2] at HT
        have Hz2 := hid hz2
        clear hz2
        generalize (ns[i]).delay = zd at *
        generalize (r.st.nodes[i]).status = zs at *
        go_enter Tryd.func38, Tryd.ntmps38
        go_upto_region 10 with (first
          | (go_at_call 58; refine hB.mono ?_; rintro e w5 ⟨rfl, K5⟩; clear hB; have KK := HKA.out.and K5; obtain ⟨b, o, g, n6, c6, x1, x4, x8, hn6, xs, xt, x11⟩ := HC.out w5 KK; subst hn6; have y1 := HQ1.out w5 K5)
          | fail)
        refine wp_onlyN (tk10 (z := z2) _ y1 x11 Hz2.out ?_)
        intro _ _ _ _ _ _ _ _ _ _ _ _ _ a4 c4 w6 O6 K6
        have hT := tellE (HE.out.new (KK.and K6)) (HR.out.new (KK.and K6)) HF.out (by omega) ⟨3, q.node, ⟨#[]⟩, z1⟩ [⟨2, ⟨#[]⟩, q.node, z1, z2, zeroMl⟩] a4 c4 (flat_of_owns (by rw [show tkF [(⟨2, ⟨#[]⟩, q.node, z1, z2, zeroMl⟩ : Tk)] = tkC ⟨2, ⟨#[]⟩, q.node, z1, z2, zeroMl⟩ by simp [tkF]]; exact O6)) (by simp) (fun g hg hh => absurd (Ht.out g hh) (Nat.not_lt.2 (Nat.le_trans KK.size (own_slBlk O6 hg))))
        rw [show ([(⟨2, ⟨#[]⟩, q.node, z1, z2, zeroMl⟩ : Tk)]).length = 1 from rfl] at hT
        dsimp only at hT
        have y1' := keepC K6 y1 (fun _ _ h => h)
        have HKK := hid (KK.and K6)
        clear y1 x1 x4 x8 xs xt x11 O6 K6 KK
        go_wp2_with (first
          | (go_at_call 54; refine hT.mono ?_; rintro e w7 ⟨rfl, X7⟩; clear hT)
          | fail)
        go_ret
        refine ⟨by rw [HT.out]; rfl, ?_⟩
        rw [HT.out]
        exact X7.first HKK.out
      · rw [if_neg hd] at HT
        generalize (ns[i]).delay = zd at *
        generalize (r.st.nodes[i]).status = zs at *
        have hT := fun V KV => tellE (HE.out.new KV) (HR.out.new (w' := V) KV) HF.out (by omega) ⟨3, q.node, ⟨#[]⟩, z1⟩ [] none 0 (flat_none V) (by decide) (fun g h => by cases h)
        dsimp only [List.length_nil] at hT
        go_enter Tryd.func38, Tryd.ntmps38
        go_wp2_with (first
          | (go_at_call 58; refine hB.mono ?_; rintro e w5 ⟨rfl, K5⟩; clear hB; have KK := HKA.out.and K5; obtain ⟨b, o, g, n6, c6, x1, x4, x8, hn6, xs, xt, x11⟩ := HC.out w5 KK; subst hn6; have y1 := HQ1.out w5 K5; have hT5 := hT w5 KK; clear hT)
          | (go_at_call 54; refine hT5.mono ?_; rintro e w7 ⟨rfl, X7⟩; clear hT5)
          | fail)
        go_ret
        refine ⟨by rw [HT.out]; rfl, ?_⟩
        rw [HT.out]
        exact X7.first KK
    · have e2 : ((r.st.nodes[i]).status != 1) = true := by simp [hs]
      rw [if_neg hs] at HT
      clear hs
      generalize (r.st.nodes[i]).status = zs at *
      go_enter Tryd.func38, Tryd.ntmps38
      go_wp2_with (first
        | (go_at_call 58; refine hB.mono ?_; rintro e w5 ⟨rfl, K5⟩; clear hB; have KK := HKA.out.and K5; obtain ⟨b, o, g, n6, c6, x1, x4, x8, hn6, xs, xt, x11⟩ := HC.out w5 KK; subst hn6; have y1 := HQ1.out w5 K5)
        | fail)
      go_ret
      refine ⟨by rw [HT.out]; rfl, ?_⟩
      rw [HT.out]
      exact RGoes.keep HR.out KK

end Go.Proofs.YthgeibhmcdefbabDoor

/-
  do: an input, by its kind.
-/
namespace Go.Proofs.YthgeibhmcdefbabDoor
open Go.RowKit

section
variable {w0 w : World} {H : Nat → Prop} {rb : Nat} {nm : ByteArray} {a : Option Addr} {c : Nat} {ns : List Nd} {r : Rn} {m : Nat}

set_option maxRecDepth 100000 in
set_option maxHeartbeats 8000000 in
theorem do_any (E : Env w0 w H a ns) (R : RAt w H rb nm a ns.length c r) (F : Fit r m) (hn : ns.length ≤ 64) (h6 : r.st.nodes.length ≤ 64) (hm : m ≤ 100000) (q : Inp) (hq : q.name.size ≤ 100000000) (ht : q.text.size ≤ maxLen) :
    Calls Tryd.prog 27 #[.pointer (some ⟨rb, 0, none⟩), inpV q] w (DoPost w H rb nm a ns.length c (doP nm ns r q)) := by
  have KA := Kept.alloc (fun _ => False) w (.cells #[.int .i64 q.kind, .string q.node, .string q.name, .string q.text, .int .i64 q.tr, .int .i64 q.status, .int .i64 q.now, .string q.par, .string q.pnode] 38)
  have R1 := R.new KA
  have E1 := E.new KA
  obtain ⟨v6, v7, v12, v13, hb, _⟩ := R1.opened
  obtain ⟨_, _, _, _, _, _, x6, _⟩ := runCells hb
  have HKA := hid KA
  have HR := hid R
  clear R E KA hb
  by_cases k1 : q.kind = 1
  · have HW := hid (show doP nm ns r q = startP nm ns r q by unfold doP; rw [if_pos k1])
    have e1 : (q.kind == 1) = true := by simp [k1]
    have hD := start_any E1 R1 F hn h6 hm q hq
    unfold inpV at hD ⊢
    clear k1 E1 R1 x6
    go_enter Tryd.func27, Tryd.ntmps27
    go_wp2_with (first
      | (go_at_call 36; refine hD.mono ?_; rintro e w7 ⟨rfl, X7⟩; clear hD)
      | fail)
    go_ret
    refine ⟨by rw [HW.out]; rfl, ?_⟩
    rw [HW.out]
    exact X7.first HKA.out
  have e1 : (q.kind == 1) = false := by simp [k1]
  by_cases s0 : r.st.status = 0
  · have HW := hid (show doP nm ns r q = (r, 6) by unfold doP; rw [if_neg k1, if_pos s0])
    have f0 : (r.st.status == 0) = true := by simp [s0]
    unfold inpV
    clear k1 s0 E1 R1
    go_enter Tryd.func27, Tryd.ntmps27
    go_wp2_with fail
    go_ret
    refine ⟨by rw [HW.out]; rfl, ?_⟩
    rw [HW.out]
    exact RGoes.keep HR.out HKA.out
  have f0 : (r.st.status == 0) = false := by simp [s0]
  by_cases s1 : r.st.status = 1
  rotate_left
  · have HW := hid (show doP nm ns r q = (r, 11) by unfold doP; rw [if_neg k1, if_neg s0, if_pos s1])
    have f1 : (r.st.status != 1) = true := by simp [s1]
    unfold inpV
    clear k1 s0 s1 E1 R1
    go_enter Tryd.func27, Tryd.ntmps27
    go_wp2_with fail
    go_ret
    refine ⟨by rw [HW.out]; rfl, ?_⟩
    rw [HW.out]
    exact RGoes.keep HR.out HKA.out
  have f1 : (r.st.status != 1) = false := by simp [s1]
  by_cases k2 : q.kind = 2
  · have HW := hid (show doP nm ns r q = signalP nm ns r q by unfold doP; rw [if_neg k1, if_neg s0, if_neg (fun h => h s1), if_pos k2])
    have e2 : (q.kind == 2) = true := by simp [k2]
    have hD := signal_any E1 R1 F hn h6 hm q
    unfold inpV at hD ⊢
    clear k1 s0 s1 k2 E1 R1
    go_enter Tryd.func27, Tryd.ntmps27
    go_wp2_with (first
      | (go_at_call 37; refine hD.mono ?_; rintro e w7 ⟨rfl, X7⟩; clear hD)
      | fail)
    go_ret
    refine ⟨by rw [HW.out]; rfl, ?_⟩
    rw [HW.out]
    exact X7.first HKA.out
  have e2 : (q.kind == 2) = false := by simp [k2]
  by_cases k3 : q.kind = 3
  · have HW := hid (show doP nm ns r q = takeP nm ns r q by unfold doP; rw [if_neg k1, if_neg s0, if_neg (fun h => h s1), if_neg k2, if_pos k3])
    have e3 : (q.kind == 3) = true := by simp [k3]
    have hD := take_any E1 R1 F hm q
    unfold inpV at hD ⊢
    clear k1 s0 s1 k2 k3 E1 R1
    go_enter Tryd.func27, Tryd.ntmps27
    go_wp2_with (first
      | (go_at_call 38; refine hD.mono ?_; rintro e w7 ⟨rfl, X7⟩; clear hD)
      | fail)
    go_ret
    refine ⟨by rw [HW.out]; rfl, ?_⟩
    rw [HW.out]
    exact X7.first HKA.out
  have e3 : (q.kind == 3) = false := by simp [k3]
  by_cases k4 : q.kind = 4
  · have HW := hid (show doP nm ns r q = completeP nm ns r q by unfold doP; rw [if_neg k1, if_neg s0, if_neg (fun h => h s1), if_neg k2, if_neg k3, if_pos k4])
    have e4 : (q.kind == 4) = true := by simp [k4]
    have hD := complete_any E1 R1 F hn h6 hm q
    unfold inpV at hD ⊢
    clear k1 s0 s1 k2 k3 k4 E1 R1
    go_enter Tryd.func27, Tryd.ntmps27
    go_wp2_with (first
      | (go_at_call 39; refine hD.mono ?_; rintro e w7 ⟨rfl, X7⟩; clear hD)
      | fail)
    go_ret
    refine ⟨by rw [HW.out]; rfl, ?_⟩
    rw [HW.out]
    exact X7.first HKA.out
  have e4 : (q.kind == 4) = false := by simp [k4]
  by_cases k5 : q.kind = 5
  · have HW := hid (show doP nm ns r q = failP nm ns r q by unfold doP; rw [if_neg k1, if_neg s0, if_neg (fun h => h s1), if_neg k2, if_neg k3, if_neg k4, if_pos k5])
    have e5 : (q.kind == 5) = true := by simp [k5]
    have hD := fail_any E1 R1 F hn hm q
    unfold inpV at hD ⊢
    clear k1 s0 s1 k2 k3 k4 k5 E1 R1
    go_enter Tryd.func27, Tryd.ntmps27
    go_wp2_with (first
      | (go_at_call 40; refine hD.mono ?_; rintro e w7 ⟨rfl, X7⟩; clear hD)
      | fail)
    go_ret
    refine ⟨by rw [HW.out]; rfl, ?_⟩
    rw [HW.out]
    exact X7.first HKA.out
  have e5 : (q.kind == 5) = false := by simp [k5]
  by_cases k6 : q.kind = 6
  · have HW := hid (show doP nm ns r q = fireP nm ns r q by unfold doP; rw [if_neg k1, if_neg s0, if_neg (fun h => h s1), if_neg k2, if_neg k3, if_neg k4, if_neg k5, if_pos k6])
    have e6 : (q.kind == 6) = true := by simp [k6]
    have hD := fire_any E1 R1 F hn h6 hm q
    unfold inpV at hD ⊢
    clear k1 s0 s1 k2 k3 k4 k5 k6 E1 R1
    go_enter Tryd.func27, Tryd.ntmps27
    go_wp2_with (first
      | (go_at_call 41; refine hD.mono ?_; rintro e w7 ⟨rfl, X7⟩; clear hD)
      | fail)
    go_ret
    refine ⟨by rw [HW.out]; rfl, ?_⟩
    rw [HW.out]
    exact X7.first HKA.out
  have e6 : (q.kind == 6) = false := by simp [k6]
  by_cases k7 : q.kind = 7
  · have HW := hid (show doP nm ns r q = kidP nm ns r q by unfold doP; rw [if_neg k1, if_neg s0, if_neg (fun h => h s1), if_neg k2, if_neg k3, if_neg k4, if_neg k5, if_neg k6, if_pos k7])
    have e7 : (q.kind == 7) = true := by simp [k7]
    have hD := child_any E1 R1 F hn h6 hm q
    unfold inpV at hD ⊢
    clear k1 s0 s1 k2 k3 k4 k5 k6 k7 E1 R1
    go_enter Tryd.func27, Tryd.ntmps27
    go_wp2_with (first
      | (go_at_call 42; refine hD.mono ?_; rintro e w7 ⟨rfl, X7⟩; clear hD)
      | fail)
    go_ret
    refine ⟨by rw [HW.out]; rfl, ?_⟩
    rw [HW.out]
    exact X7.first HKA.out
  have e7 : (q.kind == 7) = false := by simp [k7]
  by_cases k8 : q.kind = 8
  · have HW := hid (show doP nm ns r q = cancelP nm ns r q by unfold doP; rw [if_neg k1, if_neg s0, if_neg (fun h => h s1), if_neg k2, if_neg k3, if_neg k4, if_neg k5, if_neg k6, if_neg k7, if_pos k8])
    have e8 : (q.kind == 8) = true := by simp [k8]
    have hD := cancel_any E1 R1 F hn hm q ht
    unfold inpV at hD ⊢
    clear k1 s0 s1 k2 k3 k4 k5 k6 k7 k8 E1 R1
    go_enter Tryd.func27, Tryd.ntmps27
    go_wp2_with (first
      | (go_at_call 43; refine hD.mono ?_; rintro e w7 ⟨rfl, X7⟩; clear hD)
      | fail)
    go_ret
    refine ⟨by rw [HW.out]; rfl, ?_⟩
    rw [HW.out]
    exact X7.first HKA.out
  have e8 : (q.kind == 8) = false := by simp [k8]
  have HW := hid (show doP nm ns r q = (r, 1) by unfold doP; rw [if_neg k1, if_neg s0, if_neg (fun h => h s1), if_neg k2, if_neg k3, if_neg k4, if_neg k5, if_neg k6, if_neg k7, if_neg k8])
  unfold inpV
  clear k1 s0 s1 k2 k3 k4 k5 k6 k7 k8 E1 R1
  go_enter Tryd.func27, Tryd.ntmps27
  go_wp2_with fail
  go_ret
  refine ⟨by rw [HW.out]; rfl, ?_⟩
  rw [HW.out]
  exact RGoes.keep HR.out HKA.out

end

end Go.Proofs.YthgeibhmcdefbabDoor
