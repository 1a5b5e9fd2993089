/-
  The document's fire, in memory.
-/
import Derived.Test.YtfjekjbkifmpfaaDoorG50
import Derived.Test.YtfjekjbkifmpfaaDoorG15
import Derived.Test.YtfjekjbkifmpfaaDoorG29
namespace Go.Proofs.YtfjekjbkifmpfaaDoor.Rf
open Go.RowKit

set_option maxRecDepth 100000 in
set_option maxHeartbeats 8000000 in
theorem fire_any {w0 w : World} {H : Nat → Prop} {rb : Nat} {nm : ByteArray} {a : Option Addr} {c : Nat} {ns : List Nd} {r : Rn} {m : Nat} (E : Env w0 w H a ns) (R : RAt w H rb nm a ns.length c r) (F : Fit r m) (hm : m ≤ 400000) (hn : ns.length ≤ 64) (hpos : 0 < ns.length) (S : Sound ns) (FN : Fine ns r.st) (hs : r.st.status = 1) (q : Inp) :
    Calls Tryd.prog 67 #[.pointer (some ⟨rb, 0, none⟩), inpV q] w fun e w' => e = .returned (.int .i64 (fireR nm ns r q).2) ∧ RGoes w H rb nm a ns.length c (fireR nm ns r q).1 w' := by
  have K0 : Kept (fun _ => False) w (w.alloc (.cells #[.int .i64 q.kind, .string q.node, .string q.name, .string q.text, .int .i64 q.tr, .int .i64 q.status, .int .i64 q.now, .string q.par, .string q.pnode] 39)) := Kept.alloc _ _ _
  have hI := heap_alloc_new w (.cells #[.int .i64 q.kind, .string q.node, .string q.name, .string q.text, .int .i64 q.tr, .int .i64 q.status, .int .i64 q.now, .string q.par, .string q.pnode] 39)
  have htop : ∀ g, H g → g < w.heap.size := by
    obtain ⟨_, _, _, _, _, _, _, _, _, htop⟩ := R.opened
    exact htop
  obtain ⟨res, hres⟩ : ∃ res, res = fireR nm ns r q := ⟨_, rfl⟩
  rw [← hres]
  have HRes := hid hres
  obtain ⟨⟨i0, i1, i2, i3, i4, i5, i6, i7, i8⟩, _⟩ := nine hI
  have hnode := fun kd => node_any (E.new K0) (R.new K0) q.node kd
  have HI := hid hI
  have HT := hid htop
  have HE1 := hid (E.new K0)
  have HR1 := hid (R.new K0)
  have HR0 := hid R
  have HE0 := hid E
  have HK0 := hid K0
  have HF := hid F
  have HFN := hid FN
  have HS := hid S
  unfold inpV
  clear K0 hI htop hres E R F FN S
  have hnd := hnode 2
  clear hnode
  cases hfk : findK ns r.st q.node [2] with
  | none =>
    rw [hfk] at hnd
    unfold NodePost at hnd
    simp only [] at hnd
    cases hfk2 : findK ns r.st q.node [1] with
    | none =>
      have HQ : Hid (fireR nm ns r q = (r, 6)) := by
        show _ = _
        unfold fireR
        rw [hfk]
        dsimp only
        rw [hfk2]
      clear hfk hs
      go_enter Tryd.func67, Tryd.ntmps67
      go_upto_region 8 with (first
        | (go_at_call 85; refine hnd.mono ?_; rintro e w2 ⟨rfl, K2⟩; clear hnd)
        | fail)
      have hw2 : w.heap.size < w2.heap.size := by
        have h := K2.size
        rw [World.size_alloc] at h
        omega
      have BZ := Bxs.mk2 (H := H) (q := q) (x := ⟨⟨#[]⟩, 0, ⟨#[]⟩, ⟨#[]⟩, 0, 0, []⟩) (y := ⟨0, 0, ⟨#[]⟩⟩) (v := .slice none 0 0) ((K2.block _ (by simp) (fun h => h)).trans HI.out) hw2 HT.out
      simp only [] at BZ
      have KK := K2.and ((Kept.alloc (fun _ => False) w2 (.cells #[.string ⟨#[]⟩, .int .i64 0, .string ⟨#[]⟩, .string ⟨#[]⟩, .int .i64 0, .int .i64 0, .slice none 0 0] 64)).and (Kept.alloc (fun _ => False) _ (.cells #[.int .i64 0, .int .i64 0, .string ⟨#[]⟩] 61)))
      have HKB := hid (HK0.out.and KK)
      have hnd := node_any (HE1.out.new KK) (HR1.out.new KK) q.node 1
      have HEB := hid (HE1.out.new KK)
      have HRB := hid (HR1.out.new KK)
      have hbb : w2.heap.size + 1 ≠ w2.heap.size ∧ w.heap.size ≠ w2.heap.size ∧ w.heap.size ≠ w2.heap.size + 1 ∧ w.heap.size ≤ w2.heap.size ∧ w.heap.size ≤ w2.heap.size + 1 := by omega
      clear i0 i1 i2 i3 i4 i5 i6 i7 i8 K2 KK hw2
      generalize ((w2.alloc (.cells #[.string ⟨#[]⟩, .int .i64 0, .string ⟨#[]⟩, .string ⟨#[]⟩, .int .i64 0, .int .i64 0, .slice none 0 0] 64)).alloc (.cells #[.int .i64 0, .int .i64 0, .string ⟨#[]⟩] 61)) = W at *
      generalize w2.heap.size + 1 = yb at *
      generalize w2.heap.size = nb at *
      obtain ⟨i0, i1, i2, i3, i4, i5, i6, i7, i8, _⟩ := BZ.cells
      have HBZ := hid BZ
      clear BZ
      rw [hfk2] at hnd
      unfold NodePost at hnd
      simp only [] at hnd
      have ARM := hnd
      clear hnd hfk2
      go_upto_region 9 with (first
        | (go_at_call 85; refine ARM.mono ?_; rintro e w3 ⟨rfl, K3⟩; clear ARM; have b7 := (K3.block _ (Array.getElem?_eq_some_iff.1 HBZ.out.nod).1 (fun h => h)).trans HBZ.out.nod; have b3 := (K3.block _ (Array.getElem?_eq_some_iff.1 HBZ.out.std).1 (fun h => h)).trans HBZ.out.std; obtain ⟨⟨g0, g1, g2, g3, g4, g5, g6⟩, fr0, fr1, fr2, fr3, fr4, fr5, fr6⟩ := cells7F b7; obtain ⟨⟨h0, h1, h2⟩, gr0, gr1, gr2⟩ := cells3F b3)
        | fail)
      clear g0 g1 g2 g3 g4 g5 g6 fr0 fr1 fr2 fr3 fr4 fr5 fr6 h0 h1 h2 gr0 gr1 gr2 i0 i1 i2 i3 i4 i5 i6 i7 i8
      have E7 := cells7put b7 (.string ⟨#[]⟩) (.int .i64 0) (.string ⟨#[]⟩) (.string ⟨#[]⟩) (.int .i64 0) (.int .i64 0) (.slice none 0 0)
      have K7 := cells7kept (S := fun j => j = nb ∨ j = yb) w3 (.inl rfl) (.string ⟨#[]⟩) (.int .i64 0) (.string ⟨#[]⟩) (.string ⟨#[]⟩) (.int .i64 0) (.int .i64 0) (.slice none 0 0)
      have B3 := ((cells7kept (S := fun j => j = nb) w3 rfl (.string ⟨#[]⟩) (.int .i64 0) (.string ⟨#[]⟩) (.string ⟨#[]⟩) (.int .i64 0) (.int .i64 0) (.slice none 0 0)).block _ (Array.getElem?_eq_some_iff.1 b3).1 hbb.1).trans b3
      have E3 := cells3put B3 (.int .i64 0) (.int .i64 0) (.string ⟨#[]⟩)
      have K3s := cells3kept (S := fun j => j = nb ∨ j = yb) ((((((((w3).setCell ⟨nb, 0, none⟩ (.string ⟨#[]⟩)).setCell ⟨nb, 1, none⟩ (.int .i64 0)).setCell ⟨nb, 2, none⟩ (.string ⟨#[]⟩)).setCell ⟨nb, 3, none⟩ (.string ⟨#[]⟩)).setCell ⟨nb, 4, none⟩ (.int .i64 0)).setCell ⟨nb, 5, none⟩ (.int .i64 0)).setCell ⟨nb, 6, none⟩ (.slice none 0 0)) (.inr rfl) (.int .i64 0) (.int .i64 0) (.string ⟨#[]⟩)
      have E7' := ((cells3kept (S := fun j => j = yb) ((((((((w3).setCell ⟨nb, 0, none⟩ (.string ⟨#[]⟩)).setCell ⟨nb, 1, none⟩ (.int .i64 0)).setCell ⟨nb, 2, none⟩ (.string ⟨#[]⟩)).setCell ⟨nb, 3, none⟩ (.string ⟨#[]⟩)).setCell ⟨nb, 4, none⟩ (.int .i64 0)).setCell ⟨nb, 5, none⟩ (.int .i64 0)).setCell ⟨nb, 6, none⟩ (.slice none 0 0)) rfl (.int .i64 0) (.int .i64 0) (.string ⟨#[]⟩)).block _ (Array.getElem?_eq_some_iff.1 E7).1 (fun h => hbb.1 h.symm)).trans E7
      have KS := K7.and K3s
      have HKS := hid KS
      have HKW := hid ((HKB.out.and K3).trans KS (fun i hi => .inr (by rcases hi with h | h <;> omega)))
      clear E7 K7 B3 E3 K3s E7' KS b7 b3
      go_wp2_with fail
      go_ret
      obtain rfl := HRes.out.trans HQ.out
      refine ⟨rfl, ?_⟩
      exact RGoes.keep HR0.out HKW.out
    | some i =>
      obtain ⟨h1, h2, _, hkc⟩ := findK_some hfk2
      have hy : r.st.nodes[i]? = some r.st.nodes[i] := List.getElem?_eq_getElem h2
      by_cases h5 : (r.st.nodes[i]).status ≠ 2 ∨ (r.st.nodes[i]).tr ≠ q.tr
      · have hbb' : (((r.st.nodes[i]).status != 2) = true) ∨ ((((r.st.nodes[i]).status != 2) = false) ∧ (((r.st.nodes[i]).tr != q.tr) = true)) := by
          by_cases h : (r.st.nodes[i]).status = 2
          · exact .inr ⟨by rw [bne_eq_false_iff_eq]; exact h, by rw [bne_iff_ne]; exact h5.resolve_left (not_not_intro h)⟩
          · exact .inl (by rw [bne_iff_ne]; exact h)
        have HQ : Hid (fireR nm ns r q = (r, 12)) := by
          show _ = _
          unfold fireR
          rw [hfk]
          dsimp only
          rw [hfk2]
          dsimp only
          rw [hy]
          dsimp only
          rw [if_pos h5]
        clear h5 hkc hfk hy hs
        rcases hbb' with b1 | ⟨b1, b2⟩
        all_goals
          go_enter Tryd.func67, Tryd.ntmps67
          go_upto_region 8 with (first
            | (go_at_call 85; refine hnd.mono ?_; rintro e w2 ⟨rfl, K2⟩; clear hnd)
            | fail)
          have hw2 : w.heap.size < w2.heap.size := by
            have h := K2.size
            rw [World.size_alloc] at h
            omega
          have BZ := Bxs.mk2 (H := H) (q := q) (x := ⟨⟨#[]⟩, 0, ⟨#[]⟩, ⟨#[]⟩, 0, 0, []⟩) (y := ⟨0, 0, ⟨#[]⟩⟩) (v := .slice none 0 0) ((K2.block _ (by simp) (fun h => h)).trans HI.out) hw2 HT.out
          simp only [] at BZ
          have KK := K2.and ((Kept.alloc (fun _ => False) w2 (.cells #[.string ⟨#[]⟩, .int .i64 0, .string ⟨#[]⟩, .string ⟨#[]⟩, .int .i64 0, .int .i64 0, .slice none 0 0] 64)).and (Kept.alloc (fun _ => False) _ (.cells #[.int .i64 0, .int .i64 0, .string ⟨#[]⟩] 61)))
          have HKB := hid (HK0.out.and KK)
          have hnd := node_any (HE1.out.new KK) (HR1.out.new KK) q.node 1
          have HEB := hid (HE1.out.new KK)
          have HRB := hid (HR1.out.new KK)
          have hbb : w2.heap.size + 1 ≠ w2.heap.size ∧ w.heap.size ≠ w2.heap.size ∧ w.heap.size ≠ w2.heap.size + 1 ∧ w.heap.size ≤ w2.heap.size ∧ w.heap.size ≤ w2.heap.size + 1 := by omega
          clear i0 i1 i2 i3 i4 i5 i6 i7 i8 K2 KK hw2
          generalize ((w2.alloc (.cells #[.string ⟨#[]⟩, .int .i64 0, .string ⟨#[]⟩, .string ⟨#[]⟩, .int .i64 0, .int .i64 0, .slice none 0 0] 64)).alloc (.cells #[.int .i64 0, .int .i64 0, .string ⟨#[]⟩] 61)) = W at *
          generalize w2.heap.size + 1 = yb at *
          generalize w2.heap.size = nb at *
          obtain ⟨i0, i1, i2, i3, i4, i5, i6, i7, i8, _⟩ := BZ.cells
          have HBZ := hid BZ
          clear BZ
          rw [hfk2] at hnd
          unfold NodePost ndV nsV at hnd
          simp only [] at hnd
          have ARM := hnd
          clear hnd hfk2
          go_upto_region 9 with (first
            | (go_at_call 85; refine ARM.mono ?_; rintro e w3 ⟨⟨_, _, av, cv, rfl⟩, K3⟩; clear ARM; have b7 := (K3.block _ (Array.getElem?_eq_some_iff.1 HBZ.out.nod).1 (fun h => h)).trans HBZ.out.nod; have b3 := (K3.block _ (Array.getElem?_eq_some_iff.1 HBZ.out.std).1 (fun h => h)).trans HBZ.out.std; obtain ⟨⟨g0, g1, g2, g3, g4, g5, g6⟩, fr0, fr1, fr2, fr3, fr4, fr5, fr6⟩ := cells7F b7; obtain ⟨⟨h0, h1, h2⟩, gr0, gr1, gr2⟩ := cells3F b3)
            | fail)
          clear g0 g1 g2 g3 g4 g5 g6 fr0 fr1 fr2 fr3 fr4 fr5 fr6 h0 h1 h2 gr0 gr1 gr2 i0 i1 i2 i3 i4 i5 i6 i7 i8
          have E7 := cells7put b7 (.string (ns[i]).name) (.int .i64 (ns[i]).kind) (.string (ns[i]).arg) (.string (ns[i]).«to») (.int .i64 (ns[i]).delay) (.int .i64 (ns[i]).tries) (.slice av (ns[i]).after.length cv)
          have K7 := cells7kept (S := fun j => j = nb ∨ j = yb) w3 (.inl rfl) (.string (ns[i]).name) (.int .i64 (ns[i]).kind) (.string (ns[i]).arg) (.string (ns[i]).«to») (.int .i64 (ns[i]).delay) (.int .i64 (ns[i]).tries) (.slice av (ns[i]).after.length cv)
          have B3 := ((cells7kept (S := fun j => j = nb) w3 rfl (.string (ns[i]).name) (.int .i64 (ns[i]).kind) (.string (ns[i]).arg) (.string (ns[i]).«to») (.int .i64 (ns[i]).delay) (.int .i64 (ns[i]).tries) (.slice av (ns[i]).after.length cv)).block _ (Array.getElem?_eq_some_iff.1 b3).1 hbb.1).trans b3
          have E3 := cells3put B3 (.int .i64 (r.st.nodes[i]).status) (.int .i64 (r.st.nodes[i]).tr) (.string (r.st.nodes[i]).text)
          have K3s := cells3kept (S := fun j => j = nb ∨ j = yb) ((((((((w3).setCell ⟨nb, 0, none⟩ (.string (ns[i]).name)).setCell ⟨nb, 1, none⟩ (.int .i64 (ns[i]).kind)).setCell ⟨nb, 2, none⟩ (.string (ns[i]).arg)).setCell ⟨nb, 3, none⟩ (.string (ns[i]).«to»)).setCell ⟨nb, 4, none⟩ (.int .i64 (ns[i]).delay)).setCell ⟨nb, 5, none⟩ (.int .i64 (ns[i]).tries)).setCell ⟨nb, 6, none⟩ (.slice av (ns[i]).after.length cv)) (.inr rfl) (.int .i64 (r.st.nodes[i]).status) (.int .i64 (r.st.nodes[i]).tr) (.string (r.st.nodes[i]).text)
          have E7' := ((cells3kept (S := fun j => j = yb) ((((((((w3).setCell ⟨nb, 0, none⟩ (.string (ns[i]).name)).setCell ⟨nb, 1, none⟩ (.int .i64 (ns[i]).kind)).setCell ⟨nb, 2, none⟩ (.string (ns[i]).arg)).setCell ⟨nb, 3, none⟩ (.string (ns[i]).«to»)).setCell ⟨nb, 4, none⟩ (.int .i64 (ns[i]).delay)).setCell ⟨nb, 5, none⟩ (.int .i64 (ns[i]).tries)).setCell ⟨nb, 6, none⟩ (.slice av (ns[i]).after.length cv)) rfl (.int .i64 (r.st.nodes[i]).status) (.int .i64 (r.st.nodes[i]).tr) (.string (r.st.nodes[i]).text)).block _ (Array.getElem?_eq_some_iff.1 E7).1 (fun h => hbb.1 h.symm)).trans E7
          have KS := K7.and K3s
          have HKS := hid KS
          have HKW := hid ((HKB.out.and K3).trans KS (fun i hi => .inr (by rcases hi with h | h <;> omega)))
          have B : Bxs (((((((((((w3).setCell ⟨nb, 0, none⟩ (.string (ns[i]).name)).setCell ⟨nb, 1, none⟩ (.int .i64 (ns[i]).kind)).setCell ⟨nb, 2, none⟩ (.string (ns[i]).arg)).setCell ⟨nb, 3, none⟩ (.string (ns[i]).«to»)).setCell ⟨nb, 4, none⟩ (.int .i64 (ns[i]).delay)).setCell ⟨nb, 5, none⟩ (.int .i64 (ns[i]).tries)).setCell ⟨nb, 6, none⟩ (.slice av (ns[i]).after.length cv)).setCell ⟨yb, 0, none⟩ (.int .i64 (r.st.nodes[i]).status)).setCell ⟨yb, 1, none⟩ (.int .i64 (r.st.nodes[i]).tr)).setCell ⟨yb, 2, none⟩ (.string (r.st.nodes[i]).text)) H w.heap.size nb yb q ns[i] r.st.nodes[i] (.slice av (ns[i]).after.length cv) :=
            ⟨(KS.block _ (Nat.lt_of_lt_of_le (Array.getElem?_eq_some_iff.1 HBZ.out.inp).1 K3.size) (by omega)).trans ((K3.block _ (Array.getElem?_eq_some_iff.1 HBZ.out.inp).1 (fun h => h)).trans HBZ.out.inp), E7', E3, HBZ.out.out⟩
          have HE3 := hid (HE0.out.new HKW.out)
          have HR3 := hid (HR0.out.new HKW.out)
          have HB := hid B
          clear E7 K7 B3 E3 K3s E7' KS b7 b3 K3 HKS
          generalize ((((((((((w3).setCell ⟨nb, 0, none⟩ (.string (ns[i]).name)).setCell ⟨nb, 1, none⟩ (.int .i64 (ns[i]).kind)).setCell ⟨nb, 2, none⟩ (.string (ns[i]).arg)).setCell ⟨nb, 3, none⟩ (.string (ns[i]).«to»)).setCell ⟨nb, 4, none⟩ (.int .i64 (ns[i]).delay)).setCell ⟨nb, 5, none⟩ (.int .i64 (ns[i]).tries)).setCell ⟨nb, 6, none⟩ (.slice av (ns[i]).after.length cv)).setCell ⟨yb, 0, none⟩ (.int .i64 (r.st.nodes[i]).status)).setCell ⟨yb, 1, none⟩ (.int .i64 (r.st.nodes[i]).tr)).setCell ⟨yb, 2, none⟩ (.string (r.st.nodes[i]).text) = W3 at *
          obtain ⟨i0, i1, i2, i3, i4, i5, i6, i7, i8, n0, n1, n2, n3, n4, n5, n6, s0, s1, s2⟩ := B.cells
          clear B
          go_wp2_with fail
          go_ret
          obtain rfl := HRes.out.trans HQ.out
          refine ⟨rfl, ?_⟩
          exact RGoes.keep HR0.out HKW.out
      · have b1 : ((r.st.nodes[i]).status != 2) = false := by rw [bne_eq_false_iff_eq]; exact Classical.byContradiction (fun h => h5 (.inl h))
        have b2 : ((r.st.nodes[i]).tr != q.tr) = false := by rw [bne_eq_false_iff_eq]; exact Classical.byContradiction (fun h => h5 (.inr h))
        have HQ : Hid (fireR nm ns r q = (failR nm ns r i timeoutB, 0)) := by
          show _ = _
          unfold fireR
          rw [hfk]
          dsimp only
          rw [hfk2]
          dsimp only
          rw [hy]
          dsimp only
          rw [if_neg h5]
        clear h5 hkc hfk hy hs
        go_enter Tryd.func67, Tryd.ntmps67
        go_upto_region 8 with (first
          | (go_at_call 85; refine hnd.mono ?_; rintro e w2 ⟨rfl, K2⟩; clear hnd)
          | fail)
        have hw2 : w.heap.size < w2.heap.size := by
          have h := K2.size
          rw [World.size_alloc] at h
          omega
        have BZ := Bxs.mk2 (H := H) (q := q) (x := ⟨⟨#[]⟩, 0, ⟨#[]⟩, ⟨#[]⟩, 0, 0, []⟩) (y := ⟨0, 0, ⟨#[]⟩⟩) (v := .slice none 0 0) ((K2.block _ (by simp) (fun h => h)).trans HI.out) hw2 HT.out
        simp only [] at BZ
        have KK := K2.and ((Kept.alloc (fun _ => False) w2 (.cells #[.string ⟨#[]⟩, .int .i64 0, .string ⟨#[]⟩, .string ⟨#[]⟩, .int .i64 0, .int .i64 0, .slice none 0 0] 64)).and (Kept.alloc (fun _ => False) _ (.cells #[.int .i64 0, .int .i64 0, .string ⟨#[]⟩] 61)))
        have HKB := hid (HK0.out.and KK)
        have hnd := node_any (HE1.out.new KK) (HR1.out.new KK) q.node 1
        have HEB := hid (HE1.out.new KK)
        have HRB := hid (HR1.out.new KK)
        have hbb : w2.heap.size + 1 ≠ w2.heap.size ∧ w.heap.size ≠ w2.heap.size ∧ w.heap.size ≠ w2.heap.size + 1 ∧ w.heap.size ≤ w2.heap.size ∧ w.heap.size ≤ w2.heap.size + 1 := by omega
        clear i0 i1 i2 i3 i4 i5 i6 i7 i8 K2 KK hw2
        generalize ((w2.alloc (.cells #[.string ⟨#[]⟩, .int .i64 0, .string ⟨#[]⟩, .string ⟨#[]⟩, .int .i64 0, .int .i64 0, .slice none 0 0] 64)).alloc (.cells #[.int .i64 0, .int .i64 0, .string ⟨#[]⟩] 61)) = W at *
        generalize w2.heap.size + 1 = yb at *
        generalize w2.heap.size = nb at *
        obtain ⟨i0, i1, i2, i3, i4, i5, i6, i7, i8, _⟩ := BZ.cells
        have HBZ := hid BZ
        clear BZ
        rw [hfk2] at hnd
        unfold NodePost ndV nsV at hnd
        simp only [] at hnd
        have ARM := hnd
        clear hnd hfk2
        go_upto_region 9 with (first
          | (go_at_call 85; refine ARM.mono ?_; rintro e w3 ⟨⟨_, _, av, cv, rfl⟩, K3⟩; clear ARM; have b7 := (K3.block _ (Array.getElem?_eq_some_iff.1 HBZ.out.nod).1 (fun h => h)).trans HBZ.out.nod; have b3 := (K3.block _ (Array.getElem?_eq_some_iff.1 HBZ.out.std).1 (fun h => h)).trans HBZ.out.std; obtain ⟨⟨g0, g1, g2, g3, g4, g5, g6⟩, fr0, fr1, fr2, fr3, fr4, fr5, fr6⟩ := cells7F b7; obtain ⟨⟨h0, h1, h2⟩, gr0, gr1, gr2⟩ := cells3F b3)
          | fail)
        clear g0 g1 g2 g3 g4 g5 g6 fr0 fr1 fr2 fr3 fr4 fr5 fr6 h0 h1 h2 gr0 gr1 gr2 i0 i1 i2 i3 i4 i5 i6 i7 i8
        have E7 := cells7put b7 (.string (ns[i]).name) (.int .i64 (ns[i]).kind) (.string (ns[i]).arg) (.string (ns[i]).«to») (.int .i64 (ns[i]).delay) (.int .i64 (ns[i]).tries) (.slice av (ns[i]).after.length cv)
        have K7 := cells7kept (S := fun j => j = nb ∨ j = yb) w3 (.inl rfl) (.string (ns[i]).name) (.int .i64 (ns[i]).kind) (.string (ns[i]).arg) (.string (ns[i]).«to») (.int .i64 (ns[i]).delay) (.int .i64 (ns[i]).tries) (.slice av (ns[i]).after.length cv)
        have B3 := ((cells7kept (S := fun j => j = nb) w3 rfl (.string (ns[i]).name) (.int .i64 (ns[i]).kind) (.string (ns[i]).arg) (.string (ns[i]).«to») (.int .i64 (ns[i]).delay) (.int .i64 (ns[i]).tries) (.slice av (ns[i]).after.length cv)).block _ (Array.getElem?_eq_some_iff.1 b3).1 hbb.1).trans b3
        have E3 := cells3put B3 (.int .i64 (r.st.nodes[i]).status) (.int .i64 (r.st.nodes[i]).tr) (.string (r.st.nodes[i]).text)
        have K3s := cells3kept (S := fun j => j = nb ∨ j = yb) ((((((((w3).setCell ⟨nb, 0, none⟩ (.string (ns[i]).name)).setCell ⟨nb, 1, none⟩ (.int .i64 (ns[i]).kind)).setCell ⟨nb, 2, none⟩ (.string (ns[i]).arg)).setCell ⟨nb, 3, none⟩ (.string (ns[i]).«to»)).setCell ⟨nb, 4, none⟩ (.int .i64 (ns[i]).delay)).setCell ⟨nb, 5, none⟩ (.int .i64 (ns[i]).tries)).setCell ⟨nb, 6, none⟩ (.slice av (ns[i]).after.length cv)) (.inr rfl) (.int .i64 (r.st.nodes[i]).status) (.int .i64 (r.st.nodes[i]).tr) (.string (r.st.nodes[i]).text)
        have E7' := ((cells3kept (S := fun j => j = yb) ((((((((w3).setCell ⟨nb, 0, none⟩ (.string (ns[i]).name)).setCell ⟨nb, 1, none⟩ (.int .i64 (ns[i]).kind)).setCell ⟨nb, 2, none⟩ (.string (ns[i]).arg)).setCell ⟨nb, 3, none⟩ (.string (ns[i]).«to»)).setCell ⟨nb, 4, none⟩ (.int .i64 (ns[i]).delay)).setCell ⟨nb, 5, none⟩ (.int .i64 (ns[i]).tries)).setCell ⟨nb, 6, none⟩ (.slice av (ns[i]).after.length cv)) rfl (.int .i64 (r.st.nodes[i]).status) (.int .i64 (r.st.nodes[i]).tr) (.string (r.st.nodes[i]).text)).block _ (Array.getElem?_eq_some_iff.1 E7).1 (fun h => hbb.1 h.symm)).trans E7
        have KS := K7.and K3s
        have HKS := hid KS
        have HKW := hid ((HKB.out.and K3).trans KS (fun i hi => .inr (by rcases hi with h | h <;> omega)))
        have B : Bxs (((((((((((w3).setCell ⟨nb, 0, none⟩ (.string (ns[i]).name)).setCell ⟨nb, 1, none⟩ (.int .i64 (ns[i]).kind)).setCell ⟨nb, 2, none⟩ (.string (ns[i]).arg)).setCell ⟨nb, 3, none⟩ (.string (ns[i]).«to»)).setCell ⟨nb, 4, none⟩ (.int .i64 (ns[i]).delay)).setCell ⟨nb, 5, none⟩ (.int .i64 (ns[i]).tries)).setCell ⟨nb, 6, none⟩ (.slice av (ns[i]).after.length cv)).setCell ⟨yb, 0, none⟩ (.int .i64 (r.st.nodes[i]).status)).setCell ⟨yb, 1, none⟩ (.int .i64 (r.st.nodes[i]).tr)).setCell ⟨yb, 2, none⟩ (.string (r.st.nodes[i]).text)) H w.heap.size nb yb q ns[i] r.st.nodes[i] (.slice av (ns[i]).after.length cv) :=
          ⟨(KS.block _ (Nat.lt_of_lt_of_le (Array.getElem?_eq_some_iff.1 HBZ.out.inp).1 K3.size) (by omega)).trans ((K3.block _ (Array.getElem?_eq_some_iff.1 HBZ.out.inp).1 (fun h => h)).trans HBZ.out.inp), E7', E3, HBZ.out.out⟩
        have HE3 := hid (HE0.out.new HKW.out)
        have HR3 := hid (HR0.out.new HKW.out)
        have HB := hid B
        clear E7 K7 B3 E3 K3s E7' KS b7 b3 K3 HKS
        generalize ((((((((((w3).setCell ⟨nb, 0, none⟩ (.string (ns[i]).name)).setCell ⟨nb, 1, none⟩ (.int .i64 (ns[i]).kind)).setCell ⟨nb, 2, none⟩ (.string (ns[i]).arg)).setCell ⟨nb, 3, none⟩ (.string (ns[i]).«to»)).setCell ⟨nb, 4, none⟩ (.int .i64 (ns[i]).delay)).setCell ⟨nb, 5, none⟩ (.int .i64 (ns[i]).tries)).setCell ⟨nb, 6, none⟩ (.slice av (ns[i]).after.length cv)).setCell ⟨yb, 0, none⟩ (.int .i64 (r.st.nodes[i]).status)).setCell ⟨yb, 1, none⟩ (.int .i64 (r.st.nodes[i]).tr)).setCell ⟨yb, 2, none⟩ (.string (r.st.nodes[i]).text) = W3 at *
        obtain ⟨i0, i1, i2, i3, i4, i5, i6, i7, i8, n0, n1, n2, n3, n4, n5, n6, s0, s1, s2⟩ := B.cells
        clear B
        have hT := fail_any HE3.out HR3.out HF.out (by omega) hn ns[i] r.st.nodes[i] av cv timeoutB
        rw [← failR_is h1 h2] at hT
        unfold ndV nsV timeoutB at hT
        go_upto_region 13 with fail

        go_wp2_with (first
          | (go_at_call 87; refine (hT).mono ?_; rintro e w3 ⟨rfl, X3⟩; clear hT)
          | fail)
        go_ret
        obtain rfl := HRes.out.trans HQ.out
        refine ⟨rfl, ?_⟩
        exact RGoes.first HKW.out X3
  | some i =>
    obtain ⟨h1, h2, _, hkc⟩ := findK_some hfk
    rw [hfk] at hnd
    unfold NodePost ndV nsV at hnd
    simp only [] at hnd
    have hx : ns[i]? = some ns[i] := List.getElem?_eq_getElem h1
    have hy : r.st.nodes[i]? = some r.st.nodes[i] := List.getElem?_eq_getElem h2
    by_cases h3 : (r.st.nodes[i]).status = 2
    · have e2 : ((r.st.nodes[i]).status != 2) = false := by rw [bne_eq_false_iff_eq]; exact h3
      have HQ : Hid (fireR nm ns r q = (goOnP nm ns (evR nm ns r ⟨8, (ns[i]).name, ⟨#[]⟩, 0⟩), 0)) := by
        show _ = _
        unfold fireR
        rw [hfk]
        dsimp only
        rw [hx, hy]
        dsimp only
        rw [if_neg (not_not_intro h3)]
      clear h3 hkc hfk hx hy
      go_enter Tryd.func67, Tryd.ntmps67
      go_upto_region 2 with (first
        | (go_at_call 85; refine hnd.mono ?_; rintro e w2 ⟨⟨_, _, av, cv, rfl⟩, K2⟩; clear hnd)
        | fail)
      have hw2 : w.heap.size < w2.heap.size := by
        have h := K2.size
        rw [World.size_alloc] at h
        omega
      have B : Bxs ((w2.alloc (.cells #[.string (ns[i]).name, .int .i64 (ns[i]).kind, .string (ns[i]).arg, .string (ns[i]).«to», .int .i64 (ns[i]).delay, .int .i64 (ns[i]).tries, .slice av (ns[i]).after.length cv] 64)).alloc (.cells #[.int .i64 (r.st.nodes[i]).status, .int .i64 (r.st.nodes[i]).tr, .string (r.st.nodes[i]).text] 61)) H w.heap.size w2.heap.size (w2.heap.size + 1) q ns[i] r.st.nodes[i] (.slice av (ns[i]).after.length cv) :=
        Bxs.mk2 (((K2.block _ (by simp) (fun h => h)).trans HI.out)) hw2 HT.out
      have HKB := hid ((HK0.out.and K2).and ((Kept.alloc (fun _ => False) w2 (.cells #[.string (ns[i]).name, .int .i64 (ns[i]).kind, .string (ns[i]).arg, .string (ns[i]).«to», .int .i64 (ns[i]).delay, .int .i64 (ns[i]).tries, .slice av (ns[i]).after.length cv] 64)).and (Kept.alloc (fun _ => False) _ (.cells #[.int .i64 (r.st.nodes[i]).status, .int .i64 (r.st.nodes[i]).tr, .string (r.st.nodes[i]).text] 61))))
      have HEB := hid (HE1.out.new (K2.and ((Kept.alloc (fun _ => False) w2 (.cells #[.string (ns[i]).name, .int .i64 (ns[i]).kind, .string (ns[i]).arg, .string (ns[i]).«to», .int .i64 (ns[i]).delay, .int .i64 (ns[i]).tries, .slice av (ns[i]).after.length cv] 64)).and (Kept.alloc (fun _ => False) _ (.cells #[.int .i64 (r.st.nodes[i]).status, .int .i64 (r.st.nodes[i]).tr, .string (r.st.nodes[i]).text] 61)))))
      have HRB := hid (HR1.out.new (K2.and ((Kept.alloc (fun _ => False) w2 (.cells #[.string (ns[i]).name, .int .i64 (ns[i]).kind, .string (ns[i]).arg, .string (ns[i]).«to», .int .i64 (ns[i]).delay, .int .i64 (ns[i]).tries, .slice av (ns[i]).after.length cv] 64)).and (Kept.alloc (fun _ => False) _ (.cells #[.int .i64 (r.st.nodes[i]).status, .int .i64 (r.st.nodes[i]).tr, .string (r.st.nodes[i]).text] 61)))))
      have HB := hid B
      clear i0 i1 i2 i3 i4 i5 i6 i7 i8 K2
      generalize ((w2.alloc (.cells #[.string (ns[i]).name, .int .i64 (ns[i]).kind, .string (ns[i]).arg, .string (ns[i]).«to», .int .i64 (ns[i]).delay, .int .i64 (ns[i]).tries, .slice av (ns[i]).after.length cv] 64)).alloc (.cells #[.int .i64 (r.st.nodes[i]).status, .int .i64 (r.st.nodes[i]).tr, .string (r.st.nodes[i]).text] 61)) = W at *
      generalize w2.heap.size + 1 = yb at *
      generalize w2.heap.size = nb at *
      obtain ⟨i0, i1, i2, i3, i4, i5, i6, i7, i8, n0, n1, n2, n3, n4, n5, n6, s0, s1, s2⟩ := B.cells
      clear B hw2
      have F2 := evR_fit (nm := nm) (ns := ns) HF.out (by omega) ⟨8, (ns[i]).name, ⟨#[]⟩, 0⟩
      have FN2 := evR_fine (nm := nm) (e := ⟨8, (ns[i]).name, ⟨#[]⟩, 0⟩) HFN.out
      have hE := eventE HEB.out HRB.out HF.out (by omega) ⟨8, (ns[i]).name, ⟨#[]⟩, 0⟩
      simp only [] at hE
      go_upto_region 5 with fail
      go_upto_region 6 with (first
        | (go_at_call 63; refine (hE).mono ?_; rintro e w2 ⟨rfl, X2⟩; clear hE)
        | fail)
      clear i0 i1 i2 i3 i4 i5 i6 i7 i8 n0 n1 n2 n3 n4 n5 n6 s0 s1 s2
      obtain ⟨H2, E2, R2, hH2, K2⟩ := env_goes HEB.out X2
      have B2 := HB.out.goes hH2 K2
      have HKW2 := hid ((HKB.out.mono (fun _ h => h.elim)).and K2 : Kept H w w2)
      have HH2 : Hid (∀ g, H2 g → H g ∨ w.heap.size ≤ g) := fun g h => (hH2 g h).imp (fun h => h) (fun h => Nat.le_trans HKB.out.size h)
      have HR2 := hid R2
      have HE2 := hid E2
      have HB2 := hid B2
      obtain ⟨i0, i1, i2, i3, i4, i5, i6, i7, i8, n0, n1, n2, n3, n4, n5, n6, s0, s1, s2⟩ := B2.cells
      clear hH2 K2 X2 R2 E2 B2
      have hs2 : (evR nm ns r ⟨8, (ns[i]).name, ⟨#[]⟩, 0⟩).st.status = 1 := (evR_status (by simp) (by simp)).trans hs
      have hT := on_any HE2.out HR2.out F2 (by omega) hn hpos HS.out FN2 hs2
      go_wp2_with (first
        | (go_at_call 64; refine (hT).mono ?_; rintro e w3 ⟨rfl, X3⟩; clear hT)
        | fail)
      go_ret
      obtain rfl := HRes.out.trans HQ.out
      refine ⟨rfl, ?_⟩
      exact RGoes.trans HH2.out HKW2.out X3
    · have e2 : ((r.st.nodes[i]).status != 2) = true := by rw [bne_iff_ne]; exact h3
      have HQ : Hid (fireR nm ns r q = (r, 12)) := by
        show _ = _
        unfold fireR
        rw [hfk]
        dsimp only
        rw [hx, hy]
        dsimp only
        rw [if_pos h3]
      clear h3 hkc hfk hx hy hs
      go_enter Tryd.func67, Tryd.ntmps67
      go_upto_region 2 with (first
        | (go_at_call 85; refine hnd.mono ?_; rintro e w2 ⟨⟨_, _, av, cv, rfl⟩, K2⟩; clear hnd)
        | fail)
      have hw2 : w.heap.size < w2.heap.size := by
        have h := K2.size
        rw [World.size_alloc] at h
        omega
      have B : Bxs ((w2.alloc (.cells #[.string (ns[i]).name, .int .i64 (ns[i]).kind, .string (ns[i]).arg, .string (ns[i]).«to», .int .i64 (ns[i]).delay, .int .i64 (ns[i]).tries, .slice av (ns[i]).after.length cv] 64)).alloc (.cells #[.int .i64 (r.st.nodes[i]).status, .int .i64 (r.st.nodes[i]).tr, .string (r.st.nodes[i]).text] 61)) H w.heap.size w2.heap.size (w2.heap.size + 1) q ns[i] r.st.nodes[i] (.slice av (ns[i]).after.length cv) :=
        Bxs.mk2 (((K2.block _ (by simp) (fun h => h)).trans HI.out)) hw2 HT.out
      have HKB := hid ((HK0.out.and K2).and ((Kept.alloc (fun _ => False) w2 (.cells #[.string (ns[i]).name, .int .i64 (ns[i]).kind, .string (ns[i]).arg, .string (ns[i]).«to», .int .i64 (ns[i]).delay, .int .i64 (ns[i]).tries, .slice av (ns[i]).after.length cv] 64)).and (Kept.alloc (fun _ => False) _ (.cells #[.int .i64 (r.st.nodes[i]).status, .int .i64 (r.st.nodes[i]).tr, .string (r.st.nodes[i]).text] 61))))
      have HEB := hid (HE1.out.new (K2.and ((Kept.alloc (fun _ => False) w2 (.cells #[.string (ns[i]).name, .int .i64 (ns[i]).kind, .string (ns[i]).arg, .string (ns[i]).«to», .int .i64 (ns[i]).delay, .int .i64 (ns[i]).tries, .slice av (ns[i]).after.length cv] 64)).and (Kept.alloc (fun _ => False) _ (.cells #[.int .i64 (r.st.nodes[i]).status, .int .i64 (r.st.nodes[i]).tr, .string (r.st.nodes[i]).text] 61)))))
      have HRB := hid (HR1.out.new (K2.and ((Kept.alloc (fun _ => False) w2 (.cells #[.string (ns[i]).name, .int .i64 (ns[i]).kind, .string (ns[i]).arg, .string (ns[i]).«to», .int .i64 (ns[i]).delay, .int .i64 (ns[i]).tries, .slice av (ns[i]).after.length cv] 64)).and (Kept.alloc (fun _ => False) _ (.cells #[.int .i64 (r.st.nodes[i]).status, .int .i64 (r.st.nodes[i]).tr, .string (r.st.nodes[i]).text] 61)))))
      have HB := hid B
      clear i0 i1 i2 i3 i4 i5 i6 i7 i8 K2
      generalize ((w2.alloc (.cells #[.string (ns[i]).name, .int .i64 (ns[i]).kind, .string (ns[i]).arg, .string (ns[i]).«to», .int .i64 (ns[i]).delay, .int .i64 (ns[i]).tries, .slice av (ns[i]).after.length cv] 64)).alloc (.cells #[.int .i64 (r.st.nodes[i]).status, .int .i64 (r.st.nodes[i]).tr, .string (r.st.nodes[i]).text] 61)) = W at *
      generalize w2.heap.size + 1 = yb at *
      generalize w2.heap.size = nb at *
      obtain ⟨i0, i1, i2, i3, i4, i5, i6, i7, i8, n0, n1, n2, n3, n4, n5, n6, s0, s1, s2⟩ := B.cells
      clear B hw2
      go_wp2_with fail
      go_ret
      obtain rfl := HRes.out.trans HQ.out
      refine ⟨rfl, ?_⟩
      exact RGoes.first HKB.out (RGoes.keep HRB.out (Kept.refl _ _))

end Go.Proofs.YtfjekjbkifmpfaaDoor.Rf

/-
  The document's signal, in memory.
-/
namespace Go.Proofs.YtfjekjbkifmpfaaDoor.Rf
open Go.RowKit

set_option maxRecDepth 100000 in
set_option maxHeartbeats 8000000 in
theorem signal_any {w0 w : World} {H : Nat → Prop} {rb : Nat} {nm : ByteArray} {a : Option Addr} {c : Nat} {ns : List Nd} {r : Rn} {m : Nat} (E : Env w0 w H a ns) (R : RAt w H rb nm a ns.length c r) (F : Fit r m) (hm : m ≤ 400000) (hn : ns.length ≤ 64) (hpos : 0 < ns.length) (S : Sound ns) (FN : Fine ns r.st) (hs : r.st.status = 1) (q : Inp) (hq : q.name.size ≤ maxLen) :
    Calls Tryd.prog 65 #[.pointer (some ⟨rb, 0, none⟩), inpV q] w fun e w' => e = .returned (.int .i64 (signalR nm ns r q).2) ∧ RGoes w H rb nm a ns.length c (signalR nm ns r q).1 w' := by
  have K0 : Kept (fun _ => False) w (w.alloc (.cells #[.int .i64 q.kind, .string q.node, .string q.name, .string q.text, .int .i64 q.tr, .int .i64 q.status, .int .i64 q.now, .string q.par, .string q.pnode] 39)) := Kept.alloc _ _ _
  have hI := heap_alloc_new w (.cells #[.int .i64 q.kind, .string q.node, .string q.name, .string q.text, .int .i64 q.tr, .int .i64 q.status, .int .i64 q.now, .string q.par, .string q.pnode] 39)
  have htop : ∀ g, H g → g < w.heap.size := by
    obtain ⟨_, _, _, _, _, _, _, _, _, htop⟩ := R.opened
    exact htop
  obtain ⟨res, hres⟩ : ∃ res, res = signalR nm ns r q := ⟨_, rfl⟩
  rw [← hres]
  have HRes := hid hres
  obtain ⟨⟨i0, i1, i2, i3, i4, i5, i6, i7, i8⟩, _⟩ := nine hI
  have hnode := fun kd => node_any (E.new K0) (R.new K0) q.node kd
  have HI := hid hI
  have HT := hid htop
  have HE1 := hid (E.new K0)
  have HR1 := hid (R.new K0)
  have HR0 := hid R
  have HE0 := hid E
  have HK0 := hid K0
  have HF := hid F
  have HFN := hid FN
  have HS := hid S
  unfold inpV
  clear K0 hI htop hres E R F FN S
  have hname := fun V => refName_any V q.name hq
  have Hn1' : Hid (nameP q.name = nameP q.name) := rfl
  cases hnm : nameP q.name with
  | false =>
    rw [hnm] at hname
    have HQ : Hid (signalR nm ns r q = (r, 17)) := by
      show _ = _
      unfold signalR
      rw [if_pos hnm]
    clear hnm Hn1' hs
    go_enter Tryd.func65, Tryd.ntmps65
    go_wp2_with (first
      | (go_at_call 45; refine (hname _).mono ?_; rintro e wn ⟨rfl, hw⟩; subst wn; clear hname)
      | fail)
    go_ret
    obtain rfl := HRes.out.trans HQ.out
    refine ⟨rfl, ?_⟩
    exact RGoes.first HK0.out (RGoes.keep HR1.out (Kept.refl _ _))
  | true =>
    rw [hnm] at hname
    have Hn1 := hid hnm
    clear hnm Hn1'
    by_cases ht : 256 < q.text.size
    · have e6 : (256 : Int) < (q.text.size : Int) := by omega
      have HQ : Hid (signalR nm ns r q = (r, 9)) := by
        show _ = _
        unfold signalR
        rw [if_neg (by rw [Hn1.out]; simp), if_pos ht]
      clear ht hs
      go_enter Tryd.func65, Tryd.ntmps65
      go_wp2_with (first
        | (go_at_call 45; refine (hname _).mono ?_; rintro e wn ⟨rfl, hw⟩; subst wn; clear hname)
        | fail)
      go_ret
      obtain rfl := HRes.out.trans HQ.out
      refine ⟨rfl, ?_⟩
      exact RGoes.first HK0.out (RGoes.keep HR1.out (Kept.refl _ _))
    · have e6 : ¬ ((256 : Int) < (q.text.size : Int)) := by omega
      have Ht1 := hid ht
      have hlen := HFN.out.len
      have HL := hid hlen
      have HS2h := hid hs
      obtain ⟨v6, v7, v12, v13, hb, hn6, hn7, hHr, _, _⟩ := HR1.out.opened
      obtain ⟨a6, c6, rfl⟩ := ownsRow_shape hn6
      obtain ⟨a7, c7, rfl⟩ := ownsRow_shape hn7
      have HBk := hid hb
      have HN6 := hid hn6
      have HN := hid HE1.out.here.1
      have hrb : rb < (w.alloc (.cells #[.int .i64 q.kind, .string q.node, .string q.name, .string q.text, .int .i64 q.tr, .int .i64 q.status, .int .i64 q.now, .string q.par, .string q.pnode] 39)).heap.size := (Array.getElem?_eq_some_iff.1 hb).1
      clear hb hn6 hn7 hHr ht hlen hs
      go_enter Tryd.func65, Tryd.ntmps65
      go_upto_region 5 with (first
        | (go_at_call 45; refine (hname _).mono ?_; rintro e wn ⟨rfl, hw⟩; subst wn; clear hname)
        | fail)
      clear i0 i1 i2 i3 i4 i5 i6 i7 i8
      go_wp2_with fail
      go_loopw [5] (fun i wr => ∃ (k : Nat), k ≤ ns.length ∧ i = .int .i64 k ∧ Kept (fun _ => False) (w.alloc (.cells #[.int .i64 q.kind, .string q.node, .string q.name, .string q.text, .int .i64 q.tr, .int .i64 q.status, .int .i64 q.now, .string q.par, .string q.pnode] 39)) wr ∧ ∀ j, j < k → waitB ns r.st q.name j = false) (fun i _ => ns.length - (intOf i).toNat)
      case atStart => exact ⟨0, Nat.zero_le _, rfl, Kept.refl _ _, fun j h => absurd h (Nat.not_lt_zero _)⟩
      case round =>
        obtain ⟨k, hk, rfl, K, hno⟩ := hrel
        have HNo := hid hno
        clear hno
        obtain ⟨x0, x1, _, x3, _, _, _, _, x8, x9, _⟩ := runCells ((K.block rb hrb (fun h => h)).trans HBk.out)
        obtain ⟨⟨i0, i1, i2, i3, i4, i5, i6, i7, i8⟩, _⟩ := nine ((K.block _ (Array.getElem?_eq_some_iff.1 HI.out).1 (fun h => h)).trans HI.out)
        by_cases hlt : k < ns.length
        · have hl2 : k < r.st.nodes.length := by rw [HL.out]; exact hlt
          have e1 : (k : Int) < (ns.length : Int) := by omega
          have e2 : (k : Int) < (r.st.nodes.length : Int) := by omega
          obtain ⟨b, o, av, cv, hae, hT, c0, c1, c2, c3, c4, c5, c6'⟩ := (keptNew K HN.out).at hlt
          subst hae
          have hn7 := ownsRow_keep HN6.out (fun g hg => K.block g (ownsRow_blk HN6.out hg) (fun h => h))
          obtain ⟨g6, cg, hv, _, _, hrow⟩ := row_at hn7 (by omega)
          obtain ⟨rfl, rfl⟩ : a6 = some ⟨g6, 0, none⟩ ∧ c6 = cg := by simpa using hv
          have q0 := (hrow _ _ (nsF_get hl2).1).1
          have KA : Kept (fun _ => False) wr (wr.alloc (.cells #[.string (ns[k]).name, .int .i64 (ns[k]).kind, .string (ns[k]).arg, .string (ns[k]).«to», .int .i64 (ns[k]).delay, .int .i64 (ns[k]).tries, .slice av (ns[k]).after.length cv] 64)) := Kept.alloc _ _ _
          have q0' := keepC KA q0 (fun _ _ h => h)
          have x8' := keepC KA x8 (fun _ _ h => h)
          have i2' := keepC KA i2 (fun _ _ h => h)
          have i3' := keepC KA i3 (fun _ _ h => h)
          obtain ⟨⟨m0, m1, m2, m3, m4, m5, m6⟩, _⟩ := cells7F (heap_alloc_new wr (.cells #[.string (ns[k]).name, .int .i64 (ns[k]).kind, .string (ns[k]).arg, .string (ns[k]).«to», .int .i64 (ns[k]).delay, .int .i64 (ns[k]).tries, .slice av (ns[k]).after.length cv] 64))
          have hwb : waitB ns r.st q.name k = (((ns[k]).kind == 4) && (decide ((ns[k]).arg = q.name) && ((r.st.nodes[k]).status == 2))) := by unfold waitB; rw [List.getElem?_eq_getElem hlt, List.getElem?_eq_getElem hl2]
          have HW := hid hwb
          have Hnx : Hid (waitB ns r.st q.name k = false → ∀ j, j < k + 1 → waitB ns r.st q.name j = false) := fun h j hj => by
            rcases Nat.lt_succ_iff_lt_or_eq.1 hj with h' | h'
            · exact HNo.out j h'
            · subst h'; exact h
          have Hyes : Hid (waitB ns r.st q.name k = true → busyWaitP ns r.st q.name = some k) := fun h => range_find_some (by rw [HL.out]; omega) HNo.out h
          have hnmk : nmAt ns k = (ns[k]).name := by unfold nmAt; rw [List.getElem?_eq_getElem hlt]
          have hse := str_eq (ns[k]).arg q.name
          have hE := fun V (KV : Kept (fun _ => False) wr V) => eventE ((HE1.out.new K).new KV) ((HR1.out.new K).new KV) HF.out (by omega) ⟨12, (ns[k]).name, q.text, 0⟩
          simp only [] at hE
          have Hnmk := hid hnmk
          clear hnmk
          have HF2 := hid (evR_fit (nm := nm) (ns := ns) HF.out (by omega) ⟨12, (ns[k]).name, q.text, 0⟩)
          have HFN2 := hid (evR_fine (nm := nm) (e := ⟨12, (ns[k]).name, q.text, 0⟩) HFN.out)
          have HS2 : Hid ((evR nm ns r ⟨12, (ns[k]).name, q.text, 0⟩).st.status = 1) := (evR_status (by simp) (by simp)).trans HS2h.out
          have HK := hid K
          have HKA := hid KA
          clear hT hn7 hrow q0 hwb K KA HNo hv
          generalize hza : (ns[k]).arg = za at *
          generalize (r.st.nodes[k]).status = zs at *
          cases b1 : ((ns[k]).kind == 4) with
          | false =>
            have HFa := hid (Hnx.out (by rw [HW.out, b1]; rfl))
            clear Hnx Hyes HW hse hE
            go_wp2_with fail
            go_roundw
            case rel => exact ⟨k + 1, by omega, by go_num, HK.out.and HKA.out, HFa.out⟩
            case measure => simp [intOf]; omega
          | true =>
            cases b2 : (za.toList == q.name.toList) with
            | false =>
              have HFa := hid (Hnx.out (by rw [HW.out, b1, ← hse, b2]; rfl))
              clear Hnx Hyes HW hse hE
              go_wp2_with fail
              go_roundw
              case rel => exact ⟨k + 1, by omega, by go_num, HK.out.and HKA.out, HFa.out⟩
              case measure => simp [intOf]; omega
            | true =>
              cases b3 : (zs == 2) with
              | false =>
                have HFa := hid (Hnx.out (by rw [HW.out, b1, ← hse, b2, b3]; rfl))
                clear Hnx Hyes HW hse hE
                go_wp2_with fail
                go_roundw
                case rel => exact ⟨k + 1, by omega, by go_num, HK.out.and HKA.out, HFa.out⟩
                case measure => simp [intOf]; omega
              | true =>
                have HB := Hyes.out (by rw [HW.out, b1, ← hse, b2, b3]; rfl)
                have HQ : Hid (signalR nm ns r q = (goOnP nm ns (evR nm ns r ⟨12, (ns[k]).name, q.text, 0⟩), 0)) := by
                  show _ = _
                  unfold signalR
                  rw [if_neg (by rw [Hn1.out]; simp), if_neg Ht1.out, HB]
                  dsimp only
                  rw [Hnmk.out]
                clear Hnx Hyes HW hse HB
                go_upto_region 10 with fail
                go_upto_region 11 with (first
                  | (go_at_call 63; refine (hE _ (HKA.out)).mono ?_; rintro e w2 ⟨rfl, X2⟩; clear hE)
                  | fail)
                obtain ⟨H2, E2, R2, hH2, K2⟩ := env_goes (HE1.out.new (HK.out.and HKA.out)) X2
                have hT := on_any E2 R2 HF2.out (by omega) hn hpos HS.out HFN2.out HS2.out
                have HH2 := hid hH2
                have HK2 := hid K2
                clear hH2 K2 X2 R2 E2
                go_wp2_with (first
                  | (go_at_call 64; refine hT.mono ?_; rintro e w3 ⟨rfl, X3⟩; clear hT)
                  | fail)
                go_ret
                obtain rfl := HRes.out.trans HQ.out
                refine ⟨rfl, ?_⟩
                exact RGoes.first ((HK0.out.and HK.out).and HKA.out) (RGoes.trans HH2.out HK2.out X3)
        · obtain rfl : k = ns.length := by omega
          have e1 : ¬ ((ns.length : Int) < (ns.length : Int)) := by omega
          have e2 : ¬ ((ns.length : Int) < (r.st.nodes.length : Int)) := by rw [HL.out]; omega
          have HB : Hid (busyWaitP ns r.st q.name = none) := range_find_none (fun j hj => HNo.out j (by rw [HL.out] at hj; omega))
          have HK := hid K
          by_cases hf : 32 ≤ r.st.sigs.length
          · have e7 : (32 : Int) ≤ (r.st.sigs.length : Int) := by omega
            have HQ : Hid (signalR nm ns r q = (r, 8)) := by
              show _ = _
              unfold signalR
              rw [if_neg (by rw [Hn1.out]; simp), if_neg Ht1.out, HB.out]
              dsimp only
              rw [if_pos hf]
            clear K
            go_wp2_with fail
            go_ret
            obtain rfl := HRes.out.trans HQ.out
            refine ⟨rfl, ?_⟩
            exact RGoes.keep HR0.out (HK0.out.and HK.out)
          · have e7 : ¬ ((32 : Int) ≤ (r.st.sigs.length : Int)) := by omega
            have HQ : Hid (signalR nm ns r q = (evR nm ns r ⟨13, q.name, q.text, 0⟩, 0)) := by
              show _ = _
              unfold signalR
              rw [if_neg (by rw [Hn1.out]; simp), if_neg Ht1.out, HB.out]
              dsimp only
              rw [if_neg hf]
            have hE := eventE (HE1.out.new K) (HR1.out.new K) HF.out (by omega) ⟨13, q.name, q.text, 0⟩
            simp only [] at hE
            clear K
            go_upto_region 15 with fail
            go_wp2_with (first
              | (go_at_call 63; refine hE.mono ?_; rintro e w2 ⟨rfl, X2⟩; clear hE)
              | fail)
            go_ret
            obtain rfl := HRes.out.trans HQ.out
            refine ⟨rfl, ?_⟩
            exact RGoes.first (HK0.out.and HK.out) X2

end Go.Proofs.YtfjekjbkifmpfaaDoor.Rf
