/-
  The document's child, fire, activity, in memory.
-/
import Derived.Test.YtfjekjbkifmpfaaDoorG50
namespace Go.Proofs.YtfjekjbkifmpfaaDoor.Rf
open Go.RowKit

set_option maxRecDepth 100000 in
set_option maxHeartbeats 8000000 in
theorem child_any {w0 w : World} {H : Nat → Prop} {rb : Nat} {nm : ByteArray} {a : Option Addr} {c : Nat} {ns : List Nd} {r : Rn} {m : Nat} (E : Env w0 w H a ns) (R : RAt w H rb nm a ns.length c r) (F : Fit r m) (hm : m ≤ 400000) (hn : ns.length ≤ 64) (hpos : 0 < ns.length) (S : Sound ns) (FN : Fine ns r.st) (hs : r.st.status = 1) (q : Inp) :
    Calls Tryd.prog 68 #[.pointer (some ⟨rb, 0, none⟩), inpV q] w fun e w' => e = .returned (.int .i64 (childR nm ns r q).2) ∧ RGoes w H rb nm a ns.length c (childR nm ns r q).1 w' := by
  have K0 : Kept (fun _ => False) w (w.alloc (.cells #[.int .i64 q.kind, .string q.node, .string q.name, .string q.text, .int .i64 q.tr, .int .i64 q.status, .int .i64 q.now, .string q.par, .string q.pnode] 39)) := Kept.alloc _ _ _
  have hI := heap_alloc_new w (.cells #[.int .i64 q.kind, .string q.node, .string q.name, .string q.text, .int .i64 q.tr, .int .i64 q.status, .int .i64 q.now, .string q.par, .string q.pnode] 39)
  have htop : ∀ g, H g → g < w.heap.size := by
    obtain ⟨_, _, _, _, _, _, _, _, _, htop⟩ := R.opened
    exact htop
  obtain ⟨res, hres⟩ : ∃ res, res = childR nm ns r q := ⟨_, rfl⟩
  rw [← hres]
  have HRes := hid hres
  obtain ⟨⟨i0, i1, i2, i3, i4, i5, i6, i7, i8⟩, _⟩ := nine hI
  have hnode := fun kd => node_any (E.new K0) (R.new K0) q.node kd
  have HI := hid hI
  have HT := hid htop
  have HE1 := hid (E.new K0)
  have HR1 := hid (R.new K0)
  have HR0 := hid R
  have HE0 := hid E
  have HK0 := hid K0
  have HF := hid F
  have HFN := hid FN
  have HS := hid S
  unfold inpV
  clear K0 hI htop hres E R F FN S
  have hnd := hnode 3
  clear hnode
  cases hfk : findK ns r.st q.node [3] with
  | none =>
    rw [hfk] at hnd
    unfold NodePost at hnd
    simp only [] at hnd
    have HQ : Hid (childR nm ns r q = (r, 6)) := by
      show _ = _
      unfold childR
      rw [hfk]
    clear hfk hs
    go_enter Tryd.func68, Tryd.ntmps68
    go_wp2_with (first
      | (go_at_call 85; refine hnd.mono ?_; rintro e w2 ⟨rfl, K2⟩; clear hnd)
      | fail)
    go_ret
    obtain rfl := HRes.out.trans HQ.out
    refine ⟨rfl, ?_⟩
    exact RGoes.first HK0.out (RGoes.keep HR1.out (K2.and ((Kept.alloc _ _ _).and (Kept.alloc _ _ _))))
  | some i =>
    obtain ⟨h1, h2, _, hkc⟩ := findK_some hfk
    rw [hfk] at hnd
    unfold NodePost ndV nsV at hnd
    simp only [] at hnd
    have hx : ns[i]? = some ns[i] := List.getElem?_eq_getElem h1
    have hy : r.st.nodes[i]? = some r.st.nodes[i] := List.getElem?_eq_getElem h2
    by_cases h3 : (r.st.nodes[i]).status = 2
    · have e2 : ((r.st.nodes[i]).status != 2) = false := by rw [bne_eq_false_iff_eq]; exact h3
      by_cases h4 : q.status = 2
      · have e4 : (q.status == 2) = true := by rw [beq_iff_eq]; exact h4
        have HQ : Hid (childR nm ns r q = (goOnP nm ns (evR nm ns r ⟨10, (ns[i]).name, q.text, 0⟩), 0)) := by
          show _ = _
          unfold childR
          rw [hfk]
          dsimp only
          rw [hx, hy]
          dsimp only
          rw [if_neg (not_not_intro h3), if_pos h4]
        clear h3 h4 hkc hfk hx hy
        go_enter Tryd.func68, Tryd.ntmps68
        go_upto_region 2 with (first
          | (go_at_call 85; refine hnd.mono ?_; rintro e w2 ⟨⟨_, _, av, cv, rfl⟩, K2⟩; clear hnd)
          | fail)
        have hw2 : w.heap.size < w2.heap.size := by
          have h := K2.size
          rw [World.size_alloc] at h
          omega
        have B : Bxs ((w2.alloc (.cells #[.string (ns[i]).name, .int .i64 (ns[i]).kind, .string (ns[i]).arg, .string (ns[i]).«to», .int .i64 (ns[i]).delay, .int .i64 (ns[i]).tries, .slice av (ns[i]).after.length cv] 64)).alloc (.cells #[.int .i64 (r.st.nodes[i]).status, .int .i64 (r.st.nodes[i]).tr, .string (r.st.nodes[i]).text] 61)) H w.heap.size w2.heap.size (w2.heap.size + 1) q ns[i] r.st.nodes[i] (.slice av (ns[i]).after.length cv) :=
          Bxs.mk2 (((K2.block _ (by simp) (fun h => h)).trans HI.out)) hw2 HT.out
        have HKB := hid ((HK0.out.and K2).and ((Kept.alloc (fun _ => False) w2 (.cells #[.string (ns[i]).name, .int .i64 (ns[i]).kind, .string (ns[i]).arg, .string (ns[i]).«to», .int .i64 (ns[i]).delay, .int .i64 (ns[i]).tries, .slice av (ns[i]).after.length cv] 64)).and (Kept.alloc (fun _ => False) _ (.cells #[.int .i64 (r.st.nodes[i]).status, .int .i64 (r.st.nodes[i]).tr, .string (r.st.nodes[i]).text] 61))))
        have HEB := hid (HE1.out.new (K2.and ((Kept.alloc (fun _ => False) w2 (.cells #[.string (ns[i]).name, .int .i64 (ns[i]).kind, .string (ns[i]).arg, .string (ns[i]).«to», .int .i64 (ns[i]).delay, .int .i64 (ns[i]).tries, .slice av (ns[i]).after.length cv] 64)).and (Kept.alloc (fun _ => False) _ (.cells #[.int .i64 (r.st.nodes[i]).status, .int .i64 (r.st.nodes[i]).tr, .string (r.st.nodes[i]).text] 61)))))
        have HRB := hid (HR1.out.new (K2.and ((Kept.alloc (fun _ => False) w2 (.cells #[.string (ns[i]).name, .int .i64 (ns[i]).kind, .string (ns[i]).arg, .string (ns[i]).«to», .int .i64 (ns[i]).delay, .int .i64 (ns[i]).tries, .slice av (ns[i]).after.length cv] 64)).and (Kept.alloc (fun _ => False) _ (.cells #[.int .i64 (r.st.nodes[i]).status, .int .i64 (r.st.nodes[i]).tr, .string (r.st.nodes[i]).text] 61)))))
        have HB := hid B
        clear i0 i1 i2 i3 i4 i5 i6 i7 i8 K2
        generalize ((w2.alloc (.cells #[.string (ns[i]).name, .int .i64 (ns[i]).kind, .string (ns[i]).arg, .string (ns[i]).«to», .int .i64 (ns[i]).delay, .int .i64 (ns[i]).tries, .slice av (ns[i]).after.length cv] 64)).alloc (.cells #[.int .i64 (r.st.nodes[i]).status, .int .i64 (r.st.nodes[i]).tr, .string (r.st.nodes[i]).text] 61)) = W at *
        generalize w2.heap.size + 1 = yb at *
        generalize w2.heap.size = nb at *
        obtain ⟨i0, i1, i2, i3, i4, i5, i6, i7, i8, n0, n1, n2, n3, n4, n5, n6, s0, s1, s2⟩ := B.cells
        clear B hw2
        have F2 := evR_fit (nm := nm) (ns := ns) HF.out (by omega) ⟨10, (ns[i]).name, q.text, 0⟩
        have FN2 := evR_fine (nm := nm) (e := ⟨10, (ns[i]).name, q.text, 0⟩) HFN.out
        have hE := eventE HEB.out HRB.out HF.out (by omega) ⟨10, (ns[i]).name, q.text, 0⟩
        simp only [] at hE
        go_upto_region 7 with fail
        go_upto_region 8 with (first
          | (go_at_call 63; refine (hE).mono ?_; rintro e w2 ⟨rfl, X2⟩; clear hE)
          | fail)
        clear i0 i1 i2 i3 i4 i5 i6 i7 i8 n0 n1 n2 n3 n4 n5 n6 s0 s1 s2
        obtain ⟨H2, E2, R2, hH2, K2⟩ := env_goes HEB.out X2
        have B2 := HB.out.goes hH2 K2
        have HKW2 := hid ((HKB.out.mono (fun _ h => h.elim)).and K2 : Kept H w w2)
        have HH2 : Hid (∀ g, H2 g → H g ∨ w.heap.size ≤ g) := fun g h => (hH2 g h).imp (fun h => h) (fun h => Nat.le_trans HKB.out.size h)
        have HR2 := hid R2
        have HE2 := hid E2
        have HB2 := hid B2
        obtain ⟨i0, i1, i2, i3, i4, i5, i6, i7, i8, n0, n1, n2, n3, n4, n5, n6, s0, s1, s2⟩ := B2.cells
        clear hH2 K2 X2 R2 E2 B2
        have hs2 : (evR nm ns r ⟨10, (ns[i]).name, q.text, 0⟩).st.status = 1 := (evR_status (by simp) (by simp)).trans hs
        have hT := on_any HE2.out HR2.out F2 (by omega) hn hpos HS.out FN2 hs2
        go_wp2_with (first
          | (go_at_call 64; refine (hT).mono ?_; rintro e w3 ⟨rfl, X3⟩; clear hT)
          | fail)
        go_ret
        obtain rfl := HRes.out.trans HQ.out
        refine ⟨rfl, ?_⟩
        exact RGoes.trans HH2.out HKW2.out X3
      · have e4 : (q.status == 2) = false := by rw [beq_eq_false_iff_ne]; exact h4
        have HQ : Hid (childR nm ns r q = (closedR nm ns (evR nm ns r ⟨6, (ns[i]).name, q.text, 0⟩) 3 q.text, 0)) := by
          show _ = _
          unfold childR
          rw [hfk]
          dsimp only
          rw [hx, hy]
          dsimp only
          rw [if_neg (not_not_intro h3), if_neg h4]
        clear h3 h4 hkc hfk hx hy
        go_enter Tryd.func68, Tryd.ntmps68
        go_upto_region 2 with (first
          | (go_at_call 85; refine hnd.mono ?_; rintro e w2 ⟨⟨_, _, av, cv, rfl⟩, K2⟩; clear hnd)
          | fail)
        have hw2 : w.heap.size < w2.heap.size := by
          have h := K2.size
          rw [World.size_alloc] at h
          omega
        have B : Bxs ((w2.alloc (.cells #[.string (ns[i]).name, .int .i64 (ns[i]).kind, .string (ns[i]).arg, .string (ns[i]).«to», .int .i64 (ns[i]).delay, .int .i64 (ns[i]).tries, .slice av (ns[i]).after.length cv] 64)).alloc (.cells #[.int .i64 (r.st.nodes[i]).status, .int .i64 (r.st.nodes[i]).tr, .string (r.st.nodes[i]).text] 61)) H w.heap.size w2.heap.size (w2.heap.size + 1) q ns[i] r.st.nodes[i] (.slice av (ns[i]).after.length cv) :=
          Bxs.mk2 (((K2.block _ (by simp) (fun h => h)).trans HI.out)) hw2 HT.out
        have HKB := hid ((HK0.out.and K2).and ((Kept.alloc (fun _ => False) w2 (.cells #[.string (ns[i]).name, .int .i64 (ns[i]).kind, .string (ns[i]).arg, .string (ns[i]).«to», .int .i64 (ns[i]).delay, .int .i64 (ns[i]).tries, .slice av (ns[i]).after.length cv] 64)).and (Kept.alloc (fun _ => False) _ (.cells #[.int .i64 (r.st.nodes[i]).status, .int .i64 (r.st.nodes[i]).tr, .string (r.st.nodes[i]).text] 61))))
        have HEB := hid (HE1.out.new (K2.and ((Kept.alloc (fun _ => False) w2 (.cells #[.string (ns[i]).name, .int .i64 (ns[i]).kind, .string (ns[i]).arg, .string (ns[i]).«to», .int .i64 (ns[i]).delay, .int .i64 (ns[i]).tries, .slice av (ns[i]).after.length cv] 64)).and (Kept.alloc (fun _ => False) _ (.cells #[.int .i64 (r.st.nodes[i]).status, .int .i64 (r.st.nodes[i]).tr, .string (r.st.nodes[i]).text] 61)))))
        have HRB := hid (HR1.out.new (K2.and ((Kept.alloc (fun _ => False) w2 (.cells #[.string (ns[i]).name, .int .i64 (ns[i]).kind, .string (ns[i]).arg, .string (ns[i]).«to», .int .i64 (ns[i]).delay, .int .i64 (ns[i]).tries, .slice av (ns[i]).after.length cv] 64)).and (Kept.alloc (fun _ => False) _ (.cells #[.int .i64 (r.st.nodes[i]).status, .int .i64 (r.st.nodes[i]).tr, .string (r.st.nodes[i]).text] 61)))))
        have HB := hid B
        clear i0 i1 i2 i3 i4 i5 i6 i7 i8 K2
        generalize ((w2.alloc (.cells #[.string (ns[i]).name, .int .i64 (ns[i]).kind, .string (ns[i]).arg, .string (ns[i]).«to», .int .i64 (ns[i]).delay, .int .i64 (ns[i]).tries, .slice av (ns[i]).after.length cv] 64)).alloc (.cells #[.int .i64 (r.st.nodes[i]).status, .int .i64 (r.st.nodes[i]).tr, .string (r.st.nodes[i]).text] 61)) = W at *
        generalize w2.heap.size + 1 = yb at *
        generalize w2.heap.size = nb at *
        obtain ⟨i0, i1, i2, i3, i4, i5, i6, i7, i8, n0, n1, n2, n3, n4, n5, n6, s0, s1, s2⟩ := B.cells
        clear B hw2
        have F2 := evR_fit (nm := nm) (ns := ns) HF.out (by omega) ⟨6, (ns[i]).name, q.text, 0⟩
        have FN2 := evR_fine (nm := nm) (e := ⟨6, (ns[i]).name, q.text, 0⟩) HFN.out
        have hE := eventE HEB.out HRB.out HF.out (by omega) ⟨6, (ns[i]).name, q.text, 0⟩
        simp only [] at hE
        go_upto_region 10 with fail
        go_upto_region 11 with (first
          | (go_at_call 63; refine (hE).mono ?_; rintro e w2 ⟨rfl, X2⟩; clear hE)
          | fail)
        clear i0 i1 i2 i3 i4 i5 i6 i7 i8 n0 n1 n2 n3 n4 n5 n6 s0 s1 s2
        obtain ⟨H2, E2, R2, hH2, K2⟩ := env_goes HEB.out X2
        have B2 := HB.out.goes hH2 K2
        have HKW2 := hid ((HKB.out.mono (fun _ h => h.elim)).and K2 : Kept H w w2)
        have HH2 : Hid (∀ g, H2 g → H g ∨ w.heap.size ≤ g) := fun g h => (hH2 g h).imp (fun h => h) (fun h => Nat.le_trans HKB.out.size h)
        have HR2 := hid R2
        have HE2 := hid E2
        have HB2 := hid B2
        obtain ⟨i0, i1, i2, i3, i4, i5, i6, i7, i8, n0, n1, n2, n3, n4, n5, n6, s0, s1, s2⟩ := B2.cells
        clear hH2 K2 X2 R2 E2 B2
        have hT := closed_any HE2.out HR2.out F2 (by omega) hn 3 q.text
        go_wp2_with (first
          | (go_at_call 69; refine (hT).mono ?_; rintro e w3 ⟨rfl, X3⟩; clear hT)
          | fail)
        go_ret
        obtain rfl := HRes.out.trans HQ.out
        refine ⟨rfl, ?_⟩
        exact RGoes.trans HH2.out HKW2.out X3
    · have e2 : ((r.st.nodes[i]).status != 2) = true := by rw [bne_iff_ne]; exact h3
      have HQ : Hid (childR nm ns r q = (r, 12)) := by
        show _ = _
        unfold childR
        rw [hfk]
        dsimp only
        rw [hx, hy]
        dsimp only
        rw [if_pos h3]
      clear h3 hkc hfk hx hy hs
      go_enter Tryd.func68, Tryd.ntmps68
      go_upto_region 2 with (first
        | (go_at_call 85; refine hnd.mono ?_; rintro e w2 ⟨⟨_, _, av, cv, rfl⟩, K2⟩; clear hnd)
        | fail)
      have hw2 : w.heap.size < w2.heap.size := by
        have h := K2.size
        rw [World.size_alloc] at h
        omega
      have B : Bxs ((w2.alloc (.cells #[.string (ns[i]).name, .int .i64 (ns[i]).kind, .string (ns[i]).arg, .string (ns[i]).«to», .int .i64 (ns[i]).delay, .int .i64 (ns[i]).tries, .slice av (ns[i]).after.length cv] 64)).alloc (.cells #[.int .i64 (r.st.nodes[i]).status, .int .i64 (r.st.nodes[i]).tr, .string (r.st.nodes[i]).text] 61)) H w.heap.size w2.heap.size (w2.heap.size + 1) q ns[i] r.st.nodes[i] (.slice av (ns[i]).after.length cv) :=
        Bxs.mk2 (((K2.block _ (by simp) (fun h => h)).trans HI.out)) hw2 HT.out
      have HKB := hid ((HK0.out.and K2).and ((Kept.alloc (fun _ => False) w2 (.cells #[.string (ns[i]).name, .int .i64 (ns[i]).kind, .string (ns[i]).arg, .string (ns[i]).«to», .int .i64 (ns[i]).delay, .int .i64 (ns[i]).tries, .slice av (ns[i]).after.length cv] 64)).and (Kept.alloc (fun _ => False) _ (.cells #[.int .i64 (r.st.nodes[i]).status, .int .i64 (r.st.nodes[i]).tr, .string (r.st.nodes[i]).text] 61))))
      have HEB := hid (HE1.out.new (K2.and ((Kept.alloc (fun _ => False) w2 (.cells #[.string (ns[i]).name, .int .i64 (ns[i]).kind, .string (ns[i]).arg, .string (ns[i]).«to», .int .i64 (ns[i]).delay, .int .i64 (ns[i]).tries, .slice av (ns[i]).after.length cv] 64)).and (Kept.alloc (fun _ => False) _ (.cells #[.int .i64 (r.st.nodes[i]).status, .int .i64 (r.st.nodes[i]).tr, .string (r.st.nodes[i]).text] 61)))))
      have HRB := hid (HR1.out.new (K2.and ((Kept.alloc (fun _ => False) w2 (.cells #[.string (ns[i]).name, .int .i64 (ns[i]).kind, .string (ns[i]).arg, .string (ns[i]).«to», .int .i64 (ns[i]).delay, .int .i64 (ns[i]).tries, .slice av (ns[i]).after.length cv] 64)).and (Kept.alloc (fun _ => False) _ (.cells #[.int .i64 (r.st.nodes[i]).status, .int .i64 (r.st.nodes[i]).tr, .string (r.st.nodes[i]).text] 61)))))
      have HB := hid B
      clear i0 i1 i2 i3 i4 i5 i6 i7 i8 K2
      generalize ((w2.alloc (.cells #[.string (ns[i]).name, .int .i64 (ns[i]).kind, .string (ns[i]).arg, .string (ns[i]).«to», .int .i64 (ns[i]).delay, .int .i64 (ns[i]).tries, .slice av (ns[i]).after.length cv] 64)).alloc (.cells #[.int .i64 (r.st.nodes[i]).status, .int .i64 (r.st.nodes[i]).tr, .string (r.st.nodes[i]).text] 61)) = W at *
      generalize w2.heap.size + 1 = yb at *
      generalize w2.heap.size = nb at *
      obtain ⟨i0, i1, i2, i3, i4, i5, i6, i7, i8, n0, n1, n2, n3, n4, n5, n6, s0, s1, s2⟩ := B.cells
      clear B hw2
      go_wp2_with fail
      go_ret
      obtain rfl := HRes.out.trans HQ.out
      refine ⟨rfl, ?_⟩
      exact RGoes.first HKB.out (RGoes.keep HRB.out (Kept.refl _ _))
set_option maxRecDepth 100000 in
set_option maxHeartbeats 8000000 in
theorem activity_any {w0 w : World} {H : Nat → Prop} {rb : Nat} {nm : ByteArray} {a : Option Addr} {c : Nat} {ns : List Nd} {r : Rn} {m : Nat} (E : Env w0 w H a ns) (R : RAt w H rb nm a ns.length c r) (F : Fit r m) (hm : m ≤ 400000) (hn : ns.length ≤ 64) (hpos : 0 < ns.length) (S : Sound ns) (FN : Fine ns r.st) (hs : r.st.status = 1) (q : Inp) :
    Calls Tryd.prog 66 #[.pointer (some ⟨rb, 0, none⟩), inpV q] w fun e w' => e = .returned (.int .i64 (activityR nm ns r q).2) ∧ RGoes w H rb nm a ns.length c (activityR nm ns r q).1 w' := by
  have K0 : Kept (fun _ => False) w (w.alloc (.cells #[.int .i64 q.kind, .string q.node, .string q.name, .string q.text, .int .i64 q.tr, .int .i64 q.status, .int .i64 q.now, .string q.par, .string q.pnode] 39)) := Kept.alloc _ _ _
  have hI := heap_alloc_new w (.cells #[.int .i64 q.kind, .string q.node, .string q.name, .string q.text, .int .i64 q.tr, .int .i64 q.status, .int .i64 q.now, .string q.par, .string q.pnode] 39)
  have htop : ∀ g, H g → g < w.heap.size := by
    obtain ⟨_, _, _, _, _, _, _, _, _, htop⟩ := R.opened
    exact htop
  obtain ⟨res, hres⟩ : ∃ res, res = activityR nm ns r q := ⟨_, rfl⟩
  rw [← hres]
  have HRes := hid hres
  obtain ⟨⟨i0, i1, i2, i3, i4, i5, i6, i7, i8⟩, _⟩ := nine hI
  have hnode := fun kd => node_any (E.new K0) (R.new K0) q.node kd
  have HI := hid hI
  have HT := hid htop
  have HE1 := hid (E.new K0)
  have HR1 := hid (R.new K0)
  have HR0 := hid R
  have HE0 := hid E
  have HK0 := hid K0
  have HF := hid F
  have HFN := hid FN
  have HS := hid S
  unfold inpV
  clear K0 hI htop hres E R F FN S
  have hnd := hnode 1
  clear hnode
  cases hfk : findK ns r.st q.node [1] with
  | none =>
    rw [hfk] at hnd
    unfold NodePost at hnd
    simp only [] at hnd
    have HQ : Hid (activityR nm ns r q = (r, 6)) := by
      show _ = _
      unfold activityR
      rw [hfk]
    clear hfk hs
    go_enter Tryd.func66, Tryd.ntmps66
    go_wp2_with (first
      | (go_at_call 85; refine hnd.mono ?_; rintro e w2 ⟨rfl, K2⟩; clear hnd)
      | fail)
    go_ret
    obtain rfl := HRes.out.trans HQ.out
    refine ⟨rfl, ?_⟩
    exact RGoes.first HK0.out (RGoes.keep HR1.out (K2.and ((Kept.alloc _ _ _).and (Kept.alloc _ _ _))))
  | some i =>
    obtain ⟨h1, h2, _, hkc⟩ := findK_some hfk
    rw [hfk] at hnd
    unfold NodePost ndV nsV at hnd
    simp only [] at hnd
    have hx : ns[i]? = some ns[i] := List.getElem?_eq_getElem h1
    have hy : r.st.nodes[i]? = some r.st.nodes[i] := List.getElem?_eq_getElem h2
    obtain ⟨z, hz⟩ : ∃ z, IntKind.i64.wrap ((r.st.nodes[i]).tr + 1) = z := ⟨_, rfl⟩
    obtain ⟨z2, hz2⟩ : ∃ z2, IntKind.i64.wrap (q.now + (ns[i]).delay) = z2 := ⟨_, rfl⟩
    by_cases h3 : q.kind = 3
    · have e3 : (q.kind == 3) = true := by rw [beq_iff_eq]; exact h3
      by_cases h4 : (r.st.nodes[i]).status = 1
      · have e4 : ((r.st.nodes[i]).status != 1) = false := by rw [bne_eq_false_iff_eq]; exact h4
        by_cases h5 : 0 < (ns[i]).delay
        · have HQ : Hid (activityR nm ns r q = (taskR (evR nm ns r ⟨3, (ns[i]).name, ⟨#[]⟩, z⟩) ⟨2, ⟨#[]⟩, (ns[i]).name, z, z2, zeroMl⟩, 0)) := by
            show _ = _
            unfold activityR
            rw [hfk]
            dsimp only
            rw [hx, hy]
            dsimp only
            rw [if_pos h3, if_neg (not_not_intro h4), if_pos h5, hz, hz2]
          clear h3 h4 hkc hfk hx hy hs
          go_enter Tryd.func66, Tryd.ntmps66
          go_upto_region 2 with (first
            | (go_at_call 85; refine hnd.mono ?_; rintro e w2 ⟨⟨_, _, av, cv, rfl⟩, K2⟩; clear hnd)
            | fail)
          have hw2 : w.heap.size < w2.heap.size := by
            have h := K2.size
            rw [World.size_alloc] at h
            omega
          have B : Bxs ((w2.alloc (.cells #[.string (ns[i]).name, .int .i64 (ns[i]).kind, .string (ns[i]).arg, .string (ns[i]).«to», .int .i64 (ns[i]).delay, .int .i64 (ns[i]).tries, .slice av (ns[i]).after.length cv] 64)).alloc (.cells #[.int .i64 (r.st.nodes[i]).status, .int .i64 (r.st.nodes[i]).tr, .string (r.st.nodes[i]).text] 61)) H w.heap.size w2.heap.size (w2.heap.size + 1) q ns[i] r.st.nodes[i] (.slice av (ns[i]).after.length cv) :=
            Bxs.mk2 (((K2.block _ (by simp) (fun h => h)).trans HI.out)) hw2 HT.out
          have HKB := hid ((HK0.out.and K2).and ((Kept.alloc (fun _ => False) w2 (.cells #[.string (ns[i]).name, .int .i64 (ns[i]).kind, .string (ns[i]).arg, .string (ns[i]).«to», .int .i64 (ns[i]).delay, .int .i64 (ns[i]).tries, .slice av (ns[i]).after.length cv] 64)).and (Kept.alloc (fun _ => False) _ (.cells #[.int .i64 (r.st.nodes[i]).status, .int .i64 (r.st.nodes[i]).tr, .string (r.st.nodes[i]).text] 61))))
          have HEB := hid (HE1.out.new (K2.and ((Kept.alloc (fun _ => False) w2 (.cells #[.string (ns[i]).name, .int .i64 (ns[i]).kind, .string (ns[i]).arg, .string (ns[i]).«to», .int .i64 (ns[i]).delay, .int .i64 (ns[i]).tries, .slice av (ns[i]).after.length cv] 64)).and (Kept.alloc (fun _ => False) _ (.cells #[.int .i64 (r.st.nodes[i]).status, .int .i64 (r.st.nodes[i]).tr, .string (r.st.nodes[i]).text] 61)))))
          have HRB := hid (HR1.out.new (K2.and ((Kept.alloc (fun _ => False) w2 (.cells #[.string (ns[i]).name, .int .i64 (ns[i]).kind, .string (ns[i]).arg, .string (ns[i]).«to», .int .i64 (ns[i]).delay, .int .i64 (ns[i]).tries, .slice av (ns[i]).after.length cv] 64)).and (Kept.alloc (fun _ => False) _ (.cells #[.int .i64 (r.st.nodes[i]).status, .int .i64 (r.st.nodes[i]).tr, .string (r.st.nodes[i]).text] 61)))))
          have HB := hid B
          clear i0 i1 i2 i3 i4 i5 i6 i7 i8 K2
          generalize ((w2.alloc (.cells #[.string (ns[i]).name, .int .i64 (ns[i]).kind, .string (ns[i]).arg, .string (ns[i]).«to», .int .i64 (ns[i]).delay, .int .i64 (ns[i]).tries, .slice av (ns[i]).after.length cv] 64)).alloc (.cells #[.int .i64 (r.st.nodes[i]).status, .int .i64 (r.st.nodes[i]).tr, .string (r.st.nodes[i]).text] 61)) = W at *
          generalize w2.heap.size + 1 = yb at *
          generalize w2.heap.size = nb at *
          obtain ⟨i0, i1, i2, i3, i4, i5, i6, i7, i8, n0, n1, n2, n3, n4, n5, n6, s0, s1, s2⟩ := B.cells
          clear B hw2
          have F2 := evR_fit (nm := nm) (ns := ns) HF.out (by omega) ⟨3, (ns[i]).name, ⟨#[]⟩, z⟩
          have FN2 := evR_fine (nm := nm) (e := ⟨3, (ns[i]).name, ⟨#[]⟩, z⟩) HFN.out
          have hE := eventE HEB.out HRB.out HF.out (by omega) ⟨3, (ns[i]).name, ⟨#[]⟩, z⟩
          simp only [] at hE
          go_upto_region 7 with fail
          go_upto_region 8 with (first
            | (go_at_call 63; refine (hE).mono ?_; rintro e w2 ⟨rfl, X2⟩; clear hE)
            | fail)
          clear i0 i1 i2 i3 i4 i5 i6 i7 i8 n0 n1 n2 n3 n4 n5 n6 s0 s1 s2
          obtain ⟨H2, E2, R2, hH2, K2⟩ := env_goes HEB.out X2
          have B2 := HB.out.goes hH2 K2
          have HKW2 := hid ((HKB.out.mono (fun _ h => h.elim)).and K2 : Kept H w w2)
          have HH2 : Hid (∀ g, H2 g → H g ∨ w.heap.size ≤ g) := fun g h => (hH2 g h).imp (fun h => h) (fun h => Nat.le_trans HKB.out.size h)
          have HR2 := hid R2
          have HE2 := hid E2
          have HB2 := hid B2
          obtain ⟨i0, i1, i2, i3, i4, i5, i6, i7, i8, n0, n1, n2, n3, n4, n5, n6, s0, s1, s2⟩ := B2.cells
          clear hH2 K2 X2 R2 E2 B2
          have hT := fun V (KV : Kept (fun _ => False) w2 V) => task_any V H2 rb nm a ns.length c _ (HR2.out.new KV) (by have := F2.tks; omega) ⟨2, ⟨#[]⟩, (ns[i]).name, z, z2, zeroMl⟩
          unfold tkV at hT
          simp only [] at hT
          go_upto_region 10 with (first
            | (go_at_call 86; refine (hT _ (Kept.refl (fun _ => False) _)).mono ?_; rintro e w3 ⟨rfl, X3⟩; clear hT)
            | fail)
          go_wp2_with fail
          go_ret
          obtain rfl := HRes.out.trans HQ.out
          refine ⟨rfl, ?_⟩
          exact RGoes.trans HH2.out HKW2.out X3
        · have HQ : Hid (activityR nm ns r q = (evR nm ns r ⟨3, (ns[i]).name, ⟨#[]⟩, z⟩, 0)) := by
            show _ = _
            unfold activityR
            rw [hfk]
            dsimp only
            rw [hx, hy]
            dsimp only
            rw [if_pos h3, if_neg (not_not_intro h4), if_neg h5, hz]
          clear h3 h4 hkc hfk hx hy hs
          go_enter Tryd.func66, Tryd.ntmps66
          go_upto_region 2 with (first
            | (go_at_call 85; refine hnd.mono ?_; rintro e w2 ⟨⟨_, _, av, cv, rfl⟩, K2⟩; clear hnd)
            | fail)
          have hw2 : w.heap.size < w2.heap.size := by
            have h := K2.size
            rw [World.size_alloc] at h
            omega
          have B : Bxs ((w2.alloc (.cells #[.string (ns[i]).name, .int .i64 (ns[i]).kind, .string (ns[i]).arg, .string (ns[i]).«to», .int .i64 (ns[i]).delay, .int .i64 (ns[i]).tries, .slice av (ns[i]).after.length cv] 64)).alloc (.cells #[.int .i64 (r.st.nodes[i]).status, .int .i64 (r.st.nodes[i]).tr, .string (r.st.nodes[i]).text] 61)) H w.heap.size w2.heap.size (w2.heap.size + 1) q ns[i] r.st.nodes[i] (.slice av (ns[i]).after.length cv) :=
            Bxs.mk2 (((K2.block _ (by simp) (fun h => h)).trans HI.out)) hw2 HT.out
          have HKB := hid ((HK0.out.and K2).and ((Kept.alloc (fun _ => False) w2 (.cells #[.string (ns[i]).name, .int .i64 (ns[i]).kind, .string (ns[i]).arg, .string (ns[i]).«to», .int .i64 (ns[i]).delay, .int .i64 (ns[i]).tries, .slice av (ns[i]).after.length cv] 64)).and (Kept.alloc (fun _ => False) _ (.cells #[.int .i64 (r.st.nodes[i]).status, .int .i64 (r.st.nodes[i]).tr, .string (r.st.nodes[i]).text] 61))))
          have HEB := hid (HE1.out.new (K2.and ((Kept.alloc (fun _ => False) w2 (.cells #[.string (ns[i]).name, .int .i64 (ns[i]).kind, .string (ns[i]).arg, .string (ns[i]).«to», .int .i64 (ns[i]).delay, .int .i64 (ns[i]).tries, .slice av (ns[i]).after.length cv] 64)).and (Kept.alloc (fun _ => False) _ (.cells #[.int .i64 (r.st.nodes[i]).status, .int .i64 (r.st.nodes[i]).tr, .string (r.st.nodes[i]).text] 61)))))
          have HRB := hid (HR1.out.new (K2.and ((Kept.alloc (fun _ => False) w2 (.cells #[.string (ns[i]).name, .int .i64 (ns[i]).kind, .string (ns[i]).arg, .string (ns[i]).«to», .int .i64 (ns[i]).delay, .int .i64 (ns[i]).tries, .slice av (ns[i]).after.length cv] 64)).and (Kept.alloc (fun _ => False) _ (.cells #[.int .i64 (r.st.nodes[i]).status, .int .i64 (r.st.nodes[i]).tr, .string (r.st.nodes[i]).text] 61)))))
          have HB := hid B
          clear i0 i1 i2 i3 i4 i5 i6 i7 i8 K2
          generalize ((w2.alloc (.cells #[.string (ns[i]).name, .int .i64 (ns[i]).kind, .string (ns[i]).arg, .string (ns[i]).«to», .int .i64 (ns[i]).delay, .int .i64 (ns[i]).tries, .slice av (ns[i]).after.length cv] 64)).alloc (.cells #[.int .i64 (r.st.nodes[i]).status, .int .i64 (r.st.nodes[i]).tr, .string (r.st.nodes[i]).text] 61)) = W at *
          generalize w2.heap.size + 1 = yb at *
          generalize w2.heap.size = nb at *
          obtain ⟨i0, i1, i2, i3, i4, i5, i6, i7, i8, n0, n1, n2, n3, n4, n5, n6, s0, s1, s2⟩ := B.cells
          clear B hw2
          have F2 := evR_fit (nm := nm) (ns := ns) HF.out (by omega) ⟨3, (ns[i]).name, ⟨#[]⟩, z⟩
          have FN2 := evR_fine (nm := nm) (e := ⟨3, (ns[i]).name, ⟨#[]⟩, z⟩) HFN.out
          have hE := eventE HEB.out HRB.out HF.out (by omega) ⟨3, (ns[i]).name, ⟨#[]⟩, z⟩
          simp only [] at hE
          go_upto_region 7 with fail
          go_upto_region 8 with (first
            | (go_at_call 63; refine (hE).mono ?_; rintro e w2 ⟨rfl, X2⟩; clear hE)
            | fail)
          clear i0 i1 i2 i3 i4 i5 i6 i7 i8 n0 n1 n2 n3 n4 n5 n6 s0 s1 s2
          obtain ⟨H2, E2, R2, hH2, K2⟩ := env_goes HEB.out X2
          have B2 := HB.out.goes hH2 K2
          have HKW2 := hid ((HKB.out.mono (fun _ h => h.elim)).and K2 : Kept H w w2)
          have HH2 : Hid (∀ g, H2 g → H g ∨ w.heap.size ≤ g) := fun g h => (hH2 g h).imp (fun h => h) (fun h => Nat.le_trans HKB.out.size h)
          have HR2 := hid R2
          have HE2 := hid E2
          have HB2 := hid B2
          obtain ⟨i0, i1, i2, i3, i4, i5, i6, i7, i8, n0, n1, n2, n3, n4, n5, n6, s0, s1, s2⟩ := B2.cells
          clear hH2 K2 R2 E2 B2
          go_wp2_with fail
          go_ret
          obtain rfl := HRes.out.trans HQ.out
          refine ⟨rfl, ?_⟩
          exact RGoes.first HKB.out X2
      · have e4 : ((r.st.nodes[i]).status != 1) = true := by rw [bne_iff_ne]; exact h4
        have HQ : Hid (activityR nm ns r q = (r, 12)) := by
          show _ = _
          unfold activityR
          rw [hfk]
          dsimp only
          rw [hx, hy]
          dsimp only
          rw [if_pos h3, if_pos h4]
        clear h3 h4 hkc hfk hx hy hs
        go_enter Tryd.func66, Tryd.ntmps66
        go_upto_region 2 with (first
          | (go_at_call 85; refine hnd.mono ?_; rintro e w2 ⟨⟨_, _, av, cv, rfl⟩, K2⟩; clear hnd)
          | fail)
        have hw2 : w.heap.size < w2.heap.size := by
          have h := K2.size
          rw [World.size_alloc] at h
          omega
        have B : Bxs ((w2.alloc (.cells #[.string (ns[i]).name, .int .i64 (ns[i]).kind, .string (ns[i]).arg, .string (ns[i]).«to», .int .i64 (ns[i]).delay, .int .i64 (ns[i]).tries, .slice av (ns[i]).after.length cv] 64)).alloc (.cells #[.int .i64 (r.st.nodes[i]).status, .int .i64 (r.st.nodes[i]).tr, .string (r.st.nodes[i]).text] 61)) H w.heap.size w2.heap.size (w2.heap.size + 1) q ns[i] r.st.nodes[i] (.slice av (ns[i]).after.length cv) :=
          Bxs.mk2 (((K2.block _ (by simp) (fun h => h)).trans HI.out)) hw2 HT.out
        have HKB := hid ((HK0.out.and K2).and ((Kept.alloc (fun _ => False) w2 (.cells #[.string (ns[i]).name, .int .i64 (ns[i]).kind, .string (ns[i]).arg, .string (ns[i]).«to», .int .i64 (ns[i]).delay, .int .i64 (ns[i]).tries, .slice av (ns[i]).after.length cv] 64)).and (Kept.alloc (fun _ => False) _ (.cells #[.int .i64 (r.st.nodes[i]).status, .int .i64 (r.st.nodes[i]).tr, .string (r.st.nodes[i]).text] 61))))
        have HEB := hid (HE1.out.new (K2.and ((Kept.alloc (fun _ => False) w2 (.cells #[.string (ns[i]).name, .int .i64 (ns[i]).kind, .string (ns[i]).arg, .string (ns[i]).«to», .int .i64 (ns[i]).delay, .int .i64 (ns[i]).tries, .slice av (ns[i]).after.length cv] 64)).and (Kept.alloc (fun _ => False) _ (.cells #[.int .i64 (r.st.nodes[i]).status, .int .i64 (r.st.nodes[i]).tr, .string (r.st.nodes[i]).text] 61)))))
        have HRB := hid (HR1.out.new (K2.and ((Kept.alloc (fun _ => False) w2 (.cells #[.string (ns[i]).name, .int .i64 (ns[i]).kind, .string (ns[i]).arg, .string (ns[i]).«to», .int .i64 (ns[i]).delay, .int .i64 (ns[i]).tries, .slice av (ns[i]).after.length cv] 64)).and (Kept.alloc (fun _ => False) _ (.cells #[.int .i64 (r.st.nodes[i]).status, .int .i64 (r.st.nodes[i]).tr, .string (r.st.nodes[i]).text] 61)))))
        have HB := hid B
        clear i0 i1 i2 i3 i4 i5 i6 i7 i8 K2
        generalize ((w2.alloc (.cells #[.string (ns[i]).name, .int .i64 (ns[i]).kind, .string (ns[i]).arg, .string (ns[i]).«to», .int .i64 (ns[i]).delay, .int .i64 (ns[i]).tries, .slice av (ns[i]).after.length cv] 64)).alloc (.cells #[.int .i64 (r.st.nodes[i]).status, .int .i64 (r.st.nodes[i]).tr, .string (r.st.nodes[i]).text] 61)) = W at *
        generalize w2.heap.size + 1 = yb at *
        generalize w2.heap.size = nb at *
        obtain ⟨i0, i1, i2, i3, i4, i5, i6, i7, i8, n0, n1, n2, n3, n4, n5, n6, s0, s1, s2⟩ := B.cells
        clear B hw2
        go_wp2_with fail
        go_ret
        obtain rfl := HRes.out.trans HQ.out
        refine ⟨rfl, ?_⟩
        exact RGoes.first HKB.out (RGoes.keep HRB.out (Kept.refl _ _))
    · have e3 : (q.kind == 3) = false := by rw [beq_eq_false_iff_ne]; exact h3
      by_cases h5 : (r.st.nodes[i]).status ≠ 2 ∨ (r.st.nodes[i]).tr ≠ q.tr
      · have hbb : (((r.st.nodes[i]).status != 2) = true) ∨ ((((r.st.nodes[i]).status != 2) = false) ∧ (((r.st.nodes[i]).tr != q.tr) = true)) := by
          by_cases h : (r.st.nodes[i]).status = 2
          · exact .inr ⟨by rw [bne_eq_false_iff_eq]; exact h, by rw [bne_iff_ne]; exact h5.resolve_left (not_not_intro h)⟩
          · exact .inl (by rw [bne_iff_ne]; exact h)
        have HQ : Hid (activityR nm ns r q = (r, 12)) := by
          show _ = _
          unfold activityR
          rw [hfk]
          dsimp only
          rw [hx, hy]
          dsimp only
          rw [if_neg h3, if_pos h5]
        clear h3 h5 hkc hfk hx hy hs
        rcases hbb with b1 | ⟨b1, b2⟩
        all_goals
          go_enter Tryd.func66, Tryd.ntmps66
          go_upto_region 2 with (first
            | (go_at_call 85; refine hnd.mono ?_; rintro e w2 ⟨⟨_, _, av, cv, rfl⟩, K2⟩; clear hnd)
            | fail)
          have hw2 : w.heap.size < w2.heap.size := by
            have h := K2.size
            rw [World.size_alloc] at h
            omega
          have B : Bxs ((w2.alloc (.cells #[.string (ns[i]).name, .int .i64 (ns[i]).kind, .string (ns[i]).arg, .string (ns[i]).«to», .int .i64 (ns[i]).delay, .int .i64 (ns[i]).tries, .slice av (ns[i]).after.length cv] 64)).alloc (.cells #[.int .i64 (r.st.nodes[i]).status, .int .i64 (r.st.nodes[i]).tr, .string (r.st.nodes[i]).text] 61)) H w.heap.size w2.heap.size (w2.heap.size + 1) q ns[i] r.st.nodes[i] (.slice av (ns[i]).after.length cv) :=
            Bxs.mk2 (((K2.block _ (by simp) (fun h => h)).trans HI.out)) hw2 HT.out
          have HKB := hid ((HK0.out.and K2).and ((Kept.alloc (fun _ => False) w2 (.cells #[.string (ns[i]).name, .int .i64 (ns[i]).kind, .string (ns[i]).arg, .string (ns[i]).«to», .int .i64 (ns[i]).delay, .int .i64 (ns[i]).tries, .slice av (ns[i]).after.length cv] 64)).and (Kept.alloc (fun _ => False) _ (.cells #[.int .i64 (r.st.nodes[i]).status, .int .i64 (r.st.nodes[i]).tr, .string (r.st.nodes[i]).text] 61))))
          have HEB := hid (HE1.out.new (K2.and ((Kept.alloc (fun _ => False) w2 (.cells #[.string (ns[i]).name, .int .i64 (ns[i]).kind, .string (ns[i]).arg, .string (ns[i]).«to», .int .i64 (ns[i]).delay, .int .i64 (ns[i]).tries, .slice av (ns[i]).after.length cv] 64)).and (Kept.alloc (fun _ => False) _ (.cells #[.int .i64 (r.st.nodes[i]).status, .int .i64 (r.st.nodes[i]).tr, .string (r.st.nodes[i]).text] 61)))))
          have HRB := hid (HR1.out.new (K2.and ((Kept.alloc (fun _ => False) w2 (.cells #[.string (ns[i]).name, .int .i64 (ns[i]).kind, .string (ns[i]).arg, .string (ns[i]).«to», .int .i64 (ns[i]).delay, .int .i64 (ns[i]).tries, .slice av (ns[i]).after.length cv] 64)).and (Kept.alloc (fun _ => False) _ (.cells #[.int .i64 (r.st.nodes[i]).status, .int .i64 (r.st.nodes[i]).tr, .string (r.st.nodes[i]).text] 61)))))
          have HB := hid B
          clear i0 i1 i2 i3 i4 i5 i6 i7 i8 K2
          generalize ((w2.alloc (.cells #[.string (ns[i]).name, .int .i64 (ns[i]).kind, .string (ns[i]).arg, .string (ns[i]).«to», .int .i64 (ns[i]).delay, .int .i64 (ns[i]).tries, .slice av (ns[i]).after.length cv] 64)).alloc (.cells #[.int .i64 (r.st.nodes[i]).status, .int .i64 (r.st.nodes[i]).tr, .string (r.st.nodes[i]).text] 61)) = W at *
          generalize w2.heap.size + 1 = yb at *
          generalize w2.heap.size = nb at *
          obtain ⟨i0, i1, i2, i3, i4, i5, i6, i7, i8, n0, n1, n2, n3, n4, n5, n6, s0, s1, s2⟩ := B.cells
          clear B hw2
          go_wp2_with fail
          go_ret
          obtain rfl := HRes.out.trans HQ.out
          refine ⟨rfl, ?_⟩
          exact RGoes.first HKB.out (RGoes.keep HRB.out (Kept.refl _ _))
      · have b1 : ((r.st.nodes[i]).status != 2) = false := by rw [bne_eq_false_iff_eq]; exact Classical.byContradiction (fun h => h5 (.inl h))
        have b2 : ((r.st.nodes[i]).tr != q.tr) = false := by rw [bne_eq_false_iff_eq]; exact Classical.byContradiction (fun h => h5 (.inr h))
        by_cases h6 : 256 < q.text.size
        · have HQ : Hid (activityR nm ns r q = (r, 9)) := by
            show _ = _
            unfold activityR
            rw [hfk]
            dsimp only
            rw [hx, hy]
            dsimp only
            rw [if_neg h3, if_neg h5, if_pos h6]
          have e6 : (256 : Int) < (q.text.size : Int) := by omega
          clear h3 h5 h6 hkc hfk hx hy hs
          go_enter Tryd.func66, Tryd.ntmps66
          go_upto_region 2 with (first
            | (go_at_call 85; refine hnd.mono ?_; rintro e w2 ⟨⟨_, _, av, cv, rfl⟩, K2⟩; clear hnd)
            | fail)
          have hw2 : w.heap.size < w2.heap.size := by
            have h := K2.size
            rw [World.size_alloc] at h
            omega
          have B : Bxs ((w2.alloc (.cells #[.string (ns[i]).name, .int .i64 (ns[i]).kind, .string (ns[i]).arg, .string (ns[i]).«to», .int .i64 (ns[i]).delay, .int .i64 (ns[i]).tries, .slice av (ns[i]).after.length cv] 64)).alloc (.cells #[.int .i64 (r.st.nodes[i]).status, .int .i64 (r.st.nodes[i]).tr, .string (r.st.nodes[i]).text] 61)) H w.heap.size w2.heap.size (w2.heap.size + 1) q ns[i] r.st.nodes[i] (.slice av (ns[i]).after.length cv) :=
            Bxs.mk2 (((K2.block _ (by simp) (fun h => h)).trans HI.out)) hw2 HT.out
          have HKB := hid ((HK0.out.and K2).and ((Kept.alloc (fun _ => False) w2 (.cells #[.string (ns[i]).name, .int .i64 (ns[i]).kind, .string (ns[i]).arg, .string (ns[i]).«to», .int .i64 (ns[i]).delay, .int .i64 (ns[i]).tries, .slice av (ns[i]).after.length cv] 64)).and (Kept.alloc (fun _ => False) _ (.cells #[.int .i64 (r.st.nodes[i]).status, .int .i64 (r.st.nodes[i]).tr, .string (r.st.nodes[i]).text] 61))))
          have HEB := hid (HE1.out.new (K2.and ((Kept.alloc (fun _ => False) w2 (.cells #[.string (ns[i]).name, .int .i64 (ns[i]).kind, .string (ns[i]).arg, .string (ns[i]).«to», .int .i64 (ns[i]).delay, .int .i64 (ns[i]).tries, .slice av (ns[i]).after.length cv] 64)).and (Kept.alloc (fun _ => False) _ (.cells #[.int .i64 (r.st.nodes[i]).status, .int .i64 (r.st.nodes[i]).tr, .string (r.st.nodes[i]).text] 61)))))
          have HRB := hid (HR1.out.new (K2.and ((Kept.alloc (fun _ => False) w2 (.cells #[.string (ns[i]).name, .int .i64 (ns[i]).kind, .string (ns[i]).arg, .string (ns[i]).«to», .int .i64 (ns[i]).delay, .int .i64 (ns[i]).tries, .slice av (ns[i]).after.length cv] 64)).and (Kept.alloc (fun _ => False) _ (.cells #[.int .i64 (r.st.nodes[i]).status, .int .i64 (r.st.nodes[i]).tr, .string (r.st.nodes[i]).text] 61)))))
          have HB := hid B
          clear i0 i1 i2 i3 i4 i5 i6 i7 i8 K2
          generalize ((w2.alloc (.cells #[.string (ns[i]).name, .int .i64 (ns[i]).kind, .string (ns[i]).arg, .string (ns[i]).«to», .int .i64 (ns[i]).delay, .int .i64 (ns[i]).tries, .slice av (ns[i]).after.length cv] 64)).alloc (.cells #[.int .i64 (r.st.nodes[i]).status, .int .i64 (r.st.nodes[i]).tr, .string (r.st.nodes[i]).text] 61)) = W at *
          generalize w2.heap.size + 1 = yb at *
          generalize w2.heap.size = nb at *
          obtain ⟨i0, i1, i2, i3, i4, i5, i6, i7, i8, n0, n1, n2, n3, n4, n5, n6, s0, s1, s2⟩ := B.cells
          clear B hw2
          go_wp2_with fail
          go_ret
          obtain rfl := HRes.out.trans HQ.out
          refine ⟨rfl, ?_⟩
          exact RGoes.first HKB.out (RGoes.keep HRB.out (Kept.refl _ _))
        · by_cases h7 : q.kind = 5
          · have HQ : Hid (activityR nm ns r q = (failR nm ns r i q.text, 0)) := by
              show _ = _
              unfold activityR
              rw [hfk]
              dsimp only
              rw [hx, hy]
              dsimp only
              rw [if_neg h3, if_neg h5, if_neg h6, if_pos h7]
            have e6 : ¬ ((256 : Int) < (q.text.size : Int)) := by omega
            have e7 : (q.kind == 5) = true := by rw [beq_iff_eq]; exact h7
            clear h3 h5 h6 h7 hkc hfk hx hy hs
            go_enter Tryd.func66, Tryd.ntmps66
            go_upto_region 2 with (first
              | (go_at_call 85; refine hnd.mono ?_; rintro e w2 ⟨⟨_, _, av, cv, rfl⟩, K2⟩; clear hnd)
              | fail)
            have hw2 : w.heap.size < w2.heap.size := by
              have h := K2.size
              rw [World.size_alloc] at h
              omega
            have B : Bxs ((w2.alloc (.cells #[.string (ns[i]).name, .int .i64 (ns[i]).kind, .string (ns[i]).arg, .string (ns[i]).«to», .int .i64 (ns[i]).delay, .int .i64 (ns[i]).tries, .slice av (ns[i]).after.length cv] 64)).alloc (.cells #[.int .i64 (r.st.nodes[i]).status, .int .i64 (r.st.nodes[i]).tr, .string (r.st.nodes[i]).text] 61)) H w.heap.size w2.heap.size (w2.heap.size + 1) q ns[i] r.st.nodes[i] (.slice av (ns[i]).after.length cv) :=
              Bxs.mk2 (((K2.block _ (by simp) (fun h => h)).trans HI.out)) hw2 HT.out
            have HKB := hid ((HK0.out.and K2).and ((Kept.alloc (fun _ => False) w2 (.cells #[.string (ns[i]).name, .int .i64 (ns[i]).kind, .string (ns[i]).arg, .string (ns[i]).«to», .int .i64 (ns[i]).delay, .int .i64 (ns[i]).tries, .slice av (ns[i]).after.length cv] 64)).and (Kept.alloc (fun _ => False) _ (.cells #[.int .i64 (r.st.nodes[i]).status, .int .i64 (r.st.nodes[i]).tr, .string (r.st.nodes[i]).text] 61))))
            have HEB := hid (HE1.out.new (K2.and ((Kept.alloc (fun _ => False) w2 (.cells #[.string (ns[i]).name, .int .i64 (ns[i]).kind, .string (ns[i]).arg, .string (ns[i]).«to», .int .i64 (ns[i]).delay, .int .i64 (ns[i]).tries, .slice av (ns[i]).after.length cv] 64)).and (Kept.alloc (fun _ => False) _ (.cells #[.int .i64 (r.st.nodes[i]).status, .int .i64 (r.st.nodes[i]).tr, .string (r.st.nodes[i]).text] 61)))))
            have HRB := hid (HR1.out.new (K2.and ((Kept.alloc (fun _ => False) w2 (.cells #[.string (ns[i]).name, .int .i64 (ns[i]).kind, .string (ns[i]).arg, .string (ns[i]).«to», .int .i64 (ns[i]).delay, .int .i64 (ns[i]).tries, .slice av (ns[i]).after.length cv] 64)).and (Kept.alloc (fun _ => False) _ (.cells #[.int .i64 (r.st.nodes[i]).status, .int .i64 (r.st.nodes[i]).tr, .string (r.st.nodes[i]).text] 61)))))
            have HB := hid B
            clear i0 i1 i2 i3 i4 i5 i6 i7 i8 K2
            generalize ((w2.alloc (.cells #[.string (ns[i]).name, .int .i64 (ns[i]).kind, .string (ns[i]).arg, .string (ns[i]).«to», .int .i64 (ns[i]).delay, .int .i64 (ns[i]).tries, .slice av (ns[i]).after.length cv] 64)).alloc (.cells #[.int .i64 (r.st.nodes[i]).status, .int .i64 (r.st.nodes[i]).tr, .string (r.st.nodes[i]).text] 61)) = W at *
            generalize w2.heap.size + 1 = yb at *
            generalize w2.heap.size = nb at *
            obtain ⟨i0, i1, i2, i3, i4, i5, i6, i7, i8, n0, n1, n2, n3, n4, n5, n6, s0, s1, s2⟩ := B.cells
            clear B hw2
            have hT := fail_any HEB.out HRB.out HF.out (by omega) hn ns[i] r.st.nodes[i] av cv q.text
            rw [← failR_is h1 h2] at hT
            unfold ndV nsV at hT
            go_upto_region 16 with fail

            go_wp2_with (first
              | (go_at_call 87; refine (hT).mono ?_; rintro e w3 ⟨rfl, X3⟩; clear hT)
              | fail)
            go_ret
            obtain rfl := HRes.out.trans HQ.out
            refine ⟨rfl, ?_⟩
            exact RGoes.first HKB.out X3
          · have HQ : Hid (activityR nm ns r q = (goOnP nm ns (evR nm ns r ⟨4, (ns[i]).name, q.text, 0⟩), 0)) := by
              show _ = _
              unfold activityR
              rw [hfk]
              dsimp only
              rw [hx, hy]
              dsimp only
              rw [if_neg h3, if_neg h5, if_neg h6, if_neg h7]
            have e6 : ¬ ((256 : Int) < (q.text.size : Int)) := by omega
            have e7 : (q.kind == 5) = false := by rw [beq_eq_false_iff_ne]; exact h7
            clear h3 h5 h6 h7 hkc hfk hx hy
            go_enter Tryd.func66, Tryd.ntmps66
            go_upto_region 2 with (first
              | (go_at_call 85; refine hnd.mono ?_; rintro e w2 ⟨⟨_, _, av, cv, rfl⟩, K2⟩; clear hnd)
              | fail)
            have hw2 : w.heap.size < w2.heap.size := by
              have h := K2.size
              rw [World.size_alloc] at h
              omega
            have B : Bxs ((w2.alloc (.cells #[.string (ns[i]).name, .int .i64 (ns[i]).kind, .string (ns[i]).arg, .string (ns[i]).«to», .int .i64 (ns[i]).delay, .int .i64 (ns[i]).tries, .slice av (ns[i]).after.length cv] 64)).alloc (.cells #[.int .i64 (r.st.nodes[i]).status, .int .i64 (r.st.nodes[i]).tr, .string (r.st.nodes[i]).text] 61)) H w.heap.size w2.heap.size (w2.heap.size + 1) q ns[i] r.st.nodes[i] (.slice av (ns[i]).after.length cv) :=
              Bxs.mk2 (((K2.block _ (by simp) (fun h => h)).trans HI.out)) hw2 HT.out
            have HKB := hid ((HK0.out.and K2).and ((Kept.alloc (fun _ => False) w2 (.cells #[.string (ns[i]).name, .int .i64 (ns[i]).kind, .string (ns[i]).arg, .string (ns[i]).«to», .int .i64 (ns[i]).delay, .int .i64 (ns[i]).tries, .slice av (ns[i]).after.length cv] 64)).and (Kept.alloc (fun _ => False) _ (.cells #[.int .i64 (r.st.nodes[i]).status, .int .i64 (r.st.nodes[i]).tr, .string (r.st.nodes[i]).text] 61))))
            have HEB := hid (HE1.out.new (K2.and ((Kept.alloc (fun _ => False) w2 (.cells #[.string (ns[i]).name, .int .i64 (ns[i]).kind, .string (ns[i]).arg, .string (ns[i]).«to», .int .i64 (ns[i]).delay, .int .i64 (ns[i]).tries, .slice av (ns[i]).after.length cv] 64)).and (Kept.alloc (fun _ => False) _ (.cells #[.int .i64 (r.st.nodes[i]).status, .int .i64 (r.st.nodes[i]).tr, .string (r.st.nodes[i]).text] 61)))))
            have HRB := hid (HR1.out.new (K2.and ((Kept.alloc (fun _ => False) w2 (.cells #[.string (ns[i]).name, .int .i64 (ns[i]).kind, .string (ns[i]).arg, .string (ns[i]).«to», .int .i64 (ns[i]).delay, .int .i64 (ns[i]).tries, .slice av (ns[i]).after.length cv] 64)).and (Kept.alloc (fun _ => False) _ (.cells #[.int .i64 (r.st.nodes[i]).status, .int .i64 (r.st.nodes[i]).tr, .string (r.st.nodes[i]).text] 61)))))
            have HB := hid B
            clear i0 i1 i2 i3 i4 i5 i6 i7 i8 K2
            generalize ((w2.alloc (.cells #[.string (ns[i]).name, .int .i64 (ns[i]).kind, .string (ns[i]).arg, .string (ns[i]).«to», .int .i64 (ns[i]).delay, .int .i64 (ns[i]).tries, .slice av (ns[i]).after.length cv] 64)).alloc (.cells #[.int .i64 (r.st.nodes[i]).status, .int .i64 (r.st.nodes[i]).tr, .string (r.st.nodes[i]).text] 61)) = W at *
            generalize w2.heap.size + 1 = yb at *
            generalize w2.heap.size = nb at *
            obtain ⟨i0, i1, i2, i3, i4, i5, i6, i7, i8, n0, n1, n2, n3, n4, n5, n6, s0, s1, s2⟩ := B.cells
            clear B hw2
            have F2 := evR_fit (nm := nm) (ns := ns) HF.out (by omega) ⟨4, (ns[i]).name, q.text, 0⟩
            have FN2 := evR_fine (nm := nm) (e := ⟨4, (ns[i]).name, q.text, 0⟩) HFN.out
            have hE := eventE HEB.out HRB.out HF.out (by omega) ⟨4, (ns[i]).name, q.text, 0⟩
            simp only [] at hE
            go_upto_region 18 with fail
            go_upto_region 19 with (first
              | (go_at_call 63; refine (hE).mono ?_; rintro e w2 ⟨rfl, X2⟩; clear hE)
              | fail)
            clear i0 i1 i2 i3 i4 i5 i6 i7 i8 n0 n1 n2 n3 n4 n5 n6 s0 s1 s2
            obtain ⟨H2, E2, R2, hH2, K2⟩ := env_goes HEB.out X2
            have B2 := HB.out.goes hH2 K2
            have HKW2 := hid ((HKB.out.mono (fun _ h => h.elim)).and K2 : Kept H w w2)
            have HH2 : Hid (∀ g, H2 g → H g ∨ w.heap.size ≤ g) := fun g h => (hH2 g h).imp (fun h => h) (fun h => Nat.le_trans HKB.out.size h)
            have HR2 := hid R2
            have HE2 := hid E2
            have HB2 := hid B2
            obtain ⟨i0, i1, i2, i3, i4, i5, i6, i7, i8, n0, n1, n2, n3, n4, n5, n6, s0, s1, s2⟩ := B2.cells
            clear hH2 K2 X2 R2 E2 B2
            have hs2 : (evR nm ns r ⟨4, (ns[i]).name, q.text, 0⟩).st.status = 1 := (evR_status (by simp) (by simp)).trans hs
            have hT := on_any HE2.out HR2.out F2 (by omega) hn hpos HS.out FN2 hs2
            go_wp2_with (first
              | (go_at_call 64; refine (hT).mono ?_; rintro e w3 ⟨rfl, X3⟩; clear hT)
              | fail)
            go_ret
            obtain rfl := HRes.out.trans HQ.out
            refine ⟨rfl, ?_⟩
            exact RGoes.trans HH2.out HKW2.out X3

end Go.Proofs.YtfjekjbkifmpfaaDoor.Rf
