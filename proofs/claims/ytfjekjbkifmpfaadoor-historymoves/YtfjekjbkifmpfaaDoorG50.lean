/-
  The document's fail: a try of an activity fails.
-/
import Derived.Test.YtfjekjbkifmpfaaDoorG32
import Derived.Test.YtfjekjbkifmpfaaDoorG49
import Derived.Test.YtfjekjbkifmpfaaDoorG26
import Derived.Test.YtfjekjbkifmpfaaDoorG04
import Derived.Test.YtfjekjbkifmpfaaDoorG27
import Derived.Test.YtfjekjbkifmpfaaDoorG22
import Derived.Test.YtfjekjbkifmpfaaDoorG28
import Derived.Test.YtfjekjbkifmpfaaDoorG25
import Derived.Deep.Cut
import Derived.BigQuiet
namespace Go.Proofs.YtfjekjbkifmpfaaDoor.Rf
open Go.RowKit

def failV (nm : ByteArray) (ns : List Nd) (r : Rn) (x : Nd) (y : Ns) (tx : ByteArray) : Rn :=
  if y.tr < x.tries then taskR (evR nm ns r ⟨5, x.name, tx, y.tr⟩) ⟨1, ⟨#[]⟩, x.name, IntKind.i64.wrap (y.tr + 1), 0, zeroMl⟩ else closedR nm ns (evR nm ns r ⟨6, x.name, tx, 0⟩) 3 tx

theorem failR_is {nm : ByteArray} {ns : List Nd} {r : Rn} {i : Nat} {tx : ByteArray} (h1 : i < ns.length) (h2 : i < r.st.nodes.length) : failR nm ns r i tx = failV nm ns r ns[i] r.st.nodes[i] tx := by
  unfold failR failV
  rw [List.getElem?_eq_getElem h1, List.getElem?_eq_getElem h2]

set_option maxRecDepth 100000 in
set_option maxHeartbeats 8000000 in
theorem fail_any {w0 w : World} {H : Nat → Prop} {rb : Nat} {nm : ByteArray} {a : Option Addr} {c : Nat} {ns : List Nd} {r : Rn} {m : Nat} (E : Env w0 w H a ns) (R : RAt w H rb nm a ns.length c r) (F : Fit r m) (hm : m ≤ 800000) (hn : ns.length ≤ 64) (x : Nd) (y : Ns) (av : Option Addr) (cv : Nat) (tx : ByteArray) :
    Calls Tryd.prog 87 #[.pointer (some ⟨rb, 0, none⟩), ndV x (.slice av x.after.length cv), nsV y, .string tx] w fun e w' => e = .returned (.tuple #[]) ∧ RGoes w H rb nm a ns.length c (failV nm ns r x y tx) w' := by
  have K0 : Kept (fun _ => False) w ((w.alloc (.cells #[.string x.name, .int .i64 x.kind, .string x.arg, .string x.«to», .int .i64 x.delay, .int .i64 x.tries, .slice av x.after.length cv] 64)).alloc (.cells #[.int .i64 y.status, .int .i64 y.tr, .string y.text] 61)) := (Kept.alloc _ _ _).and (Kept.alloc _ _ _)
  have hA : ((w.alloc (.cells #[.string x.name, .int .i64 x.kind, .string x.arg, .string x.«to», .int .i64 x.delay, .int .i64 x.tries, .slice av x.after.length cv] 64)).alloc (.cells #[.int .i64 y.status, .int .i64 y.tr, .string y.text] 61)).heap[w.heap.size]? = some (.cells #[.string x.name, .int .i64 x.kind, .string x.arg, .string x.«to», .int .i64 x.delay, .int .i64 x.tries, .slice av x.after.length cv] 64 (0, 0)) := ((Kept.alloc (fun _ => False) (w.alloc (.cells #[.string x.name, .int .i64 x.kind, .string x.arg, .string x.«to», .int .i64 x.delay, .int .i64 x.tries, .slice av x.after.length cv] 64)) (.cells #[.int .i64 y.status, .int .i64 y.tr, .string y.text] 61)).block w.heap.size (by simp) (fun h => h)).trans (heap_alloc_new w (.cells #[.string x.name, .int .i64 x.kind, .string x.arg, .string x.«to», .int .i64 x.delay, .int .i64 x.tries, .slice av x.after.length cv] 64))
  have hB : ((w.alloc (.cells #[.string x.name, .int .i64 x.kind, .string x.arg, .string x.«to», .int .i64 x.delay, .int .i64 x.tries, .slice av x.after.length cv] 64)).alloc (.cells #[.int .i64 y.status, .int .i64 y.tr, .string y.text] 61)).heap[w.heap.size + 1]? = some (.cells #[.int .i64 y.status, .int .i64 y.tr, .string y.text] 61 (0, 0)) := by
    have h := heap_alloc_new (w.alloc (.cells #[.string x.name, .int .i64 x.kind, .string x.arg, .string x.«to», .int .i64 x.delay, .int .i64 x.tries, .slice av x.after.length cv] 64)) (.cells #[.int .i64 y.status, .int .i64 y.tr, .string y.text] 61)
    rwa [World.size_alloc] at h
  have htop : ∀ g, H g → g < w.heap.size := by
    obtain ⟨_, _, _, _, _, _, _, _, _, htop⟩ := R.opened
    exact htop
  obtain ⟨⟨n0, n1, n2, n3, n4, n5, n6⟩, _⟩ := cells7F hA
  obtain ⟨⟨y0, y1, y2⟩, _⟩ := cells3F hB
  have HA : Hid (∀ V, Kept H ((w.alloc (.cells #[.string x.name, .int .i64 x.kind, .string x.arg, .string x.«to», .int .i64 x.delay, .int .i64 x.tries, .slice av x.after.length cv] 64)).alloc (.cells #[.int .i64 y.status, .int .i64 y.tr, .string y.text] 61)) V → V.heap[w.heap.size]? = some (.cells #[.string x.name, .int .i64 x.kind, .string x.arg, .string x.«to», .int .i64 x.delay, .int .i64 x.tries, .slice av x.after.length cv] 64 (0, 0))) := fun V KV => (KV.block _ (Array.getElem?_eq_some_iff.1 hA).1 (fun h => absurd (htop _ h) (Nat.lt_irrefl _))).trans hA
  have HB : Hid (∀ V, Kept H ((w.alloc (.cells #[.string x.name, .int .i64 x.kind, .string x.arg, .string x.«to», .int .i64 x.delay, .int .i64 x.tries, .slice av x.after.length cv] 64)).alloc (.cells #[.int .i64 y.status, .int .i64 y.tr, .string y.text] 61)) V → V.heap[w.heap.size + 1]? = some (.cells #[.int .i64 y.status, .int .i64 y.tr, .string y.text] 61 (0, 0))) := fun V KV => (KV.block _ (Array.getElem?_eq_some_iff.1 hB).1 (fun h => absurd (htop _ h) (by omega))).trans hB
  have HE1 := hid (E.new K0)
  have HR1 := hid (R.new K0)
  have HK0 := hid K0
  have HF := hid F
  unfold ndV nsV
  clear hA hB htop K0 E R F
  by_cases ht : y.tr < x.tries
  · have HW := hid (show failV nm ns r x y tx = taskR (evR nm ns r ⟨5, x.name, tx, y.tr⟩) ⟨1, ⟨#[]⟩, x.name, IntKind.i64.wrap (y.tr + 1), 0, zeroMl⟩ by unfold failV; rw [if_pos ht])
    obtain ⟨z, hz⟩ : ∃ z, IntKind.i64.wrap (y.tr + 1) = z := ⟨_, rfl⟩
    rw [hz] at HW
    have F2 := evR_fit (nm := nm) (ns := ns) HF.out (by omega) ⟨5, x.name, tx, y.tr⟩
    have hE := eventE HE1.out HR1.out HF.out (by omega) ⟨5, x.name, tx, y.tr⟩
    simp only [] at hE
    go_enter Tryd.func87, Tryd.ntmps87
    go_upto_region 3 with (first
      | (go_at_call 63; refine (hE).mono ?_; rintro e w2 ⟨rfl, X2⟩; clear hE)
      | fail)
    clear n0 n1 n2 n3 n4 n5 n6 y0 y1 y2
    obtain ⟨H2, E2, R2, hH2, K2⟩ := env_goes HE1.out X2
    obtain ⟨⟨n0, n1, n2, n3, n4, n5, n6⟩, _⟩ := cells7F (HA.out w2 K2)
    obtain ⟨⟨y0, y1, y2⟩, _⟩ := cells3F (HB.out w2 K2)
    have HKW2 := hid ((HK0.out.mono (fun _ h => h.elim)).and K2 : Kept H w w2)
    have HH2 : Hid (∀ g, H2 g → H g ∨ w.heap.size ≤ g) := fun g h => (hH2 g h).imp (fun h => h) (fun h => Nat.le_trans HK0.out.size h)
    have HR2 := hid R2
    have HE2 := hid E2
    clear hH2 K2 X2 R2 E2
    have hT := fun V (KV : Kept (fun _ => False) w2 V) => task_any V H2 rb nm a ns.length c _ (HR2.out.new KV) (by have := F2.tks; omega) ⟨1, ⟨#[]⟩, x.name, z, 0, zeroMl⟩
    unfold tkV at hT
    simp only [] at hT
    go_wp2_with (first
      | (go_at_call 86; refine (hT _ (Kept.refl (fun _ => False) _)).mono ?_; rintro e w3 ⟨rfl, X3⟩; clear hT)
      | fail)
    (try simp only [Exit.inBlock, Exit.then]); refine bodyPost_ret (results_none rfl _ _ _) rfl ?_
    refine ⟨rfl, ?_⟩
    rw [HW.out]
    exact RGoes.trans HH2.out HKW2.out X3
  · have HW := hid (show failV nm ns r x y tx = closedR nm ns (evR nm ns r ⟨6, x.name, tx, 0⟩) 3 tx by unfold failV; rw [if_neg ht])
    have F2 := evR_fit (nm := nm) (ns := ns) HF.out (by omega) ⟨6, x.name, tx, 0⟩
    have hE := eventE HE1.out HR1.out HF.out (by omega) ⟨6, x.name, tx, 0⟩
    simp only [] at hE
    go_enter Tryd.func87, Tryd.ntmps87
    go_upto_region 4 with fail
    go_upto_region 5 with (first
      | (go_at_call 63; refine (hE).mono ?_; rintro e w2 ⟨rfl, X2⟩; clear hE)
      | fail)
    clear n0 n1 n2 n3 n4 n5 n6 y0 y1 y2
    obtain ⟨H2, E2, R2, hH2, K2⟩ := env_goes HE1.out X2
    obtain ⟨⟨n0, n1, n2, n3, n4, n5, n6⟩, _⟩ := cells7F (HA.out w2 K2)
    obtain ⟨⟨y0, y1, y2⟩, _⟩ := cells3F (HB.out w2 K2)
    have HKW2 := hid ((HK0.out.mono (fun _ h => h.elim)).and K2 : Kept H w w2)
    have HH2 : Hid (∀ g, H2 g → H g ∨ w.heap.size ≤ g) := fun g h => (hH2 g h).imp (fun h => h) (fun h => Nat.le_trans HK0.out.size h)
    have HR2 := hid R2
    have HE2 := hid E2
    clear hH2 K2 X2 R2 E2
    have hT := closed_any HE2.out HR2.out F2 (by omega) hn 3 tx
    go_wp2_with (first
      | (go_at_call 69; refine (hT).mono ?_; rintro e w3 ⟨rfl, X3⟩; clear hT)
      | fail)
    go_end0
    refine ⟨rfl, ?_⟩
    rw [HW.out]
    exact RGoes.trans HH2.out HKW2.out X3

end Go.Proofs.YtfjekjbkifmpfaaDoor.Rf

/-
  The document's run: a node begins.
-/
namespace Go.Proofs.YtfjekjbkifmpfaaDoor.Rf
open Go.RowKit

set_option maxRecDepth 100000 in
set_option maxHeartbeats 8000000 in
theorem begin_any {w0 w : World} {H : Nat → Prop} {rb : Nat} {nm : ByteArray} {a : Option Addr} {c : Nat} {ns : List Nd} {r : Rn} {m : Nat} (E : Env w0 w H a ns) (R : RAt w H rb nm a ns.length c r) (F : Fit r m) (hm : m ≤ 800000) (hn : ns.length ≤ 64) (x : Nd) (hx : x.name.size ≤ 100000000) (av : Option Addr) (cv : Nat) :
    Calls Tryd.prog 84 #[.pointer (some ⟨rb, 0, none⟩), .agg #[.string x.name, .int .i64 x.kind, .string x.arg, .string x.«to», .int .i64 x.delay, .int .i64 x.tries, .slice av x.after.length cv]] w fun e w' => e = .returned (.tuple #[]) ∧ RGoes w H rb nm a ns.length c (beginR nm ns r x) w' := by
  have KA : Kept (fun _ => False) w (w.alloc (.cells #[.string x.name, .int .i64 x.kind, .string x.arg, .string x.«to», .int .i64 x.delay, .int .i64 x.tries, .slice av x.after.length cv] 64)) := Kept.alloc _ _ _
  have hA := heap_alloc_new w (.cells #[.string x.name, .int .i64 x.kind, .string x.arg, .string x.«to», .int .i64 x.delay, .int .i64 x.tries, .slice av x.after.length cv] 64)
  have R1 := R.new KA
  have E1 := E.new KA
  have hid1 := F.idsz
  obtain ⟨v6, v7, hb, hn7, RD, htop⟩ : ∃ v6 v7, (∃ v12 v13, (w.alloc (.cells #[.string x.name, .int .i64 x.kind, .string x.arg, .string x.«to», .int .i64 x.delay, .int .i64 x.tries, .slice av x.after.length cv] 64)).heap[rb]? = some (.cells ([Value.string nm, Value.slice a ns.length c] ++ stL r.st v6 v7 ++ [Value.int .i64 r.now, v12, v13]).toArray 106 (0, 0))) ∧ (w.alloc (.cells #[.string x.name, .int .i64 x.kind, .string x.arg, .string x.«to», .int .i64 x.delay, .int .i64 x.tries, .slice av x.after.length cv] 64)).ownsRow 0 88 2 v7 r.st.sigs.length (sgF r.st.sigs) ∧ StRd (w.alloc (.cells #[.string x.name, .int .i64 x.kind, .string x.arg, .string x.«to», .int .i64 x.delay, .int .i64 x.tries, .slice av x.after.length cv] 64)) r.st v6 v7 ∧ ∀ g, H g → g < w.heap.size := by
    obtain ⟨_, _, _, _, _, _, _, _, _, htop⟩ := R.opened
    obtain ⟨F', G', v6, v7, v12, v13, RN, _, _⟩ := R1
    exact ⟨v6, v7, ⟨v12, v13, RN.st.blk⟩, RN.st.sigs, RN.st.rd F.nodes (by have := F.sigs; omega), htop⟩
  obtain ⟨v12, v13, hb⟩ := hb
  obtain ⟨x0, x1, x2, x3, x4, x5, x6, x7, x8, x9, x10, x11⟩ := runCells hb
  obtain ⟨⟨n0, n1, n2, n3, n4, n5, n6⟩, _⟩ := cells7F hA
  have HBX : Hid (∀ V, Kept H (w.alloc (.cells #[.string x.name, .int .i64 x.kind, .string x.arg, .string x.«to», .int .i64 x.delay, .int .i64 x.tries, .slice av x.after.length cv] 64)) V → V.heap[w.heap.size]? = some (.cells #[.string x.name, .int .i64 x.kind, .string x.arg, .string x.«to», .int .i64 x.delay, .int .i64 x.tries, .slice av x.after.length cv] 64 (0, 0))) := fun V KV => (KV.block _ (Array.getElem?_eq_some_iff.1 hA).1 (fun h => absurd (htop _ h) (Nat.lt_irrefl _))).trans hA
  have HKA := hid KA
  have HE1 := hid E1
  have HR1 := hid R1
  have HF := hid F
  clear KA hA R E F htop hb R1 E1
  by_cases h1 : x.kind = 1
  · have HW := hid (show beginR nm ns r x = taskR (evR nm ns r ⟨2, x.name, ⟨#[]⟩, 0⟩) ⟨1, ⟨#[]⟩, x.name, 1, 0, zeroMl⟩ by unfold beginR; rw [if_pos h1])
    have e1 : (x.kind == 1) = true := by simp [h1]
    clear h1
    have F2 := evR_fit (nm := nm) (ns := ns) HF.out (by omega) ⟨2, x.name, ⟨#[]⟩, 0⟩
    have hE := fun V (KV : Kept (fun _ => False) (w.alloc (.cells #[.string x.name, .int .i64 x.kind, .string x.arg, .string x.«to», .int .i64 x.delay, .int .i64 x.tries, .slice av x.after.length cv] 64)) V) => eventE (HE1.out.new KV) (HR1.out.new KV) HF.out (by omega) ⟨2, x.name, ⟨#[]⟩, 0⟩
    simp only [] at hE
    go_enter Tryd.func84, Tryd.ntmps84
    go_upto_region 6 with (first
      | (go_at_call 63; refine (hE _ (Kept.refl (fun _ => False) _)).mono ?_; rintro e w2 ⟨rfl, X2⟩)
      | fail)
    clear n0 n1 n2 n3 n4 n5 n6 hE
    obtain ⟨H2, E2, R2, hH2, K2⟩ := env_goes (HE1.out.new (Kept.refl (fun _ => False) _)) X2
    obtain ⟨⟨n0, n1, n2, n3, n4, n5, n6⟩, _⟩ := cells7F (HBX.out w2 ((((Kept.refl (fun _ => False) _)).mono (fun _ h => h.elim)).and K2))
    have KW2 : Kept H w w2 := ((HKA.out.and (Kept.refl (fun _ => False) _)).mono (fun _ h => h.elim)).and K2
    have HKW2 := hid KW2
    have hH2' : ∀ g, H2 g → H g ∨ w.heap.size ≤ g := fun g h => (hH2 g h).imp (fun h => h) (fun h => Nat.le_trans (HKA.out.and (Kept.refl (fun _ => False) _)).size h)
    have HH2 := hid hH2'
    have HR2 := hid R2
    have HE2 := hid E2
    clear hH2 hH2' K2 KW2 X2 R2 E2
    have hT := fun V (KV : Kept (fun _ => False) w2 V) => task_any V H2 rb nm a ns.length c _ (HR2.out.new KV) (by have := F2.tks; omega) ⟨1, ⟨#[]⟩, x.name, 1, 0, zeroMl⟩
    (try unfold tkV at hT)
    simp only [] at hT
    go_wp2_with (first
      | (go_at_call 86; refine (hT _ (Kept.refl (fun _ => False) _)).mono ?_; rintro e w3 ⟨rfl, X3⟩)
      | fail)
    go_end0
    refine ⟨rfl, ?_⟩
    rw [HW.out]
    exact RGoes.trans HH2.out HKW2.out X3
  have e1 : (x.kind == 1) = false := by simp [h1]
  by_cases h2 : x.kind = 2
  · have HW := hid (show beginR nm ns r x = taskR (evR nm ns r ⟨7, x.name, ⟨#[]⟩, IntKind.i64.wrap (r.now + x.delay)⟩) ⟨2, ⟨#[]⟩, x.name, 0, IntKind.i64.wrap (r.now + x.delay), zeroMl⟩ by unfold beginR; rw [if_neg h1, if_pos h2])
    have e2 : (x.kind == 2) = true := by simp [h2]
    clear h1 h2
    have F2 := evR_fit (nm := nm) (ns := ns) HF.out (by omega) ⟨7, x.name, ⟨#[]⟩, IntKind.i64.wrap (r.now + x.delay)⟩
    have hE := fun V (KV : Kept (fun _ => False) (w.alloc (.cells #[.string x.name, .int .i64 x.kind, .string x.arg, .string x.«to», .int .i64 x.delay, .int .i64 x.tries, .slice av x.after.length cv] 64)) V) => eventE (HE1.out.new KV) (HR1.out.new KV) HF.out (by omega) ⟨7, x.name, ⟨#[]⟩, IntKind.i64.wrap (r.now + x.delay)⟩
    simp only [] at hE
    go_enter Tryd.func84, Tryd.ntmps84
    go_upto_region 8 with fail
    refine wp_onlyN (bg8 _ n0 x11 n4 rfl (hE _ (Kept.drew _ _)) ?_)
    intro _ _ _ _ _ _ _ _ _ _ _ w2 X2
    clear n0 n1 n2 n3 n4 n5 n6 hE
    obtain ⟨H2, E2, R2, hH2, K2⟩ := env_goes (HE1.out.new (Kept.drew (fun _ => False) (w.alloc (.cells #[.string x.name, .int .i64 x.kind, .string x.arg, .string x.«to», .int .i64 x.delay, .int .i64 x.tries, .slice av x.after.length cv] 64)))) X2
    obtain ⟨⟨n0, n1, n2, n3, n4, n5, n6⟩, _⟩ := cells7F (HBX.out w2 ((((Kept.drew (fun _ => False) (w.alloc (.cells #[.string x.name, .int .i64 x.kind, .string x.arg, .string x.«to», .int .i64 x.delay, .int .i64 x.tries, .slice av x.after.length cv] 64)))).mono (fun _ h => h.elim)).and K2))
    have KW2 : Kept H w w2 := ((HKA.out.and (Kept.drew (fun _ => False) (w.alloc (.cells #[.string x.name, .int .i64 x.kind, .string x.arg, .string x.«to», .int .i64 x.delay, .int .i64 x.tries, .slice av x.after.length cv] 64)))).mono (fun _ h => h.elim)).and K2
    have HKW2 := hid KW2
    have hH2' : ∀ g, H2 g → H g ∨ w.heap.size ≤ g := fun g h => (hH2 g h).imp (fun h => h) (fun h => Nat.le_trans (HKA.out.and (Kept.drew (fun _ => False) (w.alloc (.cells #[.string x.name, .int .i64 x.kind, .string x.arg, .string x.«to», .int .i64 x.delay, .int .i64 x.tries, .slice av x.after.length cv] 64)))).size h)
    have HH2 := hid hH2'
    have HR2 := hid R2
    have HE2 := hid E2
    clear hH2 hH2' K2 KW2 X2 R2 E2
    obtain ⟨_, _, _, _, hb2, _⟩ := HR2.out.opened
    have y11 := (runCells hb2).2.2.2.2.2.2.2.2.2.2.2
    clear hb2
    have hT := fun V (KV : Kept (fun _ => False) w2 V) => task_any V H2 rb nm a ns.length c _ (HR2.out.new KV) (by have := F2.tks; omega) ⟨2, ⟨#[]⟩, x.name, 0, IntKind.i64.wrap (r.now + x.delay), zeroMl⟩
    unfold tkV at hT
    simp only [] at hT
    go_upto_region 9 with fail
    refine wp_onlyN (bg9 (nw := r.now) (dl := x.delay) _ n0 y11 n4 rfl (hT _ (Kept.drew _ _)) ?_)
    intro _ _ _ _ _ _ _ _ _ _ _ _ w3 X3
    clear n0 n1 n2 n3 n4 n5 n6 hT
    go_wp2_with fail
    go_end0
    refine ⟨rfl, ?_⟩
    rw [HW.out]
    exact RGoes.next HH2.out HKW2.out (Kept.drew _ _) X3
  have e2 : (x.kind == 2) = false := by simp [h2]
  by_cases h3 : x.kind = 3
  · by_cases hl : 256 < (childP r.st.id x.name).size
    · have HW := hid (show beginR nm ns r x = closedR nm ns (evR nm ns r ⟨6, x.name, longB, 0⟩) 3 longB by unfold beginR; rw [if_neg h1, if_neg h2, if_pos h3, if_pos hl])
      have e3 : (x.kind == 3) = true := by simp [h3]
      have s1 : (⟨#[47]⟩ : ByteArray).size = 1 := rfl
      have c1 := fun W => run_cat W r.st.id ⟨#[47]⟩ (by rw [s1]; omega)
      have c2 := fun W => run_cat W (r.st.id ++ ⟨#[47]⟩) x.name (by rw [ByteArray.size_append, s1]; omega)
      have hsz : (r.st.id ++ ⟨#[47]⟩ ++ x.name).size = r.st.id.size + 1 + x.name.size := by rw [ByteArray.size_append, ByteArray.size_append]; rfl
      unfold childP at hl
      rw [hsz] at hl
      have e0 : (256 : Int) < (r.st.id.size : Int) + 1 + (x.name.size : Int) := by omega
      clear h1 h2 h3 hsz hl
      have F2 := evR_fit (nm := nm) (ns := ns) HF.out (by omega) ⟨6, x.name, longB, 0⟩
      have hE := fun V (KV : Kept (fun _ => False) (w.alloc (.cells #[.string x.name, .int .i64 x.kind, .string x.arg, .string x.«to», .int .i64 x.delay, .int .i64 x.tries, .slice av x.after.length cv] 64)) V) => eventE (HE1.out.new KV) (HR1.out.new KV) HF.out (by omega) ⟨6, x.name, longB, 0⟩
      simp only [] at hE
      unfold longB at hE
      go_enter Tryd.func84, Tryd.ntmps84
      go_upto_region 11 with fail
      go_region
      go_upto_region 14 with (first
        | (go_at_call 63; refine (hE _ (Kept.drew _ _)).mono ?_; rintro e w2 ⟨rfl, X2⟩)
        | fail)
      clear n0 n1 n2 n3 n4 n5 n6 hE
      obtain ⟨H2, E2, R2, hH2, K2⟩ := env_goes (HE1.out.new (Kept.drew (fun _ => False) (w.alloc (.cells #[.string x.name, .int .i64 x.kind, .string x.arg, .string x.«to», .int .i64 x.delay, .int .i64 x.tries, .slice av x.after.length cv] 64)))) X2
      obtain ⟨⟨n0, n1, n2, n3, n4, n5, n6⟩, _⟩ := cells7F (HBX.out w2 ((((Kept.drew (fun _ => False) (w.alloc (.cells #[.string x.name, .int .i64 x.kind, .string x.arg, .string x.«to», .int .i64 x.delay, .int .i64 x.tries, .slice av x.after.length cv] 64)))).mono (fun _ h => h.elim)).and K2))
      have KW2 : Kept H w w2 := ((HKA.out.and (Kept.drew (fun _ => False) (w.alloc (.cells #[.string x.name, .int .i64 x.kind, .string x.arg, .string x.«to», .int .i64 x.delay, .int .i64 x.tries, .slice av x.after.length cv] 64)))).mono (fun _ h => h.elim)).and K2
      have HKW2 := hid KW2
      have hH2' : ∀ g, H2 g → H g ∨ w.heap.size ≤ g := fun g h => (hH2 g h).imp (fun h => h) (fun h => Nat.le_trans (HKA.out.and (Kept.drew (fun _ => False) (w.alloc (.cells #[.string x.name, .int .i64 x.kind, .string x.arg, .string x.«to», .int .i64 x.delay, .int .i64 x.tries, .slice av x.after.length cv] 64)))).size h)
      have HH2 := hid hH2'
      have HR2 := hid R2
      have HE2 := hid E2
      clear hH2 hH2' K2 KW2 X2 R2 E2
      have hT := fun V (KV : Kept (fun _ => False) w2 V) => closed_any (HE2.out.new KV) (HR2.out.new KV) F2 (by omega) hn 3 longB
      unfold longB at hT
      go_wp2_with (first
        | (go_at_call 69; refine (hT _ (Kept.refl (fun _ => False) _)).mono ?_; rintro e w3 ⟨rfl, X3⟩)
        | fail)
      (try simp only [Exit.inBlock, Exit.then]); refine bodyPost_ret (results_none rfl _ _ _) rfl ?_
      refine ⟨rfl, ?_⟩
      rw [HW.out]
      exact RGoes.trans HH2.out HKW2.out X3
    · have HW := hid (show beginR nm ns r x = mailR (evR nm ns r ⟨9, x.name, ⟨#[]⟩, 0⟩) ⟨1, childP r.st.id x.name, ⟨#[]⟩, x.name, x.arg, ⟨#[]⟩, 0⟩ by unfold beginR; rw [if_neg h1, if_neg h2, if_pos h3, if_neg hl])
      have e3 : (x.kind == 3) = true := by simp [h3]
      have s1 : (⟨#[47]⟩ : ByteArray).size = 1 := rfl
      have c1 := fun W => run_cat W r.st.id ⟨#[47]⟩ (by rw [s1]; omega)
      have c2 := fun W => run_cat W (r.st.id ++ ⟨#[47]⟩) x.name (by rw [ByteArray.size_append, s1]; omega)
      have hsz : (r.st.id ++ ⟨#[47]⟩ ++ x.name).size = r.st.id.size + 1 + x.name.size := by rw [ByteArray.size_append, ByteArray.size_append]; rfl
      unfold childP at hl
      rw [hsz] at hl
      have e0 : ¬ ((256 : Int) < (r.st.id.size : Int) + 1 + (x.name.size : Int)) := by omega
      clear h1 h2 h3 hsz hl
      have F2 := evR_fit (nm := nm) (ns := ns) HF.out (by omega) ⟨9, x.name, ⟨#[]⟩, 0⟩
      have hE := fun V (KV : Kept (fun _ => False) (w.alloc (.cells #[.string x.name, .int .i64 x.kind, .string x.arg, .string x.«to», .int .i64 x.delay, .int .i64 x.tries, .slice av x.after.length cv] 64)) V) => eventE (HE1.out.new KV) (HR1.out.new KV) HF.out (by omega) ⟨9, x.name, ⟨#[]⟩, 0⟩
      simp only [] at hE
      go_enter Tryd.func84, Tryd.ntmps84
      go_upto_region 11 with fail
      go_region
      go_upto_region 16 with (first
        | (go_at_call 63; refine (hE _ (Kept.drew _ _)).mono ?_; rintro e w2 ⟨rfl, X2⟩)
        | fail)
      clear n0 n1 n2 n3 n4 n5 n6 hE
      obtain ⟨H2, E2, R2, hH2, K2⟩ := env_goes (HE1.out.new (Kept.drew (fun _ => False) (w.alloc (.cells #[.string x.name, .int .i64 x.kind, .string x.arg, .string x.«to», .int .i64 x.delay, .int .i64 x.tries, .slice av x.after.length cv] 64)))) X2
      obtain ⟨⟨n0, n1, n2, n3, n4, n5, n6⟩, _⟩ := cells7F (HBX.out w2 ((((Kept.drew (fun _ => False) (w.alloc (.cells #[.string x.name, .int .i64 x.kind, .string x.arg, .string x.«to», .int .i64 x.delay, .int .i64 x.tries, .slice av x.after.length cv] 64)))).mono (fun _ h => h.elim)).and K2))
      have KW2 : Kept H w w2 := ((HKA.out.and (Kept.drew (fun _ => False) (w.alloc (.cells #[.string x.name, .int .i64 x.kind, .string x.arg, .string x.«to», .int .i64 x.delay, .int .i64 x.tries, .slice av x.after.length cv] 64)))).mono (fun _ h => h.elim)).and K2
      have HKW2 := hid KW2
      have hH2' : ∀ g, H2 g → H g ∨ w.heap.size ≤ g := fun g h => (hH2 g h).imp (fun h => h) (fun h => Nat.le_trans (HKA.out.and (Kept.drew (fun _ => False) (w.alloc (.cells #[.string x.name, .int .i64 x.kind, .string x.arg, .string x.«to», .int .i64 x.delay, .int .i64 x.tries, .slice av x.after.length cv] 64)))).size h)
      have HH2 := hid hH2'
      have HR2 := hid R2
      have HE2 := hid E2
      clear hH2 hH2' K2 KW2 X2 R2 E2
      have hT := fun V (KV : Kept (fun _ => False) w2 V) => mail_any V H2 rb nm a ns.length c _ (HR2.out.new KV) (by have := F2.tks; omega) ⟨1, childP r.st.id x.name, ⟨#[]⟩, x.name, x.arg, ⟨#[]⟩, 0⟩
      unfold childP at hT
      simp only [] at hT
      go_wp2_with (first
        | (go_at_call 88; refine (hT _ (Kept.refl (fun _ => False) _)).mono ?_; rintro e w3 ⟨rfl, X3⟩)
        | fail)
      go_end0
      refine ⟨rfl, ?_⟩
      rw [HW.out]
      exact RGoes.trans HH2.out HKW2.out X3
  have e3 : (x.kind == 3) = false := by simp [h3]
  by_cases h4 : x.kind = 4
  · have e4 : (x.kind == 4) = true := by simp [h4]
    have hK := fun V (KV : Kept (fun _ => False) (w.alloc (.cells #[.string x.name, .int .i64 x.kind, .string x.arg, .string x.«to», .int .i64 x.delay, .int .i64 x.tries, .slice av x.after.length cv] 64)) V) => kept_any V _ _ _ (RD.new KV) x.arg
    unfold stA at hK
    obtain ⟨a7, c7, rfl⟩ := ownsRow_shape hn7
    cases hkp : keptP r.st.sigs x.arg with
    | none =>
      have HW := hid (show beginR nm ns r x = evR nm ns r ⟨11, x.name, ⟨#[]⟩, 0⟩ by unfold beginR; rw [if_neg h1, if_neg h2, if_neg h3, if_pos h4, hkp])
      have hz : keptZ r.st.sigs x.arg = -1 := by unfold keptZ; rw [hkp]
      rw [hz] at hK
      clear h1 h2 h3 h4 hz hkp
      have hE := fun V (KV : Kept (fun _ => False) (w.alloc (.cells #[.string x.name, .int .i64 x.kind, .string x.arg, .string x.«to», .int .i64 x.delay, .int .i64 x.tries, .slice av x.after.length cv] 64)) V) => eventE (HE1.out.new KV) (HR1.out.new KV) HF.out (by omega) ⟨11, x.name, ⟨#[]⟩, 0⟩
      simp only [] at hE
      go_enter Tryd.func84, Tryd.ntmps84
      go_upto_region 18 with fail
      refine wp_onlyN (bg18 _ x2 x3 x4 x5 x6 x7 x8 x9 x10 n2 (hK _ (Kept.drew _ _)) ?_)
      intro _ _ _ _ _ _ _ w5 K5
      have n0' := keepC K5 n0 (fun _ _ h => h)
      have HK5 := hid K5
      clear n0 n1 n2 n3 n4 n5 n6 x0 x1 x2 x3 x4 x5 x6 x7 x8 x9 x10 x11 hK K5
      go_wp2_with (first
        | (go_at_call 63; refine (hE _ HK5.out).mono ?_; rintro e w2 ⟨rfl, X2⟩)
        | fail)
      go_end0
      refine ⟨rfl, ?_⟩
      rw [HW.out]
      exact RGoes.first (HKA.out.and HK5.out) X2
    | some k =>
      have hk : k < r.st.sigs.length := keptP_lt hkp
      have HW := hid (show beginR nm ns r x = evR nm ns r ⟨12, x.name, (r.st.sigs[k]).text, 1⟩ by unfold beginR; rw [if_neg h1, if_neg h2, if_neg h3, if_pos h4, hkp]; simp only [List.getElem?_eq_getElem hk]; rw [Option.map_some, Option.getD_some])
      have hz : keptZ r.st.sigs x.arg = (k : Int) := by unfold keptZ; rw [hkp]
      rw [hz] at hK
      clear h1 h2 h3 h4 hz hkp
      have hE := fun V (KV : Kept (fun _ => False) (w.alloc (.cells #[.string x.name, .int .i64 x.kind, .string x.arg, .string x.«to», .int .i64 x.delay, .int .i64 x.tries, .slice av x.after.length cv] 64)) V) => eventE (HE1.out.new KV) (HR1.out.new KV) HF.out (by omega) ⟨12, x.name, (r.st.sigs[k]).text, 1⟩
      simp only [] at hE
      go_enter Tryd.func84, Tryd.ntmps84
      go_upto_region 18 with fail
      refine wp_onlyN (bg18 _ x2 x3 x4 x5 x6 x7 x8 x9 x10 n2 (hK _ (Kept.drew _ _)) ?_)
      intro _ _ _ _ _ _ _ w5 K5
      have n0' := keepC K5 n0 (fun _ _ h => h)
      have x9' := keepC K5 x9 (fun _ _ h => h)
      have hn7' := ownsRow_keep hn7 (fun g hg => K5.block g (ownsRow_blk hn7 hg) (fun h => h))
      obtain ⟨g7, cg7, hv7, _, _, hrow7⟩ := row_at hn7' (by omega)
      obtain ⟨rfl, rfl⟩ : a7 = some ⟨g7, 0, none⟩ ∧ c7 = cg7 := by simpa using hv7
      have q1 := (hrow7 _ _ (sgF_get hk)).1
      have HK5 := hid K5
      have hk0 : (0 : Int) ≤ (k : Int) := by omega
      clear n0 n1 n2 n3 n4 n5 n6 x0 x1 x2 x3 x4 x5 x6 x7 x8 x9 x10 x11 hK K5 hrow7 hn7' hv7
      go_upto_region 20 with fail
      refine wp_onlyN (bg20 _ n0' x9' q1 hk (hE _ (HK5.out.and (Kept.drew _ _))) ?_)
      intro _ _ _ _ _ _ _ _ _ _ _ _ _ w2 X2
      clear n0' x9' q1 hE
      go_wp2_with fail
      go_end0
      refine ⟨rfl, ?_⟩
      rw [HW.out]
      exact RGoes.first ((HKA.out.and HK5.out).and (Kept.drew _ _)) X2
  · have HW := hid (show beginR nm ns r x = mailR (evR nm ns r ⟨14, x.name, ⟨#[]⟩, 0⟩) ⟨3, x.«to», ⟨#[]⟩, x.name, x.arg, ⟨#[]⟩, 0⟩ by unfold beginR; rw [if_neg h1, if_neg h2, if_neg h3, if_neg h4])
    have e4 : (x.kind == 4) = false := by simp [h4]
    clear h1 h2 h3 h4
    have F2 := evR_fit (nm := nm) (ns := ns) HF.out (by omega) ⟨14, x.name, ⟨#[]⟩, 0⟩
    have hE := fun V (KV : Kept (fun _ => False) (w.alloc (.cells #[.string x.name, .int .i64 x.kind, .string x.arg, .string x.«to», .int .i64 x.delay, .int .i64 x.tries, .slice av x.after.length cv] 64)) V) => eventE (HE1.out.new KV) (HR1.out.new KV) HF.out (by omega) ⟨14, x.name, ⟨#[]⟩, 0⟩
    simp only [] at hE
    go_enter Tryd.func84, Tryd.ntmps84
    go_upto_region 3 with (first
      | (go_at_call 63; refine (hE _ (Kept.refl (fun _ => False) _)).mono ?_; rintro e w2 ⟨rfl, X2⟩)
      | fail)
    clear n0 n1 n2 n3 n4 n5 n6 hE
    obtain ⟨H2, E2, R2, hH2, K2⟩ := env_goes (HE1.out.new (Kept.refl (fun _ => False) _)) X2
    obtain ⟨⟨n0, n1, n2, n3, n4, n5, n6⟩, _⟩ := cells7F (HBX.out w2 ((((Kept.refl (fun _ => False) _)).mono (fun _ h => h.elim)).and K2))
    have KW2 : Kept H w w2 := ((HKA.out.and (Kept.refl (fun _ => False) _)).mono (fun _ h => h.elim)).and K2
    have HKW2 := hid KW2
    have hH2' : ∀ g, H2 g → H g ∨ w.heap.size ≤ g := fun g h => (hH2 g h).imp (fun h => h) (fun h => Nat.le_trans (HKA.out.and (Kept.refl (fun _ => False) _)).size h)
    have HH2 := hid hH2'
    have HR2 := hid R2
    have HE2 := hid E2
    clear hH2 hH2' K2 KW2 X2 R2 E2
    have hT := fun V (KV : Kept (fun _ => False) w2 V) => mail_any V H2 rb nm a ns.length c _ (HR2.out.new KV) (by have := F2.tks; omega) ⟨3, x.«to», ⟨#[]⟩, x.name, x.arg, ⟨#[]⟩, 0⟩
    (try unfold tkV at hT)
    simp only [] at hT
    go_wp2_with (first
      | (go_at_call 88; refine (hT _ (Kept.refl (fun _ => False) _)).mono ?_; rintro e w3 ⟨rfl, X3⟩)
      | fail)
    go_end0
    refine ⟨rfl, ?_⟩
    rw [HW.out]
    exact RGoes.trans HH2.out HKW2.out X3

end Go.Proofs.YtfjekjbkifmpfaaDoor.Rf

/-
  The document's going on, in memory.
-/
namespace Go.Proofs.YtfjekjbkifmpfaaDoor.Rf
open Go.RowKit

/-- What stands ahead of a round of going on. -/
def onJ (w : World) (H : Nat → Prop) (rb : Nat) (nm : ByteArray) (a : Option Addr) (c : Nat) (ns : List Nd) (goal : Rn) (wr : World) (f : Nat) : Prop :=
  ∃ (r : Rn) (m : Nat), RGoes w H rb nm a ns.length c r wr ∧ Fit r m ∧ m + f * (ns.length + 3) ≤ 700000 ∧ OnF nm ns f r goal

set_option maxRecDepth 100000 in
set_option maxHeartbeats 8000000 in
theorem on_any {w0 w : World} {H : Nat → Prop} {rb : Nat} {nm : ByteArray} {a : Option Addr} {c : Nat} {ns : List Nd} {r : Rn} {m : Nat} (E : Env w0 w H a ns) (R : RAt w H rb nm a ns.length c r) (F : Fit r m) (hm : m ≤ 500000) (hn : ns.length ≤ 64) (hpos : 0 < ns.length) (S : Sound ns) (FN : Fine ns r.st) (hs : r.st.status = 1) :
    Calls Tryd.prog 64 #[.pointer (some ⟨rb, 0, none⟩)] w fun e w' => e = .returned (.tuple #[]) ∧ RGoes w H rb nm a ns.length c (goOnP nm ns r) w' := by
  obtain ⟨goal, hgoal⟩ : ∃ goal, goal = goOnP nm ns r := ⟨_, rfl⟩
  rw [← hgoal]
  have J0 : ∃ f, onJ w H rb nm a c ns goal w f := by
    have X := RGoes.keep R (Kept.refl (fun _ => False) w)
    rcases goOn_on (nm := nm) (r := r) S FN with h | h
    · refine ⟨_, r, m, X, F, ?_, hgoal ▸ on_fuel S h FN⟩
      have h1 := idleC_len r.st.nodes
      have h2 := FN.len
      have : idleC r.st.nodes * (ns.length + 3) ≤ 64 * 67 := Nat.mul_le_mul (by omega) (by omega)
      omega
    · exact absurd hs h
  have HE := hid E
  have HU := hid (uniq_of ns S)
  have HNm : Hid (∀ x ∈ ns, x.name.size ≤ 100000000) := E.names
  clear hgoal E R F FN S hs
  go_enter Tryd.func64, Tryd.ntmps64
  go_wp2_with fail
  go_loopw [2] (fun _ wr => ∃ f, onJ w H rb nm a c ns goal wr f) (fun _ wr => leastP (onJ w H rb nm a c ns goal wr))
  case atStart => exact J0
  case round =>
    clear J0
    obtain ⟨hJ, hlst⟩ := leastP_is hrel
    clear hrel hlst
    obtain ⟨f, hf⟩ : ∃ f, f = leastP (onJ w H rb nm a c ns goal wr) := ⟨_, rfl⟩
    have HF0 := hid hf
    rw [← hf] at hJ
    clear hf
    obtain ⟨r1, m1, X, F1, hm1, hO⟩ := hJ
    obtain ⟨H1, E1, R1, hH1, K1⟩ := env_goes HE.out X
    obtain ⟨v6, v7, v12, v13, hb, hn6, hn7, hHr, _, htop⟩ := R1.opened
    obtain ⟨a6, c6, rfl⟩ := ownsRow_shape hn6
    obtain ⟨x0, x1, _, _, _, _, x6, _, x8, _⟩ := runCells hb
    have HX := hid X
    have HE1 := hid E1
    have HR1 := hid R1
    have HF1 := hid F1
    have HH1 : Hid (∀ g, H1 g → H g ∨ w.heap.size ≤ g) := hH1
    have HK1 := hid K1
    have HB := hid hb
    have HN6 := hid hn6
    have hrb : rb < wr.heap.size := (Array.getElem?_eq_some_iff.1 hb).1
    clear X E1 R1 F1 hH1 K1 hb hn6 hn7 hHr htop
    cases hO with
    | stop hs =>
      have e1 : (goal.st.status == 1) = false := by rw [beq_eq_false_iff_ne]; exact hs
      have e2 : (goal.st.status != 1) = true := by rw [bne_iff_ne]; exact hs
      clear hs
      go_wp2_with fail
      (try simp only [Exit.inBlock, Exit.then]); refine bodyPost_ret (results_none rfl _ _ _) rfl ?_
      exact ⟨rfl, HX.out⟩
    | @step f' _ _ i l hs hlen hg hi hO' =>
      have e1 : (r1.st.status == 1) = true := by rw [beq_iff_eq]; exact hs
      have hNx := next_any HE1.out HR1.out HU.out hlen hn
      rw [hg] at hNx
      simp only [headZ] at hNx
      have e2 : ¬ ((i : Int) < 0) := by omega
      have e3 : (i : Int) < (ns.length : Int) := by omega
      have HO' := hid hO'
      clear hs hg hO'
      go_upto_region 3 with (first
        | (go_at_call 83; refine hNx.mono ?_; rintro e w5 ⟨rfl, K5⟩; clear hNx)
        | fail)
      have E5 := HE1.out.new K5
      obtain ⟨b, o, av, cv, hae, hT, n0, n1, n2, n3, n4, n5, n6⟩ := E5.here.1.at hi
      subst hae
      obtain ⟨y0, y1, _⟩ := runCells ((K5.block rb hrb (fun h => h)).trans HB.out)
      have hB := fun V (KV : Kept (fun _ => False) w5 V) => begin_any (E5.new KV) ((HR1.out.new K5).new KV) HF1.out (by omega) hn ns[i] (HNm.out _ (List.getElem_mem hi)) av cv
      have HK5 := hid K5
      clear hT K5 E5 x0 x1 x6 x8
      go_wp2_with (first
        | (go_at_call 84; refine (hB _ (Kept.refl _ _)).mono ?_; rintro e w6 ⟨rfl, X6⟩; clear hB)
        | fail)
      have hJ' : onJ w H rb nm (some ⟨b, o, none⟩) c ns goal w6 f' :=
        ⟨_, _, RGoes.next HH1.out HK1.out HK5.out X6, beginR_fit HF1.out (by omega) ns[i], by
          have : (f' + 1) * (ns.length + 3) = f' * (ns.length + 3) + (ns.length + 3) := Nat.succ_mul _ _
          omega, HO'.out⟩
      go_roundw
      case rel => exact ⟨_, hJ'⟩
      case measure =>
        have h := (leastP_is ⟨_, hJ'⟩).2 _ hJ'
        have h0 := HF0.out
        omega
    | done hs hlen hg hz =>
      have e1 : (r1.st.status == 1) = true := by rw [beq_iff_eq]; exact hs
      have e4 : (r1.st.status != 1) = false := by rw [bne_eq_false_iff_eq]; exact hs
      have hNx := next_any HE1.out HR1.out HU.out hlen hn
      rw [hg] at hNx
      simp only [headZ] at hNx
      have e2 : ((-1 : Int) < 0) := by decide
      have hall := rest_zero.1 hz
      clear hs hg hz
      go_wp2_with (first
        | (go_at_call 83; refine hNx.mono ?_; rintro e w5 ⟨rfl, K5⟩; clear hNx; obtain ⟨z0, z1, _, _, _, _, z6, _, z8, _⟩ := runCells ((K5.block rb hrb (fun h => h)).trans HB.out); have hn5 := ownsRow_keep HN6.out (fun g hg => K5.block g (ownsRow_blk HN6.out hg) (fun h => h)); have HN5 := hid hn5; have HK5 := hid K5; clear K5 hn5 x0 x1 x6 x8)
        | fail)
      go_loopw [3] (fun i w7 => ∃ (k : Nat), k ≤ r1.st.nodes.length ∧ i = .int .i64 k ∧ w7 = w5) (fun i _ => r1.st.nodes.length - (intOf i).toNat)
      case atStart => exact ⟨0, Nat.zero_le _, rfl, rfl⟩
      case round =>
        obtain ⟨k, hk, rfl, rfl⟩ := hrel
        by_cases hlt : k < r1.st.nodes.length
        · have e5 : (k : Int) < (r1.st.nodes.length : Int) := by omega
          obtain ⟨g6, cg, hv, _, _, hrow⟩ := row_at HN5.out (by omega)
          obtain ⟨rfl, rfl⟩ : a6 = some ⟨g6, 0, none⟩ ∧ c6 = cg := by simpa using hv
          have q0 := (hrow _ _ (nsF_get hlt).1).1
          rw [hall k hlt] at q0
          clear hrow hv
          go_wp2_with fail
          go_roundw
          case rel => exact ⟨k + 1, by omega, by go_num, trivial⟩
          case measure => simp [intOf]; omega
        · obtain rfl : k = r1.st.nodes.length := by omega
          have e5 : ¬ ((r1.st.nodes.length : Int) < (r1.st.nodes.length : Int)) := by omega
          obtain ⟨m6, hm6⟩ : ∃ m6, r1.st.nodes.length = m6 + 1 := ⟨ns.length - 1, by omega⟩
          have e6 : (0 : Int) < (r1.st.nodes.length : Int) := by omega
          obtain ⟨g6, cg, hv, _, _, hrow⟩ := row_at HN5.out (by omega)
          obtain ⟨rfl, rfl⟩ : a6 = some ⟨g6, 0, none⟩ ∧ c6 = cg := by simpa using hv
          have q2 := (hrow _ _ (nsF_get (show m6 < r1.st.nodes.length by omega)).2.2).1
          have hC := fun V (KV : Kept (fun _ => False) wr V) => closed_any ((HE1.out.new HK5.out).new KV) ((HR1.out.new HK5.out).new KV) HF1.out (by omega) hn 2 (r1.st.nodes[m6]).text
          rw [← lastP_at hm6] at hC
          rw [show (r1.st.nodes[m6]'(by omega)).text = lastP r1.st.nodes from (lastP_at hm6).symm] at q2
          have z8' : wr.cell? ⟨rb, 8, none⟩ = some (.slice (some ⟨g6, 0, none⟩) (m6 + 1) c6) := by rw [← hm6]; exact z8
          clear hrow hv hall
          go_upto_region 10 with fail
          refine wp_onlyN (on10 _ z8' q2 (by omega) (hC _ (Kept.drew _ _)) ?_)
          intro _ _ _ _ _ _ _ _ _ _ _ _ _ _ _ _ _ w8 X8
          clear z0 z1 z6 z8 z8' q2 hC
          go_wp2_with fail
          go_end0
          exact ⟨rfl, RGoes.next HH1.out HK1.out (HK5.out.and (Kept.drew _ _)) X8⟩
    | rest hs hlen hg hz =>
      have e1 : (goal.st.status == 1) = true := by rw [beq_iff_eq]; exact hs
      have e4 : (goal.st.status != 1) = false := by rw [bne_eq_false_iff_eq]; exact hs
      have hNx := next_any HE1.out HR1.out HU.out hlen hn
      rw [hg] at hNx
      simp only [headZ] at hNx
      have e2 : ((-1 : Int) < 0) := by decide
      clear hs hg
      go_wp2_with (first
        | (go_at_call 83; refine hNx.mono ?_; rintro e w5 ⟨rfl, K5⟩; clear hNx; obtain ⟨z0, z1, _, _, _, _, z6, _, z8, _⟩ := runCells ((K5.block rb hrb (fun h => h)).trans HB.out); have hn5 := ownsRow_keep HN6.out (fun g hg => K5.block g (ownsRow_blk HN6.out hg) (fun h => h)); have HN5 := hid hn5; have HK5 := hid K5; clear K5 hn5 x0 x1 x6 x8)
        | fail)
      go_loopw [3] (fun i w7 => ∃ (k : Nat), k ≤ goal.st.nodes.length ∧ i = .int .i64 k ∧ w7 = w5 ∧ ∀ (j : Nat) (h : j < goal.st.nodes.length), j < k → (goal.st.nodes[j]'h).status = 3) (fun i _ => goal.st.nodes.length - (intOf i).toNat)
      case atStart => exact ⟨0, Nat.zero_le _, rfl, rfl, fun j h hj => absurd hj (Nat.not_lt_zero _)⟩
      case round =>
        obtain ⟨k, hk, rfl, rfl, hall⟩ := hrel
        by_cases hlt : k < goal.st.nodes.length
        · have e5 : (k : Int) < (goal.st.nodes.length : Int) := by omega
          obtain ⟨g6, cg, hv, _, _, hrow⟩ := row_at HN5.out (by omega)
          obtain ⟨rfl, rfl⟩ : a6 = some ⟨g6, 0, none⟩ ∧ c6 = cg := by simpa using hv
          have q0 := (hrow _ _ (nsF_get hlt).1).1
          clear hrow hv
          by_cases h3 : (goal.st.nodes[k]).status = 3
          · rw [h3] at q0
            go_wp2_with fail
            go_roundw
            case rel => exact ⟨k + 1, by omega, by go_num, trivial, fun j h hj => by
              rcases Nat.lt_succ_iff_lt_or_eq.1 hj with hj | rfl
              · exact hall j h hj
              · exact h3⟩
            case measure => simp [intOf]; omega
          · have e6 : ((goal.st.nodes[k]).status != 3) = true := by rw [bne_iff_ne]; exact h3
            clear h3
            go_wp2_with fail
            (try simp only [Exit.inBlock, Exit.then]); refine bodyPost_ret (results_none rfl _ _ _) rfl ?_
            exact ⟨rfl, RGoes.trans HH1.out HK1.out (RGoes.keep HR1.out HK5.out)⟩
        · exact absurd (rest_zero.2 (fun j h => hall j h (by omega))) hz

end Go.Proofs.YtfjekjbkifmpfaaDoor.Rf

/-
  The boxes of an input, a node and how it stands, while the document does an input.
-/
namespace Go.Proofs.YtfjekjbkifmpfaaDoor.Rf
open Go.RowKit

structure Bxs (V : World) (H : Nat → Prop) (ib nb yb : Nat) (q : Inp) (x : Nd) (y : Ns) (v : Value) : Prop where
  inp : V.heap[ib]? = some (.cells #[.int .i64 q.kind, .string q.node, .string q.name, .string q.text, .int .i64 q.tr, .int .i64 q.status, .int .i64 q.now, .string q.par, .string q.pnode] 39 (0, 0))
  nod : V.heap[nb]? = some (.cells #[.string x.name, .int .i64 x.kind, .string x.arg, .string x.«to», .int .i64 x.delay, .int .i64 x.tries, v] 64 (0, 0))
  std : V.heap[yb]? = some (.cells #[.int .i64 y.status, .int .i64 y.tr, .string y.text] 61 (0, 0))
  out : ¬ H ib ∧ ¬ H nb ∧ ¬ H yb

theorem Bxs.goes {V V2 : World} {H H2 : Nat → Prop} {ib nb yb : Nat} {q : Inp} {x : Nd} {y : Ns} {v : Value} (B : Bxs V H ib nb yb q x y v) (hH : ∀ g, H2 g → H g ∨ V.heap.size ≤ g) (K : Kept H V V2) : Bxs V2 H2 ib nb yb q x y v := by
  have l1 := (Array.getElem?_eq_some_iff.1 B.inp).1
  have l2 := (Array.getElem?_eq_some_iff.1 B.nod).1
  have l3 := (Array.getElem?_eq_some_iff.1 B.std).1
  refine ⟨(K.block _ l1 B.out.1).trans B.inp, (K.block _ l2 B.out.2.1).trans B.nod, (K.block _ l3 B.out.2.2).trans B.std, fun h => ?_, fun h => ?_, fun h => ?_⟩
  · exact (hH _ h).elim B.out.1 (fun h => by omega)
  · exact (hH _ h).elim B.out.2.1 (fun h => by omega)
  · exact (hH _ h).elim B.out.2.2 (fun h => by omega)

theorem Bxs.cells {V : World} {H : Nat → Prop} {ib nb yb : Nat} {q : Inp} {x : Nd} {y : Ns} {v : Value} (B : Bxs V H ib nb yb q x y v) :
    V.cell? ⟨ib, 0, none⟩ = some (.int .i64 q.kind) ∧ V.cell? ⟨ib, 1, none⟩ = some (.string q.node) ∧ V.cell? ⟨ib, 2, none⟩ = some (.string q.name) ∧ V.cell? ⟨ib, 3, none⟩ = some (.string q.text) ∧ V.cell? ⟨ib, 4, none⟩ = some (.int .i64 q.tr) ∧ V.cell? ⟨ib, 5, none⟩ = some (.int .i64 q.status) ∧ V.cell? ⟨ib, 6, none⟩ = some (.int .i64 q.now) ∧ V.cell? ⟨ib, 7, none⟩ = some (.string q.par) ∧ V.cell? ⟨ib, 8, none⟩ = some (.string q.pnode) ∧
    V.cell? ⟨nb, 0, none⟩ = some (.string x.name) ∧ V.cell? ⟨nb, 1, none⟩ = some (.int .i64 x.kind) ∧ V.cell? ⟨nb, 2, none⟩ = some (.string x.arg) ∧ V.cell? ⟨nb, 3, none⟩ = some (.string x.«to») ∧ V.cell? ⟨nb, 4, none⟩ = some (.int .i64 x.delay) ∧ V.cell? ⟨nb, 5, none⟩ = some (.int .i64 x.tries) ∧ V.cell? ⟨nb, 6, none⟩ = some v ∧
    V.cell? ⟨yb, 0, none⟩ = some (.int .i64 y.status) ∧ V.cell? ⟨yb, 1, none⟩ = some (.int .i64 y.tr) ∧ V.cell? ⟨yb, 2, none⟩ = some (.string y.text) := by
  obtain ⟨⟨a0, a1, a2, a3, a4, a5, a6, a7, a8⟩, _⟩ := nine B.inp
  obtain ⟨⟨b0, b1, b2, b3, b4, b5, b6⟩, _⟩ := cells7F B.nod
  obtain ⟨⟨c0, c1, c2⟩, _⟩ := cells3F B.std
  exact ⟨a0, a1, a2, a3, a4, a5, a6, a7, a8, b0, b1, b2, b3, b4, b5, b6, c0, c1, c2⟩

/-- The two boxes of what node answers, behind a call. -/
theorem Bxs.mk2 {w2 : World} {H : Nat → Prop} {n : Nat} {q : Inp} {x : Nd} {y : Ns} {v : Value} (hI : w2.heap[n]? = some (.cells #[.int .i64 q.kind, .string q.node, .string q.name, .string q.text, .int .i64 q.tr, .int .i64 q.status, .int .i64 q.now, .string q.par, .string q.pnode] 39 (0, 0))) (hn : n < w2.heap.size) (htop : ∀ g, H g → g < n) :
    Bxs ((w2.alloc (.cells #[.string x.name, .int .i64 x.kind, .string x.arg, .string x.«to», .int .i64 x.delay, .int .i64 x.tries, v] 64)).alloc (.cells #[.int .i64 y.status, .int .i64 y.tr, .string y.text] 61)) H n w2.heap.size (w2.heap.size + 1) q x y v := by
  have K1 := Kept.alloc (fun _ => False) w2 (.cells #[.string x.name, .int .i64 x.kind, .string x.arg, .string x.«to», .int .i64 x.delay, .int .i64 x.tries, v] 64)
  have h1 := heap_alloc_new w2 (.cells #[.string x.name, .int .i64 x.kind, .string x.arg, .string x.«to», .int .i64 x.delay, .int .i64 x.tries, v] 64)
  have hz : (w2.alloc (.cells #[.string x.name, .int .i64 x.kind, .string x.arg, .string x.«to», .int .i64 x.delay, .int .i64 x.tries, v] 64)).heap.size = w2.heap.size + 1 := World.size_alloc _ _
  generalize w2.alloc (.cells #[.string x.name, .int .i64 x.kind, .string x.arg, .string x.«to», .int .i64 x.delay, .int .i64 x.tries, v] 64) = w3 at *
  have K2 := Kept.alloc (fun _ => False) w3 (.cells #[.int .i64 y.status, .int .i64 y.tr, .string y.text] 61)
  have h2 := heap_alloc_new w3 (.cells #[.int .i64 y.status, .int .i64 y.tr, .string y.text] 61)
  refine ⟨((K1.and K2).block n hn (fun h => h)).trans hI, (K2.block _ (by omega) (fun h => h)).trans h1, by rw [← hz]; exact h2, fun h => ?_, fun h => ?_, fun h => ?_⟩
  · exact absurd (htop _ h) (Nat.lt_irrefl _)
  · have := htop _ h; omega
  · have := htop _ h; omega

theorem evR_status {nm : ByteArray} {ns : List Nd} {r : Rn} {e : Ev} (h1 : e.kind ≠ 1) (h15 : e.kind ≠ 15) : (evR nm ns r e).st.status = r.st.status := by
  unfold evR
  cases ha : applyR nm ns r.st e with
  | none => rfl
  | some s =>
    unfold applyR at ha
    rw [if_neg h1] at ha
    show s.status = _
    refine if_some' ha (fun h => by cases h) (fun h => ?_)
    refine if_some' h (fun h => ?_) (fun h => ?_)
    · obtain rfl := Option.some.inj h
      rfl
    rw [if_neg h15] at h
    split at h
    · cases h
    split at h
    · rename_i n y _ _
      cases hm : moveR r.st.sigs e n y with
      | none => rw [hm] at h; cases h
      | some p =>
        rw [hm] at h
        obtain rfl := Option.some.inj h
        rfl
    · cases h

end Go.Proofs.YtfjekjbkifmpfaaDoor.Rf
