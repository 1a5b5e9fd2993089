/-
  The program's net, ranged over: slices.Clone, slices.All, All.
-/
import Derived.Test.YthpamcfemhimcaaTold
import Derived.Test.YthpamcfemhimcaaNetBoth
namespace Go.Proofs.Ythpamcfemhimcaa
open Go.RowKit Go.Shelf
attribute [local go_sem] Oper.semAt_some

set_option maxRecDepth 100000 in
set_option maxHeartbeats 400000 in
theorem cloneRow_any (w : World) (v : Value) (ps : List PV) (hr : w.ownsRow 0 29 3 v ps.length (netCells ps)) (h1 : ∀ u ∈ netCells ps, u.oneCell' = true) (hl : ps.length ≤ 1000) :
    Calls Try.prog 33 #[v] w fun e w' => ∃ a c, e = .returned (.slice a ps.length c) ∧ w'.ownsRow w.heap.size 29 3 (.slice a ps.length c) ps.length (netCells ps) ∧ Kept (fun _ => False) w w' := by
  obtain ⟨i0, hi, hz0, hz1, hz2⟩ := info_parts Try.info29w
  have hq : ∀ (a : Option Addr) (n c : Nat) w, (binOp .eql 39 (.slice a n c) (.slice none 0 0)).run Try.prog w = .ok (.bool a.isNone) w := fun a n c w => Lib.run_eql_slice_nil w _ _ a n c 0 0 Try.underlying39
  rcases hr.2 with ⟨rfl, h0⟩ | ⟨g, cap, cur, rfl, _⟩
  · have hp : ps = [] := List.eq_nil_of_length_eq_zero h0
    subst hp
    go_enter Try.func33, Try.ntmps33
    go_wp2
    go_ret
    exact ⟨none, 0, rfl, World.ownsRow_nil _ _ _ _, Kept.refl _ _⟩
  · have hown := ownsRow_empty w w.heap.size 29 3 (Nat.le_refl _)
    have src : Src (w.alloc (.cells #[] 29)) 3 (.slice (some ⟨g, 0, none⟩) ps.length cap) ps.length (netCells ps) := by
      have hr2 := hr.alloc (.cells #[] 29)
      exact .inl ⟨_, _, rfl, by rw [netCells_length], hr2.cells rfl⟩
    clear hr
    go_enter Try.func33, Try.ntmps33
    go_wp2_with (first
      | (at_builtin; refine wpList_append_src _ rfl _ _ 39 rfl w.heap.size 29 i0 _ 3 40 Try.underlying39 hi hz0 hz1 hz2 rfl (by decide) (.slice (some ⟨w.heap.size, 0, none⟩) 0 0) 0 [] rfl hown _ rfl ps.length _ src h1 (by unfold maxLen; omega) (by omega) (by simp) ?_; intro a1 c1 w1 ho1 hg1 _ _; simp only [Nat.zero_add, List.nil_append] at ho1 ⊢)
      | fail)
    go_ret
    exact ⟨a1, c1, rfl, ho1, lend_kn w w1 _ hg1⟩

set_option maxRecDepth 100000 in
set_option maxHeartbeats 400000 in
theorem slAll_any (w : World) (a : Option Addr) (m c : Nat) :
    Calls Try.prog 32 #[.slice a m c] w fun e w' => e = .returned (.func (.func 42) #[] #[.pointer (some ⟨w.heap.size, 0, none⟩)]) ∧ w' = w.alloc (.cells #[.slice a m c] 39) := by
  go_enter Try.func32, Try.ntmps32
  go_wp2
  go_ret
  exact ⟨rfl, rfl⟩

set_option maxRecDepth 100000 in
set_option maxHeartbeats 400000 in
theorem netAll_any (w : World) (d : Nat) :
    Calls Try.prog 24 #[.pointer (some ⟨d, 0, none⟩)] w fun e w' => e = .returned (.func (.func 31) #[] #[.pointer (some ⟨w.heap.size, 0, none⟩)]) ∧ w' = w.alloc (.cells #[.pointer (some ⟨d, 0, none⟩)] 23) := by
  go_enter Try.func24, Try.ntmps24
  go_wp2
  go_ret
  exact ⟨rfl, rfl⟩

/-- What slices.All hands back, ranged over by rounds that are told the parcels. -/
theorem slAll_in (n : Nat) (l kb : Nat) (a0 : Option Addr) (c0 base : Nat) (ps : List PV) (J : Nat → World → Prop) (Jx : World → Prop) (W : World) (hJ : ∀ k A B, J k A → Kept (fun _ => False) A B → J k B)
    (hY : ∀ (k : Nat) (p : PV) (W1 : World), J k W1 → ps[k]? = some p → YieldAt Fence.wide n Try.prog l #[.int .i64 (k : Int), .agg #[.int .i64 p.fr, .int .i64 p.to, p.v]] W1 fun e W' => (e = .returned (.bool true) ∧ J (k + 1) W' ∧ W1.heap.size ≤ W'.heap.size ∧ ∀ b, (Value.slice a0 ps.length c0).ownBlock = some b → W'.heap[b]? = W1.heap[b]?) ∨ (e = .returned (.bool false) ∧ Jx W'))
    (hk : W.cell? ⟨kb, 0, none⟩ = some (.slice a0 ps.length c0)) (hrow : W.ownsRow base 29 3 (.slice a0 ps.length c0) ps.length (netCells ps)) (hsh : ∀ p ∈ ps, ∃ a m c, p.v = .slice a m c) (hm : ps.length ≤ 1000) (h0 : J 0 W) :
    CallsIn Fence.wide n Try.prog 42 #[.func (.yield l) #[] #[], .pointer (some ⟨kb, 0, none⟩)] W fun e W' => (∃ v, e = .returned v) ∧ (J ps.length W' ∨ Jx W') := by
  refine callsIn_of_wp Try.func42 rfl trivial ?_ rfl
  simp only [Try.ntmps42, List.size_toArray, List.length_cons, List.length_nil, Nat.reduceAdd, Nat.reduceSub, Array.replicate_succ, Array.replicate_zero, List.push_toArray, List.append_toArray, List.nil_append, List.cons_append]
  gi_wp2
  gi_loopw [7] (fun p wr => ∃ (k : Nat), p = .int .i64 k ∧ k ≤ ps.length ∧ J k wr ∧ wr.ownsRow base 29 3 (.slice a0 ps.length c0) ps.length (netCells ps))
    (fun p _ => ps.length - (Go.RowKit.intOf p).toNat)
  case atStart => exact ⟨0, rfl, Nat.zero_le _, h0, hrow⟩
  case round =>
    clear h0 hk hrow
    obtain ⟨k, rfl, hk, hJs, hrow⟩ := hrel
    by_cases hlt : k < ps.length
    · have hp : ps[k]? = some ps[k] := List.getElem?_eq_getElem hlt
      obtain ⟨e0, e1, e2⟩ := netCells_get ps k ps[k] hp
      rcases hrow.2 with ⟨_, h0⟩ | ⟨g, cap, cur, ev, hbg, hh, hc1, _⟩
      · omega
      simp only [Value.slice.injEq] at ev
      obtain ⟨rfl, _, rfl⟩ := ev
      have f := fun q u hq => hrow.cells (g := g) rfl q u hq
      have ad : ∀ q, (⟨g, 0, none⟩ : Addr).add q = ⟨g, q, none⟩ := fun q => by rw [Addr.add_lit]; simp
      have x0 := f _ _ e0
      have x1 := f _ _ e1
      have x2 := f _ _ e2
      rw [ad] at x0 x1 x2
      obtain ⟨av, mv, cv, ev⟩ := hsh ps[k] (List.getElem_mem hlt)
      rw [ev] at x2
      have hy0 := hY k ps[k] (wr.alloc (.cells #[.int .i64 ps[k].fr, .int .i64 ps[k].to, .slice av mv cv] 29)) (hJ k wr _ hJs (Kept.alloc _ _ _)) hp
      rw [ev] at hy0
      obtain ⟨fn, tmps, assign, body, hy, hR⟩ := YieldAt.wide (m' := n - 1) hy0
      have g1 : (k : Int) < (ps.length : Int) := by omega
      have Hrow : Hid (wr.ownsRow base 29 3 (.slice (some ⟨g, 0, none⟩) ps.length c0) ps.length (netCells ps)) := hrow
      clear f ad e0 e1 e2 hrow hh hY hp ev
      generalize ps[k].fr = fr at *
      generalize ps[k].to = to at *
      gi_wp2
      refine ⟨fun h => by simp [Fence.wide] at h, ?_⟩
      refine hR.mono ?_
      rintro e W3 (⟨rfl, hJ3, hsz3, hk3⟩ | ⟨rfl, hJx3⟩)
      · have hrow3 : Hid (W3.ownsRow base 29 3 (.slice (some ⟨g, 0, none⟩) ps.length c0) ps.length (netCells ps)) := ownsRow_blk Hrow.out (fun b hb => (hk3 b hb).trans (Below.heap_alloc _ _ _ (Hrow.out.lt b hb).2))
        gi_wp2
        go_roundw
        case rel => exact ⟨k + 1, by simp, by omega, hJ3, hrow3.out⟩
        case measure => simp [Go.RowKit.intOf]; omega
      · gi_wp2
        refine bodyPost_ret (results_none rfl _ _ _) rfl ?_
        exact ⟨⟨_, rfl⟩, .inr hJx3⟩
    · obtain rfl : k = ps.length := by omega
      gi_wp2
      go_end0
      exact ⟨⟨_, rfl⟩, .inl hJs⟩

end Go.Proofs.Ythpamcfemhimcaa
