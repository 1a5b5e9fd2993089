/-
  All: a ring's points and hosts, ranged over by rounds that are told them.
-/
import Derived.Test.YtjfgjmiedmpieaaDoorRWakes
import Derived.Test.YtjfgjmiedmpieaaDoorTold
namespace Go.Proofs.YtjfgjmiedmpieaaDoor
open Go.RowKit Go.Shelf Go.Sort
attribute [local go_sem] Oper.semAt_some

set_option maxRecDepth 100000 in
set_option maxHeartbeats 400000 in
theorem rAll_any (w : World) (rb : Nat) :
    Calls Tryd.prog 14 #[.pointer (some ⟨rb, 0, none⟩)] w fun e w' => e = .returned (.func (.func 35) #[] #[.pointer (some ⟨w.heap.size, 0, none⟩)]) ∧ w' = w.alloc (.cells #[.pointer (some ⟨rb, 0, none⟩)] 25) := by
  go_enter Tryd.func14, Tryd.ntmps14
  go_wp2
  go_ret
  exact ⟨rfl, rfl⟩

theorem SpotsAt.blk {w w' : World} {a : Option Addr} {l : List Sp} (h : SpotsAt w a l) (hz : w.heap.size ≤ w'.heap.size) (hb : ∀ g, a = some ⟨g, 0, none⟩ → w'.heap[g]? = w.heap[g]?) : SpotsAt w' a l := by
  rcases h with h | ⟨g, e, hg, hc⟩
  · exact .inl h
  · refine .inr ⟨g, e, by omega, fun i hi => ?_⟩
    obtain ⟨c1, c2⟩ := hc i hi
    exact ⟨(World.cell?_of_block (hb g e)).trans c1, (World.cell?_of_block (hb g e)).trans c2⟩

set_option maxRecDepth 100000 in
set_option maxHeartbeats 2000000 in
theorem rAll_in (n : Nat) (lp kb rb : Nat) (a0 : Option Addr) (c0 : Nat) (L : List Sp) (J : Nat → World → Prop) (Jx : World → Prop) (W : World) (hJ : ∀ k A B, J k A → Kept (fun _ => False) A B → J k B)
    (hY : ∀ (k : Nat) (x : Sp) (W1 : World), J k W1 → L[k]? = some x → YieldAt Fence.wide n Tryd.prog lp #[cx x.1, .int .i64 x.2] W1 fun e W' => (e = .returned (.bool true) ∧ J (k + 1) W' ∧ W1.heap.size ≤ W'.heap.size ∧ ∀ g, a0 = some ⟨g, 0, none⟩ → W'.heap[g]? = W1.heap[g]?) ∨ (e = .returned (.bool false) ∧ Jx W'))
    (hk : W.cell? ⟨kb, 0, none⟩ = some (.pointer (some ⟨rb, 0, none⟩))) (h2 : W.cell? ⟨rb, 0, none⟩ = some (.slice a0 L.length c0)) (hA : SpotsAt W a0 L) (hm : L.length ≤ 1048576) (h0 : J 0 W) :
    CallsIn Fence.wide n Tryd.prog 35 #[.func (.yield lp) #[] #[], .pointer (some ⟨kb, 0, none⟩)] W fun e W' => (∃ v, e = .returned v) ∧ (J L.length W' ∨ Jx W') := by
  have hst := fun (W : World) (a : Addr) (x y : Nat) (m : Mode) => run_store Tryd.prog W a (.complex .f64 x y) m rfl
  refine callsIn_of_wp Tryd.func35 rfl trivial ?_ rfl
  simp only [Tryd.ntmps35, List.size_toArray, List.length_cons, List.length_nil, Nat.reduceAdd, Nat.reduceSub, Array.replicate_succ, Array.replicate_zero, List.push_toArray, List.append_toArray, List.nil_append, List.cons_append]
  gi_wp2
  gi_loopw [10] (fun p wr => ∃ (k : Nat), p = .int .i64 k ∧ k ≤ L.length ∧ J k wr ∧ SpotsAt wr a0 L) (fun p _ => L.length - (Go.RowKit.intOf p).toNat)
  case atStart => exact ⟨0, rfl, Nat.zero_le _, h0, hA⟩
  case round =>
    clear h0 hk hA h2
    obtain ⟨k, rfl, hk, hJs, hA⟩ := hrel
    by_cases hlt : k < L.length
    · have hp : L[k]? = some L[k] := List.getElem?_eq_getElem hlt
      rcases hA with ⟨_, e⟩ | ⟨g, rfl, hg, hcells⟩
      · subst e; simp at hlt
      obtain ⟨x0, x1⟩ := hcells k hlt
      unfold cx at x0
      have hy0 := hY k L[k] (wr.alloc (.cells #[cx L[k].1, .int .i64 L[k].2] 59)) (hJ k wr _ hJs (Kept.alloc _ _ _)) hp
      unfold cx at hy0
      obtain ⟨fn, tmps, assign, body, hy, hR⟩ := YieldAt.wide (m' := n - 1) hy0
      have g1 : (k : Int) < (L.length : Int) := by omega
      have HA : Hid (SpotsAt wr (some ⟨g, 0, none⟩) L) := .inr ⟨g, rfl, hg, hcells⟩
      clear hcells hY hp hy0
      generalize fl L[k].1.1 = p at *
      generalize fl L[k].1.2 = q at *
      generalize L[k].2 = y at *
      gi_wp2
      refine ⟨fun h => by simp [Fence.wide] at h, ?_⟩
      refine hR.mono ?_
      rintro e W3 (⟨rfl, hJ3, hsz3, hk3⟩ | ⟨rfl, hJx3⟩)
      · have hA3 : Hid (SpotsAt W3 (some ⟨g, 0, none⟩) L) := HA.out.blk (by simp at hsz3; omega) (fun g' e => (hk3 g' e).trans (by cases e; exact Below.heap_alloc _ _ _ hg))
        clear hsz3 hk3
        gi_wp2
        go_roundw
        case rel => exact ⟨k + 1, by simp, by omega, hJ3, hA3.out⟩
        case measure => simp [Go.RowKit.intOf]; omega
      · gi_wp2
        refine bodyPost_ret (results_none rfl _ _ _) rfl ?_
        exact ⟨⟨_, rfl⟩, .inr hJx3⟩
    · obtain rfl : k = L.length := by omega
      gi_wp2
      go_end0
      exact ⟨⟨_, rfl⟩, .inl hJs⟩

end Go.Proofs.YtjfgjmiedmpieaaDoor
