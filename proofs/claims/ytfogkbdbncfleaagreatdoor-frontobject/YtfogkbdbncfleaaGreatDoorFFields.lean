/-
  Fields: a body's fields, ranged over by rounds that are told them.
-/
import Derived.Test.YtfogkbdbncfleaaGreatDoorFIntX
import Derived.Test.YtfogkbdbncfleaaGreatDoorTold
namespace Go.Proofs.YtfogkbdbncfleaaGreatDoor
open Go.RowKit Go.Shelf Go.Sort
attribute [local go_sem] Oper.semAt_some

set_option maxRecDepth 100000 in
set_option maxHeartbeats 400000 in
theorem fields_any (w : World) (s : ByteArray) :
    Calls Tryz.prog 17 #[.string s] w fun e w' => e = .returned (.func (.func 38) #[] #[.pointer (some ⟨w.heap.size, 0, none⟩)]) ∧ w' = w.alloc (.cells #[.string s] 9) := by
  go_enter Tryz.func17, Tryz.ntmps17
  go_wp2
  go_ret
  exact ⟨rfl, rfl⟩

set_option maxRecDepth 100000 in
set_option maxHeartbeats 2000000 in
theorem fields_in (n : Nat) (lp kb : Nat) (s : ByteArray) (L : List Pr) (hL : (objP s).1 = L) (J : Nat → World → Prop) (Jx : World → Prop) (W : World) (hJ : ∀ k A B, J k A → Kept (fun _ => False) A B → J k B)
    (hY : ∀ (k : Nat) (x : Pr) (W1 : World), J k W1 → L[k]? = some x → YieldAt Fence.wide n Tryz.prog lp #[.string (mkB x.1), .string (mkB x.2)] W1 fun e W' => (e = .returned (.bool true) ∧ J (k + 1) W' ∧ W1.heap.size ≤ W'.heap.size ∧ ∀ g, W.heap.size ≤ g → g < W1.heap.size → W'.heap[g]? = W1.heap[g]?) ∨ (e = .returned (.bool false) ∧ Jx W'))
    (hk : W.cell? ⟨kb, 0, none⟩ = some (.string s)) (hs : s.size ≤ 1000000000000) (T : Utf8At W) (h0 : J 0 W) :
    CallsIn Fence.wide n Tryz.prog 38 #[.func (.yield lp) #[] #[], .pointer (some ⟨kb, 0, none⟩)] W fun e W' => (∃ v, e = .returned v) ∧ (J L.length W' ∨ Jx W') := by
  have hO := object_any W s hs T
  unfold ObjPost at hO
  have hlen := (objP_valT s).2
  rw [hL] at hO hlen
  clear hL
  generalize (((objP s).2.1 : Nat) : Int) = p1 at *
  generalize (objP s).2.2 = p2 at *
  refine callsIn_of_wp Tryz.func38 rfl trivial ?_ rfl
  simp only [Tryz.ntmps38, List.size_toArray, List.length_cons, List.length_nil, Nat.reduceAdd, Nat.reduceSub, Array.replicate_succ, Array.replicate_zero, List.push_toArray, List.append_toArray, List.nil_append, List.cons_append]
  refine wpIn_wide.2 ?_
  go_wp2_with (first
    | (go_at_call 8; refine hO.mono ?_; rintro e w1 ⟨v, rfl, a, c, rfl, ho, K1⟩; clear hO)
    | fail)
  refine (wpIn_wide (n := n)).1 ?_
  have HJ0 := hid (hJ 0 W w1 h0 K1)
  have HO := hid (ho : w1.ownsRow W.heap.size 37 2 (.slice a L.length c) L.length (prF L))
  clear h0 hk ho
  have hW := K1.size
  gi_loopw [16] (fun p wr => ∃ (k : Nat), p = .int .i64 k ∧ k ≤ L.length ∧ J k wr ∧ wr.ownsRow W.heap.size 37 2 (.slice a L.length c) L.length (prF L)) (fun p _ => L.length - (Go.RowKit.intOf p).toNat)
  case atStart => exact ⟨0, rfl, Nat.zero_le _, HJ0.out, HO.out⟩
  case round =>
    clear HJ0 HO K1 hW
    obtain ⟨k, rfl, hk, hJs, hA⟩ := hrel
    by_cases hlt : k < L.length
    · have hp : L[k]? = some L[k] := List.getElem?_eq_getElem hlt
      rcases PairsAt.of_row hA with h9 | ⟨b, o, rfl, hcells⟩
      · rw [h9] at hlt; simp at hlt
      obtain ⟨x0, x1⟩ := hcells k hlt
      have hy0 := hY k L[k] (wr.alloc (.cells #[.string (mkB L[k].1), .string (mkB L[k].2)] 37)) (hJ k wr _ hJs (Kept.alloc _ _ _)) hp
      obtain ⟨fn, tmps, assign, body, hy, hR⟩ := YieldAt.wide (m' := n - 1) hy0
      have g1 : (k : Int) < (L.length : Int) := by omega
      have HA := hid hA
      clear hcells hY hp hy0 hA
      generalize mkB L[k].1 = q1 at *
      generalize mkB L[k].2 = q2 at *
      gi_wp2
      refine ⟨fun h => by simp [Fence.wide] at h, ?_⟩
      refine hR.mono ?_
      rintro e W3 (⟨rfl, hJ3, hsz3, hk3⟩ | ⟨rfl, hJx3⟩)
      · have hA3 : Hid (W3.ownsRow W.heap.size 37 2 (.slice (some ⟨b, o, none⟩) L.length c) L.length (prF L)) := ownsRow_keep HA.out (fun g hg => by
          have h1 := HA.out.lt g hg
          rw [hk3 g h1.1 (by rw [World.size_alloc]; omega)]
          exact Below.heap_alloc _ _ _ h1.2)
        clear hsz3 hk3
        gi_wp2
        go_roundw
        case rel => exact ⟨k + 1, by simp, by omega, hJ3, hA3.out⟩
        case measure => simp [Go.RowKit.intOf]; omega
      · gi_wp2
        refine bodyPost_ret (results_none rfl _ _ _) rfl ?_
        exact ⟨⟨_, rfl⟩, .inr hJx3⟩
    · obtain rfl : k = L.length := by omega
      gi_wp2
      go_end0
      exact ⟨⟨_, rfl⟩, .inl hJs⟩

end Go.Proofs.YtfogkbdbncfleaaGreatDoor
