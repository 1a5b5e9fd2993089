/-
  SpoilInts spoils the list's own block and no other.
-/
import Derived.Test.YtjfgjmiedmpieaaDoorRKeep
namespace Go.Proofs.YtjfgjmiedmpieaaDoor
open Go.RowKit Go.Sort

set_option maxRecDepth 100000 in
set_option maxHeartbeats 1000000 in
theorem spoilInts_own (w : World) (base : Nat) (v : Value) (n : Nat) (zs : List Int) (h : w.ownsRow base 3 1 v n (zs.map (Value.int .i64))) (hn : n ≤ 1099511627776) (hb : base ≤ w.heap.size) :
    Calls Tryd.prog 9 #[v] w fun e w' => e = .returned (.tuple #[]) ∧ Kept (fun k => v.ownBlock = some k) w w' := by
  obtain ⟨i0, hi, hz0, hz1, hz2⟩ := info_parts Tryd.info3
  obtain ⟨a, c, rfl⟩ := ownsRow_shape h
  have hlen : zs.length = n := by have := h.1; simpa using this
  go_enter Tryd.func9, Tryd.ntmps9
  go_wp2
  go_loopw [2] (fun i wr => ∃ (k : Nat) (ys : List Int), k ≤ n ∧ i = .int .i64 k ∧ ys.length = n ∧ wr.ownsRow base 3 1 (.slice a n c) n (ys.map (Value.int .i64)) ∧ Kept (fun k => (Value.slice a n c).ownBlock = some k ∨ w.heap.size ≤ k) w wr) (fun i _ => n - (intOf i).toNat)
  case atStart => exact ⟨0, zs, Nat.zero_le _, rfl, hlen, h, Kept.refl _ _⟩
  case round =>
    obtain ⟨k, ys, hk, rfl, hy, ho, K⟩ := hrel
    clear h
    by_cases hlt : k < n
    · obtain ⟨g, cap, e, hbg, hgl⟩ := ho.form (by omega)
      simp only [Value.slice.injEq] at e
      obtain ⟨rfl, _, rfl⟩ := e
      have hky : k < ys.length := by omega
      obtain ⟨x1, x2⟩ := ownsRow_get ho (k := k) (u := .int .i64 ys[k]) (by rw [List.getElem?_map, List.getElem?_eq_getElem hky]; rfl)
      have hs := ownsRow_set ho (k := k) (.int .i64 (-77))
      have e1 : (k : Int) < (n : Int) := by omega
      have HY : Hid (ys.length = n) := hy
      clear hy hlen
      go_wp2
      go_roundw
      case rel => exact ⟨k + 1, ys.set k (-77), by omega, by go_num, by rw [List.length_set]; exact HY.out, by rw [List.map_set]; exact hs, K.and (Kept.setCell _ _ _ (.inl rfl))⟩
      case measure => simp [intOf]; omega
    · have HY : Hid (ys.length = n) := hy
      clear hy hlen
      go_wp2
      go_loopw [0, 3] (fun v i wr => ∃ (k m : Nat) (us : List Value), k ≤ 10 ∧ i = .int .i64 k ∧ m = n + k ∧ wr.ownsRow base 3 1 v m us ∧ (∀ q, v.ownBlock = some q → (Value.slice a n c).ownBlock = some q ∨ w.heap.size ≤ q) ∧ Kept (fun k => (Value.slice a n c).ownBlock = some k ∨ w.heap.size ≤ k) w wr) (fun _ i _ => 10 - (intOf i).toNat)
      case atStart => exact ⟨0, n, _, by decide, rfl, rfl, ho, fun q h => .inl h, K⟩
      case round =>
        obtain ⟨j, m, us, hj, rfl, hm, ho, hq, K⟩ := hrel
        have HQ : Hid _ := hq
        clear hq
        have HM : Hid (m = n + j) := hm
        have hmb : m ≤ 1099511627786 := by omega
        clear hm
        have hbz : base ≤ wr.heap.size := Nat.le_trans hb K.size
        by_cases hj2 : j < 10
        · go_wp2_with (at_builtin; refine wpList_append_lies _ rfl _ _ 22 rfl base 3 i0 (.int .i64 0) 1 8 Tryd.underlying22 hi hz0 hz1 hz2 rfl (by decide) _ m us rfl (ho.alloc _) ⟨wr.heap.size, 0, none⟩ 1 1 [.int .i64 (-78)] rfl rfl (cell_one_new _ _ _) (by simp [Value.oneCell']) (by decide) (by unfold maxLen; omega) (by omega) (by simp; omega) (wr.heap.size + 1) (by simp) ?_; intro g2 cap2 w2 hown2 hgrow hat hlt2)
          go_roundw
          case rel => exact ⟨j + 1, m + 1, _, by omega, by go_num, by have := HM.out; omega, hown2, fun q h => (by
            have hs := K.size
            have hgq : g2 = q := Option.some.inj (show some g2 = some q from h)
            rw [← hgq]
            rcases hat with h | h
            · exact HQ.out _ h
            · exact .inr (by omega)), (K.and (Kept.alloc _ _ _)).and (Kept.grown hgrow (fun k e => HQ.out k e))⟩
          case measure => simp [intOf]; omega
        · go_wp2
          go_end0
          exact ⟨rfl, K.os, K.tape, K.output, K.size, fun k hk hn => K.block k hk (fun h => h.elim hn (fun h => by omega))⟩

end Go.Proofs.YtjfgjmiedmpieaaDoor
