/-
  SpoilBytes changes what it is given, and nothing else.
-/
import Derived.Test.YtchdmlckicipcaaCWrMore
namespace Go.Proofs.Ytchdmlckicipcaa
open Go.RowKit

set_option maxRecDepth 100000 in
set_option maxHeartbeats 1000000 in
theorem spoil_any (w : World) (base : Nat) (v : Value) (n : Nat) (zs : List Int) (h : w.ownsRow base 5 1 v n (zs.map (Value.int .u8))) (hn : n ≤ 1099511627776) (hb : base ≤ w.heap.size) :
    Calls Try.prog 8 #[v] w fun e w' => e = .returned (.tuple #[]) ∧ Kept (fun k => v.ownBlock = some k) w w' := by
  obtain ⟨i0, hi, hz0, hz1, hz2⟩ := info_parts Try.info5
  obtain ⟨a, c, rfl⟩ := ownsRow_shape h
  have hlen : zs.length = n := by have := h.1; simpa using this
  go_enter Try.func8, Try.ntmps8
  go_wp2
  go_loopw [2] (fun i wr => ∃ (k : Nat) (ys : List Int), k ≤ n ∧ i = .int .i64 k ∧ ys.length = n ∧ wr.ownsRow base 5 1 (.slice a n c) n (ys.map (Value.int .u8)) ∧ Kept (fun k => (Value.slice a n c).ownBlock = some k) w wr) (fun i _ => n - (intOf i).toNat)
  case atStart => exact ⟨0, zs, Nat.zero_le _, rfl, hlen, h, Kept.refl _ _⟩
  case round =>
    obtain ⟨k, ys, hk, rfl, hy, ho, K⟩ := hrel
    clear h
    by_cases hlt : k < n
    · obtain ⟨g, cap, e, hbg, hgl⟩ := ho.form (by omega)
      simp only [Value.slice.injEq] at e
      obtain ⟨rfl, _, rfl⟩ := e
      have hky : k < ys.length := by omega
      obtain ⟨x1, x2⟩ := ownsRow_get ho (k := k) (u := .int .u8 ys[k]) (by rw [List.getElem?_map, List.getElem?_eq_getElem hky]; rfl)
      have hs := fun u => ownsRow_set ho (k := k) (.int .u8 u)
      have e1 : (k : Int) < (n : Int) := by omega
      have HY : Hid (ys.length = n) := hy
      generalize ys[k] = x at *
      clear hy hlen
      go_wp2
      go_roundw
      case rel =>
        refine ⟨k + 1, ys.set k ?xoru, by omega, by go_num, ?xorl, ?xorr, K.and (Kept.setCell (S := fun k => (Value.slice (some ⟨g, 0, none⟩) n c).ownBlock = some k) _ _ _ rfl)⟩
        case xorr => rw [List.map_set]; exact hs _
        case xorl => rw [List.length_set]; exact HY.out
      case measure => simp [intOf]; omega
    · have HY : Hid (ys.length = n) := hy
      clear hy hlen
      go_wp2
      go_loopw [0, 3] (fun v i wr => ∃ (k m : Nat) (us : List Value), k ≤ 40 ∧ i = .int .i64 k ∧ m = n + k ∧ wr.ownsRow base 5 1 v m us ∧ Kept (fun k => (Value.slice a n c).ownBlock = some k) w wr ∧ (∀ k, v.ownBlock = some k → (Value.slice a n c).ownBlock = some k ∨ w.heap.size ≤ k)) (fun _ i _ => 40 - (intOf i).toNat)
      case atStart => exact ⟨0, n, _, by decide, rfl, rfl, ho, K, fun _ h => .inl h⟩
      case round =>
        obtain ⟨j, m, us, hj, rfl, hm, ho, K, hv⟩ := hrel
        have HM : Hid (m = n + j) := hm
        have hmb : m ≤ 1099511627816 := by omega
        clear hm
        have hbz : base ≤ wr.heap.size := Nat.le_trans hb K.size
        have hwz := K.size
        obtain ⟨a5, c5, rfl⟩ := ownsRow_shape ho
        by_cases hj2 : j < 40
        · have ra := ho.alloc (.cells #[.int .u8 85] 5)
          have hba : base ≤ (wr.alloc (.cells #[.int .u8 85] 5)).heap.size := by simp; omega
          go_wp2_with (at_builtin; refine wpList_append_src _ rfl _ _ 23 rfl base 5 i0 (.int .u8 0) 1 1 Try.underlying23 hi hz0 hz1 hz2 rfl (by decide) (.slice a5 m c5) m us rfl ra _ rfl 1 _ srcNew (by simp [Value.oneCell']) (by unfold maxLen; omega) (by omega) hba ?_; intro a6 c6 w2 hown2 hgrow _ hl2)
          go_roundw
          case rel =>
            refine ⟨j + 1, m + 1, _, by omega, by go_num, by have := HM.out; omega, hown2, (K.and (Kept.alloc _ _ _)).trans (Kept.grown (S := fun k => (Value.slice a5 m c5).ownBlock = some k) hgrow (fun k e => e)) hv, ?_⟩
            intro k hk
            rcases hl2 with e | e
            · exact hv k (e ▸ hk)
            · right
              rw [e] at hk
              have := Option.some.inj hk
              simp at this
              omega
          case measure => simp [intOf]; omega
        · go_wp2
          go_end0
          exact ⟨rfl, K⟩

end Go.Proofs.Ytchdmlckicipcaa
