/-
  What the laws hold against each other and spoil: tasks, events, states.
-/
import Derived.Test.YtfjekjbkifmpfaaDoorG18
import Derived.Deep.Cut
namespace Go.Proofs.YtfjekjbkifmpfaaDoor.Rf
open Go.RowKit

/-- A row's block, or one that is new. -/
def BlkOf (w : World) (v v' : Value) : Prop := ∀ g, v'.ownBlock = some g → v.ownBlock = some g ∨ w.heap.size ≤ g

set_option maxRecDepth 100000 in
set_option maxHeartbeats 8000000 in
theorem spoilEvents_any (w : World) (a : Option Addr) (n c : Nat) (xs : List Value) (h : w.ownsRow 0 51 4 (.slice a n c) n xs) (hn : n ≤ 1000000) :
    Calls Tryd.prog 35 #[.slice a n c] w fun e w' => e = .returned (.tuple #[]) ∧ Kept (fun g => (Value.slice a n c).ownBlock = some g) w w' := by
  obtain ⟨i0, hi, hz0, hz1, hz2⟩ := info_parts Tryd.info51
  have hst := fun (W : World) (a : Addr) (x y : Nat) (m : Mode) => run_store Tryd.prog W a (.complex .f64 x y) m rfl
  go_enter Tryd.func35, Tryd.ntmps35
  go_wp2_with fail
  go_loopw [2] (fun i wr => ∃ (k : Nat) (ys : List Value), k ≤ n ∧ i = .int .i64 k ∧ wr.ownsRow 0 51 4 (.slice a n c) n ys ∧ Kept (fun g => (Value.slice a n c).ownBlock = some g) w wr) (fun i _ => n - (intOf i).toNat)
  case atStart => exact ⟨0, xs, Nat.zero_le _, rfl, h, Kept.refl _ _⟩
  case round =>
    obtain ⟨k, ys, hk, rfl, ho, K⟩ := hrel
    clear h
    by_cases hlt : k < n
    · obtain ⟨g, cg, hv, hown, hcap, hrow⟩ := row_at ho (by omega)
      obtain ⟨rfl, rfl⟩ : a = some ⟨g, 0, none⟩ ∧ c = cg := by simpa using hv
      have HL : Hid (ys.length = n * 4) := ho.1
      obtain ⟨x0, f0⟩ := hrow (k * 4) _ (List.getElem?_eq_getElem (by rw [HL.out]; omega))
      obtain ⟨x1, f1⟩ := hrow (k * 4 + 1) _ (List.getElem?_eq_getElem (by rw [HL.out]; omega))
      obtain ⟨x2, f2⟩ := hrow (k * 4 + 2) _ (List.getElem?_eq_getElem (by rw [HL.out]; omega))
      obtain ⟨x3, f3⟩ := hrow (k * 4 + 3) _ (List.getElem?_eq_getElem (by rw [HL.out]; omega))
      have e1 : (k : Int) < (n : Int) := by omega
      have o1 := ownsRow_put ho (k * 4) (.int .i64 (-1))
      have k1 : Kept (fun j => j = g) (wr) ((wr).setCell ⟨g, k * 4, none⟩ (.int .i64 (-1))) := Kept.setCell _ _ _ rfl
      have o2 := ownsRow_put o1 (k * 4 + 1) (.string ⟨#[]⟩)
      have k2 : Kept (fun j => j = g) ((wr).setCell ⟨g, k * 4, none⟩ (.int .i64 (-1))) (((wr).setCell ⟨g, k * 4, none⟩ (.int .i64 (-1))).setCell ⟨g, k * 4 + 1, none⟩ (.string ⟨#[]⟩)) := Kept.setCell _ _ _ rfl
      have o3 := ownsRow_put o2 (k * 4 + 2) (.string ⟨#[]⟩)
      have k3 : Kept (fun j => j = g) (((wr).setCell ⟨g, k * 4, none⟩ (.int .i64 (-1))).setCell ⟨g, k * 4 + 1, none⟩ (.string ⟨#[]⟩)) ((((wr).setCell ⟨g, k * 4, none⟩ (.int .i64 (-1))).setCell ⟨g, k * 4 + 1, none⟩ (.string ⟨#[]⟩)).setCell ⟨g, k * 4 + 2, none⟩ (.string ⟨#[]⟩)) := Kept.setCell _ _ _ rfl
      have o4 := ownsRow_put o3 (k * 4 + 3) (.int .i64 0)
      have k4 : Kept (fun j => j = g) ((((wr).setCell ⟨g, k * 4, none⟩ (.int .i64 (-1))).setCell ⟨g, k * 4 + 1, none⟩ (.string ⟨#[]⟩)).setCell ⟨g, k * 4 + 2, none⟩ (.string ⟨#[]⟩)) (((((wr).setCell ⟨g, k * 4, none⟩ (.int .i64 (-1))).setCell ⟨g, k * 4 + 1, none⟩ (.string ⟨#[]⟩)).setCell ⟨g, k * 4 + 2, none⟩ (.string ⟨#[]⟩)).setCell ⟨g, k * 4 + 3, none⟩ (.int .i64 0)) := Kept.setCell _ _ _ rfl
      have HO := hid o4
      have HK : Hid (Kept (fun j => (Value.slice (some ⟨g, 0, none⟩) n c).ownBlock = some j) w (((((wr).setCell ⟨g, k * 4, none⟩ (.int .i64 (-1))).setCell ⟨g, k * 4 + 1, none⟩ (.string ⟨#[]⟩)).setCell ⟨g, k * 4 + 2, none⟩ (.string ⟨#[]⟩)).setCell ⟨g, k * 4 + 3, none⟩ (.int .i64 0))) := K.and ((((k1.and k2).and k3).and k4).mono (fun j h => by rw [h]; rfl))
      clear ho K hrow hv hown o1 o2 o3 o4 k1 k2 k3 k4
      go_wp2_with fail
      go_roundw
      case rel => exact ⟨k + 1, _, by omega, by go_num, HO.out, HK.out⟩
      case measure => simp [intOf]; omega
    · have e1 : ¬ ((k : Int) < (n : Int)) := by omega
      have HK := hid K
      have HO := hid ho
      clear K ho
      go_wp2_with fail
      go_loopw [0, 3] (fun v i w9 => ∃ (j m : Nat) (us : List Value) (a9 : Option Addr) (c9 : Nat), j ≤ 10 ∧ i = .int .i64 j ∧ m = n + j ∧ v = .slice a9 m c9 ∧ w9.ownsRow 0 51 4 (.slice a9 m c9) m us ∧ BlkOf w (.slice a n c) (.slice a9 m c9) ∧ Kept (fun g => (Value.slice a n c).ownBlock = some g) w w9) (fun _ i _ => 10 - (intOf i).toNat)
      case atStart => exact ⟨0, n, _, a, c, by decide, rfl, rfl, rfl, HO.out, fun g h => .inl h, HK.out⟩
      case round =>
        obtain ⟨j, m, us, a9, c9, hj, rfl, hm, rfl, h9, hb9, K9⟩ := hrel
        have HM : Hid (m = n + j) := hm
        have hmb : m ≤ 1000010 := by omega
        clear hm
        by_cases hj2 : j < 10
        · have e2 : (j : Int) < 10 := by omega
          have HC := hid (show ∀ u ∈ ([.int .i64 (-2), .string ⟨#[]⟩, .string ⟨#[]⟩, .int .i64 0] : List Value), u.oneCell' = true by simp [Value.oneCell'])
          go_wp2_with (first
            | (at_builtin; refine wpList_append_src _ rfl _ _ 34 rfl 0 51 i0 _ 4 48 Tryd.underlying34 hi hz0 hz1 hz2 rfl (by decide) (.slice a9 m c9) m _ rfl (h9.alloc _) _ rfl 1 _ (.inl ⟨_, 1, rfl, rfl, World.news_of_block (heap_alloc_new _ _)⟩) HC.out (by unfold maxLen; omega) (by omega) (Nat.zero_le _) ?_; intro a7 cap7 w7 ho7 hg7 _ hl7)
            | fail)
          have hz := K9.size
          have KG := Kept.grown (S := fun g => (Value.slice a9 m c9).ownBlock = some g) hg7 (fun g e => e)
          go_roundw
          case rel =>
            refine ⟨j + 1, m + 1, _, a7, cap7, by omega, by go_num, by have := HM.out; omega, rfl, ho7, fun g hg => ?_, (K9.and (Kept.alloc _ _ _)).trans KG hb9⟩
            rcases hl7 with h | h
            · exact hb9 g (h ▸ hg)
            · rw [h] at hg
              simp at hg
              exact .inr (by omega)
          case measure => simp [intOf]; omega
        · have e2 : ¬ ((j : Int) < 10) := by omega
          go_wp2_with fail
          go_end0
          exact ⟨rfl, K9⟩

set_option maxRecDepth 100000 in
set_option maxHeartbeats 8000000 in
theorem spoilTasks_any (w : World) (a : Option Addr) (n c : Nat) (xs : List Value) (h : w.ownsRow 0 78 13 (.slice a n c) n xs) (hn : n ≤ 1000000) :
    Calls Tryd.prog 34 #[.slice a n c] w fun e w' => e = .returned (.tuple #[]) ∧ Kept (fun g => (Value.slice a n c).ownBlock = some g) w w' := by
  obtain ⟨i0, hi, hz0, hz1, hz2⟩ := info_parts Tryd.info78
  have hst := fun (W : World) (a : Addr) (x y : Nat) (m : Mode) => run_store Tryd.prog W a (.complex .f64 x y) m rfl
  go_enter Tryd.func34, Tryd.ntmps34
  go_wp2_with fail
  go_loopw [2] (fun i wr => ∃ (k : Nat) (ys : List Value), k ≤ n ∧ i = .int .i64 k ∧ wr.ownsRow 0 78 13 (.slice a n c) n ys ∧ Kept (fun g => (Value.slice a n c).ownBlock = some g) w wr) (fun i _ => n - (intOf i).toNat)
  case atStart => exact ⟨0, xs, Nat.zero_le _, rfl, h, Kept.refl _ _⟩
  case round =>
    obtain ⟨k, ys, hk, rfl, ho, K⟩ := hrel
    clear h
    by_cases hlt : k < n
    · obtain ⟨g, cg, hv, hown, hcap, hrow⟩ := row_at ho (by omega)
      obtain ⟨rfl, rfl⟩ : a = some ⟨g, 0, none⟩ ∧ c = cg := by simpa using hv
      have HL : Hid (ys.length = n * 13) := ho.1
      obtain ⟨x0, f0⟩ := hrow (k * 13) _ (List.getElem?_eq_getElem (by rw [HL.out]; omega))
      obtain ⟨x1, f1⟩ := hrow (k * 13 + 1) _ (List.getElem?_eq_getElem (by rw [HL.out]; omega))
      obtain ⟨x2, f2⟩ := hrow (k * 13 + 2) _ (List.getElem?_eq_getElem (by rw [HL.out]; omega))
      obtain ⟨x3, f3⟩ := hrow (k * 13 + 3) _ (List.getElem?_eq_getElem (by rw [HL.out]; omega))
      obtain ⟨x4, f4⟩ := hrow (k * 13 + 4) _ (List.getElem?_eq_getElem (by rw [HL.out]; omega))
      obtain ⟨x5, f5⟩ := hrow (k * 13 + 5) _ (List.getElem?_eq_getElem (by rw [HL.out]; omega))
      obtain ⟨x6, f6⟩ := hrow (k * 13 + 6) _ (List.getElem?_eq_getElem (by rw [HL.out]; omega))
      obtain ⟨x7, f7⟩ := hrow (k * 13 + 7) _ (List.getElem?_eq_getElem (by rw [HL.out]; omega))
      obtain ⟨x8, f8⟩ := hrow (k * 13 + 8) _ (List.getElem?_eq_getElem (by rw [HL.out]; omega))
      obtain ⟨x9, f9⟩ := hrow (k * 13 + 9) _ (List.getElem?_eq_getElem (by rw [HL.out]; omega))
      obtain ⟨x10, f10⟩ := hrow (k * 13 + 10) _ (List.getElem?_eq_getElem (by rw [HL.out]; omega))
      obtain ⟨x11, f11⟩ := hrow (k * 13 + 11) _ (List.getElem?_eq_getElem (by rw [HL.out]; omega))
      obtain ⟨x12, f12⟩ := hrow (k * 13 + 12) _ (List.getElem?_eq_getElem (by rw [HL.out]; omega))
      have e1 : (k : Int) < (n : Int) := by omega
      have o1 := ownsRow_put ho (k * 13) (.int .i64 (-1))
      have k1 : Kept (fun j => j = g) (wr) ((wr).setCell ⟨g, k * 13, none⟩ (.int .i64 (-1))) := Kept.setCell _ _ _ rfl
      have o2 := ownsRow_put o1 (k * 13 + 1) (.complex .f64 0 0)
      have k2 : Kept (fun j => j = g) ((wr).setCell ⟨g, k * 13, none⟩ (.int .i64 (-1))) (((wr).setCell ⟨g, k * 13, none⟩ (.int .i64 (-1))).setCell ⟨g, k * 13 + 1, none⟩ (.complex .f64 0 0)) := Kept.setCell _ _ _ rfl
      have o3 := ownsRow_put o2 (k * 13 + 2) (.string ⟨#[]⟩)
      have k3 : Kept (fun j => j = g) (((wr).setCell ⟨g, k * 13, none⟩ (.int .i64 (-1))).setCell ⟨g, k * 13 + 1, none⟩ (.complex .f64 0 0)) ((((wr).setCell ⟨g, k * 13, none⟩ (.int .i64 (-1))).setCell ⟨g, k * 13 + 1, none⟩ (.complex .f64 0 0)).setCell ⟨g, k * 13 + 2, none⟩ (.string ⟨#[]⟩)) := Kept.setCell _ _ _ rfl
      have o4 := ownsRow_put o3 (k * 13 + 3) (.string ⟨#[]⟩)
      have k4 : Kept (fun j => j = g) ((((wr).setCell ⟨g, k * 13, none⟩ (.int .i64 (-1))).setCell ⟨g, k * 13 + 1, none⟩ (.complex .f64 0 0)).setCell ⟨g, k * 13 + 2, none⟩ (.string ⟨#[]⟩)) (((((wr).setCell ⟨g, k * 13, none⟩ (.int .i64 (-1))).setCell ⟨g, k * 13 + 1, none⟩ (.complex .f64 0 0)).setCell ⟨g, k * 13 + 2, none⟩ (.string ⟨#[]⟩)).setCell ⟨g, k * 13 + 3, none⟩ (.string ⟨#[]⟩)) := Kept.setCell _ _ _ rfl
      have o5 := ownsRow_put o4 (k * 13 + 4) (.int .i64 0)
      have k5 : Kept (fun j => j = g) (((((wr).setCell ⟨g, k * 13, none⟩ (.int .i64 (-1))).setCell ⟨g, k * 13 + 1, none⟩ (.complex .f64 0 0)).setCell ⟨g, k * 13 + 2, none⟩ (.string ⟨#[]⟩)).setCell ⟨g, k * 13 + 3, none⟩ (.string ⟨#[]⟩)) ((((((wr).setCell ⟨g, k * 13, none⟩ (.int .i64 (-1))).setCell ⟨g, k * 13 + 1, none⟩ (.complex .f64 0 0)).setCell ⟨g, k * 13 + 2, none⟩ (.string ⟨#[]⟩)).setCell ⟨g, k * 13 + 3, none⟩ (.string ⟨#[]⟩)).setCell ⟨g, k * 13 + 4, none⟩ (.int .i64 0)) := Kept.setCell _ _ _ rfl
      have o6 := ownsRow_put o5 (k * 13 + 5) (.int .i64 0)
      have k6 : Kept (fun j => j = g) ((((((wr).setCell ⟨g, k * 13, none⟩ (.int .i64 (-1))).setCell ⟨g, k * 13 + 1, none⟩ (.complex .f64 0 0)).setCell ⟨g, k * 13 + 2, none⟩ (.string ⟨#[]⟩)).setCell ⟨g, k * 13 + 3, none⟩ (.string ⟨#[]⟩)).setCell ⟨g, k * 13 + 4, none⟩ (.int .i64 0)) (((((((wr).setCell ⟨g, k * 13, none⟩ (.int .i64 (-1))).setCell ⟨g, k * 13 + 1, none⟩ (.complex .f64 0 0)).setCell ⟨g, k * 13 + 2, none⟩ (.string ⟨#[]⟩)).setCell ⟨g, k * 13 + 3, none⟩ (.string ⟨#[]⟩)).setCell ⟨g, k * 13 + 4, none⟩ (.int .i64 0)).setCell ⟨g, k * 13 + 5, none⟩ (.int .i64 0)) := Kept.setCell _ _ _ rfl
      have o7 := ownsRow_put o6 (k * 13 + 6) (.int .i64 0)
      have k7 : Kept (fun j => j = g) (((((((wr).setCell ⟨g, k * 13, none⟩ (.int .i64 (-1))).setCell ⟨g, k * 13 + 1, none⟩ (.complex .f64 0 0)).setCell ⟨g, k * 13 + 2, none⟩ (.string ⟨#[]⟩)).setCell ⟨g, k * 13 + 3, none⟩ (.string ⟨#[]⟩)).setCell ⟨g, k * 13 + 4, none⟩ (.int .i64 0)).setCell ⟨g, k * 13 + 5, none⟩ (.int .i64 0)) ((((((((wr).setCell ⟨g, k * 13, none⟩ (.int .i64 (-1))).setCell ⟨g, k * 13 + 1, none⟩ (.complex .f64 0 0)).setCell ⟨g, k * 13 + 2, none⟩ (.string ⟨#[]⟩)).setCell ⟨g, k * 13 + 3, none⟩ (.string ⟨#[]⟩)).setCell ⟨g, k * 13 + 4, none⟩ (.int .i64 0)).setCell ⟨g, k * 13 + 5, none⟩ (.int .i64 0)).setCell ⟨g, k * 13 + 6, none⟩ (.int .i64 0)) := Kept.setCell _ _ _ rfl
      have o8 := ownsRow_put o7 (k * 13 + 7) (.string ⟨#[]⟩)
      have k8 : Kept (fun j => j = g) ((((((((wr).setCell ⟨g, k * 13, none⟩ (.int .i64 (-1))).setCell ⟨g, k * 13 + 1, none⟩ (.complex .f64 0 0)).setCell ⟨g, k * 13 + 2, none⟩ (.string ⟨#[]⟩)).setCell ⟨g, k * 13 + 3, none⟩ (.string ⟨#[]⟩)).setCell ⟨g, k * 13 + 4, none⟩ (.int .i64 0)).setCell ⟨g, k * 13 + 5, none⟩ (.int .i64 0)).setCell ⟨g, k * 13 + 6, none⟩ (.int .i64 0)) (((((((((wr).setCell ⟨g, k * 13, none⟩ (.int .i64 (-1))).setCell ⟨g, k * 13 + 1, none⟩ (.complex .f64 0 0)).setCell ⟨g, k * 13 + 2, none⟩ (.string ⟨#[]⟩)).setCell ⟨g, k * 13 + 3, none⟩ (.string ⟨#[]⟩)).setCell ⟨g, k * 13 + 4, none⟩ (.int .i64 0)).setCell ⟨g, k * 13 + 5, none⟩ (.int .i64 0)).setCell ⟨g, k * 13 + 6, none⟩ (.int .i64 0)).setCell ⟨g, k * 13 + 7, none⟩ (.string ⟨#[]⟩)) := Kept.setCell _ _ _ rfl
      have o9 := ownsRow_put o8 (k * 13 + 8) (.string ⟨#[]⟩)
      have k9 : Kept (fun j => j = g) (((((((((wr).setCell ⟨g, k * 13, none⟩ (.int .i64 (-1))).setCell ⟨g, k * 13 + 1, none⟩ (.complex .f64 0 0)).setCell ⟨g, k * 13 + 2, none⟩ (.string ⟨#[]⟩)).setCell ⟨g, k * 13 + 3, none⟩ (.string ⟨#[]⟩)).setCell ⟨g, k * 13 + 4, none⟩ (.int .i64 0)).setCell ⟨g, k * 13 + 5, none⟩ (.int .i64 0)).setCell ⟨g, k * 13 + 6, none⟩ (.int .i64 0)).setCell ⟨g, k * 13 + 7, none⟩ (.string ⟨#[]⟩)) ((((((((((wr).setCell ⟨g, k * 13, none⟩ (.int .i64 (-1))).setCell ⟨g, k * 13 + 1, none⟩ (.complex .f64 0 0)).setCell ⟨g, k * 13 + 2, none⟩ (.string ⟨#[]⟩)).setCell ⟨g, k * 13 + 3, none⟩ (.string ⟨#[]⟩)).setCell ⟨g, k * 13 + 4, none⟩ (.int .i64 0)).setCell ⟨g, k * 13 + 5, none⟩ (.int .i64 0)).setCell ⟨g, k * 13 + 6, none⟩ (.int .i64 0)).setCell ⟨g, k * 13 + 7, none⟩ (.string ⟨#[]⟩)).setCell ⟨g, k * 13 + 8, none⟩ (.string ⟨#[]⟩)) := Kept.setCell _ _ _ rfl
      have o10 := ownsRow_put o9 (k * 13 + 9) (.string ⟨#[]⟩)
      have k10 : Kept (fun j => j = g) ((((((((((wr).setCell ⟨g, k * 13, none⟩ (.int .i64 (-1))).setCell ⟨g, k * 13 + 1, none⟩ (.complex .f64 0 0)).setCell ⟨g, k * 13 + 2, none⟩ (.string ⟨#[]⟩)).setCell ⟨g, k * 13 + 3, none⟩ (.string ⟨#[]⟩)).setCell ⟨g, k * 13 + 4, none⟩ (.int .i64 0)).setCell ⟨g, k * 13 + 5, none⟩ (.int .i64 0)).setCell ⟨g, k * 13 + 6, none⟩ (.int .i64 0)).setCell ⟨g, k * 13 + 7, none⟩ (.string ⟨#[]⟩)).setCell ⟨g, k * 13 + 8, none⟩ (.string ⟨#[]⟩)) (((((((((((wr).setCell ⟨g, k * 13, none⟩ (.int .i64 (-1))).setCell ⟨g, k * 13 + 1, none⟩ (.complex .f64 0 0)).setCell ⟨g, k * 13 + 2, none⟩ (.string ⟨#[]⟩)).setCell ⟨g, k * 13 + 3, none⟩ (.string ⟨#[]⟩)).setCell ⟨g, k * 13 + 4, none⟩ (.int .i64 0)).setCell ⟨g, k * 13 + 5, none⟩ (.int .i64 0)).setCell ⟨g, k * 13 + 6, none⟩ (.int .i64 0)).setCell ⟨g, k * 13 + 7, none⟩ (.string ⟨#[]⟩)).setCell ⟨g, k * 13 + 8, none⟩ (.string ⟨#[]⟩)).setCell ⟨g, k * 13 + 9, none⟩ (.string ⟨#[]⟩)) := Kept.setCell _ _ _ rfl
      have o11 := ownsRow_put o10 (k * 13 + 10) (.string ⟨#[]⟩)
      have k11 : Kept (fun j => j = g) (((((((((((wr).setCell ⟨g, k * 13, none⟩ (.int .i64 (-1))).setCell ⟨g, k * 13 + 1, none⟩ (.complex .f64 0 0)).setCell ⟨g, k * 13 + 2, none⟩ (.string ⟨#[]⟩)).setCell ⟨g, k * 13 + 3, none⟩ (.string ⟨#[]⟩)).setCell ⟨g, k * 13 + 4, none⟩ (.int .i64 0)).setCell ⟨g, k * 13 + 5, none⟩ (.int .i64 0)).setCell ⟨g, k * 13 + 6, none⟩ (.int .i64 0)).setCell ⟨g, k * 13 + 7, none⟩ (.string ⟨#[]⟩)).setCell ⟨g, k * 13 + 8, none⟩ (.string ⟨#[]⟩)).setCell ⟨g, k * 13 + 9, none⟩ (.string ⟨#[]⟩)) ((((((((((((wr).setCell ⟨g, k * 13, none⟩ (.int .i64 (-1))).setCell ⟨g, k * 13 + 1, none⟩ (.complex .f64 0 0)).setCell ⟨g, k * 13 + 2, none⟩ (.string ⟨#[]⟩)).setCell ⟨g, k * 13 + 3, none⟩ (.string ⟨#[]⟩)).setCell ⟨g, k * 13 + 4, none⟩ (.int .i64 0)).setCell ⟨g, k * 13 + 5, none⟩ (.int .i64 0)).setCell ⟨g, k * 13 + 6, none⟩ (.int .i64 0)).setCell ⟨g, k * 13 + 7, none⟩ (.string ⟨#[]⟩)).setCell ⟨g, k * 13 + 8, none⟩ (.string ⟨#[]⟩)).setCell ⟨g, k * 13 + 9, none⟩ (.string ⟨#[]⟩)).setCell ⟨g, k * 13 + 10, none⟩ (.string ⟨#[]⟩)) := Kept.setCell _ _ _ rfl
      have o12 := ownsRow_put o11 (k * 13 + 11) (.string ⟨#[]⟩)
      have k12 : Kept (fun j => j = g) ((((((((((((wr).setCell ⟨g, k * 13, none⟩ (.int .i64 (-1))).setCell ⟨g, k * 13 + 1, none⟩ (.complex .f64 0 0)).setCell ⟨g, k * 13 + 2, none⟩ (.string ⟨#[]⟩)).setCell ⟨g, k * 13 + 3, none⟩ (.string ⟨#[]⟩)).setCell ⟨g, k * 13 + 4, none⟩ (.int .i64 0)).setCell ⟨g, k * 13 + 5, none⟩ (.int .i64 0)).setCell ⟨g, k * 13 + 6, none⟩ (.int .i64 0)).setCell ⟨g, k * 13 + 7, none⟩ (.string ⟨#[]⟩)).setCell ⟨g, k * 13 + 8, none⟩ (.string ⟨#[]⟩)).setCell ⟨g, k * 13 + 9, none⟩ (.string ⟨#[]⟩)).setCell ⟨g, k * 13 + 10, none⟩ (.string ⟨#[]⟩)) (((((((((((((wr).setCell ⟨g, k * 13, none⟩ (.int .i64 (-1))).setCell ⟨g, k * 13 + 1, none⟩ (.complex .f64 0 0)).setCell ⟨g, k * 13 + 2, none⟩ (.string ⟨#[]⟩)).setCell ⟨g, k * 13 + 3, none⟩ (.string ⟨#[]⟩)).setCell ⟨g, k * 13 + 4, none⟩ (.int .i64 0)).setCell ⟨g, k * 13 + 5, none⟩ (.int .i64 0)).setCell ⟨g, k * 13 + 6, none⟩ (.int .i64 0)).setCell ⟨g, k * 13 + 7, none⟩ (.string ⟨#[]⟩)).setCell ⟨g, k * 13 + 8, none⟩ (.string ⟨#[]⟩)).setCell ⟨g, k * 13 + 9, none⟩ (.string ⟨#[]⟩)).setCell ⟨g, k * 13 + 10, none⟩ (.string ⟨#[]⟩)).setCell ⟨g, k * 13 + 11, none⟩ (.string ⟨#[]⟩)) := Kept.setCell _ _ _ rfl
      have o13 := ownsRow_put o12 (k * 13 + 12) (.int .i64 0)
      have k13 : Kept (fun j => j = g) (((((((((((((wr).setCell ⟨g, k * 13, none⟩ (.int .i64 (-1))).setCell ⟨g, k * 13 + 1, none⟩ (.complex .f64 0 0)).setCell ⟨g, k * 13 + 2, none⟩ (.string ⟨#[]⟩)).setCell ⟨g, k * 13 + 3, none⟩ (.string ⟨#[]⟩)).setCell ⟨g, k * 13 + 4, none⟩ (.int .i64 0)).setCell ⟨g, k * 13 + 5, none⟩ (.int .i64 0)).setCell ⟨g, k * 13 + 6, none⟩ (.int .i64 0)).setCell ⟨g, k * 13 + 7, none⟩ (.string ⟨#[]⟩)).setCell ⟨g, k * 13 + 8, none⟩ (.string ⟨#[]⟩)).setCell ⟨g, k * 13 + 9, none⟩ (.string ⟨#[]⟩)).setCell ⟨g, k * 13 + 10, none⟩ (.string ⟨#[]⟩)).setCell ⟨g, k * 13 + 11, none⟩ (.string ⟨#[]⟩)) ((((((((((((((wr).setCell ⟨g, k * 13, none⟩ (.int .i64 (-1))).setCell ⟨g, k * 13 + 1, none⟩ (.complex .f64 0 0)).setCell ⟨g, k * 13 + 2, none⟩ (.string ⟨#[]⟩)).setCell ⟨g, k * 13 + 3, none⟩ (.string ⟨#[]⟩)).setCell ⟨g, k * 13 + 4, none⟩ (.int .i64 0)).setCell ⟨g, k * 13 + 5, none⟩ (.int .i64 0)).setCell ⟨g, k * 13 + 6, none⟩ (.int .i64 0)).setCell ⟨g, k * 13 + 7, none⟩ (.string ⟨#[]⟩)).setCell ⟨g, k * 13 + 8, none⟩ (.string ⟨#[]⟩)).setCell ⟨g, k * 13 + 9, none⟩ (.string ⟨#[]⟩)).setCell ⟨g, k * 13 + 10, none⟩ (.string ⟨#[]⟩)).setCell ⟨g, k * 13 + 11, none⟩ (.string ⟨#[]⟩)).setCell ⟨g, k * 13 + 12, none⟩ (.int .i64 0)) := Kept.setCell _ _ _ rfl
      have HO := hid o13
      have HK : Hid (Kept (fun j => (Value.slice (some ⟨g, 0, none⟩) n c).ownBlock = some j) w ((((((((((((((wr).setCell ⟨g, k * 13, none⟩ (.int .i64 (-1))).setCell ⟨g, k * 13 + 1, none⟩ (.complex .f64 0 0)).setCell ⟨g, k * 13 + 2, none⟩ (.string ⟨#[]⟩)).setCell ⟨g, k * 13 + 3, none⟩ (.string ⟨#[]⟩)).setCell ⟨g, k * 13 + 4, none⟩ (.int .i64 0)).setCell ⟨g, k * 13 + 5, none⟩ (.int .i64 0)).setCell ⟨g, k * 13 + 6, none⟩ (.int .i64 0)).setCell ⟨g, k * 13 + 7, none⟩ (.string ⟨#[]⟩)).setCell ⟨g, k * 13 + 8, none⟩ (.string ⟨#[]⟩)).setCell ⟨g, k * 13 + 9, none⟩ (.string ⟨#[]⟩)).setCell ⟨g, k * 13 + 10, none⟩ (.string ⟨#[]⟩)).setCell ⟨g, k * 13 + 11, none⟩ (.string ⟨#[]⟩)).setCell ⟨g, k * 13 + 12, none⟩ (.int .i64 0))) := K.and (((((((((((((k1.and k2).and k3).and k4).and k5).and k6).and k7).and k8).and k9).and k10).and k11).and k12).and k13).mono (fun j h => by rw [h]; rfl))
      clear ho K hrow hv hown o1 o2 o3 o4 o5 o6 o7 o8 o9 o10 o11 o12 o13 k1 k2 k3 k4 k5 k6 k7 k8 k9 k10 k11 k12 k13
      go_wp2_with fail
      go_roundw
      case rel => exact ⟨k + 1, _, by omega, by go_num, HO.out, HK.out⟩
      case measure => simp [intOf]; omega
    · have e1 : ¬ ((k : Int) < (n : Int)) := by omega
      have HK := hid K
      have HO := hid ho
      clear K ho
      go_wp2_with fail
      go_loopw [0, 3] (fun v i w9 => ∃ (j m : Nat) (us : List Value) (a9 : Option Addr) (c9 : Nat), j ≤ 10 ∧ i = .int .i64 j ∧ m = n + j ∧ v = .slice a9 m c9 ∧ w9.ownsRow 0 78 13 (.slice a9 m c9) m us ∧ BlkOf w (.slice a n c) (.slice a9 m c9) ∧ Kept (fun g => (Value.slice a n c).ownBlock = some g) w w9) (fun _ i _ => 10 - (intOf i).toNat)
      case atStart => exact ⟨0, n, _, a, c, by decide, rfl, rfl, rfl, HO.out, fun g h => .inl h, HK.out⟩
      case round =>
        obtain ⟨j, m, us, a9, c9, hj, rfl, hm, rfl, h9, hb9, K9⟩ := hrel
        have HM : Hid (m = n + j) := hm
        have hmb : m ≤ 1000010 := by omega
        clear hm
        by_cases hj2 : j < 10
        · have e2 : (j : Int) < 10 := by omega
          have HC := hid (show ∀ u ∈ ([.int .i64 (-2), .complex .f64 0 0, .string ⟨#[]⟩, .string ⟨#[]⟩, .int .i64 0, .int .i64 0, .int .i64 0, .string ⟨#[]⟩, .string ⟨#[]⟩, .string ⟨#[]⟩, .string ⟨#[]⟩, .string ⟨#[]⟩, .int .i64 0] : List Value), u.oneCell' = true by simp [Value.oneCell'])
          go_wp2_with (first
            | (at_builtin; refine wpList_append_src _ rfl _ _ 56 rfl 0 78 i0 _ 13 168 Tryd.underlying56 hi hz0 hz1 hz2 rfl (by decide) (.slice a9 m c9) m _ rfl (h9.alloc _) _ rfl 1 _ (.inl ⟨_, 1, rfl, rfl, World.news_of_block (heap_alloc_new _ _)⟩) HC.out (by unfold maxLen; omega) (by omega) (Nat.zero_le _) ?_; intro a7 cap7 w7 ho7 hg7 _ hl7)
            | fail)
          have hz := K9.size
          have KG := Kept.grown (S := fun g => (Value.slice a9 m c9).ownBlock = some g) hg7 (fun g e => e)
          go_roundw
          case rel =>
            refine ⟨j + 1, m + 1, _, a7, cap7, by omega, by go_num, by have := HM.out; omega, rfl, ho7, fun g hg => ?_, (K9.and (Kept.alloc _ _ _)).trans KG hb9⟩
            rcases hl7 with h | h
            · exact hb9 g (h ▸ hg)
            · rw [h] at hg
              simp at hg
              exact .inr (by omega)
          case measure => simp [intOf]; omega
        · have e2 : ¬ ((j : Int) < 10) := by omega
          go_wp2_with fail
          go_end0
          exact ⟨rfl, K9⟩

end Go.Proofs.YtfjekjbkifmpfaaDoor.Rf
