/-
  Newer.
-/
import Derived.Test.YtnhmdeglaoilcaaDoorRViews
import Derived.Test.YtnhmdeglaoilcaaDoorRRef
namespace Go.Proofs.YtnhmdeglaoilcaaDoor
open Go.RowKit Go.Sort

theorem three_new (w : World) (x y z : Obj) :
    (((w.alloc x).alloc y).alloc z).heap[w.heap.size]? = some x ∧ (((w.alloc x).alloc y).alloc z).heap[w.heap.size + 1]? = some y ∧ (((w.alloc x).alloc y).alloc z).heap[w.heap.size + 1 + 1]? = some z := by
  have h1 : (w.alloc x).heap.size = w.heap.size + 1 := by simp
  have h2 : ((w.alloc x).alloc y).heap.size = w.heap.size + 1 + 1 := by simp
  have k1 := Kept.alloc (fun _ => False) (w.alloc x) y
  have k2 := Kept.alloc (fun _ => False) ((w.alloc x).alloc y) z
  refine ⟨?_, ?_, ?_⟩
  · rw [k2.block _ (by omega) (fun h => h), k1.block _ (by omega) (fun h => h), heap_alloc_new]
  · rw [k2.block _ (by omega) (fun h => h), ← h1, heap_alloc_new]
  · rw [← h2, heap_alloc_new]

theorem ownsRow_block' {w w' : World} {base n size : Nat} {e : TypeId} {v : Value} {xs : List Value} (h : w.ownsRow base e size v n xs) (hk : ∀ k, v.ownBlock = some k → w'.heap[k]? = w.heap[k]?) : w'.ownsRow base e size v n xs := by
  refine ⟨h.1, ?_⟩
  rcases h.2 with h0 | ⟨g, cap, cur, hv, hb, hh, r⟩
  · exact .inl h0
  · exact .inr ⟨g, cap, cur, hv, hb, (hk g (by rw [hv]; rfl)).trans hh, r⟩

theorem rowKeepS {w w' : World} {S : Nat → Prop} {base n size : Nat} {e : TypeId} {v : Value} {xs : List Value} (h : w.ownsRow base e size v n xs) (K : Kept S w w') (hS : ∀ k, v.ownBlock = some k → ¬ S k) : w'.ownsRow base e size v n xs :=
  ownsRow_block' h (fun k hk => K.block k (h.lt k hk).2 (hS k hk))

theorem ownsRow_mono {w : World} {base base' n size : Nat} {e : TypeId} {v : Value} {xs : List Value} (h : w.ownsRow base e size v n xs) (hb : base' ≤ base) : w.ownsRow base' e size v n xs := by
  refine ⟨h.1, ?_⟩
  rcases h.2 with h0 | ⟨g, cap, cur, hv, hg, r⟩
  · exact .inl h0
  · exact .inr ⟨g, cap, cur, hv, Nat.le_trans hb hg, r⟩

theorem set2_block {w : World} {b : Nat} {x y : Value} {T : TypeId} (h : w.heap[b]? = some (.cells #[x, y] T (0, 0))) (u v : Value) :
    ((w.setCell ⟨b, 0, none⟩ u).setCell ⟨b, 1, none⟩ v).heap[b]? = some (.cells #[u, v] T (0, 0)) := by
  simp [World.setCell, Array.getElem?_modify, h]

theorem threeKept (w : World) (v a : Value) (y : Obj) (V : World)
    (K : Kept (fun _ => False) (((w.alloc (.cells #[v, a] 68)).alloc y).alloc (.cells #[.int .i64 0, .slice none 0 0] 68)).drew V) :
    V.cell? ⟨w.heap.size, 0, none⟩ = some v ∧ V.cell? ⟨w.heap.size, 1, none⟩ = some a ∧ V.cell? ⟨w.heap.size + 1 + 1, 0, none⟩ = some (.int .i64 0) ∧ V.cell? ⟨w.heap.size + 1 + 1, 1, none⟩ = some (.slice none 0 0) ∧ V.frozen? ⟨w.heap.size + 1 + 1, 0, none⟩ = false ∧ V.frozen? ⟨w.heap.size + 1 + 1, 1, none⟩ = false ∧ w.heap.size + 1 + 1 < V.heap.size ∧ V.heap[w.heap.size + 1 + 1]? = some (.cells #[.int .i64 0, .slice none 0 0] 68 (0, 0)) := by
  obtain ⟨t0, _, t2⟩ := three_new w (.cells #[v, a] 68) y (.cells #[.int .i64 0, .slice none 0 0] 68)
  have hs : (((w.alloc (.cells #[v, a] 68)).alloc y).alloc (.cells #[.int .i64 0, .slice none 0 0] 68)).drew.heap.size = w.heap.size + 1 + 1 + 1 := by
    show (((w.alloc (.cells #[v, a] 68)).alloc y).alloc (.cells #[.int .i64 0, .slice none 0 0] 68)).heap.size = _
    simp
  have b0 := (K.block w.heap.size (by omega) (fun h => h)).trans t0
  have b2 := (K.block (w.heap.size + 1 + 1) (by omega) (fun h => h)).trans t2
  have := K.size
  refine ⟨?_, ?_, ?_, ?_, ?_, ?_, by omega, b2⟩
  · unfold World.cell?; rw [b0]; rfl
  · unfold World.cell?; rw [b0]; rfl
  · unfold World.cell?; rw [b2]; rfl
  · unfold World.cell?; rw [b2]; rfl
  · unfold World.frozen?; rw [b2]; rfl
  · unfold World.frozen?; rw [b2]; rfl

set_option maxRecDepth 100000 in
set_option maxHeartbeats 2000000 in
theorem newer_any (w : World) (v1 v2 : Int) (a1 a2 : Option Addr) (n1 c1 n2 c2 : Nat) (l1 l2 : List Int) (I1 : IntsAt w a1 n1 c1 l1) (I2 : IntsAt w a2 n2 c2 l2) (h1 : n1 ≤ 1000) (h2 : n2 ≤ 1000) :
    Calls Tryd.prog 31 #[vw v1 a1 n1 c1, vw v2 a2 n2 c2] w fun e w' => ∃ a c, e = .returned (vw (if v1 < v2 then v2 else v1) a (if v1 < v2 then l2 else l1).length c) ∧ w'.ownsRow w.heap.size 3 1 (.slice a (if v1 < v2 then l2 else l1).length c) (if v1 < v2 then l2 else l1).length ((if v1 < v2 then l2 else l1).map (Value.int .i64)) ∧ Kept (fun _ => False) w w' := by
  obtain ⟨i0, hi, hz0, hz1, hz2⟩ := info_parts Tryd.info3
  unfold vw
  by_cases hv : v1 < v2
  · simp only [if_pos hv]
    have KW : Kept (fun _ => False) w (((w.alloc (.cells #[.int .i64 v2, .slice a2 n2 c2] 68)).alloc (.cells #[.int .i64 v2, .slice a2 n2 c2] 68)).alloc (.cells #[.int .i64 0, .slice none 0 0] 68)) := ((Kept.alloc _ _ _).and (Kept.alloc _ _ _)).and (Kept.alloc _ _ _)
    have KD := KW.and (Kept.drew (fun _ => False) _)
    have I3 := I2.kept KD (fun _ _ _ h => h)
    have hln := I2.len
    have HK : Hid (Kept (fun _ => False) w (((w.alloc (.cells #[.int .i64 v2, .slice a2 n2 c2] 68)).alloc (.cells #[.int .i64 v2, .slice a2 n2 c2] 68)).alloc (.cells #[.int .i64 0, .slice none 0 0] 68)).drew) := KD
    have HZ : Hid (∀ V, Kept (fun _ => False) (((w.alloc (.cells #[.int .i64 v2, .slice a2 n2 c2] 68)).alloc (.cells #[.int .i64 v2, .slice a2 n2 c2] 68)).alloc (.cells #[.int .i64 0, .slice none 0 0] 68)).drew V → _) := threeKept w (.int .i64 v2) (.slice a2 n2 c2) (.cells #[.int .i64 v2, .slice a2 n2 c2] 68)
    clear KW KD
    go_enter Tryd.func31, Tryd.ntmps31
    go_wp2
    go_region_law (first
      | (refine step_append_sr _ (by rfl) _ _ _ (by rfl) (w.heap.size + 1 + 1 + 1) 3 i0 _ 1 8 Tryd.underlying36 hi hz0 hz1 hz2 rfl (by decide) (.slice none 0 0) 0 [] (by rfl) (World.ownsRow_nil _ _ _ _) _ (by rfl) n2 _ I3.src (ints_one _) (by unfold maxLen; omega) (by omega) (by show _ ≤ (World.alloc _ _).heap.size; simp) ?_; intro a3 c3 w3 ho3 hg3 _ hl3; simp only [Nat.zero_add, List.nil_append] at ho3; have K4 := Kept.grown (S := fun _ => False) hg3 (fun j e => by cases e); obtain ⟨x0, x1, x2, x3, x4, x5, hs3, hb3⟩ := HZ.out w3 K4)
      | fail)
    all_goals
      go_wp2
      have KS := keptSet2 w3 (w.heap.size + 1 + 1) (.int .i64 v2) (.slice a3 n2 c3)
      have hb4 := set2_block hb3 (.int .i64 v2) (.slice a3 n2 c3)
      obtain ⟨g0, g1, _, _⟩ := viewCells hb4
      refine bodyPost_ret (by simp [results, Tryd.results31, go_sem, g0, g1]; try rfl) rfl ?_
      refine ⟨a3, c3, rfl, ownsRow_mono (rowKeepS ho3 KS (fun j hj => by have h5 := (ho3.lt j hj).1; show ¬ j = _; omega)) (by omega), (HK.out.and K4).trans KS (fun j hj => .inr (by have hj' : j = w.heap.size + 1 + 1 := hj; omega))⟩
  · simp only [if_neg hv]
    have KW : Kept (fun _ => False) w (((w.alloc (.cells #[.int .i64 v1, .slice a1 n1 c1] 68)).alloc (.cells #[.int .i64 v2, .slice a2 n2 c2] 68)).alloc (.cells #[.int .i64 0, .slice none 0 0] 68)) := ((Kept.alloc _ _ _).and (Kept.alloc _ _ _)).and (Kept.alloc _ _ _)
    have KD := KW.and (Kept.drew (fun _ => False) _)
    have I3 := I1.kept KD (fun _ _ _ h => h)
    have hln := I1.len
    have HK : Hid (Kept (fun _ => False) w (((w.alloc (.cells #[.int .i64 v1, .slice a1 n1 c1] 68)).alloc (.cells #[.int .i64 v2, .slice a2 n2 c2] 68)).alloc (.cells #[.int .i64 0, .slice none 0 0] 68)).drew) := KD
    have HZ : Hid (∀ V, Kept (fun _ => False) (((w.alloc (.cells #[.int .i64 v1, .slice a1 n1 c1] 68)).alloc (.cells #[.int .i64 v2, .slice a2 n2 c2] 68)).alloc (.cells #[.int .i64 0, .slice none 0 0] 68)).drew V → _) := threeKept w (.int .i64 v1) (.slice a1 n1 c1) (.cells #[.int .i64 v2, .slice a2 n2 c2] 68)
    clear KW KD
    go_enter Tryd.func31, Tryd.ntmps31
    go_wp2
    go_region_law (first
      | (refine step_append_sr _ (by rfl) _ _ _ (by rfl) (w.heap.size + 1 + 1 + 1) 3 i0 _ 1 8 Tryd.underlying36 hi hz0 hz1 hz2 rfl (by decide) (.slice none 0 0) 0 [] (by rfl) (World.ownsRow_nil _ _ _ _) _ (by rfl) n1 _ I3.src (ints_one _) (by unfold maxLen; omega) (by omega) (by show _ ≤ (World.alloc _ _).heap.size; simp) ?_; intro a3 c3 w3 ho3 hg3 _ hl3; simp only [Nat.zero_add, List.nil_append] at ho3; have K4 := Kept.grown (S := fun _ => False) hg3 (fun j e => by cases e); obtain ⟨x0, x1, x2, x3, x4, x5, hs3, hb3⟩ := HZ.out w3 K4)
      | fail)
    all_goals
      go_wp2
      have KS := keptSet2 w3 (w.heap.size + 1 + 1) (.int .i64 v1) (.slice a3 n1 c3)
      have hb4 := set2_block hb3 (.int .i64 v1) (.slice a3 n1 c3)
      obtain ⟨g0, g1, _, _⟩ := viewCells hb4
      refine bodyPost_ret (by simp [results, Tryd.results31, go_sem, g0, g1]; try rfl) rfl ?_
      refine ⟨a3, c3, rfl, ownsRow_mono (rowKeepS ho3 KS (fun j hj => by have h5 := (ho3.lt j hj).1; show ¬ j = _; omega)) (by omega), (HK.out.and K4).trans KS (fun j hj => .inr (by have hj' : j = w.heap.size + 1 + 1 := hj; omega))⟩

end Go.Proofs.YtnhmdeglaoilcaaDoor
