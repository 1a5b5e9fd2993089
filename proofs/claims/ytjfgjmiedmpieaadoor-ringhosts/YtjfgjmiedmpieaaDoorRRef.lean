/-
  The document's points: whole, step, Point.
-/
import Derived.Test.YtjfgjmiedmpieaaDoorRPoint
import Derived.Deep.RegionHeld
import Derived.Shelf.SlSorted.Search
namespace Go.Proofs.YtjfgjmiedmpieaaDoor
open Go.RowKit Go.Sort

set_option maxRecDepth 100000 in
set_option maxHeartbeats 400000 in
theorem whole_any (w : World) (n : Int) :
    Calls Tryd.prog 54 #[.int .i64 n] w fun e w' => e = .returned (.int .i64 (n % 16777213)) ∧ w' = w := by
  by_cases h : n.tmod 16777213 < 0
  · have e := tmod_emod_neg (m := 16777213) (by decide) h
    have hlo : -16777213 ≤ n.tmod 16777213 := by
      have := Int.emod_nonneg n (by decide : (16777213 : Int) ≠ 0)
      omega
    have HE : Hid (n.tmod 16777213 + 16777213 = n % 16777213) := e
    clear e
    go_enter Tryd.func54, Tryd.ntmps54
    go_wp2
    go_ret
    exact ⟨ret_int HE.out, rfl⟩
  · have e := tmod_emod_pos (n := n) (m := 16777213) (by decide) (by omega)
    have HE : Hid (n.tmod 16777213 = n % 16777213) := e
    clear e
    go_enter Tryd.func54, Tryd.ntmps54
    go_wp2
    go_ret
    exact ⟨ret_int HE.out, rfl⟩

theorem wrap_id {x : Int} (h0 : -9223372036854775808 ≤ x) (h1 : x ≤ 9223372036854775807) : IntKind.i64.wrap x = x := by
  rw [IntKind.wrap_i64]; omega

/-- A point in two cells. -/
def pv (z : Pt) : Value := .agg #[.int .i64 z.1, .int .i64 z.2]

set_option maxRecDepth 100000 in
set_option maxHeartbeats 2000000 in
theorem refStep_any (w : World) (z : Pt) (hz : InSq z) (x : Int) (hx : 0 ≤ x ∧ x ≤ 255) :
    Calls Tryd.prog 39 #[pv z, .int .i64 x] w fun e w' => e = .returned (pv (pstep z x)) ∧ Kept (fun _ => False) w w' := by
  obtain ⟨⟨h1, h2⟩, h3, h4⟩ := hz
  obtain ⟨a, b⟩ := z
  simp only at h1 h2 h3 h4
  unfold pv pstep
  simp only
  have m1 : IntKind.i64.wrap (3 * a) = 3 * a := wrap_id (by omega) (by omega)
  have m2 : IntKind.i64.wrap (2 * b) = 2 * b := wrap_id (by omega) (by omega)
  have m3 : IntKind.i64.wrap (3 * a - 2 * b) = 3 * a - 2 * b := wrap_id (by omega) (by omega)
  have m4 : IntKind.i64.wrap (3 * a - 2 * b + x) = 3 * a - 2 * b + x := wrap_id (by omega) (by omega)
  have m5 : IntKind.i64.wrap (2 * a) = 2 * a := wrap_id (by omega) (by omega)
  have m6 : IntKind.i64.wrap (3 * b) = 3 * b := wrap_id (by omega) (by omega)
  have m7 : IntKind.i64.wrap (2 * a + 3 * b) = 2 * a + 3 * b := wrap_id (by omega) (by omega)
  have m8 : IntKind.i64.wrap (2 * a + 3 * b + 1) = 2 * a + 3 * b + 1 := wrap_id (by omega) (by omega)
  have hW := fun V => whole_any V (3 * a - 2 * b + x)
  have hV := fun V => whole_any V (2 * a + 3 * b + 1)
  go_enter Tryd.func39, Tryd.ntmps39
  go_wp2
  go_region_held (fun V => V.cell? ⟨w.heap.size, 0, none⟩ = some (.int .i64 a) ∧ V.cell? ⟨w.heap.size, 1, none⟩ = some (.int .i64 b)) (go_keep) (first
    | (go_at_call 54; have _t := hW w; refine (hW _).mono ?_; rintro e w1 ⟨rfl, hw1⟩; subst w1; clear hW)
    | (go_at_call 54; refine (hV _).mono ?_; rintro e w1 ⟨rfl, hw1⟩; subst w1)
    | fail)
  go_wp2
  refine bodyPost_ret (by simp [results, Tryd.results39, go_sem]; try rfl) rfl ?_
  exact ⟨rfl, ((Kept.alloc _ _ _).and (Kept.alloc _ _ _)).and (Kept.drew _ _)⟩

/-- A point in memory. -/
structure PAt (w : World) (b : Nat) (z : Pt) : Prop where
  c0 : w.cell? ⟨b, 0, none⟩ = some (.int .i64 z.1)
  c1 : w.cell? ⟨b, 1, none⟩ = some (.int .i64 z.2)
  f0 : w.frozen? ⟨b, 0, none⟩ = false
  f1 : w.frozen? ⟨b, 1, none⟩ = false

theorem PAt.kept {S : Nat → Prop} {w w' : World} {b : Nat} {z : Pt} (h : PAt w b z) (K : Kept S w w') (hs : ¬ S b) : PAt w' b z := by
  have hb := K.block b (World.block_lt_of_cell? w _ h.c0) hs
  exact ⟨(World.cell?_of_block hb).trans h.c0, (World.cell?_of_block hb).trans h.c1, (World.frozen?_of_block hb).trans h.f0, (World.frozen?_of_block hb).trans h.f1⟩

theorem PAt.new (w : World) (T : TypeId) (x y : Int) : PAt (w.alloc (.cells #[.int .i64 x, .int .i64 y] T)) w.heap.size (x, y) := by
  have h := heap_alloc_new w (.cells #[.int .i64 x, .int .i64 y] T)
  refine ⟨?_, ?_, ?_, ?_⟩
  · unfold World.cell?; rw [h]; rfl
  · unfold World.cell?; rw [h]; rfl
  · unfold World.frozen?; rw [h]; rfl
  · unfold World.frozen?; rw [h]; rfl

theorem PAt.set {w : World} {b : Nat} {z : Pt} (h : PAt w b z) (x y : Int) : PAt ((w.setCell ⟨b, 0, none⟩ (.int .i64 x)).setCell ⟨b, 1, none⟩ (.int .i64 y)) b (x, y) := by
  refine ⟨?_, ?_, ?_, ?_⟩
  · rw [World.cell?_setCell_other _ _ _ _ (fun e => by cases e)]
    exact World.cell?_setCell_same' w ⟨b, 0, none⟩ _ (by rw [h.c0]; rfl)
  · refine World.cell?_setCell_same' _ ⟨b, 1, none⟩ _ ?_
    rw [World.cell?_setCell_other _ _ _ _ (fun e => by cases e), h.c1]
    rfl
  · rw [World.frozen?_setCell, World.frozen?_setCell]; exact h.f0
  · rw [World.frozen?_setCell, World.frozen?_setCell]; exact h.f1

theorem keptSet2 (w : World) (b : Nat) (x y : Value) : Kept (fun k => k = b) w ((w.setCell ⟨b, 0, none⟩ x).setCell ⟨b, 1, none⟩ y) := by
  have h1 : Kept (fun k => k = b) w (w.setCell ⟨b, 0, none⟩ x) := Kept.setCell w ⟨b, 0, none⟩ x rfl
  have h2 : Kept (fun k => k = b) (w.setCell ⟨b, 0, none⟩ x) ((w.setCell ⟨b, 0, none⟩ x).setCell ⟨b, 1, none⟩ y) := Kept.setCell _ ⟨b, 1, none⟩ y rfl
  exact h1.and h2

theorem PAt.lt {w : World} {b : Nat} {z : Pt} (h : PAt w b z) : b < w.heap.size := World.block_lt_of_cell? w _ h.c0

theorem stir_zeros (z : Pt) (k : Nat) (h : k < 3) : stir z ([0, 0, 0].take (k + 1)) = pstep (stir z ([0, 0, 0].take k)) 0 := by
  match k, h with
  | 0, _ => rfl
  | 1, _ => rfl
  | 2, _ => rfl
  | k + 3, h => omega

set_option maxRecDepth 100000 in
set_option maxHeartbeats 2000000 in
theorem refPoint_any (w : World) (s : ByteArray) (hs : s.size ≤ 4611686018427387904) :
    Calls Tryd.prog 23 #[.string s] w fun e w' => e = .returned (pv (point s.data.toList)) ∧ Kept (fun _ => False) w w' := by
  go_enter Tryd.func23, Tryd.ntmps23
  go_wp2
  go_loopw [4] (fun i wr => ∃ (k : Nat), k ≤ s.size ∧ i = .int .i64 k ∧ PAt wr (w.heap.size + 1) (stir (1, 0) (s.data.toList.take k)) ∧ (∃ q, PAt wr w.heap.size q) ∧ Kept (fun k => w.heap.size ≤ k) w wr) (fun i _ => s.size - (intOf i).toNat)
  case atStart =>
    refine ⟨0, Nat.zero_le _, rfl, ?_, ⟨(0, 0), (PAt.new w _ 0 0).kept (Kept.alloc (fun _ => False) _ _) (fun h => h)⟩, (Kept.alloc _ _ _).and (Kept.alloc _ _ _)⟩
    have := PAt.new (w.alloc (.cells #[.int .i64 0, .int .i64 0] 47)) 47 1 0
    rw [show (w.alloc (.cells #[.int .i64 0, .int .i64 0] 47)).heap.size = w.heap.size + 1 by simp] at this
    exact this
  case round =>
    obtain ⟨k, hk, rfl, P, ⟨q, Q⟩, K⟩ := hrel
    have hq := stir_in (s.data.toList.take k) one_in
    by_cases hlt : k < s.size
    · have hl : k < s.data.toList.length := by simpa using hlt
      have hnx := stir_next (1, 0) s.data.toList k hl
      have hbd : (0 : Int) ≤ ((s[k]'hlt).toNat : Nat) ∧ (((s[k]'hlt).toNat : Nat) : Int) ≤ 255 := by
        have := (s[k]'hlt).toNat_lt
        omega
      have hget : s.data.toList.getD k 0 = s[k]'hlt := by
        rw [List.getD_eq_getElem?_getD, List.getElem?_eq_getElem hl]
        simp
        rfl
      rw [hget] at hnx
      have hS := fun V => refStep_any V _ hq _ hbd
      rw [← hnx] at hS
      have hix : ∀ W, (Instr.index 9 (.string s) (.int .i64 (k : Int))).run Tryd.prog W = .ok (.int .u8 (((s[k]'hlt).toNat : Nat) : Int)) W := fun W => by
        rw [run_index_string W _ _ _ _ Tryd.underlying9]
        rw [dif_pos ⟨by omega, by omega⟩]
        simp
      have hcv : ∀ W, (convert 5 3 (.int .u8 (((s[k]'hlt).toNat : Nat) : Int))).run Tryd.prog W = .ok (.int .i64 (((s[k]'hlt).toNat : Nat) : Int)) W := fun W => by
        simp [go_sem, Tryd.underlying5, Tryd.underlying3]
        rw [IntKind.wrap_i64]
        omega
      unfold pv at hS
      obtain ⟨z1, hz1⟩ : ∃ z1, stir (1, 0) (s.data.toList.take (k + 1)) = z1 := ⟨_, rfl⟩
      rw [hz1] at hS
      have HZ : Hid (stir (1, 0) (s.data.toList.take (k + 1)) = z1) := hz1
      have PD := P.kept (Kept.drew (fun _ => False) wr) (fun h => h)
      have QD := Q.kept (Kept.drew (fun _ => False) wr) (fun h => h)
      generalize stir (1, 0) (s.data.toList.take k) = z0 at *
      obtain ⟨p0, p1, p2, p3⟩ := PD
      have e0 : (k : Int) < (s.size : Int) := by omega
      clear hnx hget hl hq hz1
      go_wp2
      go_region_with (first
        | (go_at_call 39; refine (hS _).mono ?_; rintro e w1 ⟨rfl, K1⟩; have P1 := (P.kept (Kept.drew (fun _ => False) wr) (fun h => h)).kept K1 (fun h => h); have HP : Hid (PAt w1 (w.heap.size + 1) z0) := P1; obtain ⟨r0, r1, r2, r3⟩ := P1)
        | fail)
      all_goals
        go_wp2
        go_roundw
        case rel =>
          have KS : Kept (fun k => k = w.heap.size + 1) w1 ((w1.setCell ⟨w.heap.size + 1, 0, none⟩ (.int .i64 z1.1)).setCell ⟨w.heap.size + 1, 1, none⟩ (.int .i64 z1.2)) := keptSet2 _ _ _ _
          refine ⟨k + 1, by omega, by go_num, by rw [HZ.out]; exact HP.out.set _ _, ⟨q, (QD.kept K1 (fun h => h)).kept KS (fun h => by omega)⟩, ?_⟩
          exact ((K.and (Kept.drew _ _)).trans K1 (fun _ h => h.elim)).trans KS (fun i hi => .inl (by have hi' : i = w.heap.size + 1 := hi; show w.heap.size ≤ i; omega))
        case measure => simp [intOf]; omega
    · have hkm : s.data.toList.take k = s.data.toList := List.take_of_length_le (by simp; omega)
      rw [hkm] at P
      have hz := stir_in s.data.toList one_in
      have HZ : Hid (∀ z, stir z [0, 0, 0] = stir z [0, 0, 0]) := fun _ => rfl
      have HE : Hid (point s.data.toList = stir (stir (1, 0) s.data.toList) [0, 0, 0]) := by show _ = _; rfl
      generalize stir (1, 0) s.data.toList = z0 at *
      clear hkm hq HZ
      go_wp2
      go_loopw [5] (fun i wr' => ∃ (j : Nat), j ≤ 3 ∧ i = .int .i64 j ∧ PAt wr' (w.heap.size + 1) (stir z0 ([0, 0, 0].take j)) ∧ (∃ q, PAt wr' w.heap.size q) ∧ Kept (fun k => w.heap.size ≤ k) w wr') (fun i _ => 3 - (intOf i).toNat)
      case atStart => exact ⟨0, by decide, rfl, P, ⟨q, Q⟩, K⟩
      case round =>
        clear P Q K
        obtain ⟨j, hj, rfl, P, ⟨q, Q⟩, K⟩ := hrel
        by_cases hj3 : j < 3
        · have hnx := stir_zeros z0 j hj3
          have hS := fun V => refStep_any V _ (stir_in ([0, 0, 0].take j) hz) 0 ⟨by decide, by decide⟩
          rw [← hnx] at hS
          unfold pv at hS
          obtain ⟨z2, hz2⟩ : ∃ z2, stir z0 ([0, 0, 0].take (j + 1)) = z2 := ⟨_, rfl⟩
          rw [hz2] at hS
          have HZ : Hid (stir z0 ([0, 0, 0].take (j + 1)) = z2) := hz2
          generalize stir z0 ([0, 0, 0].take j) = z1 at *
          have HP0 : Hid (PAt wr (w.heap.size + 1) z1) := P
          obtain ⟨p0, p1, p2, p3⟩ := P
          clear hnx hz2
          go_wp2_with (first
            | (go_at_call 39; refine (hS _).mono ?_; rintro e w1 ⟨rfl, K1⟩; have P1 := HP0.out.kept K1 (fun h => h); have HP : Hid (PAt w1 (w.heap.size + 1) z1) := P1; obtain ⟨r0, r1, r2, r3⟩ := P1)
            | fail)
          go_roundw
          case rel =>
            have KS : Kept (fun k => k = w.heap.size + 1) w1 ((w1.setCell ⟨w.heap.size + 1, 0, none⟩ (.int .i64 z2.1)).setCell ⟨w.heap.size + 1, 1, none⟩ (.int .i64 z2.2)) := keptSet2 _ _ _ _
            refine ⟨j + 1, by omega, by go_num, by rw [HZ.out]; exact HP.out.set _ _, ⟨q, (Q.kept K1 (fun h => h)).kept KS (fun h => by omega)⟩, ?_⟩
            exact (K.trans K1 (fun _ h => h.elim)).trans KS (fun i hi => .inl (by have hi' : i = w.heap.size + 1 := hi; show w.heap.size ≤ i; omega))
          case measure => simp [intOf]; omega
        · obtain rfl : j = 3 := by omega
          change PAt wr (w.heap.size + 1) (stir z0 [0, 0, 0]) at P
          generalize stir z0 [0, 0, 0] = z1 at *
          have QS := Q.set z1.1 z1.2
          obtain ⟨p0, p1, p2, p3⟩ := P
          have HQ : Hid (PAt ((wr.setCell ⟨w.heap.size, 0, none⟩ (.int .i64 z1.1)).setCell ⟨w.heap.size, 1, none⟩ (.int .i64 z1.2)) w.heap.size z1) := QS
          obtain ⟨q0, q1, q2, q3⟩ := Q
          obtain ⟨g0, g1, _, _⟩ := QS
          simp only at g0 g1
          go_wp2
          refine bodyPost_ret (by simp [results, Tryd.results23, go_sem, g0, g1]; try rfl) rfl ?_
          refine ⟨by rw [HE.out]; rfl, (Kept.refl (fun _ => False) w).trans ((K.and (Kept.setCell _ _ _ (Nat.le_refl _))).and (Kept.setCell _ _ _ (Nat.le_refl _))) (fun _ h => .inr h)⟩

end Go.Proofs.YtjfgjmiedmpieaaDoor
