/-
  Point, Before, Turn: what they answer.
-/
import Derived.Test.YtjfgjmiedmpieaaDoorCBase
import Derived.Test.YtjfgjmiedmpieaaDoorRPure
namespace Go.Proofs.YtjfgjmiedmpieaaDoor
open Go.RowKit

/-- A whole number as a float. -/
def fl (n : Int) : Nat := floatOfInt .f64 n
/-- A point as a complex number. -/
def cx (z : Pt) : Value := .complex .f64 (fl z.1) (fl z.2)

theorem fl_isF {n : Int} (h : n.natAbs < 9007199254740992) : IsF (fl n) n := isF_int n h
theorem fl_three : (4613937818241073152 : Nat) = fl 3 := by kernel_rfl
theorem fl_two : (4611686018427387904 : Nat) = fl 2 := by kernel_rfl
theorem fl_one : (4607182418800017408 : Nat) = fl 1 := by kernel_rfl
theorem fl_zero : (0 : Nat) = fl 0 := by kernel_rfl

theorem ret_float {a b : Nat} (h : a = b) : Ending.returned (.float .f64 a) = .returned (.float .f64 b) := by rw [h]

set_option maxRecDepth 100000 in
set_option maxHeartbeats 400000 in
theorem rest_any (w : World) (x : Nat) (n : Int) (hx : IsF x n) (hn : n.natAbs < 9007199254740992) :
    Calls Tryd.prog 55 #[.float .f64 x] w fun e w' => e = .returned (.float .f64 (fl (n % 16777213))) ∧ w' = w := by
  have hc : ∀ W, (convert 74 3 (.float .f64 x)).run Tryd.prog W = .ok (.int .i64 n) W := fun W =>
    run_convert_float_int W 74 3 .f64 .i64 x n (by rw [Tryd.underlying74]; rfl) Tryd.underlying3 (isF_toInt hx (by omega) (by omega))
  have hi : ∀ W m, (convert 3 74 (.int .i64 m)).run Tryd.prog W = .ok (.float .f64 (fl m)) W := fun W m =>
    run_convert_int_float W 3 74 .i64 .f64 m (by rw [Tryd.underlying3]; rfl) Tryd.underlying74
  clear hx
  by_cases h : n.tmod 16777213 < 0
  · have e := tmod_emod_neg (m := 16777213) (by decide) h
    have hlo : -16777213 ≤ n.tmod 16777213 := by
      have := Int.emod_nonneg n (by decide : (16777213 : Int) ≠ 0)
      omega
    have HE : Hid (n.tmod 16777213 + 16777213 = n % 16777213) := e
    clear e hn
    go_enter Tryd.func55, Tryd.ntmps55
    go_wp2
    go_ret
    exact ⟨ret_float (by rw [HE.out]), rfl⟩
  · have e := tmod_emod_pos (n := n) (m := 16777213) (by decide) (by omega)
    have HE : Hid (n.tmod 16777213 = n % 16777213) := e
    clear e hn
    go_enter Tryd.func55, Tryd.ntmps55
    go_wp2
    go_ret
    exact ⟨ret_float (by rw [HE.out]), rfl⟩

/-- One step: what the product, the sum and the two remainders come to. -/
theorem step_whole (z : Pt) (hz : InSq z) (b : Int) (hb : 0 ≤ b ∧ b ≤ 255) :
    ∃ x y u v, cMulBits (fl z.1) (fl z.2) 4613937818241073152 4611686018427387904 = some (x, y) ∧
      cSumBits .add .f64 x y (fl b) 4607182418800017408 = some (u, v) ∧ IsF u (3 * z.1 - 2 * z.2 + b) ∧ IsF v (2 * z.1 + 3 * z.2 + 1) := by
  obtain ⟨⟨h1, h2⟩, h3, h4⟩ := hz
  obtain ⟨x, y, e1, fx, fy⟩ := cmul_whole (fl_isF (n := z.1) (by omega)) (fl_isF (n := z.2) (by omega)) (fl_isF (n := 3) (by decide)) (fl_isF (n := 2) (by decide)) (by omega) (by omega) (by omega) (by omega) (by omega) (by omega)
  obtain ⟨u, v, e2, fu, fv⟩ := cadd_whole fx fy (fl_isF (n := b) (by omega)) (fl_isF (n := 1) (by decide)) (by omega) (by omega)
  refine ⟨x, y, u, v, ?_, ?_, ?_, ?_⟩
  · rw [fl_three, fl_two]; exact e1
  · rw [fl_one]; exact e2
  · have e : z.1 * 3 - z.2 * 2 + b = 3 * z.1 - 2 * z.2 + b := by omega
    rw [e] at fu; exact fu
  · have e : z.1 * 2 + z.2 * 3 + 1 = 2 * z.1 + 3 * z.2 + 1 := by omega
    rw [e] at fv; exact fv

set_option maxRecDepth 100000 in
set_option maxHeartbeats 1000000 in
theorem stirred_any (w : World) (z : Pt) (hz : InSq z) (s : ByteArray) (hs : s.size ≤ 4611686018427387904) :
    Calls Tryd.prog 40 #[cx z, .string s] w fun e w' => e = .returned (cx (stir z s.data.toList)) ∧ w' = w := by
  have hi : ∀ W m, (convert 5 74 (.int .u8 m)).run Tryd.prog W = .ok (.float .f64 (fl m)) W := fun W m =>
    run_convert_int_float W 5 74 .u8 .f64 m (by rw [Tryd.underlying5]; rfl) Tryd.underlying74
  go_enter Tryd.func40, Tryd.ntmps40
  go_wp2
  go_loopw [0, 8] (fun v i wr => ∃ (k : Nat), k ≤ s.size ∧ i = .int .i64 k ∧ v = cx (stir z (s.data.toList.take k)) ∧ wr = w) (fun _ i _ => s.size - (intOf i).toNat)
  case atStart => exact ⟨0, Nat.zero_le _, rfl, rfl, rfl⟩
  case round =>
    obtain ⟨k, hk, rfl, rfl, hwr⟩ := hrel
    subst hwr
    have hq := stir_in (s.data.toList.take k) hz
    by_cases hlt : k < s.size
    · have hl : k < s.data.toList.length := by simpa using hlt
      have hnx := stir_next z s.data.toList k hl
      have hbd : (0 : Int) ≤ ((s[k]'hlt).toNat : Nat) ∧ (((s[k]'hlt).toNat : Nat) : Int) ≤ 255 := by
        have := (s[k]'hlt).toNat_lt
        omega
      have hget : s.data.toList.getD k 0 = s[k]'hlt := by
        rw [List.getD_eq_getElem?_getD, List.getElem?_eq_getElem hl]
        simp
        rfl
      rw [hget] at hnx
      obtain ⟨x, y, u, v, e1, e2, fu, fv⟩ := step_whole _ hq _ hbd
      obtain ⟨⟨q1, q2⟩, q3, q4⟩ := hq
      have r1 := fun W => rest_any W u _ fu (by omega)
      have r2 := fun W => rest_any W v _ fv (by omega)
      have HN : Hid (stir z (s.data.toList.take (k + 1)) = ((3 * (stir z (s.data.toList.take k)).1 - 2 * (stir z (s.data.toList.take k)).2 + (((s[k]'hlt).toNat : Nat) : Int)) % 16777213, (2 * (stir z (s.data.toList.take k)).1 + 3 * (stir z (s.data.toList.take k)).2 + 1) % 16777213)) := hnx
      have m1 : ∀ W, (binOp .mul 45 (.complex .f64 (fl (stir z (s.data.toList.take k)).1) (fl (stir z (s.data.toList.take k)).2)) (.complex .f64 4613937818241073152 4611686018427387904)).run Tryd.prog W = .ok (.complex .f64 x y) W := fun W => run_complex_mul W _ _ _ _ _ _ _ e1
      have m2 : ∀ W, (binOp .add 45 (.complex .f64 x y) (.complex .f64 (fl (((s[k]'hlt).toNat : Nat) : Int)) 4607182418800017408)).run Tryd.prog W = .ok (.complex .f64 u v) W := fun W => run_complex_sum W .add (.inl rfl) _ _ _ _ _ _ _ _ e2
      generalize (3 * (stir z (s.data.toList.take k)).1 - 2 * (stir z (s.data.toList.take k)).2 + (((s[k]'hlt).toNat : Nat) : Int)) % 16777213 = p1 at *
      generalize (2 * (stir z (s.data.toList.take k)).1 + 3 * (stir z (s.data.toList.take k)).2 + 1) % 16777213 = p2 at *
      have hix : ∀ W, (Instr.index 9 (.string s) (.int .i64 (k : Int))).run Tryd.prog W = .ok (.int .u8 (((s[k]'hlt).toNat : Nat) : Int)) W := fun W => by
        rw [run_index_string W _ _ _ _ Tryd.underlying9]
        rw [dif_pos ⟨by omega, by omega⟩]
        simp
      unfold cx
      generalize fl (stir z (s.data.toList.take k)).1 = aa at *
      generalize fl (stir z (s.data.toList.take k)).2 = ab at *
      have e0 : (k : Int) < (s.size : Int) := by omega
      clear hnx e1 e2 fu fv hget q1 q2 q3 q4 hbd hl
      go_wp2_with (first
        | (go_at_call 55; have _t := r1 wr; refine (r1 _).mono ?_; rintro e w1 ⟨rfl, rfl⟩; clear r1)
        | (go_at_call 55; refine (r2 _).mono ?_; rintro e w1 ⟨rfl, rfl⟩)
        | fail)
      go_roundw
      case rel => exact ⟨k + 1, by omega, by go_num, by rw [HN.out], trivial⟩
      case measure => simp [intOf]; omega
    · have hkm : s.data.toList.take k = s.data.toList := List.take_of_length_le (by simp; omega)
      rw [hkm]
      go_wp2
      go_ret
      exact ⟨rfl, rfl⟩

set_option maxRecDepth 100000 in
set_option maxHeartbeats 400000 in
/-- Point: the document's point. -/
theorem point_any (w : World) (s : ByteArray) (hs : s.size ≤ 4611686018427387904) :
    Calls Tryd.prog 25 #[.string s] w fun e w' => e = .returned (cx (point s.data.toList)) ∧ w' = w := by
  have h1 := stirred_any w (1, 0) one_in s hs
  have h2 := stirred_any w _ (stir_in s.data.toList one_in) ⟨#[0, 0, 0]⟩ (by decide)
  have e1 : cx (1, 0) = .complex .f64 4607182418800017408 0 := by unfold cx; rw [← fl_one, ← fl_zero]
  rw [e1] at h1
  have HP : Hid (stir (stir (1, 0) s.data.toList) (ByteArray.mk #[0, 0, 0]).data.toList = point s.data.toList) := rfl
  generalize stir (stir (1, 0) s.data.toList) (ByteArray.mk #[0, 0, 0]).data.toList = p at *
  unfold cx at h1 h2
  go_enter Tryd.func25, Tryd.ntmps25
  go_wp2_with (first
    | (go_at_call 40; have _t := h1; refine h1.mono ?_; rintro e w1 ⟨rfl, rfl⟩; clear h1)
    | (go_at_call 40; refine h2.mono ?_; rintro e w1 ⟨rfl, rfl⟩)
    | fail)
  go_ret
  exact ⟨by rw [← HP.out]; rfl, rfl⟩

theorem InSq.f1 {z : Pt} (h : InSq z) : IsF (fl z.1) z.1 := fl_isF (by have := h.1; omega)
theorem InSq.f2 {z : Pt} (h : InSq z) : IsF (fl z.2) z.2 := fl_isF (by have := h.2; omega)

set_option maxRecDepth 100000 in
set_option maxHeartbeats 400000 in
/-- Before: the order of points. -/
theorem before_any (w : World) (a b : Pt) (ha : InSq a) (hb : InSq b) :
    Calls Tryd.prog 32 #[cx a, cx b] w fun e w' => e = .returned (.bool (ahead a b)) ∧ w' = w := by
  have e1 := isF_eq ha.f1 hb.f1
  have e2 := isF_lt ha.f1 hb.f1
  have e3 := isF_lt ha.f2 hb.f2
  unfold cx
  generalize fl a.1 = p at *
  generalize fl a.2 = q at *
  generalize fl b.1 = r at *
  generalize fl b.2 = t at *
  unfold ahead
  clear ha hb
  by_cases h : a.1 = b.1
  · simp only [h, decide_true, if_true] at e1 ⊢
    clear e2
    go_enter Tryd.func32, Tryd.ntmps32
    go_wp2
    go_ret
    exact ⟨rfl, rfl⟩
  · simp only [h, decide_false, if_false] at e1 ⊢
    clear e3
    go_enter Tryd.func32, Tryd.ntmps32
    go_wp2
    go_ret
    exact ⟨rfl, rfl⟩

/-- A quarter turn of a number with whole parts. -/
theorem turn_bits {x y : Nat} {a b : Int} (hx : IsF x a) (hy : IsF y b) (h1 : a.natAbs < 9007199254740992) (h2 : b.natAbs < 9007199254740992) :
    ∃ u v, cMulBits x y 0 4607182418800017408 = some (u, v) ∧ IsF u (-b) ∧ IsF v a := by
  obtain ⟨u, v, e, fu, fv⟩ := cmul_whole hx hy (fl_isF (n := 0) (by decide)) (fl_isF (n := 1) (by decide)) (by omega) (by omega) (by omega) (by omega) (by omega) (by omega)
  refine ⟨u, v, by rw [fl_one]; exact e, ?_, ?_⟩
  · have e : a * 0 - b * 1 = -b := by omega
    rw [e] at fu; exact fu
  · have e : a * 1 + b * 0 = a := by omega
    rw [e] at fv; exact fv

set_option maxRecDepth 100000 in
set_option maxHeartbeats 400000 in
theorem turn_any (w : World) (x y : Nat) (a b : Int) (hx : IsF x a) (hy : IsF y b) (h1 : a.natAbs < 9007199254740992) (h2 : b.natAbs < 9007199254740992) :
    Calls Tryd.prog 26 #[.complex .f64 x y] w fun e w' => ∃ u v, e = .returned (.complex .f64 u v) ∧ IsF u (-b) ∧ IsF v a ∧ w' = w := by
  obtain ⟨u, v, e, fu, fv⟩ := turn_bits hx hy h1 h2
  have m1 : ∀ W, (binOp .mul 45 (.complex .f64 x y) (.complex .f64 0 4607182418800017408)).run Tryd.prog W = .ok (.complex .f64 u v) W := fun W => run_complex_mul W _ _ _ _ _ _ _ e
  clear e hx hy
  go_enter Tryd.func26, Tryd.ntmps26
  go_wp2
  go_ret
  exact ⟨u, v, rfl, fu, fv, rfl⟩

end Go.Proofs.YtjfgjmiedmpieaaDoor
