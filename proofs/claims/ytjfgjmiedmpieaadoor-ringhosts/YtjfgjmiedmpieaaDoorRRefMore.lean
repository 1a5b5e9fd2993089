/-
  The document's points as complex numbers, and their order; a float with the other sign.
-/
import Derived.Test.YtjfgjmiedmpieaaDoorRRef
namespace Go.Proofs.YtjfgjmiedmpieaaDoor
open Go.RowKit Go.Sort

set_option maxRecDepth 100000 in
set_option maxHeartbeats 400000 in
theorem refZ_any (w : World) (z : Pt) :
    Calls Tryd.prog 15 #[pv z] w fun e w' => e = .returned (cx z) ∧ Kept (fun _ => False) w w' := by
  have hi : ∀ W m, (convert 3 74 (.int .i64 m)).run Tryd.prog W = .ok (.float .f64 (fl m)) W := fun W m =>
    run_convert_int_float W 3 74 .i64 .f64 m (by rw [Tryd.underlying3]; rfl) Tryd.underlying74
  unfold pv cx
  go_enter Tryd.func15, Tryd.ntmps15
  go_wp2
  go_ret
  exact ⟨rfl, Kept.alloc _ _ _⟩

set_option maxRecDepth 100000 in
set_option maxHeartbeats 400000 in
theorem refBefore_any (w : World) (a b : Pt) :
    Calls Tryd.prog 34 #[pv a, pv b] w fun e w' => e = .returned (.bool (ahead a b)) ∧ Kept (fun _ => False) w w' := by
  unfold pv ahead
  obtain ⟨a1, a2⟩ := a
  obtain ⟨b1, b2⟩ := b
  simp only
  rcases Int.lt_trichotomy a1 b1 with h | h | h
  · have h1 : (a1 < b1) = True := by simp [h]
    have h2 : ¬ a1 = b1 := by omega
    rw [if_neg h2]
    simp only [h, decide_true]
    clear h1 h2
    go_enter Tryd.func34, Tryd.ntmps34
    go_wp2
    go_ret
    exact ⟨rfl, (Kept.alloc _ _ _).and (Kept.alloc _ _ _)⟩
  · subst h
    rw [if_pos rfl]
    go_enter Tryd.func34, Tryd.ntmps34
    go_wp2
    go_ret
    exact ⟨rfl, (Kept.alloc _ _ _).and (Kept.alloc _ _ _)⟩
  · have h2 : ¬ a1 = b1 := by omega
    have h3 : ¬ a1 < b1 := by omega
    have h4 : (a1 == b1) = false := by simpa using h2
    rw [if_neg h2]
    simp only [h3, decide_false]
    go_enter Tryd.func34, Tryd.ntmps34
    go_wp2
    go_ret
    exact ⟨rfl, (Kept.alloc _ _ _).and (Kept.alloc _ _ _)⟩

theorem xor_top (x : Nat) (h : x < 9223372036854775808) : x ^^^ 2 ^ 63 = 9223372036854775808 + x := by
  have h1 := Nat.two_pow_add_eq_or_of_lt (i := 63) (b := x) h 1
  rw [Nat.mul_one] at h1
  have h2 : x ^^^ 2 ^ 63 = 2 ^ 63 ||| x := by
    apply Nat.eq_of_testBit_eq
    intro i
    rw [Nat.testBit_xor, Nat.testBit_or, Nat.testBit_two_pow]
    by_cases hi : 63 = i
    · subst hi
      rw [Nat.testBit_lt_two_pow h]
      simp
    · simp [hi]
  rw [h2, ← h1]

open Ieee in
theorem isF_neg (n : Int) (h0 : 0 ≤ n) (h1 : n < 9007199254740992) : IsF (Op.negFloat .f64 (fl n)) (-n) := by
  have hw : ∃ r, fl n = double.word false r ∧ r < 9223372036854775808 := by
    show ∃ r, double.nearest (decide (n < 0)) n.natAbs 0 = _ ∧ _
    have hd : decide (n < 0) = false := by simp; omega
    rw [hd]
    rcases Nat.eq_zero_or_pos n.natAbs with hz | hz
    · exact ⟨0, by rw [hz]; rfl, by decide⟩
    · have := nearest_up false n.natAbs 0 hz (by omega)
      rw [Nat.pow_zero, Nat.mul_one] at this
      refine ⟨_, this, ?_⟩
      have hv : n.natAbs ≠ 0 := by omega
      have hL : n.natAbs.log2 < 53 := (Nat.log2_lt hv).2 (by omega)
      have hs := (Nat.log2_eq_iff (k := n.natAbs.log2) hv).1 rfl
      have hm1 : n.natAbs * 2 ^ (52 - n.natAbs.log2) < 9007199254740992 := by
        have : n.natAbs * 2 ^ (52 - n.natAbs.log2) < 2 ^ (n.natAbs.log2 + 1) * 2 ^ (52 - n.natAbs.log2) := Nat.mul_lt_mul_of_pos_right hs.2 (Nat.two_pow_pos _)
        rw [← Nat.pow_add] at this
        have e : n.natAbs.log2 + 1 + (52 - n.natAbs.log2) = 53 := by omega
        rw [e] at this
        exact this
      omega
  obtain ⟨r, hr, hlt⟩ := hw
  obtain ⟨s, k, hk, hs⟩ := fl_isF (n := n) (by omega)
  have hneg : Op.negFloat .f64 (fl n) = double.word true r := by
    show fl n ^^^ 2 ^ 63 = _
    rw [hr]
    exact xor_top r hlt
  refine ⟨true, k, ?_, fun h => by simp; omega⟩
  rw [hneg]
  rw [hr] at hk
  have hsw : double.signWeight = 9223372036854775808 := rfl
  have e1 : double.word true r % double.signWeight = r := by
    show (double.signWeight + r) % double.signWeight = r
    rw [hsw]; omega
  have e2 : double.word false r % double.signWeight = r := by
    show r % double.signWeight = r
    rw [hsw]; omega
  have e3 : (double.word true r / double.signWeight % 2 == 1) = true := by
    show ((double.signWeight + r) / double.signWeight % 2 == 1) = true
    rw [hsw]; simp; omega
  unfold Format.read at hk ⊢
  dsimp only at hk ⊢
  rw [e1, e3]
  rw [e2] at hk
  rw [Int.natAbs_neg]
  by_cases c1 : r < double.binade
  · rw [if_pos c1] at hk ⊢
    injection hk with _ a b
    rw [a, b]
  · rw [if_neg c1] at hk ⊢
    by_cases c2 : r < double.infRung
    · rw [if_pos c2] at hk ⊢
      injection hk with _ a b
      rw [a, b]
    · rw [if_neg c2] at hk
      by_cases c3 : r = double.infRung
      · rw [if_pos c3] at hk; cases hk
      · rw [if_neg c3] at hk; cases hk

end Go.Proofs.YtjfgjmiedmpieaaDoor
