/-
  CodecBounds holds for every two numbers: the law's call returns true. No condition.
-/
import Derived.Test.YtnmdjdpceegdfacCWakes
import Derived.Test.YtnmdjdpceegdfacCRefWr
namespace Go.Proofs.Ytnmdjdpceegdfac
open Go.ChangeShapes Go.WideShapes Go.ChangeAt Go.RowKit

theorem Ans.kept {S : Nat → Prop} {w w' : World} {base : Nat} {st : Option (List Int)} {a : Option Addr} {l c : Nat} {e : Int} (h : Ans w base st a l c e) (K : Kept S w w') (hS : ∀ k, S k → k < base ∨ w.heap.size ≤ k) : Ans w' base st a l c e :=
  ⟨ownsRow_block' h.row (fun k hk => K.block k (h.row.lt k hk).2 (fun hs => by have := hS k hs; have := h.row.lt k hk; omega)), h.len, h.err, h.bs⟩

theorem numB_second {n : Nat} (hn : n ≤ 4503599627370496) (h : 1 < (numB n).length) : (numB n).getD 1 0 ≠ 0 := by
  rw [numB_length] at h
  obtain ⟨j, hj⟩ : ∃ j, sz n = j + 1 := ⟨sz n - 1, by omega⟩
  have h1 := sz_low (n := n) (by omega)
  have h2 := sz_lt hn
  have hg1 : (numB n).getD 1 0 = ((n / 256 ^ j % 256 : Nat) : Int) := by rw [numB, hj]; rfl
  rw [hg1]
  rw [hj] at h1 h2
  simp only [Nat.add_sub_cancel] at h1
  have h3 : n / 256 ^ j < 256 := Nat.div_lt_of_lt_mul (by rw [Nat.pow_succ] at h2; exact h2)
  have h4 : 0 < n / 256 ^ j := Nat.div_pos h1 (Nat.pow_pos (by decide))
  rw [Nat.mod_eq_of_lt h3]
  omega

theorem wr_some {n : Int} {enc : List Int} (h : wrNum 0 4503599627370496 n = some enc) : 0 ≤ n ∧ n ≤ 4503599627370496 ∧ 1 ≤ enc.length ∧ enc.length ≤ 8 ∧ (1 < enc.length → enc.getD 1 0 ≠ 0) := by
  unfold wrNum at h
  split at h
  · rename_i hr
    simp only [Option.some.injEq] at h
    subst h
    have := sz_le n.toNat
    refine ⟨hr.1, hr.2, by rw [numB_length]; omega, by rw [numB_length]; omega, numB_second (by omega)⟩
  · cases h

theorem wr_none {n : Int} (h : wrNum 0 4503599627370496 n = none) : n < 0 ∨ 4503599627370496 < n := by
  unfold wrNum at h
  split at h
  · cases h
  · omega

theorem pow7 {j : Nat} (hj : j ≤ 6) : (256 : Int) ^ j ≤ 281474976710656 ∧ 1 ≤ (256 : Int) ^ j := by
  have hc : j = 0 ∨ j = 1 ∨ j = 2 ∨ j = 3 ∨ j = 4 ∨ j = 5 ∨ j = 6 := by omega
  rcases hc with rfl | rfl | rfl | rfl | rfl | rfl | rfl <;> decide

set_option maxRecDepth 100000 in
set_option maxHeartbeats 2000000 in
theorem bounds_walk (k by_ : Int) (w : World) (_ : isI64 k) (_ : isI64 by_) :
    Calls Try.prog 3 #[.int .i64 k, .int .i64 by_] w fun e w' => e = .returned (.bool true) ∧ Below w.heap.size w w' := by
  have n0 := Int.emod_nonneg k (by decide : (7 : Int) ≠ 0)
  have n1 := Int.emod_lt_of_pos k (by decide : (0 : Int) < 7)
  have k0 := Int.emod_nonneg by_ (by decide : (5 : Int) ≠ 0)
  have k1 := Int.emod_lt_of_pos by_ (by decide : (0 : Int) < 5)
  have hw1 : ∀ W, Calls Try.prog 5 #[.int .i64 k, .int .i64 7] W fun e w' => e = .returned (.int .i64 (k % 7)) ∧ w' = W := fun W => within_any W k 7 (by decide) (by decide)
  have hw2 : ∀ W, Calls Try.prog 5 #[.int .i64 by_, .int .i64 5] W fun e w' => e = .returned (.int .i64 (by_ % 5)) ∧ w' = W := fun W => within_any W by_ 5 (by decide) (by decide)
  generalize k % 7 = kk at *
  generalize by_ % 5 = bb at *
  go_enter Try.func3, Try.ntmps3
  go_wp2
  go_loopw [5, 6] (fun n i wr => ∃ (j : Nat) (z : Int), (j : Int) ≤ kk ∧ i = .int .i64 j ∧ n = .int .i64 z ∧ z = (256 : Int) ^ j ∧ wr = w) (fun _ i _ => 10 - (intOf i).toNat)
  case atStart => exact ⟨0, 1, n0, rfl, rfl, by decide, rfl⟩
  case round =>
    obtain ⟨j, z, hj, rfl, rfl, hz, hwr⟩ := hrel
    subst wr
    by_cases hlt : (j : Int) < kk
    · have hp := pow7 (j := j + 1) (by omega)
      have hze : z * 256 = (256 : Int) ^ (j + 1) := by rw [hz, Int.pow_succ]
      have HZ : Hid (z * 256 = (256 : Int) ^ (j + 1)) := hze
      have hz1 : 0 ≤ z * 256 ∧ z * 256 ≤ 281474976710656 := by rw [hze]; omega
      clear hz hp hze
      go_wp2_with (first
        | (go_at_call 5; refine (hw1 _).mono ?_; rintro e w1 ⟨rfl, hw1'⟩; subst w1)
        | fail)
      go_roundw
      case rel => exact ⟨j + 1, z * 256, by omega, by go_num, rfl, HZ.out, trivial⟩
      case measure => simp [intOf]; omega
    · have hp := pow7 (j := j) (by omega)
      rw [← hz] at hp
      clear hz
      go_wp2_with (first
        | (go_at_call 5; have _t := hw1; refine (hw1 _).mono ?_; rintro e w1 ⟨rfl, hw1'⟩; subst w1; clear hw1 _t)
        | (go_at_call 5; refine (hw2 _).mono ?_; rintro e w1 ⟨rfl, hw1'⟩; subst w1)
        | fail)
      go_loopw [5, 7] (fun n i wr => ∃ (j : Nat) (z : Int), j ≤ 2 ∧ i = .int .i64 j ∧ n = .int .i64 z ∧ -2 ≤ z ∧ z ≤ 4503599627370500 ∧ Kept (fun _ => False) w wr) (fun _ i _ => 2 - (intOf i).toNat)
      case atStart => exact ⟨0, _, Nat.zero_le _, rfl, rfl, by omega, by omega, Kept.refl _ _⟩
      case round =>
        obtain ⟨j2, z2, hj2, rfl, rfl, hz0, hz1, K⟩ := hrel
        by_cases hj3 : j2 < 2
        · have h1 := number_any wr z2
          have h2 : ∀ w1, _ := fun w1 => refNumber_any w1 z2
          cases hst : wrNum 0 4503599627370496 z2 with
          | none =>
            rw [hst] at h1 h2
            have hr := wr_none hst
            clear hst
            go_wp2_with (first
              | (go_at_call 6; refine h1.mono ?_; rintro e w1 ⟨a1, l1, c1, er1, rfl, A1, K1⟩; obtain rfl : er1 = 2 := A1.err; obtain rfl : 0 = l1 := A1.len; clear h1)
              | (go_at_call 7; refine (h2 w1).mono ?_; rintro e w2 ⟨a2, l2, c2, er2, rfl, A2, K2⟩; obtain rfl : er2 = 2 := A2.err; obtain rfl : 0 = l2 := A2.len; have s1 := (A1.kept K2 (fun _ h => h.elim)).bytes.str; have s2 := A2.bytes.str; have K12 := (K.and K1).and K2; simp only [Option.getD_none] at s1 s2; clear h2 A1 A2 K1 K2)
              | (go_at_call 5; refine (hw2 _).mono ?_; rintro e w1 ⟨rfl, hw1'⟩; subst w1)
              | fail)
            all_goals
              go_roundw
              case rel => exact ⟨j2 + 1, _, by omega, by go_num, rfl, by omega, by omega, K12⟩
              case measure => simp [intOf]; omega
          | some enc =>
            rw [hst] at h1 h2
            obtain ⟨r0, r1, r2, r3, r4⟩ := wr_some hst
            have r2' : (1 : Int) ≤ (enc.length : Int) := by omega
            have r3' : (enc.length : Int) ≤ 8 := by omega
            clear hst
            by_cases hl : 1 < enc.length
            · have hne := r4 hl
              have hne2 : (enc.getD 1 0 == 0) = false := by simpa using hne
              have hl2 : (1 : Int) < (enc.length : Int) := by omega
              go_wp2_with (first
                | (go_at_call 6; refine h1.mono ?_; rintro e w1 ⟨a1, l1, c1, er1, rfl, A1, K1⟩; obtain rfl : er1 = 0 := A1.err; obtain rfl : enc.length = l1 := A1.len; clear h1)
                | (go_at_call 7; refine (h2 w1).mono ?_; rintro e w2 ⟨a2, l2, c2, er2, rfl, A2, K2⟩; obtain rfl : er2 = 0 := A2.err; obtain rfl : enc.length = l2 := A2.len; have B1 := (A1.kept K2 (fun _ h => h.elim)).bytes; have s1 := B1.str; have s2 := A2.bytes.str; simp only [Option.getD_some] at s1 s2 B1; obtain ⟨ba, oa, rfl, hc⟩ := B1.at (j := 1) hl; have x1 := hc 1 hl; generalize enc.getD 1 0 = xx at *; have K12 := (K.and K1).and K2; clear h2 A1 A2 K1 K2 B1 hc r4 hne)
                | (go_at_call 5; refine (hw2 _).mono ?_; rintro e w1 ⟨rfl, hw1'⟩; subst w1)
                | fail)
              all_goals
                go_roundw
                case rel => exact ⟨j2 + 1, _, by omega, by go_num, rfl, by omega, by omega, K12⟩
                case measure => simp [intOf]; omega
            · have hl2 : ¬ (1 : Int) < (enc.length : Int) := by omega
              clear r4
              go_wp2_with (first
                | (go_at_call 6; refine h1.mono ?_; rintro e w1 ⟨a1, l1, c1, er1, rfl, A1, K1⟩; obtain rfl : er1 = 0 := A1.err; obtain rfl : enc.length = l1 := A1.len; clear h1)
                | (go_at_call 7; refine (h2 w1).mono ?_; rintro e w2 ⟨a2, l2, c2, er2, rfl, A2, K2⟩; obtain rfl : er2 = 0 := A2.err; obtain rfl : enc.length = l2 := A2.len; have s1 := (A1.kept K2 (fun _ h => h.elim)).bytes.str; have s2 := A2.bytes.str; have K12 := (K.and K1).and K2; simp only [Option.getD_some] at s1 s2; clear h2 A1 A2 K1 K2)
                | (go_at_call 5; refine (hw2 _).mono ?_; rintro e w1 ⟨rfl, hw1'⟩; subst w1)
                | fail)
              all_goals
                go_roundw
                case rel => exact ⟨j2 + 1, _, by omega, by go_num, rfl, by omega, by omega, K12⟩
                case measure => simp [intOf]; omega
        · clear hw2
          go_wp2_with (first
            | (go_at_call 8; refine (wakes_any _).mono ?_; rintro e w5 ⟨rfl, K5⟩)
            | fail)
          go_ret
          exact ⟨rfl, (K.and K5).none⟩

end Go.Proofs.Ytnmdjdpceegdfac
