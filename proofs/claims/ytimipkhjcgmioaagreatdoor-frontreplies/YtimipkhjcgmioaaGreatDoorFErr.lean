/-
  Refusals: Error, the program's and the document's.
-/
import Derived.Test.YtimipkhjcgmioaaGreatDoorFQuoW
namespace Go.Proofs.YtimipkhjcgmioaaGreatDoor
open Go.RowKit

theorem mkB_cat (a b : List UInt8) : mkB a ++ mkB b = mkB (a ++ b) := by
  apply ByteArray.ext
  rw [ByteArray.data_append]
  show a.toArray ++ b.toArray = (a ++ b).toArray
  simp

theorem run_cat (W : World) (a b : List UInt8) (h : a.length + b.length ≤ 1000000000000000) : (Op.stringOp .add (mkB a) (mkB b)).run Tryz.prog W = .ok (.string (mkB (a ++ b))) W := by
  unfold Op.stringOp
  dsimp only
  rw [if_neg (by rw [mkB_size, mkB_size]; simp [IntKind.max, IntKind.signed, IntKind.bits]; omega), mkB_cat]
  rfl

/-- A refusal's status and word. -/
def refP (n : Int) : Int × List UInt8 :=
  if n = 6 then (404, [110, 111, 110, 101]) else
  if n = 7 then (409, [116, 104, 101, 114, 101]) else
  if n = 11 then (409, [99, 108, 111, 115, 101, 100]) else
  if n = 12 then (409, [115, 116, 97, 116, 101]) else
  if n = 8 then (429, [102, 117, 108, 108]) else
  if n = 9 then (413, [108, 97, 114, 103, 101]) else
  if n = 17 then (400, [110, 97, 109, 101]) else
  if n = 2 then (400, [102, 111, 114, 109]) else
  if n = 1 then (400, [97, 114, 103, 117, 109, 101, 110, 116]) else
  if n = 3 then (503, [115, 116, 111, 114, 97, 103, 101]) else
  if n = 4 then (503, [115, 116, 111, 114, 97, 103, 101]) else
  if n = 13 then (307, [111, 119, 110, 101, 114]) else
  if n = 5 then (307, [111, 119, 110, 101, 114]) else
  (400, [114, 101, 102, 117, 115, 101, 100])

/-- A refusal's body. -/
def errP (n : Int) : List UInt8 := [123, 34, 101, 114, 114, 111, 114, 34, 58, 34] ++ (refP n).2 ++ [34, 125]

set_option maxRecDepth 100000 in
set_option maxHeartbeats 2000000 in
theorem refusal_any (w : World) (n : Int) : Calls Tryz.prog 73 #[.int .i64 n] w fun e w' => e = .returned (.tuple #[.int .i64 (refP n).1, .string (mkB (refP n).2)]) ∧ w' = w := by
  by_cases h6 : n = 6
  · subst h6
    go_enter Tryz.func73, Tryz.ntmps73
    go_wp2
    go_ret2
    exact ⟨rfl, rfl⟩
  by_cases h7 : n = 7
  · subst h7
    go_enter Tryz.func73, Tryz.ntmps73
    go_wp2
    go_ret2
    exact ⟨rfl, rfl⟩
  by_cases h11 : n = 11
  · subst h11
    go_enter Tryz.func73, Tryz.ntmps73
    go_wp2
    go_ret2
    exact ⟨rfl, rfl⟩
  by_cases h12 : n = 12
  · subst h12
    go_enter Tryz.func73, Tryz.ntmps73
    go_wp2
    go_ret2
    exact ⟨rfl, rfl⟩
  by_cases h8 : n = 8
  · subst h8
    go_enter Tryz.func73, Tryz.ntmps73
    go_wp2
    go_ret2
    exact ⟨rfl, rfl⟩
  by_cases h9 : n = 9
  · subst h9
    go_enter Tryz.func73, Tryz.ntmps73
    go_wp2
    go_ret2
    exact ⟨rfl, rfl⟩
  by_cases h17 : n = 17
  · subst h17
    go_enter Tryz.func73, Tryz.ntmps73
    go_wp2
    go_ret2
    exact ⟨rfl, rfl⟩
  by_cases h2 : n = 2
  · subst h2
    go_enter Tryz.func73, Tryz.ntmps73
    go_wp2
    go_ret2
    exact ⟨rfl, rfl⟩
  by_cases h1 : n = 1
  · subst h1
    go_enter Tryz.func73, Tryz.ntmps73
    go_wp2
    go_ret2
    exact ⟨rfl, rfl⟩
  by_cases h3 : n = 3
  · subst h3
    go_enter Tryz.func73, Tryz.ntmps73
    go_wp2
    go_ret2
    exact ⟨rfl, rfl⟩
  by_cases h4 : n = 4
  · subst h4
    go_enter Tryz.func73, Tryz.ntmps73
    go_wp2
    go_ret2
    exact ⟨rfl, rfl⟩
  by_cases h13 : n = 13
  · subst h13
    go_enter Tryz.func73, Tryz.ntmps73
    go_wp2
    go_ret2
    exact ⟨rfl, rfl⟩
  by_cases h5 : n = 5
  · subst h5
    go_enter Tryz.func73, Tryz.ntmps73
    go_wp2
    go_ret2
    exact ⟨rfl, rfl⟩
  have b6 : (n == 6) = false := by rw [beq_eq_false_iff_ne]; exact h6
  have b7 : (n == 7) = false := by rw [beq_eq_false_iff_ne]; exact h7
  have b11 : (n == 11) = false := by rw [beq_eq_false_iff_ne]; exact h11
  have b12 : (n == 12) = false := by rw [beq_eq_false_iff_ne]; exact h12
  have b8 : (n == 8) = false := by rw [beq_eq_false_iff_ne]; exact h8
  have b9 : (n == 9) = false := by rw [beq_eq_false_iff_ne]; exact h9
  have b17 : (n == 17) = false := by rw [beq_eq_false_iff_ne]; exact h17
  have b2 : (n == 2) = false := by rw [beq_eq_false_iff_ne]; exact h2
  have b1 : (n == 1) = false := by rw [beq_eq_false_iff_ne]; exact h1
  have b3 : (n == 3) = false := by rw [beq_eq_false_iff_ne]; exact h3
  have b4 : (n == 4) = false := by rw [beq_eq_false_iff_ne]; exact h4
  have b13 : (n == 13) = false := by rw [beq_eq_false_iff_ne]; exact h13
  have b5 : (n == 5) = false := by rw [beq_eq_false_iff_ne]; exact h5
  have HX : Hid (refP n = (400, [114, 101, 102, 117, 115, 101, 100])) := by
    show refP n = _
    unfold refP
    rw [if_neg h6, if_neg h7, if_neg h11, if_neg h12, if_neg h8, if_neg h9, if_neg h17, if_neg h2, if_neg h1, if_neg h3, if_neg h4, if_neg h13, if_neg h5]
  go_enter Tryz.func73, Tryz.ntmps73
  go_wp2
  go_ret2
  refine ⟨?_, rfl⟩
  rw [HX.out]
  rfl

theorem word_quote (n : Int) : quoteP (mkB (refP n).2) = 34 :: ((refP n).2 ++ [34]) := by
  by_cases h6 : n = 6
  · subst h6; decide +kernel
  by_cases h7 : n = 7
  · subst h7; decide +kernel
  by_cases h11 : n = 11
  · subst h11; decide +kernel
  by_cases h12 : n = 12
  · subst h12; decide +kernel
  by_cases h8 : n = 8
  · subst h8; decide +kernel
  by_cases h9 : n = 9
  · subst h9; decide +kernel
  by_cases h17 : n = 17
  · subst h17; decide +kernel
  by_cases h2 : n = 2
  · subst h2; decide +kernel
  by_cases h1 : n = 1
  · subst h1; decide +kernel
  by_cases h3 : n = 3
  · subst h3; decide +kernel
  by_cases h4 : n = 4
  · subst h4; decide +kernel
  by_cases h13 : n = 13
  · subst h13; decide +kernel
  by_cases h5 : n = 5
  · subst h5; decide +kernel
  have HX : refP n = (400, [114, 101, 102, 117, 115, 101, 100]) := by
    unfold refP
    rw [if_neg h6, if_neg h7, if_neg h11, if_neg h12, if_neg h8, if_neg h9, if_neg h17, if_neg h2, if_neg h1, if_neg h3, if_neg h4, if_neg h13, if_neg h5]
  rw [HX]
  decide +kernel

theorem word_len (n : Int) : (refP n).2.length ≤ 8 := by
  by_cases h6 : n = 6
  · subst h6; decide +kernel
  by_cases h7 : n = 7
  · subst h7; decide +kernel
  by_cases h11 : n = 11
  · subst h11; decide +kernel
  by_cases h12 : n = 12
  · subst h12; decide +kernel
  by_cases h8 : n = 8
  · subst h8; decide +kernel
  by_cases h9 : n = 9
  · subst h9; decide +kernel
  by_cases h17 : n = 17
  · subst h17; decide +kernel
  by_cases h2 : n = 2
  · subst h2; decide +kernel
  by_cases h1 : n = 1
  · subst h1; decide +kernel
  by_cases h3 : n = 3
  · subst h3; decide +kernel
  by_cases h4 : n = 4
  · subst h4; decide +kernel
  by_cases h13 : n = 13
  · subst h13; decide +kernel
  by_cases h5 : n = 5
  · subst h5; decide +kernel
  have HX : refP n = (400, [114, 101, 102, 117, 115, 101, 100]) := by
    unfold refP
    rw [if_neg h6, if_neg h7, if_neg h11, if_neg h12, if_neg h8, if_neg h9, if_neg h17, if_neg h2, if_neg h1, if_neg h3, if_neg h4, if_neg h13, if_neg h5]
  rw [HX]
  decide +kernel

set_option maxRecDepth 100000 in
set_option maxHeartbeats 2000000 in
theorem error_any (w : World) (n : Int) (T : Utf8At w) : Calls Tryz.prog 37 #[.int .i64 n] w fun e w' => e = .returned (.tuple #[.int .i64 (refP n).1, .string (mkB (errP n))]) ∧ Kept (fun _ => False) w w' := by
  have hR := refusal_any w n
  have hQ := quote_any w (mkB (refP n).2) (by rw [mkB_size]; have := word_len n; omega) T
  rw [word_quote] at hQ
  have hl := word_len n
  have c1 : ∀ W, (Op.stringOp .add ⟨#[123, 34, 101, 114, 114, 111, 114, 34, 58]⟩ (mkB (34 :: ((refP n).2 ++ [34])))).run Tryz.prog W = .ok (.string (mkB ([123, 34, 101, 114, 114, 111, 114, 34, 58] ++ (34 :: ((refP n).2 ++ [34]))))) W := fun W => run_cat W [123, 34, 101, 114, 114, 111, 114, 34, 58] _ (by simp; omega)
  have c2 : ∀ W, (Op.stringOp .add (mkB ([123, 34, 101, 114, 114, 111, 114, 34, 58] ++ (34 :: ((refP n).2 ++ [34])))) ⟨#[125]⟩).run Tryz.prog W = .ok (.string (mkB (errP n))) W := fun W => by
    have := run_cat W ([123, 34, 101, 114, 114, 111, 114, 34, 58] ++ (34 :: ((refP n).2 ++ [34]))) [125] (by simp; omega)
    rw [show ([123, 34, 101, 114, 114, 111, 114, 34, 58] ++ (34 :: ((refP n).2 ++ [34]))) ++ [125] = errP n by unfold errP; simp] at this
    exact this
  generalize mkB (errP n) = z2 at *
  generalize mkB ([123, 34, 101, 114, 114, 111, 114, 34, 58] ++ (34 :: ((refP n).2 ++ [34]))) = z1 at *
  generalize mkB (34 :: ((refP n).2 ++ [34])) = z0 at *
  generalize mkB (refP n).2 = wd at *
  generalize (refP n).1 = st at *
  clear hl
  go_enter Tryz.func37, Tryz.ntmps37
  go_wp2_with (first
    | (go_at_call 73; refine hR.mono ?_; rintro e w1 ⟨rfl, hw1⟩; subst w1; clear hR)
    | (go_at_call 29; refine hQ.mono ?_; rintro e w1 ⟨rfl, K1⟩; clear hQ)
    | fail)
  go_ret2
  exact ⟨rfl, K1⟩

set_option maxRecDepth 100000 in
set_option maxHeartbeats 2000000 in
theorem refError_any (w : World) (n : Int) : Calls Tryz.prog 38 #[.int .i64 n] w fun e w' => e = .returned (.tuple #[.int .i64 (refP n).1, .string (mkB (errP n))]) ∧ w' = w := by
  by_cases h6 : n = 6
  · subst h6
    go_enter Tryz.func38, Tryz.ntmps38
    go_wp2
    go_ret2
    exact ⟨rfl, rfl⟩
  by_cases h7 : n = 7
  · subst h7
    go_enter Tryz.func38, Tryz.ntmps38
    go_wp2
    go_ret2
    exact ⟨rfl, rfl⟩
  by_cases h11 : n = 11
  · subst h11
    go_enter Tryz.func38, Tryz.ntmps38
    go_wp2
    go_ret2
    exact ⟨rfl, rfl⟩
  by_cases h12 : n = 12
  · subst h12
    go_enter Tryz.func38, Tryz.ntmps38
    go_wp2
    go_ret2
    exact ⟨rfl, rfl⟩
  by_cases h8 : n = 8
  · subst h8
    go_enter Tryz.func38, Tryz.ntmps38
    go_wp2
    go_ret2
    exact ⟨rfl, rfl⟩
  by_cases h9 : n = 9
  · subst h9
    go_enter Tryz.func38, Tryz.ntmps38
    go_wp2
    go_ret2
    exact ⟨rfl, rfl⟩
  by_cases h17 : n = 17
  · subst h17
    go_enter Tryz.func38, Tryz.ntmps38
    go_wp2
    go_ret2
    exact ⟨rfl, rfl⟩
  by_cases h2 : n = 2
  · subst h2
    go_enter Tryz.func38, Tryz.ntmps38
    go_wp2
    go_ret2
    exact ⟨rfl, rfl⟩
  by_cases h1 : n = 1
  · subst h1
    go_enter Tryz.func38, Tryz.ntmps38
    go_wp2
    go_ret2
    exact ⟨rfl, rfl⟩
  by_cases h3 : n = 3
  · subst h3
    go_enter Tryz.func38, Tryz.ntmps38
    go_wp2
    go_ret2
    exact ⟨rfl, rfl⟩
  by_cases h4 : n = 4
  · subst h4
    go_enter Tryz.func38, Tryz.ntmps38
    go_wp2
    go_ret2
    exact ⟨rfl, rfl⟩
  by_cases h13 : n = 13
  · subst h13
    go_enter Tryz.func38, Tryz.ntmps38
    go_wp2
    go_ret2
    exact ⟨rfl, rfl⟩
  by_cases h5 : n = 5
  · subst h5
    go_enter Tryz.func38, Tryz.ntmps38
    go_wp2
    go_ret2
    exact ⟨rfl, rfl⟩
  have b6 : (n == 6) = false := by rw [beq_eq_false_iff_ne]; exact h6
  have b7 : (n == 7) = false := by rw [beq_eq_false_iff_ne]; exact h7
  have b11 : (n == 11) = false := by rw [beq_eq_false_iff_ne]; exact h11
  have b12 : (n == 12) = false := by rw [beq_eq_false_iff_ne]; exact h12
  have b8 : (n == 8) = false := by rw [beq_eq_false_iff_ne]; exact h8
  have b9 : (n == 9) = false := by rw [beq_eq_false_iff_ne]; exact h9
  have b17 : (n == 17) = false := by rw [beq_eq_false_iff_ne]; exact h17
  have b2 : (n == 2) = false := by rw [beq_eq_false_iff_ne]; exact h2
  have b1 : (n == 1) = false := by rw [beq_eq_false_iff_ne]; exact h1
  have b3 : (n == 3) = false := by rw [beq_eq_false_iff_ne]; exact h3
  have b4 : (n == 4) = false := by rw [beq_eq_false_iff_ne]; exact h4
  have b13 : (n == 13) = false := by rw [beq_eq_false_iff_ne]; exact h13
  have b5 : (n == 5) = false := by rw [beq_eq_false_iff_ne]; exact h5
  have HX : Hid (refP n = (400, [114, 101, 102, 117, 115, 101, 100])) := by
    show refP n = _
    unfold refP
    rw [if_neg h6, if_neg h7, if_neg h11, if_neg h12, if_neg h8, if_neg h9, if_neg h17, if_neg h2, if_neg h1, if_neg h3, if_neg h4, if_neg h13, if_neg h5]
  go_enter Tryz.func38, Tryz.ntmps38
  go_wp2
  go_ret2
  refine ⟨?_, rfl⟩
  unfold errP
  rw [HX.out]
  rfl

end Go.Proofs.YtimipkhjcgmioaaGreatDoor
