/-
  Whole numbers as floats: those of fewer than 2^53 are added, multiplied, compared and cut exactly; their complex numbers.
-/
import Derived.Laws.ComplexArith
import Derived.WalkKit
namespace Go.Proofs.YtdecceekodpjiaaDoor
open Ieee

/-- The word stands for the whole number n (a nought has either sign). -/
def IsF (x : Nat) (n : Int) : Prop := ∃ (s : Bool) (k : Nat), double.read x = .number s (n.natAbs * 2 ^ k) (-(k : Int)) ∧ (n ≠ 0 → s = decide (n < 0))

theorem log2_up (v k : Nat) (h : v ≠ 0) : (v * 2 ^ k).log2 = v.log2 + k := by
  have hk : 0 < 2 ^ k := Nat.two_pow_pos k
  have hv : v * 2 ^ k ≠ 0 := Nat.ne_of_gt (Nat.mul_pos (Nat.pos_of_ne_zero h) hk)
  rw [Nat.log2_eq_iff hv]
  have h1 := (Nat.log2_eq_iff (k := v.log2) h).1 rfl
  constructor
  · rw [Nat.pow_add]; exact Nat.mul_le_mul_right _ h1.1
  · have : v.log2 + k + 1 = v.log2 + 1 + k := by omega
    rw [this, Nat.pow_add (m := v.log2 + 1)]
    exact Nat.mul_lt_mul_of_pos_right h1.2 hk

theorem cut_up (way : Toward) (neg : Bool) (a d : Nat) : way.cut neg (a * 2 ^ d) d = a := by
  have hd : 0 < 2 ^ d := Nat.two_pow_pos d
  by_cases h : a = 0
  · subst h
    have hz : ∀ g : Nat, 0 < g → (match way with | .even => decide (g < 2 * (0 % g)) || (g == 2 * (0 % g) && 0 / g % 2 == 1) | .down => neg && (0 % g) != 0 | .up => !neg && (0 % g) != 0 | .zero => false : Bool) = false := by
      intro g hg
      cases way <;> simp
    have hg : 0 < 1 <<< min d ((0 : Nat).log2 + 2) := by rw [Nat.one_shiftLeft]; exact Nat.two_pow_pos _
    unfold Toward.cut
    rw [Nat.zero_mul]
    dsimp only
    rw [Nat.zero_div, Nat.zero_mod]
    have := hz _ hg
    rw [Nat.zero_mod, Nat.zero_div] at this
    cases way <;> simp_all
  · have hm : min d ((a * 2 ^ d).log2 + 2) = d := by rw [log2_up a d h]; omega
    unfold Toward.cut
    rw [hm]
    dsimp only
    rw [Nat.one_shiftLeft, Nat.mul_div_cancel _ hd, Nat.mul_mod_left]
    cases way <;> simp <;> omega

theorem word_read (neg : Bool) (L m : Nat) (hL : L ≤ 52) (h0 : 4503599627370496 ≤ m) (h1 : m < 9007199254740992) :
    double.read (double.word neg ((L + 1022) * 4503599627370496 + m)) = .number neg m (-((52 - L : Nat) : Int)) := by
  have hs : double.signWeight = 9223372036854775808 := rfl
  have hb : double.binade = 4503599627370496 := rfl
  have hi : double.infRung = 9218868437227405312 := rfl
  have hl : double.leastPlace = -1074 := rfl
  have hneg : (double.word neg ((L + 1022) * 4503599627370496 + m) / double.signWeight % 2 == 1) = neg := by
    unfold Format.word
    rw [hs]
    cases neg
    · simp; omega
    · simp; omega
  have hr : double.word neg ((L + 1022) * 4503599627370496 + m) % double.signWeight = (L + 1022) * 4503599627370496 + m := by
    unfold Format.word
    rw [hs]
    cases neg
    · simp; omega
    · simp; omega
  unfold Format.read
  dsimp only
  rw [hneg, hr, hb, hi, hl]
  rw [if_neg (by omega), if_pos (by omega)]
  have e1 : ((L + 1022) * 4503599627370496 + m) % 4503599627370496 = m - 4503599627370496 := by omega
  have e2 : ((L + 1022) * 4503599627370496 + m) / 4503599627370496 = L + 1023 := by omega
  have e3 : 4503599627370496 + (m - 4503599627370496) = m := by omega
  have e4 : (-1074 : Int) + ((L + 1023 - 1 : Nat) : Int) = -((52 - L : Nat) : Int) := by omega
  rw [e1, e2, e3, e4]

theorem read_zero (neg : Bool) : ∃ k : Nat, double.read (double.word neg 0) = .number neg 0 (-(k : Int)) := ⟨1074, by cases neg <;> rfl⟩

theorem nearest_up (neg : Bool) (v k : Nat) (h0 : 0 < v) (h1 : v < 9007199254740992) :
    double.nearest neg (v * 2 ^ k) (-(k : Int)) = double.word neg ((v.log2 + 1022) * 4503599627370496 + v * 2 ^ (52 - v.log2)) := by
  have hv : v ≠ 0 := by omega
  have hk : 0 < 2 ^ k := Nat.two_pow_pos k
  have hvk : v * 2 ^ k ≠ 0 := Nat.ne_of_gt (Nat.mul_pos h0 hk)
  have hL : v.log2 < 53 := (Nat.log2_lt hv).2 h1
  have hlg := log2_up v k hv
  have hs := (Nat.log2_eq_iff (k := v.log2) hv).1 rfl
  have hb : double.binade = 4503599627370496 := rfl
  have hi : double.infRung = 9218868437227405312 := rfl
  have hl : double.leastPlace = -1074 := rfl
  have hf : double.fractionBits = 52 := rfl
  have hlast : max (-(k : Int) + ((v * 2 ^ k).log2 : Nat) - (double.fractionBits : Nat)) double.leastPlace = (v.log2 : Int) - 52 := by
    rw [hlg, hl, hf]; omega
  have hm1 : v * 2 ^ (52 - v.log2) < 9007199254740992 := by
    have : v * 2 ^ (52 - v.log2) < 2 ^ (v.log2 + 1) * 2 ^ (52 - v.log2) := Nat.mul_lt_mul_of_pos_right hs.2 (Nat.two_pow_pos _)
    rw [← Nat.pow_add] at this
    have e : v.log2 + 1 + (52 - v.log2) = 53 := by omega
    rw [e] at this
    exact this
  have hcut : Toward.even.cut neg ((v * 2 ^ k) <<< (-(k : Int) - ((v.log2 : Int) - 52)).toNat) ((v.log2 : Int) - 52 - -(k : Int)).toNat = v * 2 ^ (52 - v.log2) := by
    rw [Nat.shiftLeft_eq]
    by_cases hc : 52 - v.log2 ≤ k
    · have e1 : (-(k : Int) - ((v.log2 : Int) - 52)).toNat = 0 := by omega
      have e2 : ((v.log2 : Int) - 52 - -(k : Int)).toNat = k - (52 - v.log2) := by omega
      rw [e1, e2, Nat.pow_zero, Nat.mul_one]
      have e3 : v * 2 ^ k = v * 2 ^ (52 - v.log2) * 2 ^ (k - (52 - v.log2)) := by
        rw [Nat.mul_assoc, ← Nat.pow_add]
        congr 2; omega
      rw [e3, cut_up]
    · have e1 : (-(k : Int) - ((v.log2 : Int) - 52)).toNat = 52 - v.log2 - k := by omega
      have e2 : ((v.log2 : Int) - 52 - -(k : Int)).toNat = 0 := by omega
      rw [e1, e2, Nat.mul_assoc, ← Nat.pow_add]
      have e3 : k + (52 - v.log2 - k) = 52 - v.log2 := by omega
      rw [e3]
      have := cut_up .even neg (v * 2 ^ (52 - v.log2)) 0
      rwa [Nat.pow_zero, Nat.mul_one] at this
  unfold Format.nearest
  rw [if_neg hvk]
  dsimp only
  rw [hlast, hcut, hl, hb, hi]
  have e4 : ((v.log2 : Int) - 52 - -1074).toNat = v.log2 + 1022 := by omega
  rw [e4, Nat.min_eq_left (by omega)]

theorem read_up (neg : Bool) (v k : Nat) (h0 : 0 < v) (h1 : v < 9007199254740992) :
    ∃ j : Nat, double.read (double.nearest neg (v * 2 ^ k) (-(k : Int))) = .number neg (v * 2 ^ j) (-(j : Int)) := by
  have hv : v ≠ 0 := by omega
  have hL : v.log2 < 53 := (Nat.log2_lt hv).2 h1
  have hs := (Nat.log2_eq_iff (k := v.log2) hv).1 rfl
  refine ⟨52 - v.log2, ?_⟩
  rw [nearest_up neg v k h0 h1]
  refine word_read neg v.log2 _ (by omega) ?_ ?_
  · have : 2 ^ v.log2 * 2 ^ (52 - v.log2) ≤ v * 2 ^ (52 - v.log2) := Nat.mul_le_mul_right _ hs.1
    rw [← Nat.pow_add] at this
    have e : v.log2 + (52 - v.log2) = 52 := by omega
    rw [e] at this
    exact this
  · have : v * 2 ^ (52 - v.log2) < 2 ^ (v.log2 + 1) * 2 ^ (52 - v.log2) := Nat.mul_lt_mul_of_pos_right hs.2 (Nat.two_pow_pos _)
    rw [← Nat.pow_add] at this
    have e : v.log2 + 1 + (52 - v.log2) = 53 := by omega
    rw [e] at this
    exact this

/-- What is written of a whole number stands for it. -/
theorem isF_write (s : Bool) (n : Int) (k : Nat) (hn : n.natAbs < 9007199254740992) (hs : n ≠ 0 → s = decide (n < 0)) : IsF (double.write (.number s (n.natAbs * 2 ^ k) (-(k : Int)))) n := by
  by_cases h : n = 0
  · subst h
    obtain ⟨j, hj⟩ := read_zero s
    refine ⟨s, j, ?_, fun h => absurd rfl h⟩
    show double.read (double.nearest s ((0 : Int).natAbs * 2 ^ k) _) = _
    have e : (0 : Int).natAbs * 2 ^ k = 0 := by simp
    rw [e]
    unfold Format.nearest
    rw [if_pos rfl, hj, Int.natAbs_zero, Nat.zero_mul]
  · obtain ⟨j, hj⟩ := read_up s n.natAbs k (by omega) hn
    exact ⟨s, j, hj, hs⟩

theorem isF_int (n : Int) (hn : n.natAbs < 9007199254740992) : IsF (floatOfInt .f64 n) n := by
  have := isF_write (decide (n < 0)) n 0 hn (fun _ => rfl)
  rw [Nat.pow_zero, Nat.mul_one] at this
  exact this

theorem signed_up (s : Bool) (n : Int) (k u : Nat) (hs : n ≠ 0 → s = decide (n < 0)) : signed s (n.natAbs * 2 ^ k) u = n * ((2 ^ (k + u) : Nat) : Int) := by
  unfold signed
  rw [Nat.shiftLeft_eq, Nat.mul_assoc, ← Nat.pow_add]
  by_cases h : n = 0
  · subst h; simp
  · rw [hs h]
    by_cases hn : n < 0
    · have e : ((n.natAbs : Nat) : Int) = -n := by omega
      simp only [hn, decide_true, if_true]
      rw [Int.natCast_mul, e, Int.neg_mul, Int.neg_neg]
    · have e : ((n.natAbs : Nat) : Int) = n := by omega
      simp only [hn, decide_false]
      rw [if_neg (by simp), Int.natCast_mul, e]

theorem base_up (i j : Nat) : ∃ u t : Nat, i + u = j + t ∧ (-(i : Int) - min (-(i : Int)) (-(j : Int))).toNat = u ∧ (-(j : Int) - min (-(i : Int)) (-(j : Int))).toNat = t ∧ min (-(i : Int)) (-(j : Int)) = -((i + u : Nat) : Int) := by
  by_cases h : i ≤ j
  · exact ⟨j - i, 0, by omega, by omega, by omega, by omega⟩
  · exact ⟨0, i - j, by omega, by omega, by omega, by omega⟩

theorem sum_up (s t : Bool) (a b : Int) (i j : Nat) (hs : a ≠ 0 → s = decide (a < 0)) (ht : b ≠ 0 → t = decide (b < 0)) (hn : (a + b).natAbs < 9007199254740992) :
    ∃ d, (Datum.number s (a.natAbs * 2 ^ i) (-(i : Int))).sum (.number t (b.natAbs * 2 ^ j) (-(j : Int))) = some d ∧ IsF (double.write d) (a + b) := by
  obtain ⟨u, v, huv, e1, e2, e3⟩ := base_up i j
  refine ⟨_, rfl, ?_⟩
  rw [e1, e2, signed_up s a i u hs, signed_up t b j v ht, ← huv, ← Int.add_mul, e3]
  have hp : 0 < 2 ^ (i + u) := Nat.two_pow_pos _
  have hpi : (0 : Int) < ((2 ^ (i + u) : Nat) : Int) := by omega
  have e4 : ((a + b) * ((2 ^ (i + u) : Nat) : Int)).natAbs = (a + b).natAbs * 2 ^ (i + u) := by
    rw [Int.natAbs_mul, Int.natAbs_natCast]
  rw [e4]
  refine isF_write _ (a + b) (i + u) hn fun h => ?_
  rw [if_neg (fun hz => by rcases Int.mul_eq_zero.1 hz with h' | h' <;> omega)]
  congr 1
  apply propext
  constructor
  · intro hlt
    by_cases hc : a + b < 0
    · exact hc
    · have := Int.mul_nonneg (show 0 ≤ a + b by omega) (Int.le_of_lt hpi)
      omega
  · intro hlt
    exact Int.mul_neg_of_neg_of_pos hlt hpi

theorem isF_add {x y : Nat} {a b : Int} (hx : IsF x a) (hy : IsF y b) (hn : (a + b).natAbs < 9007199254740992) : ∃ r, floatBits .add .f64 x y = some r ∧ IsF r (a + b) := by
  obtain ⟨s, i, ex, hs⟩ := hx
  obtain ⟨t, j, ey, ht⟩ := hy
  obtain ⟨d, hd, hr⟩ := sum_up s t a b i j hs ht hn
  refine ⟨double.write d, ?_, hr⟩
  show ((double.read x).sum (double.read y)).map double.write = _
  rw [ex, ey, hd]; rfl

theorem isF_sub {x y : Nat} {a b : Int} (hx : IsF x a) (hy : IsF y b) (hn : (a - b).natAbs < 9007199254740992) : ∃ r, floatBits .sub .f64 x y = some r ∧ IsF r (a - b) := by
  obtain ⟨s, i, ex, hs⟩ := hx
  obtain ⟨t, j, ey, ht⟩ := hy
  have hn' : (a + -b).natAbs < 9007199254740992 := hn
  obtain ⟨d, hd, hr⟩ := sum_up s (!t) a (-b) i j hs (fun h => by
    have hb : b ≠ 0 := by omega
    rw [ht hb]
    by_cases h1 : b < 0
    · simp [h1]; omega
    · simp [h1]; omega) hn'
  refine ⟨double.write d, ?_, hr⟩
  show ((double.read x).sum (double.read y).opposite).map double.write = _
  rw [Int.natAbs_neg] at hd
  rw [ex, ey]
  show ((Datum.number s (a.natAbs * 2 ^ i) (-(i : Int))).sum (Datum.number (!t) (b.natAbs * 2 ^ j) (-(j : Int)))).map double.write = _
  rw [hd]; rfl

theorem isF_mul {x y : Nat} {a b : Int} (hx : IsF x a) (hy : IsF y b) (hn : (a * b).natAbs < 9007199254740992) : ∃ r, floatBits .mul .f64 x y = some r ∧ IsF r (a * b) := by
  obtain ⟨s, i, ex, hs⟩ := hx
  obtain ⟨t, j, ey, ht⟩ := hy
  refine ⟨double.write (.number (s ^^ t) ((a * b).natAbs * 2 ^ (i + j)) (-((i + j : Nat) : Int))), ?_, isF_write _ _ _ hn fun h => ?_⟩
  · show ((double.read x).product (double.read y)).map double.write = _
    rw [ex, ey]
    show some (double.write (.number (s ^^ t) (a.natAbs * 2 ^ i * (b.natAbs * 2 ^ j)) (-(i : Int) + -(j : Int)))) = _
    have e1 : a.natAbs * 2 ^ i * (b.natAbs * 2 ^ j) = (a * b).natAbs * 2 ^ (i + j) := by
      rw [Int.natAbs_mul, Nat.pow_add]
      simp only [Nat.mul_assoc, Nat.mul_left_comm]
    have e2 : -(i : Int) + -(j : Int) = -((i + j : Nat) : Int) := by omega
    rw [e1, e2]
  · have ha : a ≠ 0 := fun e => h (by rw [e, Int.zero_mul])
    have hb : b ≠ 0 := fun e => h (by rw [e, Int.mul_zero])
    rw [hs ha, ht hb]
    by_cases h1 : a < 0 <;> by_cases h2 : b < 0
    · have : 0 < a * b := Int.mul_pos_of_neg_of_neg h1 h2
      have : ¬ (a * b < 0) := by omega
      simp [h1, h2, this]
    · have : a * b < 0 := Int.mul_neg_of_neg_of_pos h1 (by omega)
      simp [h1, h2, this]
    · have : a * b < 0 := Int.mul_neg_of_pos_of_neg (by omega) h2
      simp [h1, h2, this]
    · have : 0 < a * b := Int.mul_pos (by omega) (by omega)
      have : ¬ (a * b < 0) := by omega
      simp [h1, h2, this]

theorem isF_order {x y : Nat} {a b : Int} (hx : IsF x a) (hy : IsF y b) : double.order x y = some (compare a b) := by
  obtain ⟨s, i, ex, hs⟩ := hx
  obtain ⟨t, j, ey, ht⟩ := hy
  obtain ⟨u, v, huv, e1, e2, e3⟩ := base_up i j
  show (double.read x).order (double.read y) = _
  rw [ex, ey]
  show some (compare (signed s (a.natAbs * 2 ^ i) (-(i : Int) - min (-(i : Int)) (-(j : Int))).toNat) (signed t (b.natAbs * 2 ^ j) (-(j : Int) - min (-(i : Int)) (-(j : Int))).toNat)) = _
  rw [e1, e2, signed_up s a i u hs, signed_up t b j v ht, ← huv]
  have hp : 0 < 2 ^ (i + u) := Nat.two_pow_pos _
  have hpi : (0 : Int) < ((2 ^ (i + u) : Nat) : Int) := by omega
  congr 1
  rcases Int.lt_trichotomy a b with h | h | h
  · rw [Int.compare_eq_lt.2 h, Int.compare_eq_lt.2 (Int.mul_lt_mul_of_pos_right h hpi)]
  · subst h
    rw [Int.compare_eq_eq.2 rfl, Int.compare_eq_eq.2 rfl]
  · rw [Int.compare_eq_gt.2 h, Int.compare_eq_gt.2 (Int.mul_lt_mul_of_pos_right h hpi)]

theorem isF_toInt {x : Nat} {a : Int} (hx : IsF x a) (h0 : -9223372036854775808 ≤ a) (h1 : a ≤ 9223372036854775807) : floatToIntVal .f64 x .i64 = some a := by
  obtain ⟨s, i, ex, hs⟩ := hx
  have ht : (FloatKind.f64.decode x).toInt .zero = some a := by
    show (double.read x).toInt .zero = _
    rw [ex]
    show some (signed s (Toward.zero.cut s ((a.natAbs * 2 ^ i) <<< (-(i : Int)).toNat) (- -(i : Int)).toNat) 0) = _
    have e1 : (-(i : Int)).toNat = 0 := by omega
    have e2 : (- -(i : Int)).toNat = i := by omega
    rw [e1, e2, Nat.shiftLeft_zero, cut_up]
    have := signed_up s a 0 0 hs
    rw [Nat.pow_zero, Nat.mul_one] at this
    rw [this]
    simp
  unfold floatToIntVal
  rw [ht]
  have hb : IntKind.i64.min ≤ a ∧ a ≤ IntKind.i64.max := by
    constructor
    · exact h0
    · exact h1
  show (if IntKind.i64.min ≤ a ∧ a ≤ IntKind.i64.max then some a else none) = some a
  rw [if_pos hb]

theorem isF_eq {x y : Nat} {a b : Int} (hx : IsF x a) (hy : IsF y b) : (FloatKind.f64.format.order x y == some .eq) = decide (a = b) := by
  show (double.order x y == some .eq) = _
  rw [isF_order hx hy]
  rcases Int.lt_trichotomy a b with h | h | h
  · rw [Int.compare_eq_lt.2 h]; simp; omega
  · subst h; rw [Int.compare_eq_eq.2 rfl]; simp
  · rw [Int.compare_eq_gt.2 h]; simp; omega

theorem isF_lt {x y : Nat} {a b : Int} (hx : IsF x a) (hy : IsF y b) : (FloatKind.f64.format.order x y == some .lt) = decide (a < b) := by
  show (double.order x y == some .lt) = _
  rw [isF_order hx hy]
  rcases Int.lt_trichotomy a b with h | h | h
  · rw [Int.compare_eq_lt.2 h]; simp [h]
  · subst h; rw [Int.compare_eq_eq.2 rfl]; simp
  · rw [Int.compare_eq_gt.2 h]; simp; omega

/-- A product of complex numbers with whole parts. -/
theorem cmul_whole {p q r t : Nat} {a b c d : Int} (hp : IsF p a) (hq : IsF q b) (hr : IsF r c) (ht : IsF t d)
    (h1 : (a * c).natAbs < 9007199254740992) (h2 : (b * d).natAbs < 9007199254740992) (h3 : (a * c - b * d).natAbs < 9007199254740992)
    (h4 : (a * d).natAbs < 9007199254740992) (h5 : (b * c).natAbs < 9007199254740992) (h6 : (a * d + b * c).natAbs < 9007199254740992) :
    ∃ x y, cMulBits p q r t = some (x, y) ∧ IsF x (a * c - b * d) ∧ IsF y (a * d + b * c) := by
  obtain ⟨r1, e1, f1⟩ := isF_mul hp hr h1
  obtain ⟨r2, e2, f2⟩ := isF_mul hq ht h2
  obtain ⟨r3, e3, f3⟩ := isF_sub f1 f2 h3
  obtain ⟨r4, e4, f4⟩ := isF_mul hp ht h4
  obtain ⟨r5, e5, f5⟩ := isF_mul hq hr h5
  obtain ⟨r6, e6, f6⟩ := isF_add f4 f5 h6
  refine ⟨r3, r6, ?_, f3, f6⟩
  unfold cMulBits
  simp [e1, e2, e3, e4, e5, e6]

/-- A sum of them. -/
theorem cadd_whole {p q r t : Nat} {a b c d : Int} (hp : IsF p a) (hq : IsF q b) (hr : IsF r c) (ht : IsF t d)
    (h1 : (a + c).natAbs < 9007199254740992) (h2 : (b + d).natAbs < 9007199254740992) :
    ∃ x y, cSumBits .add .f64 p q r t = some (x, y) ∧ IsF x (a + c) ∧ IsF y (b + d) := by
  obtain ⟨r1, e1, f1⟩ := isF_add hp hr h1
  obtain ⟨r2, e2, f2⟩ := isF_add hq ht h2
  refine ⟨r1, r2, ?_, f1, f2⟩
  unfold cSumBits
  simp [e1, e2]

end Go.Proofs.YtdecceekodpjiaaDoor
