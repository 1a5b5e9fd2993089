/-
  The numbers under which this program bears strings.IndexByte, stringslite.Index, strings.FieldsFunc and strconv.Atoi: written by program for this dump.
-/
import Derived.Test.YtfjekjbkifmpfaaDoorProg
import Derived.Test.YtfjekjbkifmpfaaDoorRows
import Derived.Shelf.Small.Strs
import Derived.Ground.NamesProg
import Derived.Laws.ComplexArith
import Derived.WalkKit
import Derived.WalkSpells
import Derived.WalkLawsBesides
import Derived.Deep.AppendLies
import Derived.Deep.QuietTactic
import Derived.BigQuiet
import Derived.ScopeJumps
import Derived.ProofKit
import Derived.OpenShut
import Derived.ShutString
import Derived.ChangeOld
import Derived.Below
import Derived.Lib.SmallJoins
import Derived.Lib.SlBytesConst
import Derived.Laws.BytesArg
import Derived.Laws.AppendOwnNone
import Derived.RangeFuncNested
import Derived.RangeFuncBound
import Derived.RangeFuncCalls
import Derived.RangeFuncLeaves
import Derived.RangeFuncWrites
import Derived.Shelf.Abstract
import Derived.Shelf.RegionOpen
import Derived.OwnWalkIn
import Derived.TacticsInMore
import Derived.LoopNIn
import Derived.LoopIn
import Derived.Deep.RegionHeld
import Derived.Maps.OwnSet
import Derived.Sort.KeysCollected
import Derived.StringKeys
import Derived.Deep.OwnRows
namespace Go.Proofs
open Go.Shelf
def Tryd.indexByteL_ren : Go.Shelf.Ren := ⟨fun | 137 => 108 | 217 => 111 | 266 => 112 | n => n, fun | 9 => 9 | 5 => 5 | 3 => 3 | n => n, fun | n => n⟩
theorem Tryd.indexByteL : Go.Proofs.Lays.n137 Tryd.prog Tryd.indexByteL_ren := {
  mixed := by kernel_rfl
  f137 := Tryd.func108.trans (congrArg some (by kernel_rfl))
  f217 := Tryd.func111.trans (congrArg some (by kernel_rfl))
  f266 := Tryd.func112.trans (congrArg some (by kernel_rfl))
  t3 := Tryd.underlying3
  a3 := Tryd.isAgg3
  z3 := Tryd.sizeOf3
  v3 := Tryd.zeroValue3
  t5 := Tryd.underlying5
  a5 := Tryd.isAgg5
  z5 := Tryd.sizeOf5
  v5 := Tryd.zeroValue5
  t9 := Tryd.underlying9
  a9 := Tryd.isAgg9
  z9 := Tryd.sizeOf9
  v9 := Tryd.zeroValue9 }
end Go.Proofs

/-
  Whole numbers as floats: those of fewer than 2^53 are added, multiplied, compared and cut exactly; their complex numbers.
-/
namespace Go.Proofs.YtfjekjbkifmpfaaDoor
open Ieee

/-- The word stands for the whole number n (a nought has either sign). -/
def IsF (x : Nat) (n : Int) : Prop := ∃ (s : Bool) (k : Nat), double.read x = .number s (n.natAbs * 2 ^ k) (-(k : Int)) ∧ (n ≠ 0 → s = decide (n < 0))

theorem log2_up (v k : Nat) (h : v ≠ 0) : (v * 2 ^ k).log2 = v.log2 + k := by
  have hk : 0 < 2 ^ k := Nat.two_pow_pos k
  have hv : v * 2 ^ k ≠ 0 := Nat.ne_of_gt (Nat.mul_pos (Nat.pos_of_ne_zero h) hk)
  rw [Nat.log2_eq_iff hv]
  have h1 := (Nat.log2_eq_iff (k := v.log2) h).1 rfl
  constructor
  · rw [Nat.pow_add]; exact Nat.mul_le_mul_right _ h1.1
  · have : v.log2 + k + 1 = v.log2 + 1 + k := by omega
    rw [this, Nat.pow_add (m := v.log2 + 1)]
    exact Nat.mul_lt_mul_of_pos_right h1.2 hk

theorem cut_up (way : Toward) (neg : Bool) (a d : Nat) : way.cut neg (a * 2 ^ d) d = a := by
  have hd : 0 < 2 ^ d := Nat.two_pow_pos d
  by_cases h : a = 0
  · subst h
    have hz : ∀ g : Nat, 0 < g → (match way with | .even => decide (g < 2 * (0 % g)) || (g == 2 * (0 % g) && 0 / g % 2 == 1) | .down => neg && (0 % g) != 0 | .up => !neg && (0 % g) != 0 | .zero => false : Bool) = false := by
      intro g hg
      cases way <;> simp
    have hg : 0 < 1 <<< min d ((0 : Nat).log2 + 2) := by rw [Nat.one_shiftLeft]; exact Nat.two_pow_pos _
    unfold Toward.cut
    rw [Nat.zero_mul]
    dsimp only
    rw [Nat.zero_div, Nat.zero_mod]
    have := hz _ hg
    rw [Nat.zero_mod, Nat.zero_div] at this
    cases way <;> simp_all
  · have hm : min d ((a * 2 ^ d).log2 + 2) = d := by rw [log2_up a d h]; omega
    unfold Toward.cut
    rw [hm]
    dsimp only
    rw [Nat.one_shiftLeft, Nat.mul_div_cancel _ hd, Nat.mul_mod_left]
    cases way <;> simp <;> omega

theorem word_read (neg : Bool) (L m : Nat) (hL : L ≤ 52) (h0 : 4503599627370496 ≤ m) (h1 : m < 9007199254740992) :
    double.read (double.word neg ((L + 1022) * 4503599627370496 + m)) = .number neg m (-((52 - L : Nat) : Int)) := by
  have hs : double.signWeight = 9223372036854775808 := rfl
  have hb : double.binade = 4503599627370496 := rfl
  have hi : double.infRung = 9218868437227405312 := rfl
  have hl : double.leastPlace = -1074 := rfl
  have hneg : (double.word neg ((L + 1022) * 4503599627370496 + m) / double.signWeight % 2 == 1) = neg := by
    unfold Format.word
    rw [hs]
    cases neg
    · simp; omega
    · simp; omega
  have hr : double.word neg ((L + 1022) * 4503599627370496 + m) % double.signWeight = (L + 1022) * 4503599627370496 + m := by
    unfold Format.word
    rw [hs]
    cases neg
    · simp; omega
    · simp; omega
  unfold Format.read
  dsimp only
  rw [hneg, hr, hb, hi, hl]
  rw [if_neg (by omega), if_pos (by omega)]
  have e1 : ((L + 1022) * 4503599627370496 + m) % 4503599627370496 = m - 4503599627370496 := by omega
  have e2 : ((L + 1022) * 4503599627370496 + m) / 4503599627370496 = L + 1023 := by omega
  have e3 : 4503599627370496 + (m - 4503599627370496) = m := by omega
  have e4 : (-1074 : Int) + ((L + 1023 - 1 : Nat) : Int) = -((52 - L : Nat) : Int) := by omega
  rw [e1, e2, e3, e4]

theorem read_zero (neg : Bool) : ∃ k : Nat, double.read (double.word neg 0) = .number neg 0 (-(k : Int)) := ⟨1074, by cases neg <;> rfl⟩

theorem nearest_up (neg : Bool) (v k : Nat) (h0 : 0 < v) (h1 : v < 9007199254740992) :
    double.nearest neg (v * 2 ^ k) (-(k : Int)) = double.word neg ((v.log2 + 1022) * 4503599627370496 + v * 2 ^ (52 - v.log2)) := by
  have hv : v ≠ 0 := by omega
  have hk : 0 < 2 ^ k := Nat.two_pow_pos k
  have hvk : v * 2 ^ k ≠ 0 := Nat.ne_of_gt (Nat.mul_pos h0 hk)
  have hL : v.log2 < 53 := (Nat.log2_lt hv).2 h1
  have hlg := log2_up v k hv
  have hs := (Nat.log2_eq_iff (k := v.log2) hv).1 rfl
  have hb : double.binade = 4503599627370496 := rfl
  have hi : double.infRung = 9218868437227405312 := rfl
  have hl : double.leastPlace = -1074 := rfl
  have hf : double.fractionBits = 52 := rfl
  have hlast : max (-(k : Int) + ((v * 2 ^ k).log2 : Nat) - (double.fractionBits : Nat)) double.leastPlace = (v.log2 : Int) - 52 := by
    rw [hlg, hl, hf]; omega
  have hm1 : v * 2 ^ (52 - v.log2) < 9007199254740992 := by
    have : v * 2 ^ (52 - v.log2) < 2 ^ (v.log2 + 1) * 2 ^ (52 - v.log2) := Nat.mul_lt_mul_of_pos_right hs.2 (Nat.two_pow_pos _)
    rw [← Nat.pow_add] at this
    have e : v.log2 + 1 + (52 - v.log2) = 53 := by omega
    rw [e] at this
    exact this
  have hcut : Toward.even.cut neg ((v * 2 ^ k) <<< (-(k : Int) - ((v.log2 : Int) - 52)).toNat) ((v.log2 : Int) - 52 - -(k : Int)).toNat = v * 2 ^ (52 - v.log2) := by
    rw [Nat.shiftLeft_eq]
    by_cases hc : 52 - v.log2 ≤ k
    · have e1 : (-(k : Int) - ((v.log2 : Int) - 52)).toNat = 0 := by omega
      have e2 : ((v.log2 : Int) - 52 - -(k : Int)).toNat = k - (52 - v.log2) := by omega
      rw [e1, e2, Nat.pow_zero, Nat.mul_one]
      have e3 : v * 2 ^ k = v * 2 ^ (52 - v.log2) * 2 ^ (k - (52 - v.log2)) := by
        rw [Nat.mul_assoc, ← Nat.pow_add]
        congr 2; omega
      rw [e3, cut_up]
    · have e1 : (-(k : Int) - ((v.log2 : Int) - 52)).toNat = 52 - v.log2 - k := by omega
      have e2 : ((v.log2 : Int) - 52 - -(k : Int)).toNat = 0 := by omega
      rw [e1, e2, Nat.mul_assoc, ← Nat.pow_add]
      have e3 : k + (52 - v.log2 - k) = 52 - v.log2 := by omega
      rw [e3]
      have := cut_up .even neg (v * 2 ^ (52 - v.log2)) 0
      rwa [Nat.pow_zero, Nat.mul_one] at this
  unfold Format.nearest
  rw [if_neg hvk]
  dsimp only
  rw [hlast, hcut, hl, hb, hi]
  have e4 : ((v.log2 : Int) - 52 - -1074).toNat = v.log2 + 1022 := by omega
  rw [e4, Nat.min_eq_left (by omega)]

theorem read_up (neg : Bool) (v k : Nat) (h0 : 0 < v) (h1 : v < 9007199254740992) :
    ∃ j : Nat, double.read (double.nearest neg (v * 2 ^ k) (-(k : Int))) = .number neg (v * 2 ^ j) (-(j : Int)) := by
  have hv : v ≠ 0 := by omega
  have hL : v.log2 < 53 := (Nat.log2_lt hv).2 h1
  have hs := (Nat.log2_eq_iff (k := v.log2) hv).1 rfl
  refine ⟨52 - v.log2, ?_⟩
  rw [nearest_up neg v k h0 h1]
  refine word_read neg v.log2 _ (by omega) ?_ ?_
  · have : 2 ^ v.log2 * 2 ^ (52 - v.log2) ≤ v * 2 ^ (52 - v.log2) := Nat.mul_le_mul_right _ hs.1
    rw [← Nat.pow_add] at this
    have e : v.log2 + (52 - v.log2) = 52 := by omega
    rw [e] at this
    exact this
  · have : v * 2 ^ (52 - v.log2) < 2 ^ (v.log2 + 1) * 2 ^ (52 - v.log2) := Nat.mul_lt_mul_of_pos_right hs.2 (Nat.two_pow_pos _)
    rw [← Nat.pow_add] at this
    have e : v.log2 + 1 + (52 - v.log2) = 53 := by omega
    rw [e] at this
    exact this

/-- What is written of a whole number stands for it. -/
theorem isF_write (s : Bool) (n : Int) (k : Nat) (hn : n.natAbs < 9007199254740992) (hs : n ≠ 0 → s = decide (n < 0)) : IsF (double.write (.number s (n.natAbs * 2 ^ k) (-(k : Int)))) n := by
  by_cases h : n = 0
  · subst h
    obtain ⟨j, hj⟩ := read_zero s
    refine ⟨s, j, ?_, fun h => absurd rfl h⟩
    show double.read (double.nearest s ((0 : Int).natAbs * 2 ^ k) _) = _
    have e : (0 : Int).natAbs * 2 ^ k = 0 := by simp
    rw [e]
    unfold Format.nearest
    rw [if_pos rfl, hj, Int.natAbs_zero, Nat.zero_mul]
  · obtain ⟨j, hj⟩ := read_up s n.natAbs k (by omega) hn
    exact ⟨s, j, hj, hs⟩

theorem isF_int (n : Int) (hn : n.natAbs < 9007199254740992) : IsF (floatOfInt .f64 n) n := by
  have := isF_write (decide (n < 0)) n 0 hn (fun _ => rfl)
  rw [Nat.pow_zero, Nat.mul_one] at this
  exact this

theorem signed_up (s : Bool) (n : Int) (k u : Nat) (hs : n ≠ 0 → s = decide (n < 0)) : signed s (n.natAbs * 2 ^ k) u = n * ((2 ^ (k + u) : Nat) : Int) := by
  unfold signed
  rw [Nat.shiftLeft_eq, Nat.mul_assoc, ← Nat.pow_add]
  by_cases h : n = 0
  · subst h; simp
  · rw [hs h]
    by_cases hn : n < 0
    · have e : ((n.natAbs : Nat) : Int) = -n := by omega
      simp only [hn, decide_true, if_true]
      rw [Int.natCast_mul, e, Int.neg_mul, Int.neg_neg]
    · have e : ((n.natAbs : Nat) : Int) = n := by omega
      simp only [hn, decide_false]
      rw [if_neg (by simp), Int.natCast_mul, e]

theorem base_up (i j : Nat) : ∃ u t : Nat, i + u = j + t ∧ (-(i : Int) - min (-(i : Int)) (-(j : Int))).toNat = u ∧ (-(j : Int) - min (-(i : Int)) (-(j : Int))).toNat = t ∧ min (-(i : Int)) (-(j : Int)) = -((i + u : Nat) : Int) := by
  by_cases h : i ≤ j
  · exact ⟨j - i, 0, by omega, by omega, by omega, by omega⟩
  · exact ⟨0, i - j, by omega, by omega, by omega, by omega⟩

theorem sum_up (s t : Bool) (a b : Int) (i j : Nat) (hs : a ≠ 0 → s = decide (a < 0)) (ht : b ≠ 0 → t = decide (b < 0)) (hn : (a + b).natAbs < 9007199254740992) :
    ∃ d, (Datum.number s (a.natAbs * 2 ^ i) (-(i : Int))).sum (.number t (b.natAbs * 2 ^ j) (-(j : Int))) = some d ∧ IsF (double.write d) (a + b) := by
  obtain ⟨u, v, huv, e1, e2, e3⟩ := base_up i j
  refine ⟨_, rfl, ?_⟩
  rw [e1, e2, signed_up s a i u hs, signed_up t b j v ht, ← huv, ← Int.add_mul, e3]
  have hp : 0 < 2 ^ (i + u) := Nat.two_pow_pos _
  have hpi : (0 : Int) < ((2 ^ (i + u) : Nat) : Int) := by omega
  have e4 : ((a + b) * ((2 ^ (i + u) : Nat) : Int)).natAbs = (a + b).natAbs * 2 ^ (i + u) := by
    rw [Int.natAbs_mul, Int.natAbs_natCast]
  rw [e4]
  refine isF_write _ (a + b) (i + u) hn fun h => ?_
  rw [if_neg (fun hz => by rcases Int.mul_eq_zero.1 hz with h' | h' <;> omega)]
  congr 1
  apply propext
  constructor
  · intro hlt
    by_cases hc : a + b < 0
    · exact hc
    · have := Int.mul_nonneg (show 0 ≤ a + b by omega) (Int.le_of_lt hpi)
      omega
  · intro hlt
    exact Int.mul_neg_of_neg_of_pos hlt hpi

theorem isF_add {x y : Nat} {a b : Int} (hx : IsF x a) (hy : IsF y b) (hn : (a + b).natAbs < 9007199254740992) : ∃ r, floatBits .add .f64 x y = some r ∧ IsF r (a + b) := by
  obtain ⟨s, i, ex, hs⟩ := hx
  obtain ⟨t, j, ey, ht⟩ := hy
  obtain ⟨d, hd, hr⟩ := sum_up s t a b i j hs ht hn
  refine ⟨double.write d, ?_, hr⟩
  show ((double.read x).sum (double.read y)).map double.write = _
  rw [ex, ey, hd]; rfl

theorem isF_sub {x y : Nat} {a b : Int} (hx : IsF x a) (hy : IsF y b) (hn : (a - b).natAbs < 9007199254740992) : ∃ r, floatBits .sub .f64 x y = some r ∧ IsF r (a - b) := by
  obtain ⟨s, i, ex, hs⟩ := hx
  obtain ⟨t, j, ey, ht⟩ := hy
  have hn' : (a + -b).natAbs < 9007199254740992 := hn
  obtain ⟨d, hd, hr⟩ := sum_up s (!t) a (-b) i j hs (fun h => by
    have hb : b ≠ 0 := by omega
    rw [ht hb]
    by_cases h1 : b < 0
    · simp [h1]; omega
    · simp [h1]; omega) hn'
  refine ⟨double.write d, ?_, hr⟩
  show ((double.read x).sum (double.read y).opposite).map double.write = _
  rw [Int.natAbs_neg] at hd
  rw [ex, ey]
  show ((Datum.number s (a.natAbs * 2 ^ i) (-(i : Int))).sum (Datum.number (!t) (b.natAbs * 2 ^ j) (-(j : Int)))).map double.write = _
  rw [hd]; rfl

theorem isF_mul {x y : Nat} {a b : Int} (hx : IsF x a) (hy : IsF y b) (hn : (a * b).natAbs < 9007199254740992) : ∃ r, floatBits .mul .f64 x y = some r ∧ IsF r (a * b) := by
  obtain ⟨s, i, ex, hs⟩ := hx
  obtain ⟨t, j, ey, ht⟩ := hy
  refine ⟨double.write (.number (s ^^ t) ((a * b).natAbs * 2 ^ (i + j)) (-((i + j : Nat) : Int))), ?_, isF_write _ _ _ hn fun h => ?_⟩
  · show ((double.read x).product (double.read y)).map double.write = _
    rw [ex, ey]
    show some (double.write (.number (s ^^ t) (a.natAbs * 2 ^ i * (b.natAbs * 2 ^ j)) (-(i : Int) + -(j : Int)))) = _
    have e1 : a.natAbs * 2 ^ i * (b.natAbs * 2 ^ j) = (a * b).natAbs * 2 ^ (i + j) := by
      rw [Int.natAbs_mul, Nat.pow_add]
      simp only [Nat.mul_assoc, Nat.mul_left_comm]
    have e2 : -(i : Int) + -(j : Int) = -((i + j : Nat) : Int) := by omega
    rw [e1, e2]
  · have ha : a ≠ 0 := fun e => h (by rw [e, Int.zero_mul])
    have hb : b ≠ 0 := fun e => h (by rw [e, Int.mul_zero])
    rw [hs ha, ht hb]
    by_cases h1 : a < 0 <;> by_cases h2 : b < 0
    · have : 0 < a * b := Int.mul_pos_of_neg_of_neg h1 h2
      have : ¬ (a * b < 0) := by omega
      simp [h1, h2, this]
    · have : a * b < 0 := Int.mul_neg_of_neg_of_pos h1 (by omega)
      simp [h1, h2, this]
    · have : a * b < 0 := Int.mul_neg_of_pos_of_neg (by omega) h2
      simp [h1, h2, this]
    · have : 0 < a * b := Int.mul_pos (by omega) (by omega)
      have : ¬ (a * b < 0) := by omega
      simp [h1, h2, this]

theorem isF_order {x y : Nat} {a b : Int} (hx : IsF x a) (hy : IsF y b) : double.order x y = some (compare a b) := by
  obtain ⟨s, i, ex, hs⟩ := hx
  obtain ⟨t, j, ey, ht⟩ := hy
  obtain ⟨u, v, huv, e1, e2, e3⟩ := base_up i j
  show (double.read x).order (double.read y) = _
  rw [ex, ey]
  show some (compare (signed s (a.natAbs * 2 ^ i) (-(i : Int) - min (-(i : Int)) (-(j : Int))).toNat) (signed t (b.natAbs * 2 ^ j) (-(j : Int) - min (-(i : Int)) (-(j : Int))).toNat)) = _
  rw [e1, e2, signed_up s a i u hs, signed_up t b j v ht, ← huv]
  have hp : 0 < 2 ^ (i + u) := Nat.two_pow_pos _
  have hpi : (0 : Int) < ((2 ^ (i + u) : Nat) : Int) := by omega
  congr 1
  rcases Int.lt_trichotomy a b with h | h | h
  · rw [Int.compare_eq_lt.2 h, Int.compare_eq_lt.2 (Int.mul_lt_mul_of_pos_right h hpi)]
  · subst h
    rw [Int.compare_eq_eq.2 rfl, Int.compare_eq_eq.2 rfl]
  · rw [Int.compare_eq_gt.2 h, Int.compare_eq_gt.2 (Int.mul_lt_mul_of_pos_right h hpi)]

theorem isF_toInt {x : Nat} {a : Int} (hx : IsF x a) (h0 : -9223372036854775808 ≤ a) (h1 : a ≤ 9223372036854775807) : floatToIntVal .f64 x .i64 = some a := by
  obtain ⟨s, i, ex, hs⟩ := hx
  have ht : (FloatKind.f64.decode x).toInt .zero = some a := by
    show (double.read x).toInt .zero = _
    rw [ex]
    show some (signed s (Toward.zero.cut s ((a.natAbs * 2 ^ i) <<< (-(i : Int)).toNat) (- -(i : Int)).toNat) 0) = _
    have e1 : (-(i : Int)).toNat = 0 := by omega
    have e2 : (- -(i : Int)).toNat = i := by omega
    rw [e1, e2, Nat.shiftLeft_zero, cut_up]
    have := signed_up s a 0 0 hs
    rw [Nat.pow_zero, Nat.mul_one] at this
    rw [this]
    simp
  unfold floatToIntVal
  rw [ht]
  have hb : IntKind.i64.min ≤ a ∧ a ≤ IntKind.i64.max := by
    constructor
    · exact h0
    · exact h1
  show (if IntKind.i64.min ≤ a ∧ a ≤ IntKind.i64.max then some a else none) = some a
  rw [if_pos hb]

theorem isF_eq {x y : Nat} {a b : Int} (hx : IsF x a) (hy : IsF y b) : (FloatKind.f64.format.order x y == some .eq) = decide (a = b) := by
  show (double.order x y == some .eq) = _
  rw [isF_order hx hy]
  rcases Int.lt_trichotomy a b with h | h | h
  · rw [Int.compare_eq_lt.2 h]; simp; omega
  · subst h; rw [Int.compare_eq_eq.2 rfl]; simp
  · rw [Int.compare_eq_gt.2 h]; simp; omega

theorem isF_lt {x y : Nat} {a b : Int} (hx : IsF x a) (hy : IsF y b) : (FloatKind.f64.format.order x y == some .lt) = decide (a < b) := by
  show (double.order x y == some .lt) = _
  rw [isF_order hx hy]
  rcases Int.lt_trichotomy a b with h | h | h
  · rw [Int.compare_eq_lt.2 h]; simp [h]
  · subst h; rw [Int.compare_eq_eq.2 rfl]; simp
  · rw [Int.compare_eq_gt.2 h]; simp; omega

/-- A product of complex numbers with whole parts. -/
theorem cmul_whole {p q r t : Nat} {a b c d : Int} (hp : IsF p a) (hq : IsF q b) (hr : IsF r c) (ht : IsF t d)
    (h1 : (a * c).natAbs < 9007199254740992) (h2 : (b * d).natAbs < 9007199254740992) (h3 : (a * c - b * d).natAbs < 9007199254740992)
    (h4 : (a * d).natAbs < 9007199254740992) (h5 : (b * c).natAbs < 9007199254740992) (h6 : (a * d + b * c).natAbs < 9007199254740992) :
    ∃ x y, cMulBits p q r t = some (x, y) ∧ IsF x (a * c - b * d) ∧ IsF y (a * d + b * c) := by
  obtain ⟨r1, e1, f1⟩ := isF_mul hp hr h1
  obtain ⟨r2, e2, f2⟩ := isF_mul hq ht h2
  obtain ⟨r3, e3, f3⟩ := isF_sub f1 f2 h3
  obtain ⟨r4, e4, f4⟩ := isF_mul hp ht h4
  obtain ⟨r5, e5, f5⟩ := isF_mul hq hr h5
  obtain ⟨r6, e6, f6⟩ := isF_add f4 f5 h6
  refine ⟨r3, r6, ?_, f3, f6⟩
  unfold cMulBits
  simp [e1, e2, e3, e4, e5, e6]

/-- A sum of them. -/
theorem cadd_whole {p q r t : Nat} {a b c d : Int} (hp : IsF p a) (hq : IsF q b) (hr : IsF r c) (ht : IsF t d)
    (h1 : (a + c).natAbs < 9007199254740992) (h2 : (b + d).natAbs < 9007199254740992) :
    ∃ x y, cSumBits .add .f64 p q r t = some (x, y) ∧ IsF x (a + c) ∧ IsF y (b + d) := by
  obtain ⟨r1, e1, f1⟩ := isF_add hp hr h1
  obtain ⟨r2, e2, f2⟩ := isF_add hq ht h2
  refine ⟨r1, r2, ?_, f1, f2⟩
  unfold cSumBits
  simp [e1, e2]

end Go.Proofs.YtfjekjbkifmpfaaDoor

/-
  What the texts of the codec share: what is kept, rows of bytes as they lie, bytes that are appended, lent, spoilt.
-/
namespace Go.Proofs.YtfjekjbkifmpfaaDoor
open Go.RowKit

theorem Tryd.info5 : (Tryd.prog.info? 5).map (fun i => (i.zero, i.size, i.bytes)) = some (some (.int .u8 0), 1, 1) := by kernel_rfl

/-- The number is one of 64 bits. -/
def isI64 (x : Int) : Prop := (Lit.int .i64 x).wf = true

theorem isI64_of {x : Int} (h0 : -9223372036854775808 ≤ x) (h1 : x ≤ 9223372036854775807) : isI64 x := WalkArith.wf_i64 ⟨h0, h1⟩

/-- w' is w but for the blocks of S and new ones. -/
structure Kept (S : Nat → Prop) (w w' : World) : Prop where
  os : w'.os = w.os
  tape : w'.tape = w.tape
  output : w'.output = w.output
  size : w.heap.size ≤ w'.heap.size
  block : ∀ k, k < w.heap.size → ¬ S k → w'.heap[k]? = w.heap[k]?

theorem Kept.refl (S : Nat → Prop) (w : World) : Kept S w w := ⟨rfl, rfl, rfl, Nat.le_refl _, fun _ _ _ => rfl⟩

theorem Kept.trans {S S' : Nat → Prop} {a b c : World} (h : Kept S a b) (k : Kept S' b c) (hS : ∀ i, S' i → S i ∨ a.heap.size ≤ i) : Kept S a c :=
  ⟨k.os.trans h.os, k.tape.trans h.tape, k.output.trans h.output, Nat.le_trans h.size k.size, fun i hi hn =>
    (k.block i (Nat.lt_of_lt_of_le hi h.size) (fun hs => (hS i hs).elim hn (fun hb => by omega))).trans (h.block i hi hn)⟩

theorem Kept.and {S : Nat → Prop} {a b c : World} (h : Kept S a b) (k : Kept S b c) : Kept S a c := h.trans k (fun _ => .inl)

theorem Kept.mono {S S' : Nat → Prop} {a b : World} (h : Kept S a b) (hS : ∀ i, S i → S' i) : Kept S' a b :=
  ⟨h.os, h.tape, h.output, h.size, fun k hk hn => h.block k hk (fun hs => hn (hS k hs))⟩

theorem Kept.grown {S : Nat → Prop} {w w' : World} {row : Option Nat} (hg : w.grownBy w' row) (hr : ∀ k, row = some k → S k) : Kept S w w' :=
  ⟨hg.os, hg.tape, hg.output, hg.size, fun k hk hn => hg.block k hk (fun e => hn (hr k e.symm))⟩

theorem Kept.setCell {S : Nat → Prop} (w : World) (a : Addr) (u : Value) (h : S a.block) : Kept S w (w.setCell a u) :=
  ⟨rfl, rfl, rfl, by simp [World.setCell], fun k _ hn => Below.heap_setCell _ _ _ _ (fun e => hn (e ▸ h))⟩

theorem Kept.alloc (S : Nat → Prop) (w : World) (o : Obj) : Kept S w (w.alloc o) :=
  ⟨rfl, rfl, rfl, by simp, fun k hk _ => Below.heap_alloc _ _ _ hk⟩

theorem Kept.drew (S : Nat → Prop) (w : World) : Kept S w w.drew := ⟨rfl, rfl, rfl, Nat.le_refl _, fun _ _ _ => rfl⟩

theorem Kept.below {S : Nat → Prop} {w w' : World} (h : Kept S w w') {B : Nat} (hB : B ≤ w.heap.size) (hS : ∀ i, S i → B ≤ i) : Below B w w' :=
  ⟨h.os, h.tape, h.output, h.size, fun k hk => h.block k (by omega) (fun hs => by have := hS k hs; omega)⟩

theorem ret_int {k : IntKind} {a b : Int} (h : a = b) : Ending.returned (.int k a) = .returned (.int k b) := by rw [h]

theorem isI64_bd {x : Int} (h : isI64 x) : -9223372036854775808 ≤ x ∧ x ≤ 9223372036854775807 := by
  simp [isI64, Lit.wf, IntKind.min, IntKind.max, IntKind.signed, IntKind.bits] at h
  omega

theorem tmod_emod_neg {n m : Int} (hm : 0 < m) (h : n.tmod m < 0) : n.tmod m + m = n % m := by
  have h1 := Int.emod_nonneg n (by omega : m ≠ 0)
  have h2 := Int.emod_lt_of_pos n hm
  rw [Int.tmod_eq_emod] at h ⊢
  split at h <;> rename_i hc
  · omega
  · have : (m.natAbs : Int) = m := by omega
    rw [if_neg hc]
    omega

theorem tmod_emod_pos {n m : Int} (hm : 0 < m) (h : 0 ≤ n.tmod m) : n.tmod m = n % m := by
  have h1 := Int.emod_nonneg n (by omega : m ≠ 0)
  have h2 := Int.emod_lt_of_pos n hm
  rw [Int.tmod_eq_emod] at h ⊢
  split at h <;> rename_i hc
  · rw [if_pos hc]; omega
  · have : (m.natAbs : Int) = m := by omega
    omega

theorem oneCells (l : List Int) : ∀ u ∈ l.map (Value.int .u8), u.oneCell' = true := by
  intro u hu
  obtain ⟨x, _, rfl⟩ := List.mem_map.1 hu
  rfl

/-- Bytes that are handed in: they lie where a says. -/
structure BytesAt (w : World) (a : Option Addr) (m c : Nat) (b : List Int) : Prop where
  len : b.length = m
  cap : m ≤ c
  nil : a = none → m = 0
  cells : ∀ ad, a = some ad → ∀ j u, (b.map (Value.int .u8))[j]? = some u → w.cell? (ad.add j) = some u
  byte : ∀ y ∈ b, 0 ≤ y ∧ y ≤ 255

theorem block_add (a : Addr) (j : Nat) : (a.add j).block = a.block := by unfold Addr.add; split <;> rfl

theorem BytesAt.kept {S : Nat → Prop} {w w' : World} {a : Option Addr} {m c : Nat} {b : List Int} (B : BytesAt w a m c b) (K : Kept S w w') (hs : b ≠ [] → ∀ ad, a = some ad → ¬ S ad.block) : BytesAt w' a m c b :=
  ⟨B.len, B.cap, B.nil, fun ad h j u hu => by
    have hc := B.cells ad h j u hu
    rw [World.cell?_of_block (w := w) (K.block _ (World.block_lt_of_cell? w _ hc) (by rw [block_add]; exact hs (fun e => by rw [e] at hu; simp at hu) ad h))]
    exact hc, B.byte⟩

theorem BytesAt.take {w : World} {a : Option Addr} {m c : Nat} {b : List Int} (B : BytesAt w a m c b) {h : Nat} (hh : h ≤ m) : BytesAt w a h c (b.take h) :=
  ⟨by rw [List.length_take, B.len]; omega, Nat.le_trans hh B.cap, fun e => by have := B.nil e; omega, fun ad e j u hu => B.cells ad e j u (by
    rw [List.map_take, List.getElem?_take] at hu
    split at hu
    · exact hu
    · cases hu), fun y hy => B.byte y (List.mem_of_mem_take hy)⟩

set_option maxRecDepth 100000 in
set_option maxHeartbeats 400000 in
theorem within_any (w : World) (k m : Int) (hm : 0 < m) (hm2 : m ≤ 281474976710656) :
    Calls Tryd.prog 18 #[.int .i64 k, .int .i64 m] w fun e w' => e = .returned (.int .i64 (k % m)) ∧ w' = w := by
  have h1 := Int.emod_nonneg k (by omega : m ≠ 0)
  have h2 := Int.emod_lt_of_pos k hm
  have hmz : (m == 0) = false := by simp; omega
  by_cases h : k.tmod m < 0
  · have e := tmod_emod_neg hm h
    have HE : Hid (k.tmod m + m = k % m) := e
    have hlo : -m ≤ k.tmod m := by omega
    clear e h1 h2
    go_enter Tryd.func18, Tryd.ntmps18
    go_wp2
    go_ret
    exact ⟨ret_int HE.out, rfl⟩
  · have e := tmod_emod_pos (n := k) hm (by omega)
    have HE : Hid (k.tmod m = k % m) := e
    clear e h1 h2
    go_enter Tryd.func18, Tryd.ntmps18
    go_wp2
    go_ret
    exact ⟨ret_int HE.out, rfl⟩

theorem Kept.drewN (S : Nat → Prop) (w : World) (n : Nat) : Kept S w (w.drewN n) := ⟨rfl, rfl, rfl, Nat.le_refl _, fun _ _ _ => rfl⟩

theorem Kept.none {w w' : World} (h : Kept (fun _ => False) w w') : Below w.heap.size w w' :=
  ⟨h.os, h.tape, h.output, h.size, fun k hk => h.block k hk (fun h => h)⟩

/-- A value that owns a row is a slice of that length. -/
theorem ownsRow_shape {w : World} {base n size : Nat} {e : TypeId} {v : Value} {xs : List Value} (h : w.ownsRow base e size v n xs) : ∃ a c, v = .slice a n c := by
  rcases h.2 with ⟨rfl, rfl⟩ | ⟨g, cap, cur, rfl, _⟩
  · exact ⟨_, _, rfl⟩
  · exact ⟨_, _, rfl⟩

/-- A row of numbers that came in: nil, or cells that hold zs. -/
def IsRow (k : IntKind) (w : World) (a : Option Addr) (len cap : Nat) (zs : List Int) : Prop :=
  (a = none ∧ len = 0 ∧ cap = 0 ∧ zs = []) ∨
  ∃ x, a = some x ∧ len ≤ cap ∧ cap ≤ maxLen ∧ zs.length = cap ∧ (∀ i, i < zs.length → w.cell? (x.add i) = some (.int k (zs.getD i 0))) ∧ ∀ n ∈ zs, (Lit.int k n).wf = true

theorem addr_form {w : World} {x : Addr} {v : Value} (h : w.cell? (x.add 0) = some v) : ∃ b off, x = ⟨b, off, none⟩ := by
  cases x with
  | mk b off spot =>
    cases spot with
    | none => exact ⟨b, off, rfl⟩
    | some s =>
      have hs := World.cell?_spot h
      simp [Addr.add] at hs

theorem u8_bd {x : Int} (h : (Lit.int .u8 x).wf = true) : 0 ≤ x ∧ x ≤ 255 := by
  simp [Lit.wf, IntKind.min, IntKind.max, IntKind.signed, IntKind.bits] at h
  omega

theorem IsRow.bytes {w : World} {a : Option Addr} {len cap : Nat} {zs : List Int} (h : IsRow .u8 w a len cap zs) : BytesAt w a len cap (zs.take len) := by
  rcases h with ⟨rfl, rfl, rfl, rfl⟩ | ⟨x, rfl, h1, h2, h3, hc, hw⟩
  · exact ⟨rfl, Nat.le_refl _, fun _ => rfl, fun ad h => (by cases h), fun y hy => (by simp at hy)⟩
  · refine ⟨by rw [List.length_take]; omega, h1, fun h => (by cases h), ?_, fun y hy => u8_bd (hw y (List.mem_of_mem_take hy))⟩
    intro ad e j u hu
    cases e
    rw [List.getElem?_map, List.getElem?_take] at hu
    split at hu
    · rename_i hj
      have hjl : j < zs.length := by omega
      have := hc j hjl
      rw [List.getElem?_eq_getElem hjl] at hu
      simp only [Option.map_some, Option.some.injEq] at hu
      rw [this, ← hu, List.getD_eq_getElem?_getD, List.getElem?_eq_getElem hjl]
      rfl
    · cases hu

theorem BytesAt.lt {w : World} {a : Option Addr} {m c : Nat} {b : List Int} (B : BytesAt w a m c b) {ad : Addr} (h : a = some ad) (hb : b ≠ []) : ad.block < w.heap.size := by
  cases b with
  | nil => exact absurd rfl hb
  | cons x r =>
    have := B.cells ad h 0 (.int .u8 x) rfl
    have := World.block_lt_of_cell? w _ this
    rw [block_add] at this
    exact this

open Go.ChangeShapes Go.WideShapes Go.ChangeAt

theorem Tryd.own : ownKnob Tryd.prog.godebug = none := by kernel_rfl
theorem Tryd.laidOut : laidOutB Tryd.prog = true := by kernel_rfl

theorem isRow_open {H : Type} {enc : TypeId × Value → H} {P : Program} {w : World} {base : Nat} {held : Bool} {t e : TypeId} {k : IntKind} {fuel : Nat} {v : Value} {x : DataW H × List MemPlace} (ht : P.underlying t = some (.slice e)) (he : P.underlying e = some (.int k)) (hc : P.cellsOf e = 1)
    (h : DataW.trod enc P w base (fun _ => true) held fuel t [v] = some x) : ∃ a len cap zs, v = .slice a len cap ∧ IsRow k w a len cap zs := by
  rcases open_ints ht he hc h with ⟨hcs, _⟩ | ⟨a, l, c, zs, hcs, _, hl, hm, hz, _, hcell, hwz⟩
  · simp only [List.cons.injEq, and_true] at hcs
    exact ⟨_, _, _, [], hcs, .inl ⟨rfl, rfl, rfl, rfl⟩⟩
  · simp only [List.cons.injEq, and_true] at hcs
    exact ⟨_, _, _, zs, hcs, .inr ⟨_, rfl, hl, hm, by simpa using hz, hcell, hwz⟩⟩

theorem BytesAt.at {w : World} {a : Option Addr} {m c : Nat} {b : List Int} (B : BytesAt w a m c b) {j : Nat} (hj : j < b.length) : ∃ ba oa, a = some ⟨ba, oa, none⟩ ∧ ∀ j, j < b.length → w.cell? ⟨ba, oa + j, none⟩ = some (.int .u8 (b.getD j 0)) := by
  have hlen := B.len
  cases a with
  | none => have := B.nil rfl; omega
  | some ad =>
    have hall : ∀ j, j < b.length → w.cell? (ad.add j) = some (.int .u8 (b.getD j 0)) := fun j hj => B.cells ad rfl j _ (by rw [List.getElem?_map, List.getD_eq_getElem?_getD, List.getElem?_eq_getElem hj]; rfl)
    obtain ⟨ba, oa, rfl⟩ := addr_form (hall 0 (by omega))
    exact ⟨ba, oa, rfl, fun j hj => by have := hall j hj; rw [Addr.add_lit] at this; exact this⟩

theorem BytesAt.ofRow {w : World} {base : Nat} {a : Option Addr} {c : Nat} {b : List Int} (h : w.ownsRow base 5 1 (.slice a b.length c) b.length (b.map (Value.int .u8))) (hb : ∀ x ∈ b, 0 ≤ x ∧ x ≤ 255) : BytesAt w a b.length c b := by
  rcases h.2 with ⟨e, h0⟩ | ⟨g, cap, cur, e, _, _, h1, _⟩
  · simp only [Value.slice.injEq] at e
    obtain ⟨rfl, _, rfl⟩ := e
    exact ⟨rfl, by omega, fun _ => h0, fun ad h => (by cases h), hb⟩
  · have h' := h
    simp only [Value.slice.injEq] at e
    obtain ⟨rfl, _, rfl⟩ := e
    exact ⟨rfl, h1, fun h => (by cases h), fun ad e => (by cases e; exact h'.cells rfl), hb⟩

/-- A store into a row that is owned. -/
theorem ownsRow_set {w : World} {base n cap g k : Nat} {e : TypeId} {xs : List Value} (h : w.ownsRow base e 1 (.slice (some ⟨g, 0, none⟩) n cap) n xs) (u : Value) :
    (w.setCell ⟨g, k, none⟩ u).ownsRow base e 1 (.slice (some ⟨g, 0, none⟩) n cap) n (xs.set k u) := by
  refine ⟨by rw [List.length_set]; exact h.1, ?_⟩
  rcases h.2 with ⟨h0, _⟩ | ⟨g', cap', cur, hv, hb, hh, r1, r2, r3, r4⟩
  · cases h0
  · simp only [Value.slice.injEq, Option.some.injEq, Addr.mk.injEq] at hv
    obtain ⟨⟨rfl, _⟩, _, rfl⟩ := hv
    refine .inr ⟨g, cap, cur.setIfInBounds k u, rfl, hb, by simp [World.setCell, Array.getElem?_modify, hh], r1, r2, by simpa using r3, ?_⟩
    rw [Array.toList_setIfInBounds, List.take_set, r4]

/-- A cell of a row that is owned. -/
theorem ownsRow_get {w : World} {base n cap g k : Nat} {e : TypeId} {xs : List Value} (h : w.ownsRow base e 1 (.slice (some ⟨g, 0, none⟩) n cap) n xs) {u : Value} (hu : xs[k]? = some u) : w.cell? ⟨g, k, none⟩ = some u ∧ w.frozen? ⟨g, k, none⟩ = false := by
  constructor
  · have := h.cells (g := g) rfl k u hu
    simpa [Addr.add_lit] using this
  · rcases h.2 with ⟨h0, _⟩ | ⟨g', cap', cur, hv, hb, hh, r⟩
    · cases h0
    · simp only [Value.slice.injEq, Option.some.injEq, Addr.mk.injEq] at hv
      obtain ⟨⟨rfl, _⟩, _⟩ := hv
      simp [World.frozen?, hh]


/-- What is handed to append: a row of cells, or nil. -/
def Src (w : World) (size : Nat) (x : Value) (m : Nat) (news : List Value) : Prop :=
  (∃ ad c, x = .slice (some ad) m c ∧ news.length = m * size ∧ ∀ j u, news[j]? = some u → w.cell? (ad.add j) = some u) ∨ (∃ c, x = .slice none 0 c ∧ m = 0 ∧ news = [])

theorem BytesAt.src {w : World} {a : Option Addr} {m c : Nat} {b : List Int} (B : BytesAt w a m c b) : Src w 1 (.slice a m c) m (b.map (Value.int .u8)) := by
  cases a with
  | none =>
    have hm := B.nil rfl
    have hb : b = [] := List.eq_nil_of_length_eq_zero (by rw [B.len, hm])
    exact .inr ⟨c, by rw [hm], hm, by rw [hb]; rfl⟩
  | some ad => exact .inl ⟨ad, c, rfl, by simp [B.len], B.cells ad rfl⟩

theorem run_append_src {P : Program} (w : World) (base : Nat) (t ty e : TypeId) (i : TypeInfo) (z : Value) (size bytes : Nat) (ht : P.underlying t = some (.slice e)) (hi : P.info? e = some i) (hz : i.zero = some z)
    (hsize : i.size = size) (hby : i.bytes = bytes) (hzs : z.cells.size = size) (hsz : 0 < size)
    (v : Value) (n : Nat) (xs : List Value) (hown : w.ownsRow base e size v n xs) (x : Value) (m : Nat) (news : List Value) (hsrc : Src w size x m news) (h1 : ∀ u ∈ news, u.oneCell' = true)
    (h63 : n + m ≤ maxLen) (hbytes : (n + m) * bytes ≤ 140737488355328) (hbase : base ≤ w.heap.size) :
    ∃ v' w', (Builtin.append_ #[t, t] ty #[v, x]).run P w = .ok v' w' ∧ w'.ownsRow base e size v' (n + m) (xs ++ news) ∧ w.grownBy w' v.ownBlock ∧
      (v' = .slice none 0 0 ↔ v = .slice none 0 0 ∧ m = 0) ∧ (v'.ownBlock = v.ownBlock ∨ v'.ownBlock = some w.heap.size) := by
  rcases hsrc with ⟨ad, c, rfl, hl, hc⟩ | ⟨c, rfl, rfl, rfl⟩
  · exact run_append_own_at w base t ty e i z size bytes ht hi hz hsize hby hzs hsz v n xs hown ad m c news hl hc h1 h63 hbytes hbase
  · refine ⟨v, w, ?_, by simpa using hown, ⟨rfl, rfl, rfl, Nat.le_refl _, fun _ _ _ => rfl⟩, by simp, .inl rfl⟩
    rcases hown.2 with ⟨rfl, rfl⟩ | ⟨g, cap, cur, rfl, _, _, hnc, _⟩
    · simp [Builtin.append_, run_underlying ht, sizeOf, typeInfo, hi, Builtin.lenOf, Builtin.firstCells]
    · simp [Builtin.append_, run_underlying ht, sizeOf, typeInfo, hi, Builtin.lenOf, Builtin.firstCells, hnc, storeCells]

/-- append(v, x...) onto a row that is owned, from whatever source, nil and empty ones too. -/
theorem wpList_append_src {P : Program} (w : World) {ops : Array Oper} {rest : List Oper} {o : Oper} {a : Act} {Q : Exit → Act → World → Prop} (hgd : o.guard = none) (s x : Operand) (t : TypeId)
    (ho : o.op = .call { callee := .builtin .append, args := #[s, x], argTypes := #[t, t] })
    (base : Nat) (e : TypeId) (i : TypeInfo) (z : Value) (size bytes : Nat) (ht : P.underlying t = some (.slice e)) (hi : P.info? e = some i) (hz : i.zero = some z)
    (hsize : i.size = size) (hby : i.bytes = bytes) (hzs : z.cells.size = size) (hsz : 0 < size)
    (v : Value) (n : Nat) (xs : List Value) (hs : a.eval s = v) (hown : w.ownsRow base e size v n xs) (xv : Value) (hx : a.eval x = xv) (m : Nat) (news : List Value) (hsrc : Src w size xv m news) (h1 : ∀ u ∈ news, u.oneCell' = true)
    (h63 : n + m ≤ maxLen) (hbytes : (n + m) * bytes ≤ 140737488355328) (hbase : base ≤ w.heap.size)
    (h : ∀ a' cap w', w'.ownsRow base e size (.slice a' (n + m) cap) (n + m) (xs ++ news) → w.grownBy w' v.ownBlock → (Value.slice a' (n + m) cap = .slice none 0 0 ↔ v = .slice none 0 0 ∧ m = 0) → ((Value.slice a' (n + m) cap).ownBlock = v.ownBlock ∨ (Value.slice a' (n + m) cap).ownBlock = some w.heap.size) → wpList P ops Q rest (a.put o.dst (.slice a' (n + m) cap)) w') :
    wpList P ops Q (o :: rest) a w := by
  refine wpList_plain hgd fun K hK => ?_
  obtain ⟨v', w', hrun, h2, h3, h4, h5⟩ := run_append_src (P := P) w base t o.type e i z size bytes ht hi hz hsize hby hzs hsz v n xs hown xv m news hsrc h1 h63 hbytes hbase
  obtain ⟨a', cap, rfl⟩ := ownsRow_shape h2
  unfold Oper.wp
  simp [execOp, ho, resolve, invoke, builtin, hs, hx, hrun, Result.andThen]
  exact hK _ _ (h a' cap w' h2 h3 h4 h5)

/-- A slice of no element, in a block of its own. -/
theorem ownsRow_empty (w : World) (base : Nat) (e : TypeId) (size : Nat) (hb : base ≤ w.heap.size) : (w.alloc (.cells #[] e)).ownsRow base e size (.slice (some ⟨w.heap.size, 0, none⟩) 0 0) 0 [] :=
  World.ownsRow_made w #[] 0 hb (by simp [maxLen]) (by simp)



end Go.Proofs.YtfjekjbkifmpfaaDoor

/-
  A range over a function whose rounds are told what they are handed; the loop's variables may lie in blocks of their own.
-/
namespace Go.Proofs.YtfjekjbkifmpfaaDoor
open Go.RowKit Go.Shelf

/-- No operation is a defer statement. -/
def plainOp (o : Oper) : Bool := match o.op with
  | .defer _ => false
  | _ => true

theorem plainOp_ne {o : Oper} (h : plainOp o = true) (c : Call) : o.op ≠ .defer c := by
  intro e
  simp [plainOp, e] at h

theorem operIn_round {F : Fence} {n : Nat} {P : Program} {o : Oper} {a : Act} {w : World} {K : Act → World → Prop} {Q : Exit → Act → World → Prop} (l : Nat) (h : plainOp o = true) (hh : o.wpIn F n P a w K Q) : o.wpIn (F.inRound l) n P a w K Q := by
  unfold Oper.wpIn at *
  rw [Oper.semAt_plain F _ _ (plainOp_ne h)] at hh
  rw [Oper.semAt_plain (F.inRound l) _ _ (plainOp_ne h)]
  exact hh

theorem wpAnyIn_round {F : Fence} {n : Nat} {P : Program} {md : Region.Mode} {ops : Array Oper} {Q : Exit → Act → World → Prop} (l : Nat) (hp : ∀ (i : Nat) o, ops[i]? = some o → plainOp o = true) : ∀ (fuel : Nat) (listed : Array Bool) (a : Act) (w : World), wpAnyIn F n P md ops Q fuel listed a w → wpAnyIn (F.inRound l) n P md ops Q fuel listed a w
  | 0, _, _, _, h => h
  | fuel + 1, listed, a, w, h => by
    refine ⟨h.1, fun i hi => ?_⟩
    have h2 := wpOpIn_mono (fun a w hh => wpAnyIn_round l hp fuel (listed.setIfInBounds i true) a w hh) (h.2 i hi)
    unfold wpOpIn at h2 ⊢
    split
    · rename_i ho
      simpa [ho] using h2
    · rename_i o ho
      simp only [ho] at h2
      split
      · rename_i hw
        simp only [hw, if_true] at h2
        exact operIn_round l (hp i o ho) h2
      · rename_i hw
        simp only [hw] at h2
        exact h2

/-- A region that draws its order, within a round: one walk of the lexical order serves every order. -/
theorem region_round {F : Fence} {n : Nat} {P : Program} {id r : Nat} {Q : Exit → Act → World → Prop} {a : Act} {w : World} {l : List Oper} (hro : F.round = none) (hm : P.follows .mixedOrders = true) (hB : Region.lexB .any l.toArray = true) (hp : l.all plainOp = true)
    (h : wpQuietIn F n P l.toArray (fun w' => ∃ n, w' = w.drewN n) (fun a' => ∀ w', (∃ n, w' = w.drewN n) → Q .normal a' w') l a) : (Code.region id l.toArray true).wpIn (F.inRound r) n P Q a w := by
  simp only [Region.lexB, Bool.and_eq_true] at hB
  refine wpIn_region_any hm (wpAnyIn_round r ?_ _ _ _ _ (wpAnyIn_of_quiet (Q := fun a' => ∀ w', (∃ n, w' = w.drewN n) → Q .normal a' w') hro (fun _ w' hw' h => h w' hw') _ _ _ _ ⟨1, rfl⟩ ?_))
  · intro i o ho
    rw [List.all_eq_true] at hp
    exact hp o (List.mem_of_getElem? (by simpa using ho))
  · have := wpAnyQIn_lex (F := F) (n := n) (C := fun w' => ∃ n, w' = w.drewN n) (md := .any) hB.1 l 0 (Array.replicate l.toArray.size false) a (by simp) (by simpa using hB.2) h
    simpa using this

/-- One round: where the loop's record is ready ahead of it and behind the assignment, and the body keeps it. -/
theorem yield_gen {F : Fence} {m : Nat} {P : Program} {l : Nat} {r : Loop} {args tmps : Array Value} {ps : Array Tmp} {assign body : Code} {a1 : Act} {W W2 : World} {R : Ending → World → Prop} (hl : W.heap[l]? = some (.loop r)) (hst : r.state = .ready) (ht : r.tmps = tmps) (hp : r.params = ps) (ha : r.assign = assign) (hb : r.body = body) (hsz : args.size = ps.size) (hfn : F.fn r.fn) (hl2 : W2.heap[l]? = some (.loop r))
    (hA : ∀ K : Act → World → Prop, K a1 W2 → assign.wpIn (F.inRound l) m P (Exit.then K (fun _ _ _ => False)) { tmps := (ps.zip args).foldl (fun t (p, v) => t.setIfInBounds p v) tmps, defers := [] } W)
    (hB : body.wpIn (F.inRound l) m P (fun e _ V => V.heap[l]? = some (.loop { r with state := .busy }) ∧ ((e = .normal ∧ R (.returned (.bool true)) (V.putObj l (.loop { r with state := .ready, pending := none }))) ∨ (e = .ret ∧ R (.returned (.bool false)) (V.putObj l (.loop { r with state := .done, pending := some .ret }))))) a1 (W2.putObj l (.loop { r with state := .busy }))) :
    YieldAt F m P l args W R := by
  subst ht hp ha hb
  refine ⟨_, _, _, _, run_yield hl hsz, roundIn_of_wpIn hfn (hA _ ⟨_, run_beginRound hl2 hst, wpIn_mono hB ?_⟩)⟩
  rintro e a3 V ⟨hb, ⟨rfl, h⟩ | ⟨rfl, h⟩⟩
  · exact ⟨_, _, run_endRound none hb, h⟩
  · exact ⟨_, _, run_endRound (some .ret) hb, h⟩

/-- At the wide fence the depth is nothing. -/
theorem YieldAt.wide {m m' : Nat} {P : Program} {l : Nat} {args : Array Value} {W : World} {R : Ending → World → Prop} (h : YieldAt Fence.wide m P l args W R) : YieldAt Fence.wide m' P l args W R := by
  obtain ⟨fn, tmps, assign, body, hy, hR⟩ := h
  exact ⟨fn, tmps, assign, body, hy, hR.1, fun c cs _ => hR.2 c cs (room_wide _)⟩

theorem YieldAt.inRound {F : Fence} {m : Nat} {P : Program} {l : Nat} {args : Array Value} {W : World} {R : Ending → World → Prop} (k : Nat) (h : YieldAt F m P l args W R) : YieldAt (F.inRound k) m P l args W R := h

theorem Kept.putObj {S : Nat → Prop} (W : World) (l : Nat) (o : Obj) (h : S l) : Kept S W (W.putObj l o) :=
  ⟨rfl, rfl, rfl, by simp [World.putObj], fun b _ hs => World.putObj_heap_other (fun e => hs (e ▸ h))⟩

/-- The loop: the function that is ranged over is called with the loop's own yield. -/
theorem range_of {F : Fence} {n : Nat} {P : Program} {g : Operand} {ps : Array Tmp} {assign body : Code} {Q : Exit → Act → World → Prop} {a : Act} {w : World} (hro : F.round = none) (h1 : 1 ≤ n) {gf : Nat} {lb : Array Value} (hg : a.eval g = .func (.func gf) #[] lb) (hF : F.fn gf) (he : ∀ args w, (callFunc gf args).run P w = .ok (.enter gf args) w)
    (h : ∀ r : Loop, F.fn r.fn → r.state = .ready → r.pending = none → r.tmps = a.tmps → r.params = ps → r.assign = assign → r.body = body → CallsIn F (n - 1) P gf (#[.func (.yield (w.heap.size + 1)) #[] #[]] ++ lb) ((w.alloc (.deferred (some []))).alloc (.loop r)) fun e W => (∃ v, e = .returned v) ∧ ∃ r : Loop, W.heap[w.heap.size + 1]? = some (.loop r) ∧ r.state ≠ .busy ∧
      ((r.pending = none ∧ Q .normal { a with defers := { target := .collected w.heap.size, args := #[] } :: a.defers } (W.putObj (w.heap.size + 1) (.loop { r with state := .exhausted }))) ∨ (∃ c, r.pending = some c ∧ c.wpIn F n P Q { a with defers := { target := .collected w.heap.size, args := #[] } :: a.defers } (W.putObj (w.heap.size + 1) (.loop { r with state := .exhausted }))))) :
    (Code.rangeFunc g ps assign body).wpIn F n P Q a w := by
  refine wpIn_rangeFunc (fun fn hfn => ?_)
  refine ⟨w.heap.size + 1, [{ target := .collected w.heap.size, args := #[] }], _, { target := .fn (.func gf) lb, args := #[.func (.yield (w.heap.size + 1)) #[] #[]] }, ((w.alloc (.deferred (some []))).alloc (.loop { state := .ready, pending := none, fn, tmps := a.tmps, params := ps, assign, body, defers := w.heap.size })), gf, _, _, by rw [hro]; exact run_enterLoop_outer _ _ _ _ _, ?_, ?_, ?_, fun _ => h1, (h { state := .ready, pending := none, fn, tmps := a.tmps, params := ps, assign, body, defers := w.heap.size } hfn rfl rfl rfl rfl rfl rfl).mono ?_⟩
  · simp only [resolve, hg]
    simp [go_sem]
  · intro f hf
    simp [Target.leads] at hf
    exact hf ▸ hF
  · simp [invoke, go_sem, he]
  · rintro e W ⟨⟨v, rfl⟩, r, hr, hb, hq⟩
    have hend := run_endLoop (P := P) hr hb
    rcases hq with ⟨hp, q⟩ | ⟨c, hp, q⟩
    · rw [hp] at hend q
      exact ⟨none, _, hend, q⟩
    · rw [hp] at hend q
      exact ⟨some c, _, hend, q⟩

/-! A region that draws its order, within a round, by the laws of a region whose worlds meet a condition. -/

theorem operIn_wide {n : Nat} {P : Program} {o : Oper} {a : Act} {w : World} {K : Act → World → Prop} {Q : Exit → Act → World → Prop} (h : o.wp P a w K Q) : o.wpIn Fence.wide n P a w K Q := by
  refine ⟨fun _ _ => trivial, ?_⟩
  unfold Oper.wp at h
  show o.uponIn Fence.wide n P a K Q ((o.semAt none a.eval).run P w)
  rw [Oper.semAt_none]
  generalize (execOp a.eval o).run P w = res at *
  cases res with
  | ok nx w' =>
    cases nx with
    | enter f args => exact ⟨fun h => by simp [Fence.wide] at h, callsIn_wide.2 h⟩
    | row row args =>
      refine ⟨fun h => by simp [Fence.wide] at h, fun c cs _ => ?_⟩
      obtain ⟨v, w'', r, s⟩ := h c cs
      exact ⟨v, w'', r, stepsIn_wide.2 s⟩
    | _ => first | exact h | exact h.elim
  | halt hh w' =>
    cases hh <;> first | exact h | exact h.elim

theorem anyIn_wide {n : Nat} {P : Program} {md : Region.Mode} {ops : Array Oper} {Q : Exit → Act → World → Prop} (hQ : ¬ LetsOut Q) : ∀ (fuel : Nat) (listed : Array Bool) (a : Act) (w : World), wpAny P md ops Q fuel listed a w → wpAnyIn Fence.wide n P md ops Q fuel listed a w
  | 0, _, _, _, h => h
  | fuel + 1, listed, a, w, h => by
    refine ⟨h.1, fun i hi => ?_⟩
    have h2 := h.2 i hi
    unfold wpOp at h2
    unfold wpOpIn
    split
    · rename_i ho
      simp only [ho] at h2
      exact anyIn_wide hQ fuel _ a w h2
    · rename_i o ho
      simp only [ho] at h2
      split
      · rename_i hw
        simp only [hw, if_true] at h2
        rcases h2 with h2 | h2
        · exact operIn_wide (Oper.wp_mono (fun a w hh => anyIn_wide hQ fuel _ a w hh) h2)
        · exact absurd h2.2 hQ
      · rename_i hw
        simp only [hw] at h2
        exact ⟨fun _ _ => trivial, anyIn_wide hQ fuel _ _ w h2⟩

theorem region_round_held {n : Nat} {P : Program} {id r : Nat} {Q : Exit → Act → World → Prop} {a : Act} {w : World} {l : List Oper} (S : World → Prop) (hm : P.follows .mixedOrders = true) (hp : l.all plainOp = true) (hQ : ¬ LetsOut Q)
    (h : wpAnyH P .any l.toArray Q S l.toArray.size (Array.replicate l.toArray.size false) a w.drew) : (Code.region id l.toArray true).wpIn (Fence.wide.inRound r) n P Q a w := by
  refine wpIn_region_any hm (wpAnyIn_round r ?_ _ _ _ _ (anyIn_wide hQ _ _ _ _ (wpAny_of_held _ _ _ _ h)))
  intro i o ho
  rw [List.all_eq_true] at hp
  exact hp o (List.mem_of_getElem? (by simpa using ho))

/-- A post that no way out but the normal one meets. -/
def nrm (K : Act → World → Prop) : Exit → Act → World → Prop
  | .normal, a, w => K a w
  | _, _, _ => False

theorem wp_nrm {P : Program} {c : Code} {Q : Exit → Act → World → Prop} {a : Act} {w : World} (h : c.wp P (nrm (fun a w => Q .normal a w)) a w) : c.wp P Q a w :=
  Code.wp_mono (fun e a w h => by cases e <;> first | exact h | exact (h : False).elim) h

theorem wpIn_nrm {F : Fence} {n : Nat} {P : Program} {c : Code} {Q : Exit → Act → World → Prop} {a : Act} {w : World} (h : c.wpIn F n P (nrm (fun a w => Q .normal a w)) a w) : c.wpIn F n P Q a w :=
  wpIn_mono h (fun e a w h => by cases e <;> first | exact h | exact (h : False).elim)

theorem nrm_out (K : Act → World → Prop) : ¬ LetsOut (nrm K) := fun ⟨_, _, h⟩ => h

end Go.Proofs.YtfjekjbkifmpfaaDoor

/-
  Definitions as data: their nodes, whom a name means, the order of the nodes. Nothing here speaks of a program.
-/
namespace Go.Proofs.YtfjekjbkifmpfaaDoor
open Go.RowKit

/-- A node of a definition. -/
structure Nd where
  name : ByteArray
  kind : Int
  arg : ByteArray
  «to» : ByteArray
  delay : Int
  tries : Int
  after : List ByteArray

/-- The first node of a name. -/
def findP (ns : List Nd) (s : ByteArray) : Option Nat := ns.findIdx? (fun n => decide (n.name = s))

theorem findP_lt {ns : List Nd} {s : ByteArray} {i : Nat} (h : findP ns s = some i) : i < ns.length := by
  unfold findP at h
  rw [List.findIdx?_eq_some_iff_getElem] at h
  exact h.1

theorem findP_name {ns : List Nd} {s : ByteArray} {i : Nat} (h : findP ns s = some i) : (ns[i]'(findP_lt h)).name = s := by
  have h2 := h
  unfold findP at h2
  rw [List.findIdx?_eq_some_iff_getElem] at h2
  obtain ⟨_, h3, _⟩ := h2
  simpa using h3

theorem findP_first {ns : List Nd} {s : ByteArray} {i : Nat} (h : findP ns s = some i) {j : Nat} (hj : j < i) : (ns[j]'(Nat.lt_trans hj (findP_lt h))).name ≠ s := by
  have h2 := h
  unfold findP at h2
  rw [List.findIdx?_eq_some_iff_getElem] at h2
  obtain ⟨_, _, h4⟩ := h2
  have := h4 j hj
  simpa using this

theorem findP_none {ns : List Nd} {s : ByteArray} : findP ns s = none ↔ ∀ n ∈ ns, n.name ≠ s := by
  unfold findP
  rw [List.findIdx?_eq_none_iff]
  simp

theorem findP_take {ns : List Nd} {s : ByteArray} {k : Nat} (hk : k < ns.length) : findP (ns.take (k + 1)) s = (findP (ns.take k) s).or (if (ns[k]).name = s then some k else none) := by
  rw [List.take_add_one, List.getElem?_eq_getElem hk, Option.toList_some]
  unfold findP
  rw [List.findIdx?_append, List.length_take, Nat.min_eq_left (by omega)]
  congr 1
  by_cases h : (ns[k]).name = s
  · simp [h]
  · simp [h]

theorem findP_of_first {ns : List Nd} {s : ByteArray} {i : Nat} (hi : i < ns.length) (h : (ns[i]).name = s) (hf : ∀ j (hj : j < i), (ns[j]'(by omega)).name ≠ s) : findP ns s = some i := by
  unfold findP
  rw [List.findIdx?_eq_some_iff_getElem]
  exact ⟨hi, by simpa using h, fun j hj => by simpa using hf j hj⟩

/-- The node that a name in the After of n means. -/
def aheadP (ns : List Nd) (n : Nd) (s : ByteArray) : Option Nat := if s = n.name then none else findP ns s

theorem aheadP_lt {ns : List Nd} {n : Nd} {s : ByteArray} {i : Nat} (h : aheadP ns n s = some i) : i < ns.length := by
  unfold aheadP at h
  split at h
  · cases h
  · exact findP_lt h

/-- For how many of its After a node still waits, when those of T were told. -/
def need (ns : List Nd) (T : List Nat) (n : Nd) : Nat := n.after.countP (fun s => match aheadP ns n s with | some j => !T.contains j | none => true)

/-- How often a node's After means the node j. -/
def asks (ns : List Nd) (n : Nd) (j : Nat) : Nat := n.after.countP (fun s => decide (aheadP ns n s = some j))

/-- Node i was not told and may be. -/
def mayB (ns : List Nd) (T : List Nat) (i : Nat) : Bool := !T.contains i && match ns[i]? with | some n => decide (need ns T n = 0) | none => false

def nextP (ns : List Nd) (T : List Nat) : Option Nat := (List.range ns.length).find? (mayB ns T)

def ordK (ns : List Nd) : Nat → List Nat → List Nat
  | 0, T => T
  | k + 1, T => match nextP ns T with
    | some i => ordK ns k (T ++ [i])
    | none => T

/-- The nodes in order, as far as they can be told. -/
def ordP (ns : List Nd) : List Nat := ordK ns ns.length []

theorem mayB_lt {ns : List Nd} {T : List Nat} {i : Nat} (h : mayB ns T i = true) : i < ns.length := by
  unfold mayB at h
  cases hn : ns[i]? with
  | none => rw [hn] at h; simp at h
  | some n => exact (List.getElem?_eq_some_iff.1 hn).1

theorem nextP_some {ns : List Nd} {T : List Nat} {i : Nat} (h1 : mayB ns T i = true) (h2 : ∀ j, j < i → mayB ns T j = false) : nextP ns T = some i := by
  unfold nextP
  rw [List.find?_range_eq_some]
  exact ⟨h1, by simpa using mayB_lt h1, fun j hj => by simp [h2 j hj]⟩

theorem nextP_is {ns : List Nd} {T : List Nat} {i : Nat} (h : nextP ns T = some i) : mayB ns T i = true ∧ ∀ j, j < i → mayB ns T j = false := by
  unfold nextP at h
  rw [List.find?_range_eq_some] at h
  exact ⟨h.1, fun j hj => by simpa using h.2.2 j hj⟩

theorem nextP_none {ns : List Nd} {T : List Nat} (h : ∀ j, j < ns.length → mayB ns T j = false) : nextP ns T = none := by
  unfold nextP
  rw [List.find?_eq_none]
  intro x hx
  rw [List.mem_range] at hx
  simp [h x hx]

theorem need_add {ns : List Nd} {T : List Nat} {i : Nat} (hi : i ∉ T) (n : Nd) : need ns T n = need ns (T ++ [i]) n + asks ns n i := by
  unfold need asks
  induction n.after with
  | nil => rfl
  | cons s r ih =>
    rw [List.countP_cons, List.countP_cons, List.countP_cons, ih]
    cases ha : aheadP ns n s with
    | none => simp; omega
    | some j =>
      by_cases hj : j = i
      · subst hj
        simp [hi]; omega
      · have : ¬ (i = j) := fun e => hj e.symm
        simp [hj]; omega

/-- A run of the order so far: T was told, each at its turn. -/
def Runs (ns : List Nd) (T : List Nat) : Prop := T.Nodup ∧ (∀ i ∈ T, i < ns.length) ∧ (∀ i ∈ T, ∀ n, ns[i]? = some n → need ns T n = 0) ∧ T.length ≤ ns.length ∧ ordP ns = ordK ns (ns.length - T.length) T

theorem nodup_le : ∀ {n : Nat} {l : List Nat}, l.Nodup → (∀ i ∈ l, i < n) → l.length ≤ n := by
  intro n
  induction n with
  | zero =>
    intro l _ h
    cases l with
    | nil => simp
    | cons x r => have := h x (List.mem_cons_self ..); omega
  | succ n ih =>
    intro l hn hl
    have h2 := ih (l := l.erase n) (hn.erase n) (fun i hi => by
      have h3 := hl i (List.mem_of_mem_erase hi)
      have h4 : i ≠ n := fun e => by subst e; exact (List.Nodup.not_mem_erase hn) hi
      omega)
    rw [List.length_erase] at h2
    split at h2 <;> omega

theorem Runs.zero (ns : List Nd) : Runs ns [] := ⟨by simp, by simp, by simp, by simp, rfl⟩

/-- One more is told: the first that may be. -/
theorem Runs.step {ns : List Nd} {T : List Nat} (R : Runs ns T) {i : Nat} (h1 : mayB ns T i = true) (h2 : ∀ j, j < i → mayB ns T j = false) : Runs ns (T ++ [i]) := by
  obtain ⟨r1, r2, r3, r4, r5⟩ := R
  have hi : i ∉ T := by
    intro hm
    unfold mayB at h1
    simp [hm] at h1
  have hlt := mayB_lt h1
  have n1 : (T ++ [i]).Nodup := by
    rw [List.nodup_append]
    exact ⟨r1, by simp, fun a ha b hb e => by simp at hb; subst hb; subst e; exact hi ha⟩
  have n2 : ∀ k ∈ T ++ [i], k < ns.length := by
    intro k hk
    rcases List.mem_append.1 hk with h | h
    · exact r2 k h
    · simp at h; subst h; exact hlt
  have n4 := nodup_le n1 n2
  refine ⟨n1, n2, ?_, n4, ?_⟩
  · intro k hk n hn
    have ha := need_add (ns := ns) hi n
    rcases List.mem_append.1 hk with h | h
    · have := r3 k h n hn; omega
    · simp at h; subst h
      unfold mayB at h1
      rw [hn] at h1
      simp at h1
      omega
  · rw [r5, List.length_append, List.length_singleton] at *
    have e : ns.length - T.length = (ns.length - (T.length + 1)) + 1 := by omega
    rw [e, ordK, nextP_some h1 h2]

/-- None may be told: that was all. -/
theorem Runs.stop {ns : List Nd} {T : List Nat} (R : Runs ns T) (h : ∀ j, j < ns.length → mayB ns T j = false) : ordP ns = T := by
  obtain ⟨r1, r2, r3, r4, r5⟩ := R
  rw [r5]
  cases ns.length - T.length with
  | zero => rfl
  | succ k => rw [ordK, nextP_none h]

/-- Telling i leaves those ready that were, and makes only those ready that ask for i. -/
theorem mayB_kept {ns : List Nd} {T : List Nat} {i k : Nat} (hi : i ∉ T) {n : Nd} (hn : ns[k]? = some n) (ha : asks ns n i = 0) (hk : k ≠ i) : mayB ns (T ++ [i]) k = mayB ns T k := by
  unfold mayB
  rw [hn]
  have h := need_add (ns := ns) hi n
  rw [ha] at h
  simp only [Nat.add_zero] at h
  simp [h, hk]

theorem asks_told {ns : List Nd} {T : List Nat} {i : Nat} (hi : i ∉ T) {n : Nd} (h0 : need ns T n = 0) : asks ns n i = 0 := by
  have := need_add (ns := ns) hi n
  omega

theorem need_le (ns : List Nd) (T : List Nat) (n : Nd) : need ns T n ≤ n.after.length := List.countP_le_length

theorem need_nil (ns : List Nd) (n : Nd) : need ns [] n = n.after.length := by
  unfold need
  rw [List.countP_eq_length]
  intro s _
  cases aheadP ns n s <;> simp

/-- A text of 1 to most bytes, each of them one of a list. -/
def madeP (s l : ByteArray) (most : Int) : Bool := decide (1 ≤ s.size) && decide ((s.size : Int) ≤ most) && s.data.toList.all (fun c => l.data.toList.contains c)

def lettersB : ByteArray := ⟨#[97, 98, 99, 100, 101, 102, 103, 104, 105, 106, 107, 108, 109, 110, 111, 112, 113, 114, 115, 116, 117, 118, 119, 120, 121, 122, 65, 66, 67, 68, 69, 70, 71, 72, 73, 74, 75, 76, 77, 78, 79, 80, 81, 82, 83, 84, 85, 86, 87, 88, 89, 90, 48, 49, 50, 51, 52, 53, 54, 55, 56, 57, 46, 45, 95]⟩
def flowsB : ByteArray := ⟨#[97, 98, 99, 100, 101, 102, 103, 104, 105, 106, 107, 108, 109, 110, 111, 112, 113, 114, 115, 116, 117, 118, 119, 120, 121, 122, 65, 66, 67, 68, 69, 70, 71, 72, 73, 74, 75, 76, 77, 78, 79, 80, 81, 82, 83, 84, 85, 86, 87, 88, 89, 90, 48, 49, 50, 51, 52, 53, 54, 55, 56, 57, 46, 45, 95, 47]⟩

def nameP (s : ByteArray) : Bool := madeP s lettersB 64
def flowP (s : ByteArray) : Bool := madeP s flowsB 256

/-- A node has the names that its kind needs. -/
def namedP (n : Nd) : Bool := nameP n.name && (n.kind == 2 || nameP n.arg) && (n.kind != 5 || flowP n.«to»)
/-- A node has what its kind allows, and nothing else. -/
def fitsP (n : Nd) : Bool :=
  if n.delay < 0 || n.delay > 1000000 then false
  else if n.kind == 1 then decide (1 ≤ n.tries) && decide (n.tries ≤ 10) && decide (n.«to».size = 0)
  else if n.kind == 2 then n.tries == 0 && decide (n.«to».size = 0) && decide (n.arg.size = 0)
  else if n.kind == 3 || n.kind == 4 then n.tries == 0 && decide (n.«to».size = 0) && n.delay == 0
  else if n.kind == 5 then n.tries == 0 && n.delay == 0
  else false

/-- What is wrong with a node, but for its After (0: nothing). -/
def nodeE (ns : List Nd) (i : Nat) (n : Nd) : Int :=
  if namedP n then (if (findP ns n.name).getD 0 < i then 16 else if fitsP n then 0 else 1) else 17

/-- What is wrong with a node's After. -/
def afterE (ns : List Nd) (n : Nd) : Int :=
  if n.after.all (fun s => (findP ns s).isSome) then (if n.after.Nodup then 0 else 16) else 6

/-- The first of some that is not 0. -/
def firstE (f : Nat → Int) : Nat → Option (Nat × Int)
  | 0 => none
  | k + 1 => match firstE f k with
    | some x => some x
    | none => if f k = 0 then none else some (k, f k)

/-- What is wrong with a definition: the node's number, the error. -/
def checkP (name : ByteArray) (ns : List Nd) : Int × Int :=
  if nameP name = false then (-1, 17)
  else if ns.length < 1 ∨ 32 < ns.length then (-1, 10)
  else match firstE (fun i => match ns[i]? with | some n => nodeE ns i n | none => 0) ns.length with
    | some (i, e) => (i, e)
    | none => match firstE (fun i => match ns[i]? with | some n => afterE ns n | none => 0) ns.length with
      | some (i, e) => (i, e)
      | none => if (ordP ns).length = ns.length then (-1, 0) else (-1, 15)

/-- Who waits for node j, each as often as it asks, among the first i nodes. -/
def bhL (ns : List Nd) (j : Nat) : Nat → List Nat
  | 0 => []
  | i + 1 => bhL ns j i ++ List.replicate (match ns[i]? with | some n => asks ns n j | none => 0) i

theorem bh_lt {ns : List Nd} {j : Nat} : ∀ {i x : Nat}, x ∈ bhL ns j i → x < i
  | 0, x, h => by simp [bhL] at h
  | i + 1, x, h => by
    rw [bhL, List.mem_append] at h
    rcases h with h | h
    · have := bh_lt h; omega
    · rw [List.mem_replicate] at h; omega

theorem bh_count {ns : List Nd} {j : Nat} : ∀ {i x : Nat} {n : Nd}, ns[x]? = some n → x < i → (bhL ns j i).count x = asks ns n j
  | 0, x, n, _, h => by omega
  | i + 1, x, n, hn, h => by
    rw [bhL, List.count_append]
    by_cases e : x = i
    · subst e
      rw [hn, List.count_replicate_self, List.count_eq_zero_of_not_mem (fun h => by have := bh_lt h; omega), Nat.zero_add]
    · rw [bh_count hn (by omega), List.count_replicate, if_neg (by simpa using fun h => e h.symm)]
      rfl

theorem bh_asks {ns : List Nd} {j i x : Nat} (h : x ∈ bhL ns j i) : ∃ n, ns[x]? = some n ∧ 0 < asks ns n j := by
  induction i with
  | zero => simp [bhL] at h
  | succ i ih =>
    rw [bhL, List.mem_append] at h
    rcases h with h | h
    · exact ih h
    · rw [List.mem_replicate] at h
      obtain ⟨h1, rfl⟩ := h
      cases hn : ns[x]? with
      | none => rw [hn] at h1; simp at h1
      | some n => rw [hn] at h1; exact ⟨n, rfl, by simpa using Nat.pos_of_ne_zero h1⟩

theorem bh_mem {ns : List Nd} {j x : Nat} {n : Nd} (hn : ns[x]? = some n) (h : 0 < asks ns n j) : x ∈ bhL ns j ns.length := by
  have hx := (List.getElem?_eq_some_iff.1 hn).1
  rw [← List.count_pos_iff, bh_count hn hx]
  exact h

/-- What stands open of each node when those of T were told: -1, if it was itself. -/
def OpenIs (ns : List Nd) (T : List Nat) (fo : List Int) : Prop := fo.length = ns.length ∧ ∀ x n, ns[x]? = some n → fo[x]? = some (if x ∈ T then -1 else (need ns T n : Int))

/-- .. while the first p of those that wait for i are told of it. -/
def OpenAt (ns : List Nd) (T : List Nat) (i p : Nat) (fo : List Int) : Prop := fo.length = ns.length ∧
  ∀ x n, ns[x]? = some n → fo[x]? = some (if x ∈ T ++ [i] then -1 else (need ns T n : Int) - (((bhL ns i ns.length).take p).count x : Nat))

theorem openIs_may {ns : List Nd} {T : List Nat} {fo : List Int} (O : OpenIs ns T fo) {i : Nat} (hi : i < ns.length) : (fo[i]'(by rw [O.1]; exact hi) = 0) ↔ mayB ns T i = true := by
  have h := O.2 i _ (List.getElem?_eq_getElem hi)
  rw [List.getElem?_eq_getElem (by rw [O.1]; exact hi)] at h
  have h2 := Option.some.inj h
  rw [h2]
  unfold mayB
  rw [List.getElem?_eq_getElem hi]
  by_cases hT : i ∈ T
  · simp [hT]
  · simp [hT]

theorem openAt_start {ns : List Nd} {T : List Nat} {fo : List Int} (O : OpenIs ns T fo) (i : Nat) : OpenAt ns T i 0 (fo.set i (-1)) := by
  refine ⟨by rw [List.length_set]; exact O.1, fun x n hn => ?_⟩
  have h := O.2 x n hn
  rw [List.getElem?_set]
  by_cases e : i = x
  · subst e
    have hx := (List.getElem?_eq_some_iff.1 h).1
    simp [hx]
  · rw [if_neg e, h]
    by_cases hT : x ∈ T
    · simp [hT]
    · have : ¬ x = i := fun h => e h.symm
      simp [hT, this]

theorem bh_free {ns : List Nd} {T : List Nat} {i : Nat} (R : Runs ns T) (hm : mayB ns T i = true) {x : Nat} (hx : x ∈ bhL ns i ns.length) : x ∉ T ++ [i] ∧ ∃ n, ns[x]? = some n ∧ (bhL ns i ns.length).count x ≤ need ns T n := by
  obtain ⟨n, hn, ha⟩ := bh_asks hx
  have hi : i ∉ T := by
    intro h
    unfold mayB at hm
    simp [h] at hm
  have hadd := need_add (ns := ns) hi n
  refine ⟨fun h => ?_, n, hn, ?_⟩
  · rcases List.mem_append.1 h with h | h
    · have := R.2.2.1 x h n hn; omega
    · simp at h; subst h
      unfold mayB at hm
      rw [hn] at hm
      simp at hm
      omega
  · rw [bh_count hn (bh_lt hx)]; omega

theorem openAt_step {ns : List Nd} {T : List Nat} {i p : Nat} {fo : List Int} (R : Runs ns T) (hm : mayB ns T i = true) (O : OpenAt ns T i p fo) (hp : p < (bhL ns i ns.length).length) :
    ∃ h : (bhL ns i ns.length)[p] < fo.length, 1 ≤ fo[(bhL ns i ns.length)[p]] ∧ OpenAt ns T i (p + 1) (fo.set (bhL ns i ns.length)[p] (fo[(bhL ns i ns.length)[p]] - 1)) := by
  have hx : (bhL ns i ns.length)[p] ∈ bhL ns i ns.length := List.getElem_mem hp
  obtain ⟨hT, n, hn, hc⟩ := bh_free R hm hx
  have hlt : (bhL ns i ns.length)[p] < fo.length := by rw [O.1]; exact bh_lt hx
  have ht : (bhL ns i ns.length).take (p + 1) = (bhL ns i ns.length).take p ++ [(bhL ns i ns.length)[p]] := by rw [List.take_add_one, List.getElem?_eq_getElem hp]; rfl
  have hv := O.2 _ n hn
  rw [if_neg hT, List.getElem?_eq_getElem hlt] at hv
  have hv2 := Option.some.inj hv
  have hcnt : ((bhL ns i ns.length).take p).count (bhL ns i ns.length)[p] + 1 ≤ (bhL ns i ns.length).count (bhL ns i ns.length)[p] := by
    have h1 : ((bhL ns i ns.length).take (p + 1)).count (bhL ns i ns.length)[p] ≤ (bhL ns i ns.length).count (bhL ns i ns.length)[p] := (List.take_sublist _ _).count_le _
    rw [ht, List.count_append, List.count_singleton_self] at h1
    exact h1
  refine ⟨hlt, by rw [hv2]; omega, by rw [List.length_set]; exact O.1, fun x m hxm => ?_⟩
  rw [List.getElem?_set, ht, List.count_append]
  by_cases e : (bhL ns i ns.length)[p] = x
  · rw [if_pos e, if_pos hlt, hv2, List.count_singleton]
    have hT' : ¬ x ∈ T ++ [i] := e ▸ hT
    rw [if_neg hT', if_pos (by simpa using e)]
    have : m = n := by rw [e, hxm] at hn; exact (Option.some.inj hn)
    subst this
    rw [e]
    congr 1
    omega
  · have e2 : ((bhL ns i ns.length)[p] == x) = false := by simpa using e
    rw [if_neg e, O.2 x m hxm, List.count_singleton, e2]
    simp

theorem openAt_end {ns : List Nd} {T : List Nat} {i : Nat} {fo : List Int} (hm : mayB ns T i = true) {p : Nat} (hp : p = (bhL ns i ns.length).length) (O : OpenAt ns T i p fo) : OpenIs ns (T ++ [i]) fo := by
  refine ⟨O.1, fun x n hn => ?_⟩
  have hi : i ∉ T := by
    intro h
    unfold mayB at hm
    simp [h] at hm
  rw [O.2 x n hn, hp, List.take_length, bh_count hn (List.getElem?_eq_some_iff.1 hn).1]
  have hadd := need_add (ns := ns) hi n
  congr 1
  split
  · rfl
  · omega

/-- Behind i's telling no node ahead of fr may be told. -/
theorem may_after {ns : List Nd} {T : List Nat} {i fr : Nat} {fo : List Int} (hm : mayB ns T i = true) (hlow : ∀ y, y < i → mayB ns T y = false) (O : OpenIs ns (T ++ [i]) fo) (hfr : fr ≤ i)
    (hz : ∀ x ∈ bhL ns i ns.length, fo[x]? = some 0 → fr ≤ x) : ∀ y, y < fr → mayB ns (T ++ [i]) y = false := by
  intro y hy
  have hi : i ∉ T := by
    intro h
    unfold mayB at hm
    simp [h] at hm
  cases hb : mayB ns (T ++ [i]) y with
  | false => rfl
  | true =>
    exfalso
    have hyl := mayB_lt hb
    have hn := List.getElem?_eq_getElem hyl
    have h0 := (openIs_may O hyl).2 hb
    have h1 := hlow y (by omega)
    have hadd := need_add (ns := ns) hi ns[y]
    by_cases ha : 0 < asks ns ns[y] i
    · have := hz y (bh_mem hn ha) (by rw [List.getElem?_eq_getElem (by rw [O.1]; exact hyl), h0])
      omega
    · rw [mayB_kept hi hn (by omega) (by omega)] at hb
      rw [hb] at h1
      cases h1

end Go.Proofs.YtfjekjbkifmpfaaDoor

/-
  Definitions in memory: rows of texts, rows of nodes; they are read alone.
-/
namespace Go.Proofs.YtfjekjbkifmpfaaDoor
open Go.RowKit

/-- A row of cells: none, or it lies at b, o. -/
def CellsAt (w : World) (a : Option Addr) (l : List Value) : Prop := l = [] ∨ ∃ b o, a = some ⟨b, o, none⟩ ∧ ∀ j u, l[j]? = some u → w.cell? ⟨b, o + j, none⟩ = some u

theorem CellsAt.kept {S : Nat → Prop} {w w' : World} {a : Option Addr} {l : List Value} (C : CellsAt w a l) (K : Kept S w w') (hS : ∀ k, k < w.heap.size → ¬ S k) : CellsAt w' a l := by
  rcases C with h | ⟨b, o, h, hc⟩
  · exact .inl h
  · refine .inr ⟨b, o, h, fun j u hu => ?_⟩
    have h1 := hc j u hu
    have h2 := World.block_lt_of_cell? w _ h1
    rw [World.cell?_of_block (w := w) (K.block _ h2 (hS _ h2))]
    exact h1

theorem keepC {S : Nat → Prop} {w w' : World} (K : Kept S w w') {a : Addr} {v : Value} (h : w.cell? a = some v) (hS : ∀ k, k < w.heap.size → ¬ S k) : w'.cell? a = some v := by
  have h2 := World.block_lt_of_cell? w _ h
  rw [World.cell?_of_block (w := w) (K.block _ h2 (hS _ h2))]
  exact h

/-- Texts that lie in a row. -/
def TextsAt (w : World) (v : Value) (l : List ByteArray) : Prop := ∃ a c, v = .slice a l.length c ∧ l.length ≤ c ∧ c ≤ maxLen ∧ CellsAt w a (l.map Value.string) ∧ ∀ s ∈ l, s.size ≤ maxLen

theorem TextsAt.kept {S : Nat → Prop} {w w' : World} {v : Value} {l : List ByteArray} (C : TextsAt w v l) (K : Kept S w w') (hS : ∀ k, k < w.heap.size → ¬ S k) : TextsAt w' v l := by
  obtain ⟨a, c, h1, h2, h3, h4, h5⟩ := C
  exact ⟨a, c, h1, h2, h3, h4.kept K hS, h5⟩

theorem TextsAt.at {w : World} {v : Value} {l : List ByteArray} (C : TextsAt w v l) : ∃ a c, v = .slice a l.length c ∧ l.length ≤ c ∧ (l ≠ [] → ∃ b o, a = some ⟨b, o, none⟩ ∧ ∀ i (h : i < l.length), w.cell? ⟨b, o + i, none⟩ = some (.string (l[i]'h))) := by
  obtain ⟨a, c, h1, h2, h3, h4, h5⟩ := C
  refine ⟨a, c, h1, h2, fun hne => ?_⟩
  rcases h4 with h | ⟨b, o, h, hc⟩
  · simp at h; exact absurd h hne
  · exact ⟨b, o, h, fun i hi => hc i _ (by simp [hi])⟩

/-- A node's seven cells. -/
def ndC (n : Nd) (v : Value) : List Value := [.string n.name, .int .i64 n.kind, .string n.arg, .string n.«to», .int .i64 n.delay, .int .i64 n.tries, v]

/-- A node is one of memory: its texts and numbers are. -/
structure NdOk (n : Nd) : Prop where
  name : n.name.size ≤ maxLen
  arg : n.arg.size ≤ maxLen
  «to» : n.«to».size ≤ maxLen
  kind : isI64 n.kind
  delay : isI64 n.delay
  tries : isI64 n.tries
  few : n.after.length ≤ 1000000

/-- Nodes that lie in a row at a. -/
def NodesAt (w : World) (a : Option Addr) (ns : List Nd) : Prop := (∀ n ∈ ns, NdOk n) ∧ (ns = [] ∨ ∃ b o, a = some ⟨b, o, none⟩ ∧ ∀ i (h : i < ns.length), ∃ v, TextsAt w v (ns[i]'h).after ∧ ∀ j u, (ndC (ns[i]'h) v)[j]? = some u → w.cell? ⟨b, o + i * 7 + j, none⟩ = some u)

theorem NodesAt.kept {S : Nat → Prop} {w w' : World} {a : Option Addr} {ns : List Nd} (C : NodesAt w a ns) (K : Kept S w w') (hS : ∀ k, k < w.heap.size → ¬ S k) : NodesAt w' a ns := by
  refine ⟨C.1, ?_⟩
  rcases C.2 with h | ⟨b, o, h, hc⟩
  · exact .inl h
  · refine .inr ⟨b, o, h, fun i hi => ?_⟩
    obtain ⟨v, hv, hw⟩ := hc i hi
    refine ⟨v, hv.kept K hS, fun j u hu => ?_⟩
    have h1 := hw j u hu
    have h2 := World.block_lt_of_cell? w _ h1
    rw [World.cell?_of_block (w := w) (K.block _ h2 (hS _ h2))]
    exact h1

/-- A node's own row and what it holds. -/
theorem NodesAt.at {w : World} {a : Option Addr} {ns : List Nd} (C : NodesAt w a ns) {i : Nat} (hi : i < ns.length) : ∃ b o av cv, a = some ⟨b, o, none⟩ ∧ TextsAt w (.slice av (ns[i]).after.length cv) (ns[i]).after ∧
    w.cell? ⟨b, o + i * 7, none⟩ = some (.string (ns[i]).name) ∧ w.cell? ⟨b, o + i * 7 + 1, none⟩ = some (.int .i64 (ns[i]).kind) ∧ w.cell? ⟨b, o + i * 7 + 2, none⟩ = some (.string (ns[i]).arg) ∧ w.cell? ⟨b, o + i * 7 + 3, none⟩ = some (.string (ns[i]).«to») ∧
    w.cell? ⟨b, o + i * 7 + 4, none⟩ = some (.int .i64 (ns[i]).delay) ∧ w.cell? ⟨b, o + i * 7 + 5, none⟩ = some (.int .i64 (ns[i]).tries) ∧ w.cell? ⟨b, o + i * 7 + 6, none⟩ = some (.slice av (ns[i]).after.length cv) := by
  rcases C.2 with h | ⟨b, o, h, hc⟩
  · subst h; simp at hi
  · obtain ⟨v, hv, hw⟩ := hc i hi
    have hv2 := hv
    obtain ⟨av, cv, rfl, _⟩ := hv2
    exact ⟨b, o, av, cv, h, hv, hw 0 _ rfl, hw 1 _ rfl, hw 2 _ rfl, hw 3 _ rfl, hw 4 _ rfl, hw 5 _ rfl, hw 6 _ rfl⟩

/-- Nodes that lie in a row at a; their Afters may be of any length. -/
def RawAt (w : World) (a : Option Addr) (ns : List Nd) : Prop := (∀ n ∈ ns, NdOk { n with after := [] }) ∧ (ns = [] ∨ ∃ b o, a = some ⟨b, o, none⟩ ∧ ∀ i (h : i < ns.length), ∃ v, TextsAt w v (ns[i]'h).after ∧ ∀ j u, (ndC (ns[i]'h) v)[j]? = some u → w.cell? ⟨b, o + i * 7 + j, none⟩ = some u)

theorem RawAt.kept {S : Nat → Prop} {w w' : World} {a : Option Addr} {ns : List Nd} (C : RawAt w a ns) (K : Kept S w w') (hS : ∀ k, k < w.heap.size → ¬ S k) : RawAt w' a ns := by
  refine ⟨C.1, ?_⟩
  rcases C.2 with h | ⟨b, o, h, hc⟩
  · exact .inl h
  · refine .inr ⟨b, o, h, fun i hi => ?_⟩
    obtain ⟨v, hv, hw⟩ := hc i hi
    refine ⟨v, hv.kept K hS, fun j u hu => ?_⟩
    exact keepC K (hw j u hu) hS

theorem RawAt.at {w : World} {a : Option Addr} {ns : List Nd} (C : RawAt w a ns) {i : Nat} (hi : i < ns.length) : ∃ b o av cv, a = some ⟨b, o, none⟩ ∧ TextsAt w (.slice av (ns[i]).after.length cv) (ns[i]).after ∧
    w.cell? ⟨b, o + i * 7, none⟩ = some (.string (ns[i]).name) ∧ w.cell? ⟨b, o + i * 7 + 1, none⟩ = some (.int .i64 (ns[i]).kind) ∧ w.cell? ⟨b, o + i * 7 + 2, none⟩ = some (.string (ns[i]).arg) ∧ w.cell? ⟨b, o + i * 7 + 3, none⟩ = some (.string (ns[i]).«to») ∧
    w.cell? ⟨b, o + i * 7 + 4, none⟩ = some (.int .i64 (ns[i]).delay) ∧ w.cell? ⟨b, o + i * 7 + 5, none⟩ = some (.int .i64 (ns[i]).tries) ∧ w.cell? ⟨b, o + i * 7 + 6, none⟩ = some (.slice av (ns[i]).after.length cv) := by
  rcases C.2 with h | ⟨b, o, h, hc⟩
  · subst h; simp at hi
  · obtain ⟨v, hv, hw⟩ := hc i hi
    have hv2 := hv
    obtain ⟨av, cv, rfl, _⟩ := hv2
    exact ⟨b, o, av, cv, h, hv, hw 0 _ rfl, hw 1 _ rfl, hw 2 _ rfl, hw 3 _ rfl, hw 4 _ rfl, hw 5 _ rfl, hw 6 _ rfl⟩

theorem NodesAt.raw {w : World} {a : Option Addr} {ns : List Nd} (C : NodesAt w a ns) : RawAt w a ns := ⟨fun n h => ⟨(C.1 n h).name, (C.1 n h).arg, (C.1 n h).«to», (C.1 n h).kind, (C.1 n h).delay, (C.1 n h).tries, Nat.zero_le _⟩, C.2⟩

theorem RawAt.nodes {w : World} {a : Option Addr} {ns : List Nd} (C : RawAt w a ns) (h : ∀ n ∈ ns, n.after.length ≤ 1000000) : NodesAt w a ns := ⟨fun n hn => ⟨(C.1 n hn).name, (C.1 n hn).arg, (C.1 n hn).«to», (C.1 n hn).kind, (C.1 n hn).delay, (C.1 n hn).tries, h n hn⟩, C.2⟩

theorem keptRaw {w w' : World} (K : Kept (fun _ => False) w w') {a : Option Addr} {ns : List Nd} (C : RawAt w a ns) : RawAt w' a ns := C.kept K (fun _ _ h => h)

/-- A definition's value. -/
def defV (name : ByteArray) (a : Option Addr) (n c : Nat) : Value := .agg #[.string name, .slice a n c]

/-- Only what is new may have changed: what is read stays. -/
theorem keptNew {w w' : World} (K : Kept (fun _ => False) w w') {a : Option Addr} {ns : List Nd} (C : NodesAt w a ns) : NodesAt w' a ns := C.kept K (fun _ _ h => h)

/-- What was put into a box stays there. -/
theorem boxC {S : Nat → Prop} {w w' : World} {arr : Array Value} {T : TypeId} (K : Kept S (w.alloc (.cells arr T)) w') (hS : ¬ S w.heap.size) (j : Nat) (u : Value) (h : arr[j]? = some u) : w'.cell? ⟨w.heap.size, j, none⟩ = some u := by
  have hb := K.block w.heap.size (by simp) hS
  rw [World.cell?_of_block (w := w.alloc (.cells arr T)) hb]
  unfold World.cell?
  rw [heap_alloc_new]
  exact h

theorem boxD {w w' : World} {u0 u1 : Value} {T : TypeId} (K : Kept (fun _ => False) (w.alloc (.cells #[u0, u1] T)) w') : w'.cell? ⟨w.heap.size, 0, none⟩ = some u0 ∧ w'.cell? ⟨w.heap.size, 1, none⟩ = some u1 :=
  ⟨boxC K (fun h => h) 0 _ rfl, boxC K (fun h => h) 1 _ rfl⟩

theorem boxN {w w' : World} {u0 u1 u2 u3 u4 u5 u6 : Value} {T : TypeId} (K : Kept (fun _ => False) (w.alloc (.cells #[u0, u1, u2, u3, u4, u5, u6] T)) w') : w'.cell? ⟨w.heap.size, 0, none⟩ = some u0 ∧ w'.cell? ⟨w.heap.size, 1, none⟩ = some u1 ∧ w'.cell? ⟨w.heap.size, 2, none⟩ = some u2 ∧
    w'.cell? ⟨w.heap.size, 3, none⟩ = some u3 ∧ w'.cell? ⟨w.heap.size, 4, none⟩ = some u4 ∧ w'.cell? ⟨w.heap.size, 5, none⟩ = some u5 ∧ w'.cell? ⟨w.heap.size, 6, none⟩ = some u6 :=
  ⟨boxC K (fun h => h) 0 _ rfl, boxC K (fun h => h) 1 _ rfl, boxC K (fun h => h) 2 _ rfl, boxC K (fun h => h) 3 _ rfl, boxC K (fun h => h) 4 _ rfl, boxC K (fun h => h) 5 _ rfl, boxC K (fun h => h) 6 _ rfl⟩

end Go.Proofs.YtfjekjbkifmpfaaDoor

/-
  A map keyed by texts as a table of raw values. Nothing here speaks of one program.
-/
namespace Go.Proofs.YtfjekjbkifmpfaaDoor
open Go.RowKit Go.Maps Go.ChangeMaps Go.MapKept Go.WideMaps
open Go.WideElems (Fit rd rg pl rd_val elemAt)

/-- An element as it lies. -/
def rawElem (v : Value) : Option (DataW Value × List MemPlace) := some (.held v, [])

def updS (M : ByteArray → Option Value) (i : ByteArray) (v : Option Value) : ByteArray → Option Value := fun x => if x = i then v else M x

/-- Block b is a map of at most n entries that holds M. -/
def STab (P : Program) (k : TypeId) (w : World) (b n : Nat) (M : ByteArray → Option Value) : Prop :=
  ∃ D : DataW Value, w.ownsMap P k rawElem b n D ∧ ∀ x : ByteArray, x.size ≤ maxLen → ∀ z, D.atKey (.string x.data.toList) z = match M x with | some v => .held v | none => z

section
variable {P : Program} {k : TypeId} {w w' : World} {b n : Nat} {M : ByteArray → Option Value}

theorem STab.made (P : Program) (k : TypeId) (w : World) : STab P k (w.alloc (.map #[] 0)) w.heap.size 0 (fun _ => none) :=
  ⟨.map [], World.ownsMap_made w P k rawElem, fun x _ z => by simp [DataW.atKey]⟩

theorem STab.lt (T : STab P k w b n M) : b < w.heap.size := by obtain ⟨D, h, _⟩ := T; exact h.lt

theorem STab.block (T : STab P k w b n M) (h : w'.heap[b]? = w.heap[b]?) : STab P k w' b n M := by
  obtain ⟨D, ⟨es, clock, hb, r⟩, hD⟩ := T
  exact ⟨D, ⟨es, clock, h.trans hb, r⟩, hD⟩

theorem STab.kept {S : Nat → Prop} (T : STab P k w b n M) (K : Kept S w w') (hS : ¬ S b) : STab P k w' b n M := T.block (K.block b T.lt hS)

theorem STab.mono (T : STab P k w b n M) {n' : Nat} (h : n ≤ n') : STab P k w b n' M := by
  obtain ⟨D, hown, hD⟩ := T
  exact ⟨D, hown.mono h, hD⟩

theorem STab.is (T : STab P k w b n M) {M' : ByteArray → Option Value} (h : ∀ x, M x = M' x) : STab P k w b n M' := by
  have : M = M' := funext h
  rw [← this]; exact T

theorem has_of_stab {D : DataW Value} {x : List UInt8} {o : Option Value} (h : ∀ z, D.atKey (.string x) z = match o with | some v => .held v | none => z) : Maps.has D (.string x) = o.isSome := by
  cases hM : o with
  | none => rw [hM] at h; exact has_false_of_atKey h
  | some v => rw [hM] at h; exact has_true_of_atKey h

theorem STab.look {t e : TypeId} (T : STab P k w b n M) (hk : P.underlying k = some .string) (ht : P.underlying t = some (.map k e)) {z : Value} (hz : (zeroValue e).run P w = .ok z w) {i : ByteArray} (hi : i.size ≤ maxLen) :
    (Instr.lookup t (.map (some b)) (.string i) false).run P w = .ok ((M i).getD z) w := by
  obtain ⟨D, hown, hD⟩ := T
  obtain ⟨v, ps, hrun, hv⟩ := hown.lookup (string_keyed hk) ht hz (zd := .held z) (zp := []) rfl (keyOf_string_mk hk hi)
  rw [hrun]
  have e1 := hD i hi (.held z)
  simp only [rawElem, Option.some.injEq, Prod.mk.injEq] at hv
  rw [e1] at hv
  cases hM : M i with
  | none => rw [hM] at hv; simp at hv; simp [hv]
  | some u => rw [hM] at hv; simp at hv; simp [hv]

theorem STab.lookOk {t e : TypeId} (T : STab P k w b n M) (hk : P.underlying k = some .string) (ht : P.underlying t = some (.map k e)) {z : Value} (hz : (zeroValue e).run P w = .ok z w) {i : ByteArray} (hi : i.size ≤ maxLen) :
    (Instr.lookup t (.map (some b)) (.string i) true).run P w = .ok (.tuple #[(M i).getD z, .bool (M i).isSome]) w := by
  obtain ⟨D, hown, hD⟩ := T
  obtain ⟨v, ps, hrun, hv⟩ := hown.look_ok (string_keyed hk) ht hz (zd := .held z) (zp := []) rfl (keyOf_string_mk hk hi)
  rw [hrun, has_of_stab (hD i hi)]
  have e1 := hD i hi (.held z)
  simp only [rawElem, Option.some.injEq, Prod.mk.injEq] at hv
  rw [e1] at hv
  cases hM : M i with
  | none => rw [hM] at hv; simp at hv; simp [hv]
  | some u => rw [hM] at hv; simp at hv; simp [hv]

theorem slit_ne {x i : ByteArray} (h : x ≠ i) : Lit.string x.data.toList ≠ Lit.string i.data.toList := fun e => h (by
  have e2 : x.data.toList = i.data.toList := by injection e
  apply ByteArray.ext
  exact Array.toList_inj.1 e2)

theorem STab.store {t e : TypeId} (T : STab P k w b n M) (hk : P.underlying k = some .string) (ht : P.underlying t = some (.map k e)) (hn : n < maxLen) {i : ByteArray} (hi : i.size ≤ maxLen) (v : Value) :
    ∃ w', (Instr.mapUpdate t (.map (some b)) (.string i) v).run P w = .ok () w' ∧ STab P k w' b (n + 1) (updS M i (some v)) ∧ w.mapTurned w' b := by
  obtain ⟨D, hown, hD⟩ := T
  obtain ⟨w', hrun, hown', ht'⟩ := hown.store (string_keyed hk) ht hn (keyOf_string_mk hk hi) (d := .held v) (ps := []) rfl
  refine ⟨w', hrun, ⟨D.put (.string i.data.toList) (.held v), hown', ?_⟩, ht'⟩
  intro x hx z
  by_cases e : x = i
  · subst e
    rw [atKey_put_same hown.isMap (by trivial)]
    simp [updS]
  · rw [atKey_put_other (slit_ne e), hD x hx z]
    simp [updS, e]

end

theorem Kept.turned {S : Nat → Prop} {w w' : World} {b : Nat} (h : w.mapTurned w' b) (hS : S b) : Kept S w w' := by
  obtain ⟨es, c, es', c', hb, rfl⟩ := h
  exact ⟨rfl, rfl, rfl, by simp [setBlock], fun k hk hn => heap_setBlock_other hb _ (fun e => hn (e ▸ hS))⟩

end Go.Proofs.YtfjekjbkifmpfaaDoor

/-
  Names: made, Name, Flow.
-/
namespace Go.Proofs.YtfjekjbkifmpfaaDoor
open Go.RowKit

theorem indexByte_neg (l : List UInt8) (c : UInt8) : (Lib.indexByte l c < 0) ↔ l.contains c = false := by
  induction l with
  | nil => simp [Lib.indexByte]
  | cons b r ih =>
    have hge := Lib.indexByte_ge r c
    unfold Lib.indexByte
    by_cases h : b = c
    · subst h; simp
    · have h2 : (b == c) = false := by simpa using h
      have h3 : (c == b) = false := by simpa using fun e => h e.symm
      rw [h2, List.contains_cons, h3, Bool.false_or, ← ih]
      simp only [Bool.false_eq_true, if_false]
      split
      · rename_i h4; simp at h4; omega
      · rename_i h4; simp at h4; omega


theorem all_next (s : ByteArray) (f : UInt8 → Bool) {k : Nat} (hk : k < s.size) : (s.data.toList.take (k + 1)).all f = ((s.data.toList.take k).all f && f (s[k]'hk)) := by
  have hl : k < s.data.toList.length := by simpa using hk
  rw [List.take_add_one, List.getElem?_eq_getElem hl, List.all_append]
  simp
  rfl

theorem all_ge (l : List UInt8) (f : UInt8 → Bool) (k : Nat) (h : (l.take k).all f = false) : l.all f = false := by
  cases hb : l.all f with
  | false => rfl
  | true =>
    rw [List.all_eq_true] at hb
    have : (l.take k).all f = true := List.all_eq_true.2 fun x hx => hb x (List.mem_of_mem_take hx)
    rw [this] at h; cases h

set_option maxRecDepth 100000 in
set_option maxHeartbeats 1000000 in
theorem made_any (w : World) (s l : ByteArray) (most : Int) (hm : most ≤ 1000) :
    Calls Tryd.prog 96 #[.string s, .string l, .int .i64 most] w fun e w' => e = .returned (.bool (madeP s l most)) ∧ w' = w := by
  unfold madeP
  by_cases h1 : 1 ≤ s.size
  · by_cases h2 : (s.size : Int) ≤ most
    · simp only [h1, h2, decide_true, Bool.true_and]
      go_enter Tryd.func96, Tryd.ntmps96
      go_wp2
      go_loopw [19] (fun i wr => ∃ (k : Nat), k ≤ s.size ∧ i = .int .i64 k ∧ wr = w ∧ (s.data.toList.take k).all (fun c => l.data.toList.contains c) = true) (fun i _ => s.size - (intOf i).toNat)
      case atStart => exact ⟨0, Nat.zero_le _, rfl, rfl, rfl⟩
      case round =>
        obtain ⟨k, hk, rfl, hwr, hall⟩ := hrel
        subst hwr
        by_cases hlt : k < s.size
        · have hix : ∀ W, (Instr.index 9 (.string s) (.int .i64 (k : Int))).run Tryd.prog W = .ok (.int .u8 (((s[k]'hlt).toNat : Nat) : Int)) W := fun W => by
            rw [run_index_string W _ _ _ _ Tryd.underlying9]
            rw [dif_pos ⟨by omega, by omega⟩]
            simp
          have hnx := all_next s (fun c => l.data.toList.contains c) hlt
          rw [hall, Bool.true_and] at hnx
          have ec : (((s[k]'hlt).toNat : Nat) : Int).toNat.toUInt8 = s[k]'hlt := by simp
          have hI := Any.strings_IndexByte Tryd.indexByteL l (((s[k]'hlt).toNat : Nat) : Int) wr
          rw [ec] at hI
          have hng := indexByte_neg l.data.toList (s[k]'hlt)
          have hge := Lib.indexByte_ge l.data.toList (s[k]'hlt)
          have e0 : (k : Int) < (s.size : Int) := by omega
          change Calls Tryd.prog 108 _ _ _ at hI
          generalize Lib.indexByte l.data.toList (s[k]'hlt) = ix at *
          have HA : Hid ((s.data.toList.take (k + 1)).all (fun c => l.data.toList.contains c) = l.data.toList.contains (s[k]'hlt)) := hnx
          have HN : Hid (ix < 0 ↔ l.data.toList.contains (s[k]'hlt) = false) := hng
          clear hng hnx ec
          by_cases hneg : ix < 0
          · go_wp2_with (first
              | (go_at_call 108; refine hI.mono ?_; rintro e w1 ⟨rfl, rfl⟩; clear hI)
              | fail)
            go_ret
            refine ⟨?_, rfl⟩
            rw [all_ge _ _ (k + 1) (by rw [HA.out]; exact HN.out.1 hneg)]
            rfl
          · go_wp2_with (first
              | (go_at_call 108; refine hI.mono ?_; rintro e w1 ⟨rfl, rfl⟩; clear hI)
              | fail)
            go_roundw
            case rel =>
              refine ⟨k + 1, by omega, by go_num, trivial, ?_⟩
              rw [HA.out]
              cases hb : l.data.toList.contains (s[k]'hlt) with
              | true => rfl
              | false => have := HN.out.2 hb; omega
            case measure => simp [intOf]; omega
        · obtain rfl : k = s.size := by omega
          go_wp2
          go_ret
          refine ⟨?_, rfl⟩
          have e : s.data.toList.take s.size = s.data.toList := List.take_of_length_le (by simp)
          rw [e] at hall
          rw [hall]
          rfl
    · simp only [h1, h2, decide_true, decide_false, Bool.true_and, Bool.false_and]
      go_enter Tryd.func96, Tryd.ntmps96
      go_wp2
      go_ret
      exact ⟨rfl, rfl⟩
  · simp only [h1, decide_false, Bool.false_and]
    go_enter Tryd.func96, Tryd.ntmps96
    go_wp2
    go_ret
    exact ⟨rfl, rfl⟩

set_option maxRecDepth 100000 in
set_option maxHeartbeats 1000000 in
theorem name_any (w : World) (s : ByteArray) :
    Calls Tryd.prog 75 #[.string s] w fun e w' => e = .returned (.bool (nameP s)) ∧ w' = w := by
  have h := made_any w s lettersB 64 (by decide)
  unfold nameP
  generalize madeP s lettersB 64 = b at *
  unfold lettersB at h
  go_enter Tryd.func75, Tryd.ntmps75
  go_wp2_with (first
    | (go_at_call 96; refine h.mono ?_; rintro e w1 ⟨rfl, rfl⟩; clear h)
    | fail)
  go_ret
  exact ⟨rfl, rfl⟩

end Go.Proofs.YtfjekjbkifmpfaaDoor

/-
  Find, named, fits: nodes looked at by themselves.
-/
namespace Go.Proofs.YtfjekjbkifmpfaaDoor
open Go.RowKit

/-- What is handed over beside its own block. -/
def ndV (n : Nd) (v : Value) : Value := .agg #[.string n.name, .int .i64 n.kind, .string n.arg, .string n.«to», .int .i64 n.delay, .int .i64 n.tries, v]

set_option maxRecDepth 100000 in
set_option maxHeartbeats 1000000 in
theorem find_any (w : World) (name : ByteArray) (a : Option Addr) (n c : Nat) (ns : List Nd) (hN : NodesAt w a ns) (hl : ns.length = n) (hn : n ≤ 4611686018427387904) (s : ByteArray) :
    Calls Tryd.prog 89 #[.agg #[.string name, .slice a n c], .string s] w fun e w' => e = .returned (.tuple #[.int .i64 ((findP ns s).getD 0 : Nat), .bool (findP ns s).isSome]) ∧ Kept (fun _ => False) w w' := by
  subst hl
  go_enter Tryd.func89, Tryd.ntmps89
  go_wp2
  go_loopw [11] (fun i wr => ∃ (k : Nat), k ≤ ns.length ∧ i = .int .i64 k ∧ Kept (fun _ => False) (w.alloc (.cells #[.string name, .slice a ns.length c] 24)) wr ∧ findP (ns.take k) s = none) (fun i _ => ns.length - (intOf i).toNat)
  case atStart => exact ⟨0, Nat.zero_le _, rfl, Kept.refl _ _, rfl⟩
  case round =>
    obtain ⟨k, hk, rfl, K, hf⟩ := hrel
    by_cases hlt : k < ns.length
    · obtain ⟨b, o, av, cv, rfl, hT, c0, c1, c2, c3, c4, c5, c6⟩ := (keptNew K (keptNew (Kept.alloc _ _ _) hN)).at hlt
      have hnx := findP_take (s := s) hlt
      have hft := fun h => findP_of_first hlt h (fun j hj => findP_none.1 hf _ (List.mem_take_iff_getElem.2 ⟨j, by omega, rfl⟩))
      rw [hf, Option.none_or] at hnx
      have HF : Hid ((ns[k]).name = s → findP ns s = some k) := hft
      have HN : Hid (findP (ns.take (k + 1)) s = if (ns[k]).name = s then some k else none) := hnx
      have e0 : (k : Int) < (ns.length : Int) := by omega
      clear hft hnx hT
      by_cases he : (ns[k]).name = s
      · have he2 : ((ns[k]).name.toList == s.toList) = true := by rw [he]; simp
        generalize ns[k] = x at *
        go_wp2
        go_ret2
        rw [HF.out he]
        exact ⟨rfl, ((Kept.alloc _ _ _).and K).and (Kept.alloc _ _ _)⟩
      · have he2 : ((ns[k]).name.toList == s.toList) = false := by
          simp only [beq_eq_false_iff_ne, ne_eq]
          exact fun h => he (ByteArray.ext (Array.toList_inj.1 (by rw [← Lib.toList_data, ← Lib.toList_data]; exact h)))
        generalize ns[k] = x at *
        go_wp2
        go_roundw
        case rel =>
          refine ⟨k + 1, by omega, by go_num, K.and (Kept.alloc _ _ _), ?_⟩
          rw [HN.out, if_neg he]
        case measure => simp [intOf]; omega
    · obtain rfl : k = ns.length := by omega
      go_wp2
      go_ret2
      rw [List.take_length] at hf
      rw [hf]
      exact ⟨rfl, (Kept.alloc _ _ _).and K⟩

theorem str_empty (s : ByteArray) : (s.toList == ([] : List UInt8)) = decide (s.size = 0) := by
  have : s.toList.length = s.size := by rw [Lib.toList_data]; simp
  by_cases h : s.size = 0
  · rw [h] at this
    have := List.eq_nil_of_length_eq_zero this
    rw [this]; simp [h]
  · have h2 : s.toList ≠ [] := fun e => h (by rw [← this, e]; rfl)
    simp [h, h2]

end Go.Proofs.YtfjekjbkifmpfaaDoor

/-
  checkAfter: what is wrong with a node's After.
-/
namespace Go.Proofs.YtfjekjbkifmpfaaDoor
open Go.RowKit

/-- Thirty-two counts in block tb. -/
def TimesAt (w : World) (tb : Nat) (f : Nat → Nat) : Prop := ∀ j, j < 32 → w.cell? ⟨tb, j, none⟩ = some (.int .i64 (f j : Nat)) ∧ w.frozen? ⟨tb, j, none⟩ = false

theorem TimesAt.kept {w w' : World} {S : Nat → Prop} {tb : Nat} {f : Nat → Nat} (C : TimesAt w tb f) (K : Kept S w w') (h : ¬ S tb) : TimesAt w' tb f := fun j hj => by
  obtain ⟨c, z⟩ := C j hj
  have hb := K.block tb (World.block_lt_of_cell? w _ c) h
  exact ⟨(World.cell?_of_block hb).trans c, (World.frozen?_of_block hb).trans z⟩

theorem TimesAt.inc {w : World} {tb : Nat} {f : Nat → Nat} (C : TimesAt w tb f) {b : Nat} {z : Int} (hz : z = ((f b + 1 : Nat) : Int)) : TimesAt (w.setCell ⟨tb, b, none⟩ (.int .i64 z)) tb (fun j => if j = b then f j + 1 else f j) := fun j hj => by
  obtain ⟨c, q⟩ := C j hj
  refine ⟨?_, by rw [World.frozen?_setCell]; exact q⟩
  by_cases e : j = b
  · subst e
    rw [World.cell?_setCell_same' w ⟨tb, j, none⟩ _ (by rw [c]; rfl), hz]
    simp
  · rw [World.cell?_setCell_other _ _ _ _ (fun h => e (by cases h; rfl)), c]
    simp [e]

theorem timesNew (w : World) (T : TypeId) : TimesAt (w.alloc (.cells #[.int .i64 0, .int .i64 0, .int .i64 0, .int .i64 0, .int .i64 0, .int .i64 0, .int .i64 0, .int .i64 0, .int .i64 0, .int .i64 0, .int .i64 0, .int .i64 0, .int .i64 0, .int .i64 0, .int .i64 0, .int .i64 0, .int .i64 0, .int .i64 0, .int .i64 0, .int .i64 0, .int .i64 0, .int .i64 0, .int .i64 0, .int .i64 0, .int .i64 0, .int .i64 0, .int .i64 0, .int .i64 0, .int .i64 0, .int .i64 0, .int .i64 0, .int .i64 0] T)) w.heap.size (fun _ => 0) := by
  intro j hj
  have h := heap_alloc_new w (.cells #[.int .i64 0, .int .i64 0, .int .i64 0, .int .i64 0, .int .i64 0, .int .i64 0, .int .i64 0, .int .i64 0, .int .i64 0, .int .i64 0, .int .i64 0, .int .i64 0, .int .i64 0, .int .i64 0, .int .i64 0, .int .i64 0, .int .i64 0, .int .i64 0, .int .i64 0, .int .i64 0, .int .i64 0, .int .i64 0, .int .i64 0, .int .i64 0, .int .i64 0, .int .i64 0, .int .i64 0, .int .i64 0, .int .i64 0, .int .i64 0, .int .i64 0, .int .i64 0] T)
  constructor
  · unfold World.cell?
    rw [h]
    match j, hj with
    | 0, _ | 1, _ | 2, _ | 3, _ | 4, _ | 5, _ | 6, _ | 7, _ | 8, _ | 9, _ | 10, _ | 11, _ | 12, _ | 13, _ | 14, _ | 15, _ | 16, _ | 17, _ | 18, _ | 19, _ | 20, _ | 21, _ | 22, _ | 23, _ | 24, _ | 25, _ | 26, _ | 27, _ | 28, _ | 29, _ | 30, _ | 31, _ => rfl
    | j + 32, h => omega
  · unfold World.frozen?
    rw [h]
    rfl

theorem nodup_snoc (l : List ByteArray) (s : ByteArray) : (l ++ [s]).Nodup ↔ l.Nodup ∧ s ∉ l := by
  rw [List.nodup_append]
  constructor
  · rintro ⟨h1, _, h3⟩
    exact ⟨h1, fun h => h3 s h s (by simp) rfl⟩
  · rintro ⟨h1, h2⟩
    exact ⟨h1, by simp, fun a ha b hb e => by simp at hb; subst hb; subst e; exact h2 ha⟩

/-- How many of some names mean node j. -/
def tim (ns : List Nd) (l : List ByteArray) (j : Nat) : Nat := l.countP (fun s => decide (findP ns s = some j))

theorem tim_pos {ns : List Nd} {l : List ByteArray} {s : ByteArray} {j : Nat} (h : findP ns s = some j) : 0 < tim ns l j ↔ s ∈ l := by
  unfold tim
  rw [List.countP_pos_iff]
  constructor
  · rintro ⟨x, hx, hd⟩
    have h2 := of_decide_eq_true hd
    have := findP_name h2
    rw [findP_name h] at this
    rw [this]; exact hx
  · intro hs
    exact ⟨s, hs, by simpa using h⟩

theorem tim_snoc {ns : List Nd} {l : List ByteArray} {s : ByteArray} {j : Nat} (h : findP ns s = some j) : tim ns (l ++ [s]) = fun k => if k = j then tim ns l k + 1 else tim ns l k := by
  funext k
  unfold tim
  rw [List.countP_append, List.countP_singleton, h]
  by_cases e : k = j
  · subst e; simp
  · have : ¬ j = k := fun h => e h.symm
    simp [e, this]

theorem take_snoc {α : Type} {l : List α} {k : Nat} (h : k < l.length) : l.take (k + 1) = l.take k ++ [l[k]] := by rw [List.take_add_one, List.getElem?_eq_getElem h]; rfl

end Go.Proofs.YtfjekjbkifmpfaaDoor

/-
  fits: a node has what its kind allows.
-/
namespace Go.Proofs.YtfjekjbkifmpfaaDoor
open Go.RowKit

end Go.Proofs.YtfjekjbkifmpfaaDoor

/-
  firsts, ahead: whom a name means.
-/
namespace Go.Proofs.YtfjekjbkifmpfaaDoor
open Go.RowKit Go.Maps Go.ChangeMaps Go.MapKept Go.WideMaps

/-- The table of the first nodes of each name. -/
def firstM (ns : List Nd) (s : ByteArray) : Option Value := (findP ns s).map (fun i => Value.int .i64 (i : Nat))

/-- Block b is that table. -/
def FirstAt (w : World) (b : Nat) (ns : List Nd) : Prop := ∃ n, STab Tryd.prog 9 w b n (firstM ns)

theorem FirstAt.kept {S : Nat → Prop} {w w' : World} {b : Nat} {ns : List Nd} (T : FirstAt w b ns) (K : Kept S w w') (hS : ¬ S b) : FirstAt w' b ns := by
  obtain ⟨n, h⟩ := T
  exact ⟨n, h.kept K hS⟩

theorem firstM_next {ns : List Nd} {k : Nat} (hk : k < ns.length) (hf : findP (ns.take k) (ns[k]).name = none) : ∀ x, updS (firstM (ns.take k)) (ns[k]).name (some (.int .i64 (k : Nat))) x = firstM (ns.take (k + 1)) x := by
  intro x
  unfold updS firstM
  rw [findP_take hk]
  by_cases e : x = (ns[k]).name
  · subst e; rw [hf]; simp
  · have : ¬ (ns[k]).name = x := fun h => e h.symm
    simp [e, this]

theorem firstM_same {ns : List Nd} {k : Nat} (hk : k < ns.length) {j : Nat} (hf : findP (ns.take k) (ns[k]).name = some j) : ∀ x, firstM (ns.take k) x = firstM (ns.take (k + 1)) x := by
  intro x
  unfold firstM
  rw [findP_take hk]
  by_cases e : (ns[k]).name = x
  · subst e; rw [hf]; rfl
  · simp [e]

theorem firstM_isSome (ns : List Nd) (s : ByteArray) : (firstM ns s).isSome = (findP ns s).isSome := by unfold firstM; simp

set_option maxRecDepth 100000 in
set_option maxHeartbeats 2000000 in
theorem firsts_any (w : World) (name : ByteArray) (a : Option Addr) (n c : Nat) (ns : List Nd) (hN : NodesAt w a ns) (hl : ns.length = n) (hn : n ≤ 1000000000000) :
    Calls Tryd.prog 103 #[.agg #[.string name, .slice a n c]] w fun e w' => e = .returned (.map (some (w.heap.size + 1))) ∧ FirstAt w' (w.heap.size + 1) ns ∧ Kept (fun _ => False) w w' := by
  subst hl
  have hmm : ∀ W, (Instr.makeMap 145 (some (.int .i64 (ns.length : Nat)))).run Tryd.prog W = .ok (.map (some W.heap.size)) (W.alloc (.map #[] 0)) := fun W => rfl
  have HM : Hid (STab Tryd.prog 9 ((w.alloc (.cells #[.string name, .slice a ns.length c] 24)).alloc (.map #[] 0)) (w.heap.size + 1) 0 (firstM [])) := by
    have := STab.made Tryd.prog 9 (w.alloc (.cells #[.string name, .slice a ns.length c] 24))
    rw [World.size_alloc] at this
    exact this
  go_enter Tryd.func103, Tryd.ntmps103
  go_wp2
  go_loopw [15] (fun i wr => ∃ (k : Nat), k ≤ ns.length ∧ i = .int .i64 k ∧ Kept (fun j => j = w.heap.size + 1) ((w.alloc (.cells #[.string name, .slice a ns.length c] 24)).alloc (.map #[] 0)) wr ∧ STab Tryd.prog 9 wr (w.heap.size + 1) k (firstM (ns.take k))) (fun i _ => ns.length - (intOf i).toNat)
  case atStart => exact ⟨0, Nat.zero_le _, rfl, Kept.refl _ _, HM.out⟩
  case round =>
    obtain ⟨k, hk, rfl, K, T⟩ := hrel
    have Kw : Kept (fun _ => False) w wr := (((Kept.alloc (fun _ => False) _ _).and (Kept.alloc _ _ _)).trans K (fun i h => .inr (by omega)))
    by_cases hlt : k < ns.length
    · obtain ⟨b, o, av, cv, rfl, hT, c0, c1, c2, c3, c4, c5, c6⟩ := (keptNew Kw hN).at hlt
      have hok := (hN.1 _ (List.getElem_mem hlt)).name
      have e0 : (k : Int) < (ns.length : Int) := by omega
      have T2 := T.kept (Kept.alloc (fun _ => False) wr (.cells #[.string (ns[k]).name, .int .i64 (ns[k]).kind, .string (ns[k]).arg, .string (ns[k]).«to», .int .i64 (ns[k]).delay, .int .i64 (ns[k]).tries, .slice av (ns[k]).after.length cv] 64)) (fun h => h)
      have hlk := T2.lookOk Tryd.underlying9 Tryd.underlying145 (z := .int .i64 0) (by rfl) hok
      have HT2 : Hid (STab Tryd.prog 9 (wr.alloc (.cells #[.string (ns[k]).name, .int .i64 (ns[k]).kind, .string (ns[k]).arg, .string (ns[k]).«to», .int .i64 (ns[k]).delay, .int .i64 (ns[k]).tries, .slice av (ns[k]).after.length cv] 64)) (w.heap.size + 1) k (firstM (ns.take k))) := T2
      clear hT T
      cases hf : findP (ns.take k) (ns[k]).name with
      | none =>
        have hf2 : firstM (ns.take k) (ns[k]).name = none := by unfold firstM; rw [hf]; rfl
        rw [hf2] at hlk
        obtain ⟨w2, hst, T3, ht⟩ := T2.store Tryd.underlying9 Tryd.underlying145 (by unfold maxLen; omega) hok (.int .i64 (k : Nat))
        have HN : Hid (∀ x, updS (firstM (ns.take k)) (ns[k]).name (some (.int .i64 (k : Nat))) x = firstM (ns.take (k + 1)) x) := firstM_next hlt hf
        clear hf hf2 T2
        generalize ns[k] = x at *
        go_wp2
        go_roundw
        case rel => exact ⟨k + 1, by omega, by go_num, (K.and (Kept.alloc _ _ _)).and (Kept.turned ht rfl), T3.is HN.out⟩
        case measure => simp [intOf]; omega
      | some j =>
        have hf2 : firstM (ns.take k) (ns[k]).name = some (.int .i64 (j : Nat)) := by unfold firstM; rw [hf]; rfl
        rw [hf2] at hlk
        simp only [Option.getD_some, Option.isSome_some] at hlk
        have HN : Hid (∀ x, firstM (ns.take k) x = firstM (ns.take (k + 1)) x) := firstM_same hlt hf
        clear hf hf2 T2
        generalize ns[k] = x at *
        go_wp2
        go_roundw
        case rel => exact ⟨k + 1, by omega, by go_num, K.and (Kept.alloc _ _ _), (HT2.out.mono (by omega)).is HN.out⟩
        case measure => simp [intOf]; omega
    · obtain rfl : k = ns.length := by omega
      go_wp2
      go_ret
      rw [List.take_length] at T
      exact ⟨rfl, ⟨_, T⟩, Kw⟩

theorem str_ne (s t : ByteArray) : (s.toList != t.toList) = !decide (s = t) := by
  by_cases h : s = t
  · subst h; simp
  · have : s.toList ≠ t.toList := fun e => h (ByteArray.ext (Array.toList_inj.1 (by rw [← Lib.toList_data, ← Lib.toList_data]; exact e)))
    simp [h, this]

theorem str_eq (s t : ByteArray) : (s.toList == t.toList) = decide (s = t) := by
  by_cases h : s = t
  · subst h; simp
  · have : s.toList ≠ t.toList := fun e => h (ByteArray.ext (Array.toList_inj.1 (by rw [← Lib.toList_data, ← Lib.toList_data]; exact e)))
    simp [h, this]

set_option maxRecDepth 100000 in
set_option maxHeartbeats 2000000 in
theorem ahead_any (w : World) (mb : Nat) (ns : List Nd) (T : FirstAt w mb ns) (x0 : ByteArray) (x1 : Int) (x2 x3 : ByteArray) (x4 x5 : Int) (x6 : List ByteArray) (av : Option Addr) (lv cv : Nat) (s : ByteArray) (hs : s.size ≤ maxLen) :
    Calls Tryd.prog 110 #[.agg #[.string x0, .int .i64 x1, .string x2, .string x3, .int .i64 x4, .int .i64 x5, .slice av lv cv], .string s, .map (some mb)] w fun e w' => e = .returned (.tuple #[.int .i64 ((findP ns s).getD 0 : Nat), .bool (aheadP ns ⟨x0, x1, x2, x3, x4, x5, x6⟩ s).isSome]) ∧ Kept (fun _ => False) w w' := by
  obtain ⟨m, T⟩ := T
  have hlk := (T.kept (Kept.alloc (fun _ => False) w (.cells #[.string x0, .int .i64 x1, .string x2, .string x3, .int .i64 x4, .int .i64 x5, .slice av lv cv] 64)) (fun h => h)).lookOk Tryd.underlying9 Tryd.underlying145 (z := .int .i64 0) (by rfl) hs
  have hne := str_eq s x0
  unfold aheadP
  simp only []
  have hv : (firstM ns s).getD (.int .i64 0) = .int .i64 ((findP ns s).getD 0 : Nat) := by unfold firstM; cases findP ns s <;> rfl
  have hb := firstM_isSome ns s
  rw [hv, hb] at hlk
  generalize (findP ns s).getD 0 = g at *
  clear T hv hb
  by_cases he : s = x0
  · rw [if_pos he]
    simp only [he, decide_true] at hne
    subst he
    cases hf : (findP ns s).isSome <;>
    · rw [hf] at hlk
      go_enter Tryd.func110, Tryd.ntmps110
      go_wp2_with (first | go_quiet (fail) | fail)
      go_ret2
      exact ⟨rfl, (Kept.alloc _ _ _).and (Kept.drewN _ _ _)⟩
  · rw [if_neg he]
    simp only [he, decide_false] at hne
    cases hf : (findP ns s).isSome <;>
    · rw [hf] at hlk
      go_enter Tryd.func110, Tryd.ntmps110
      go_wp2_with (first | go_quiet (fail) | fail)
      go_ret2
      exact ⟨rfl, (Kept.alloc _ _ _).and (Kept.drewN _ _ _)⟩

end Go.Proofs.YtfjekjbkifmpfaaDoor

/-
  checkNode: what is wrong with a node, but for its After.
-/
namespace Go.Proofs.YtfjekjbkifmpfaaDoor
open Go.RowKit

theorem findP_some_self {ns : List Nd} {i : Nat} (hi : i < ns.length) : ∃ j, findP ns (ns[i]).name = some j ∧ j ≤ i := by
  cases h : findP ns (ns[i]).name with
  | none => exact absurd rfl (findP_none.1 h _ (List.getElem_mem hi))
  | some j =>
    refine ⟨j, rfl, ?_⟩
    apply Nat.le_of_not_lt
    intro hlt
    exact findP_first h hlt rfl

end Go.Proofs.YtfjekjbkifmpfaaDoor

/-
  The document's Find.
-/
namespace Go.Proofs.YtfjekjbkifmpfaaDoor
open Go.RowKit

set_option maxRecDepth 100000 in
set_option maxHeartbeats 1000000 in
theorem refFind_wide (w : World) (name : ByteArray) (a : Option Addr) (n c : Nat) (ns : List Nd) (hN : RawAt w a ns) (hl : ns.length = n) (hn : n ≤ 4611686018427387904) (s : ByteArray) :
    Calls Tryd.prog 23 #[.agg #[.string name, .slice a n c], .string s] w fun e w' => e = .returned (.tuple #[.int .i64 ((findP ns s).getD 0 : Nat), .bool (findP ns s).isSome]) ∧ Kept (fun _ => False) w w' := by
  subst hl
  go_enter Tryd.func23, Tryd.ntmps23
  go_wp2
  go_loopw [6] (fun i wr => ∃ (k : Nat), k ≤ ns.length ∧ i = .int .i64 k ∧ wr = w.alloc (.cells #[.string name, .slice a ns.length c] 24) ∧ findP (ns.take k) s = none) (fun i _ => ns.length - (intOf i).toNat)
  case atStart => exact ⟨0, Nat.zero_le _, rfl, rfl, rfl⟩
  case round =>
    obtain ⟨k, hk, rfl, rfl, hf⟩ := hrel
    by_cases hlt : k < ns.length
    · obtain ⟨b, o, av, cv, rfl, hT, c0, c1, c2, c3, c4, c5, c6⟩ := (keptRaw (Kept.alloc (fun _ => False) w (.cells #[.string name, .slice a ns.length c] 24)) hN).at hlt
      have hnx := findP_take (s := s) hlt
      have hft := fun h => findP_of_first hlt h (fun j hj => findP_none.1 hf _ (List.mem_take_iff_getElem.2 ⟨j, by omega, rfl⟩))
      rw [hf, Option.none_or] at hnx
      have HF : Hid ((ns[k]).name = s → findP ns s = some k) := hft
      have HN : Hid (findP (ns.take (k + 1)) s = if (ns[k]).name = s then some k else none) := hnx
      have e0 : (k : Int) < (ns.length : Int) := by omega
      clear hft hnx hT hN
      by_cases he : (ns[k]).name = s
      · have he2 : ((ns[k]).name.toList == s.toList) = true := by rw [he]; simp
        generalize ns[k] = x at *
        go_wp2
        go_ret2
        rw [HF.out he]
        exact ⟨rfl, Kept.alloc _ _ _⟩
      · have he2 : ((ns[k]).name.toList == s.toList) = false := by
          simp only [beq_eq_false_iff_ne, ne_eq]
          exact fun h => he (ByteArray.ext (Array.toList_inj.1 (by rw [← Lib.toList_data, ← Lib.toList_data]; exact h)))
        generalize ns[k] = x at *
        go_wp2
        go_roundw
        case rel =>
          refine ⟨k + 1, by omega, by go_num, trivial, ?_⟩
          rw [HN.out, if_neg he]
        case measure => simp [intOf]; omega
    · obtain rfl : k = ns.length := by omega
      clear hN
      go_wp2
      go_ret2
      rw [List.take_length] at hf
      rw [hf]
      exact ⟨rfl, Kept.alloc _ _ _⟩

theorem refFind_any (w : World) (name : ByteArray) (a : Option Addr) (n c : Nat) (ns : List Nd) (hN : NodesAt w a ns) (hl : ns.length = n) (hn : n ≤ 4611686018427387904) (s : ByteArray) :
    Calls Tryd.prog 23 #[.agg #[.string name, .slice a n c], .string s] w fun e w' => e = .returned (.tuple #[.int .i64 ((findP ns s).getD 0 : Nat), .bool (findP ns s).isSome]) ∧ Kept (fun _ => False) w w' :=
  refFind_wide w name a n c ns hN.raw hl hn s

end Go.Proofs.YtfjekjbkifmpfaaDoor

/-
  Rows of numbers in an array, each in a block of its own.
-/
namespace Go.Proofs.YtfjekjbkifmpfaaDoor
open Go.RowKit

theorem Tryd.info3 : (Tryd.prog.info? 3).map (fun i => (i.zero, i.size, i.bytes)) = some (some (.int .i64 0), 1, 8) := by kernel_rfl
theorem Tryd.info101 : (Tryd.prog.info? 101).map (fun i => (i.zero, i.size, i.bytes)) = some (some (.slice none 0 0), 1, 24) := by kernel_rfl

def natsV (l : List Nat) : List Value := l.map (fun x => Value.int .i64 (x : Nat))

theorem natsV_one (l : List Nat) : ∀ u ∈ natsV l, u.oneCell' = true := by
  intro u hu
  obtain ⟨x, _, rfl⟩ := List.mem_map.1 hu
  rfl

theorem natsV_len (l : List Nat) : (natsV l).length = l.length := by simp [natsV]

/-- An array of n rows at bb: row j has the numbers f j; the rows' blocks are of S, and apart. -/
structure BehAt (w : World) (B : Nat) (S : Nat → Prop) (bb n : Nat) (f : Nat → List Nat) (vs : Nat → Value) : Prop where
  row : w.rowIs bb 101 n vs
  own : ∀ j, j < n → w.ownsRow B 3 1 (vs j) (f j).length (natsV (f j))
  inS : ∀ j, j < n → ∀ g, (vs j).ownBlock = some g → S g
  apart : ∀ j k, j < n → k < n → j ≠ k → ∀ g, (vs j).ownBlock = some g → (vs k).ownBlock ≠ some g
  noB : ∀ g, S g → g ≠ bb

theorem ownsRow_keep {w w' : World} {B e size : Nat} {v : Value} {n : Nat} {xs : List Value} (h : w.ownsRow B e size v n xs) (hk : ∀ g, v.ownBlock = some g → w'.heap[g]? = w.heap[g]?) : w'.ownsRow B e size v n xs := by
  refine ⟨h.1, ?_⟩
  rcases h.2 with h0 | ⟨g, cap, cur, hv, hb, hg, r⟩
  · exact .inl h0
  · exact .inr ⟨g, cap, cur, hv, hb, (hk g (by rw [hv]; rfl)).trans hg, r⟩

theorem ownsRow_low {w : World} {B B' e size : Nat} {v : Value} {n : Nat} {xs : List Value} (h : w.ownsRow B e size v n xs) (hB : B' ≤ B) : w.ownsRow B' e size v n xs := by
  refine ⟨h.1, ?_⟩
  rcases h.2 with h0 | ⟨g, cap, cur, hv, hb, r⟩
  · exact .inl h0
  · exact .inr ⟨g, cap, cur, hv, Nat.le_trans hB hb, r⟩

theorem ownsRow_blk {w : World} {B e size : Nat} {v : Value} {n : Nat} {xs : List Value} (h : w.ownsRow B e size v n xs) {g : Nat} (hg : v.ownBlock = some g) : g < w.heap.size := (h.lt g hg).2

section
variable {w w' : World} {B bb n : Nat} {S : Nat → Prop} {f : Nat → List Nat} {vs : Nat → Value}

theorem BehAt.kept {S' : Nat → Prop} (H : BehAt w B S bb n f vs) (K : Kept S' w w') (h1 : ¬ S' bb) (h2 : ∀ g, S g → ¬ S' g) : BehAt w' B S bb n f vs :=
  ⟨H.row.of_block (K.block bb H.row.lt h1), fun j hj => ownsRow_keep (H.own j hj) (fun g hg => K.block g (ownsRow_blk (H.own j hj) hg) (h2 g (H.inS j hj g hg))), H.inS, H.apart, H.noB⟩

theorem BehAt.widen {S' : Nat → Prop} (H : BehAt w B S bb n f vs) (h : ∀ j, j < n → ∀ g, (vs j).ownBlock = some g → S' g) (hb : ∀ g, S' g → g ≠ bb) : BehAt w B S' bb n f vs :=
  ⟨H.row, H.own, h, H.apart, hb⟩

theorem BehAt.is {f' : Nat → List Nat} (H : BehAt w B S bb n f vs) (h : ∀ j, j < n → f j = f' j) : BehAt w B S bb n f' vs :=
  ⟨H.row, fun j hj => by rw [← h j hj]; exact H.own j hj, H.inS, H.apart, H.noB⟩

/-- One more number in row j. -/
theorem BehAt.push {w3 : World} {a3 : Option Addr} {m c3 : Nat} {x : Nat} (H : BehAt w B S bb n f vs) {j : Nat} (hj : j < n) (ho : w3.ownsRow B 3 1 (.slice a3 m c3) m (natsV (f j) ++ natsV [x])) (hg : w.grownBy w3 (vs j).ownBlock)
    (hb : (Value.slice a3 m c3).ownBlock = (vs j).ownBlock ∨ (Value.slice a3 m c3).ownBlock = some w.heap.size) (hS : S w.heap.size) :
    BehAt (w3.setCell ⟨bb, j, none⟩ (.slice a3 m c3)) B S bb n (fun k => if k = j then f j ++ [x] else f k) (fun k => if k = j then .slice a3 m c3 else vs k) ∧ Kept (fun g => S g ∨ g = bb) w (w3.setCell ⟨bb, j, none⟩ (.slice a3 m c3)) := by
  have K3 : Kept (fun g => (vs j).ownBlock = some g) w w3 := Kept.grown hg (fun k e => e)
  have hbb : ¬ (vs j).ownBlock = some bb := fun e => H.noB bb (H.inS j hj bb e) rfl
  have r3 := H.row.of_block (K3.block bb H.row.lt hbb)
  have hm : m = (f j).length + 1 := by have := ho.1; rw [List.length_append, natsV_len, natsV_len] at this; simpa using this.symm
  have new_in : ∀ g, (Value.slice a3 m c3).ownBlock = some g → S g := fun g e => by
    rcases hb with h | h
    · exact H.inS j hj g (by rw [← h]; exact e)
    · rw [h] at e; cases e; exact hS
  have keepS : ∀ g, g ≠ bb → (w3.setCell ⟨bb, j, none⟩ (.slice a3 m c3)).heap[g]? = w3.heap[g]? := fun g e => Below.heap_setCell _ _ _ _ (fun h => e h)
  refine ⟨⟨?_, ?_, ?_, ?_, H.noB⟩, ?_⟩
  · exact r3.set j _
  · intro k hk
    by_cases e : k = j
    · subst e
      simp only [if_true]
      rw [show (f k ++ [x]).length = m by simp [hm], show natsV (f k ++ [x]) = natsV (f k) ++ natsV [x] by simp [natsV]]
      exact ownsRow_keep ho (fun g hg => keepS g (H.noB g (new_in g hg)))
    · simp only [e, if_false]
      refine ownsRow_keep (H.own k hk) (fun g hg => ?_)
      rw [keepS g (H.noB g (H.inS k hk g hg))]
      exact K3.block g (ownsRow_blk (H.own k hk) hg) (fun h => H.apart j k hj hk (fun h => e h.symm) g h hg)
  · intro k hk g
    by_cases e : k = j
    · subst e; simp only [if_true]; exact new_in g
    · simp only [e, if_false]; exact H.inS k hk g
  · intro k l hk hl hne g
    have hnew : ∀ l, l < n → l ≠ j → ∀ g, (Value.slice a3 m c3).ownBlock = some g → (vs l).ownBlock ≠ some g := fun l hl hne g e1 e2 => by
      rcases hb with h | h
      · rw [h] at e1; exact H.apart j l hj hl (fun h => hne h.symm) g e1 e2
      · rw [h] at e1; cases e1
        have := ownsRow_blk (H.own l hl) e2
        omega
    by_cases e : k = j
    · subst e
      have : ¬ l = k := fun h => hne h.symm
      simp only [if_true, this, if_false]
      exact hnew l hl (fun h => hne h.symm) g
    · by_cases e2 : l = j
      · subst e2
        simp only [e, if_false, if_true]
        exact fun h1 h2 => hnew k hk hne g h2 h1
      · simp only [e, e2, if_false]
        exact H.apart k l hk hl hne g
  · exact (K3.mono (fun g h => .inl (H.inS j hj g h))).and (Kept.setCell _ _ _ (.inr rfl))

end

theorem behNew (w : World) (B n : Nat) (S : Nat → Prop) (hS : ∀ g, S g → g ≠ w.heap.size) : BehAt (w.alloc (.cells (madeCells #[.slice none 0 0] n) 101)) B S w.heap.size n (fun _ => []) (fun _ => .slice none 0 0) :=
  ⟨World.rowIs_made _ _ _ _, fun j hj => World.ownsRow_nil _ _ _ _, fun j hj g h => (by cases h), fun j k _ _ _ g h => (by cases h), hS⟩

/-- How often the first k names of a node's After mean the node j. -/
def asksK (ns : List Nd) (x : Nd) (k j : Nat) : Nat := (x.after.take k).countP (fun s => decide (aheadP ns x s = some j))

theorem asksK_all (ns : List Nd) (x : Nd) (j : Nat) : asksK ns x x.after.length j = asks ns x j := by unfold asksK asks; rw [List.take_length]

theorem asksK_next {ns : List Nd} {x : Nd} {k : Nat} (hk : k < x.after.length) (j : Nat) : asksK ns x (k + 1) j = asksK ns x k j + if aheadP ns x (x.after[k]) = some j then 1 else 0 := by
  unfold asksK
  rw [List.take_add_one, List.getElem?_eq_getElem hk, Option.toList_some, List.countP_append, List.countP_singleton]
  simp

/-- Who waits for j while node i's first k names are gone through. -/
def bhK (ns : List Nd) (i k j : Nat) (x : Nd) : List Nat := bhL ns j i ++ List.replicate (asksK ns x k j) i

theorem bhK_zero (ns : List Nd) (i j : Nat) (x : Nd) : bhK ns i 0 j x = bhL ns j i := by unfold bhK asksK; simp

theorem bhK_all {ns : List Nd} {i : Nat} (j : Nat) {x : Nd} (h : ns[i]? = some x) : bhK ns i x.after.length j x = bhL ns j (i + 1) := by
  unfold bhK
  rw [asksK_all, bhL, h]

theorem bhK_hit {ns : List Nd} {i k j : Nat} {x : Nd} (hk : k < x.after.length) (h : aheadP ns x (x.after[k]) = some j) (q : Nat) : (if q = j then bhK ns i k j x ++ [i] else bhK ns i k q x) = bhK ns i (k + 1) q x := by
  unfold bhK
  rw [asksK_next hk, h]
  by_cases e : q = j
  · subst e
    rw [if_pos rfl, if_pos rfl, List.append_assoc, List.replicate_succ']
  · have : ¬ (some j = some q) := fun h => e (Option.some.inj h).symm
    rw [if_neg e, if_neg this, Nat.add_zero]

theorem bhK_miss {ns : List Nd} {i k : Nat} {x : Nd} (hk : k < x.after.length) (h : aheadP ns x (x.after[k]) = none) (q : Nat) : bhK ns i k q x = bhK ns i (k + 1) q x := by
  unfold bhK
  rw [asksK_next hk, h]
  simp

theorem bhL_len {ns : List Nd} (h : ∀ n ∈ ns, n.after.length ≤ 1000000) (j : Nat) : ∀ i, (bhL ns j i).length ≤ i * 1000000
  | 0 => by simp [bhL]
  | i + 1 => by
    have ih := bhL_len h j i
    rw [bhL, List.length_append, List.length_replicate, Nat.succ_mul]
    generalize i * 1000000 = z at *
    generalize bhL ns j i = l at *
    cases hn : ns[i]? with
    | none => exact Nat.le_trans ih (Nat.le_add_right _ _)
    | some n =>
      have : asks ns n j ≤ 1000000 := Nat.le_trans List.countP_le_length (h n (List.mem_of_getElem? hn))
      exact Nat.add_le_add ih this

theorem bhK_len {ns : List Nd} (h : ∀ n ∈ ns, n.after.length ≤ 1000000) (i k j : Nat) {x : Nd} (hx : x.after.length ≤ 1000000) : (bhK ns i k j x).length ≤ (i + 1) * 1000000 := by
  have h1 := bhL_len h j i
  unfold bhK
  rw [List.length_append, List.length_replicate]
  have : asksK ns x k j ≤ 1000000 := Nat.le_trans List.countP_le_length (by rw [List.length_take]; omega)
  omega

theorem bhL_len2 {ns : List Nd} (h : ∀ n ∈ ns, n.after.length ≤ 1000000) (hn : ns.length ≤ 1000000) (j : Nat) : (bhL ns j ns.length).length ≤ 1000000000000 := by
  have := bhL_len h j ns.length
  omega

end Go.Proofs.YtfjekjbkifmpfaaDoor
