/-
 The numbers under which this program bears strings.IndexByte, stringslite.Index, strings.FieldsFunc and strconv.Atoi: written by program for this dump.
-/
import Derived.Deep.RegionHeld3
import Derived.Test.YtfjekjbkifmpfaaDoorProg
import Derived.Test.YtfjekjbkifmpfaaDoorRows
import Derived.Shelf.Small.Strs
import Derived.Ground.NamesProg
import Derived.Laws.ComplexArith
import Derived.WalkKit
import Derived.WalkSpells
import Derived.WalkLawsBesides
import Derived.Deep.AppendLies
import Derived.Deep.QuietTactic
import Derived.BigQuiet
import Derived.ScopeJumps
import Derived.ProofKit
import Derived.OpenShut
import Derived.ShutString
import Derived.ChangeOld
import Derived.Below
import Derived.Lib.SmallJoins
import Derived.Lib.SlBytesConst
import Derived.Laws.BytesArg
import Derived.Laws.AppendOwnNone
import Derived.RangeFuncNested
import Derived.RangeFuncBound
import Derived.RangeFuncCalls
import Derived.RangeFuncLeaves
import Derived.RangeFuncWrites
import Derived.Shelf.Abstract
import Derived.Shelf.RegionOpen
import Derived.OwnWalkIn
import Derived.TacticsInMore
import Derived.LoopNIn
import Derived.LoopIn
import Derived.Deep.RegionHeld
import Derived.Maps.OwnSet
import Derived.Sort.KeysCollected
import Derived.StringKeys
import Derived.Deep.OwnRows
set_option maxRecDepth 100000
set_option maxHeartbeats 16000000
namespace Go.Proofs
open Go.Shelf
def Tryd.indexByteL_ren : Go.Shelf.Ren := ⟨fun | 137 => 108 | 217 => 111 | 266 => 112 | n => n, fun | 9 => 9 | 5 => 5 | 3 => 3 | n => n, fun | n => n⟩
theorem Tryd.indexByteL : Go.Proofs.Lays.n137 Tryd.prog Tryd.indexByteL_ren := {
 mixed := by kernel_rfl
 f137 := Tryd.func108.trans (congrArg some (by kernel_rfl))
 f217 := Tryd.func111.trans (congrArg some (by kernel_rfl))
 f266 := Tryd.func112.trans (congrArg some (by kernel_rfl))
 t3 := Tryd.underlying3
 a3 := Tryd.isAgg3
 z3 := Tryd.sizeOf3
 v3 := Tryd.zeroValue3
 t5 := Tryd.underlying5
 a5 := Tryd.isAgg5
 z5 := Tryd.sizeOf5
 v5 := Tryd.zeroValue5
 t9 := Tryd.underlying9
 a9 := Tryd.isAgg9
 z9 := Tryd.sizeOf9
 v9 := Tryd.zeroValue9 }
end Go.Proofs
namespace Go.Proofs.YtfjekjbkifmpfaaDoor
open Ieee
variable {s : ByteArray} {T : List Nat} {xs : List Value} {i size x y : Nat} {a : Option Addr} {e : TypeId} {v : Value}
def IsF (x : Nat) (n : Int) : Prop := ∃ (s : Bool) (k : Nat), double.read x = .number s (n.natAbs * 2 ^ k) (-(k : Int)) ∧ (n ≠ 0 → s = decide (n < 0))
theorem log2_up (v k : Nat) (h : v ≠ 0) : (v * 2 ^ k).log2 = v.log2 + k := by
 have hk : 0 < 2 ^ k := Nat.two_pow_pos k
 have hv : v * 2 ^ k ≠ 0 := Nat.ne_of_gt (Nat.mul_pos (Nat.pos_of_ne_zero h) hk)
 rw [Nat.log2_eq_iff hv]
 have h1 := (Nat.log2_eq_iff (k := v.log2) h).1 rfl
 constructor
 ·rw [Nat.pow_add]; exact Nat.mul_le_mul_right _ h1.1
 ·have : v.log2 + k + 1 = v.log2 + 1 + k := by omega
  rw [this, Nat.pow_add (m := v.log2 + 1)]
  exact Nat.mul_lt_mul_of_pos_right h1.2 hk
theorem cut_up (way : Toward) (neg : Bool) (a d : Nat) : way.cut neg (a * 2 ^ d) d = a := by
 have hd : 0 < 2 ^ d := Nat.two_pow_pos d
 by_cases h : a = 0
 ·subst h
  have hz : ∀ g : Nat, 0 < g → (match way with | .even => decide (g < 2 * (0 % g)) || (g == 2 * (0 % g) && 0 / g % 2 == 1) | .down => neg && (0 % g) != 0 | .up => !neg && (0 % g) != 0 | .zero => false : Bool) = false := by
   intro g hg
   cases way <;> simp
  have hg : 0 < 1 <<< min d ((0 : Nat).log2 + 2) := by rw [Nat.one_shiftLeft]; exact Nat.two_pow_pos _
  unfold Toward.cut
  rw [Nat.zero_mul]
  dsimp only
  rw [Nat.zero_div, Nat.zero_mod]
  have := hz _ hg
  rw [Nat.zero_mod, Nat.zero_div] at this
  cases way <;> simp_all
 ·have hm : min d ((a * 2 ^ d).log2 + 2) = d := by rw [log2_up a d h]; omega
  unfold Toward.cut
  rw [hm]
  dsimp only
  rw [Nat.one_shiftLeft, Nat.mul_div_cancel _ hd, Nat.mul_mod_left]
  cases way <;> simp <;> omega
theorem word_read (neg : Bool) (L m : Nat) (hL : L ≤ 52) (h0 : 4503599627370496 ≤ m) (h1 : m < 9007199254740992) :
  double.read (double.word neg ((L + 1022) * 4503599627370496 + m)) = .number neg m (-((52 - L : Nat) : Int)) := by
 have hs : double.signWeight = 9223372036854775808 := rfl
 have hb : double.binade = 4503599627370496 := rfl
 have hi : double.infRung = 9218868437227405312 := rfl
 have hl : double.leastPlace = -1074 := rfl
 have hneg : (double.word neg ((L + 1022) * 4503599627370496 + m) / double.signWeight % 2 == 1) = neg := by
  unfold Format.word
  rw [hs]
  cases neg
  ·simp; omega
  ·simp; omega
 have hr : double.word neg ((L + 1022) * 4503599627370496 + m) % double.signWeight = (L + 1022) * 4503599627370496 + m := by
  unfold Format.word
  rw [hs]
  cases neg
  ·simp; omega
  ·simp; omega
 unfold Format.read
 dsimp only
 rw [hneg, hr, hb, hi, hl]
 rw [if_neg (by omega), if_pos (by omega)]
 have e1 : ((L + 1022) * 4503599627370496 + m) % 4503599627370496 = m - 4503599627370496 := by omega
 have e2 : ((L + 1022) * 4503599627370496 + m) / 4503599627370496 = L + 1023 := by omega
 have e3 : 4503599627370496 + (m - 4503599627370496) = m := by omega
 have e4 : (-1074 : Int) + ((L + 1023 - 1 : Nat) : Int) = -((52 - L : Nat) : Int) := by omega
 rw [e1, e2, e3, e4]
theorem read_zero (neg : Bool) : ∃ k : Nat, double.read (double.word neg 0) = .number neg 0 (-(k : Int)) := ⟨1074, by cases neg <;> rfl⟩
theorem nearest_up (neg : Bool) (v k : Nat) (h0 : 0 < v) (h1 : v < 9007199254740992) :
  double.nearest neg (v * 2 ^ k) (-(k : Int)) = double.word neg ((v.log2 + 1022) * 4503599627370496 + v * 2 ^ (52 - v.log2)) := by
 have hv : v ≠ 0 := by omega
 have hk : 0 < 2 ^ k := Nat.two_pow_pos k
 have hvk : v * 2 ^ k ≠ 0 := Nat.ne_of_gt (Nat.mul_pos h0 hk)
 have hL : v.log2 < 53 := (Nat.log2_lt hv).2 h1
 have hlg := log2_up v k hv
 have hs := (Nat.log2_eq_iff (k := v.log2) hv).1 rfl
 have hb : double.binade = 4503599627370496 := rfl
 have hi : double.infRung = 9218868437227405312 := rfl
 have hl : double.leastPlace = -1074 := rfl
 have hf : double.fractionBits = 52 := rfl
 have hlast : max (-(k : Int) + ((v * 2 ^ k).log2 : Nat) - (double.fractionBits : Nat)) double.leastPlace = (v.log2 : Int) - 52 := by
  rw [hlg, hl, hf]; omega
 have hm1 : v * 2 ^ (52 - v.log2) < 9007199254740992 := by
  have : v * 2 ^ (52 - v.log2) < 2 ^ (v.log2 + 1) * 2 ^ (52 - v.log2) := Nat.mul_lt_mul_of_pos_right hs.2 (Nat.two_pow_pos _)
  rw [← Nat.pow_add] at this
  have e : v.log2 + 1 + (52 - v.log2) = 53 := by omega
  rw [e] at this
  exact this
 have hcut : Toward.even.cut neg ((v * 2 ^ k) <<< (-(k : Int) - ((v.log2 : Int) - 52)).toNat) ((v.log2 : Int) - 52 - -(k : Int)).toNat = v * 2 ^ (52 - v.log2) := by
  rw [Nat.shiftLeft_eq]
  by_cases hc : 52 - v.log2 ≤ k
  ·have e1 : (-(k : Int) - ((v.log2 : Int) - 52)).toNat = 0 := by omega
   have e2 : ((v.log2 : Int) - 52 - -(k : Int)).toNat = k - (52 - v.log2) := by omega
   rw [e1, e2, Nat.pow_zero, Nat.mul_one]
   have e3 : v * 2 ^ k = v * 2 ^ (52 - v.log2) * 2 ^ (k - (52 - v.log2)) := by
    rw [Nat.mul_assoc, ← Nat.pow_add]
    congr 2; omega
   rw [e3, cut_up]
  ·have e1 : (-(k : Int) - ((v.log2 : Int) - 52)).toNat = 52 - v.log2 - k := by omega
   have e2 : ((v.log2 : Int) - 52 - -(k : Int)).toNat = 0 := by omega
   rw [e1, e2, Nat.mul_assoc, ← Nat.pow_add]
   have e3 : k + (52 - v.log2 - k) = 52 - v.log2 := by omega
   rw [e3]
   have := cut_up .even neg (v * 2 ^ (52 - v.log2)) 0
   rwa [Nat.pow_zero, Nat.mul_one] at this
 unfold Format.nearest
 rw [if_neg hvk]
 dsimp only
 rw [hlast, hcut, hl, hb, hi]
 have e4 : ((v.log2 : Int) - 52 - -1074).toNat = v.log2 + 1022 := by omega
 rw [e4, Nat.min_eq_left (by omega)]
theorem read_up (neg : Bool) (v k : Nat) (h0 : 0 < v) (h1 : v < 9007199254740992) :
  ∃ j : Nat, double.read (double.nearest neg (v * 2 ^ k) (-(k : Int))) = .number neg (v * 2 ^ j) (-(j : Int)) := by
 have hv : v ≠ 0 := by omega
 have hL : v.log2 < 53 := (Nat.log2_lt hv).2 h1
 have hs := (Nat.log2_eq_iff (k := v.log2) hv).1 rfl
 refine ⟨52 - v.log2, ?_⟩
 rw [nearest_up neg v k h0 h1]
 refine word_read neg v.log2 _ (by omega) ?_ ?_
 ·have : 2 ^ v.log2 * 2 ^ (52 - v.log2) ≤ v * 2 ^ (52 - v.log2) := Nat.mul_le_mul_right _ hs.1
  rw [← Nat.pow_add] at this
  have e : v.log2 + (52 - v.log2) = 52 := by omega
  rw [e] at this
  exact this
 ·have : v * 2 ^ (52 - v.log2) < 2 ^ (v.log2 + 1) * 2 ^ (52 - v.log2) := Nat.mul_lt_mul_of_pos_right hs.2 (Nat.two_pow_pos _)
  rw [← Nat.pow_add] at this
  have e : v.log2 + 1 + (52 - v.log2) = 53 := by omega
  rw [e] at this
  exact this
theorem isF_write (s : Bool) (n : Int) (k : Nat) (hn : n.natAbs < 9007199254740992) (hs : n ≠ 0 → s = decide (n < 0)) : IsF (double.write (.number s (n.natAbs * 2 ^ k) (-(k : Int)))) n := by
 by_cases h : n = 0
 ·subst h
  obtain ⟨j, hj⟩ := read_zero s
  refine ⟨s, j, ?_, fun h => absurd rfl h⟩
  show double.read (double.nearest s ((0 : Int).natAbs * 2 ^ k) _) = _
  have e : (0 : Int).natAbs * 2 ^ k = 0 := by simp
  rw [e]
  unfold Format.nearest
  rw [if_pos rfl, hj, Int.natAbs_zero, Nat.zero_mul]
 ·obtain ⟨j, hj⟩ := read_up s n.natAbs k (by omega) hn
  exact ⟨s, j, hj, hs⟩
theorem isF_int (n : Int) (hn : n.natAbs < 9007199254740992) : IsF (floatOfInt .f64 n) n := by
 have := isF_write (decide (n < 0)) n 0 hn (fun _ => rfl)
 rw [Nat.pow_zero, Nat.mul_one] at this
 exact this
theorem signed_up (s : Bool) (n : Int) (k u : Nat) (hs : n ≠ 0 → s = decide (n < 0)) : signed s (n.natAbs * 2 ^ k) u = n * ((2 ^ (k + u) : Nat) : Int) := by
 unfold signed
 rw [Nat.shiftLeft_eq, Nat.mul_assoc, ← Nat.pow_add]
 by_cases h : n = 0
 ·subst h; simp
 ·rw [hs h]
  by_cases hn : n < 0
  ·have e : ((n.natAbs : Nat) : Int) = -n := by omega
   simp only [hn, decide_true, if_true]
   rw [Int.natCast_mul, e, Int.neg_mul, Int.neg_neg]
  ·have e : ((n.natAbs : Nat) : Int) = n := by omega
   simp only [hn, decide_false]
   rw [if_neg (by simp), Int.natCast_mul, e]
theorem base_up (i j : Nat) : ∃ u t : Nat, i + u = j + t ∧ (-(i : Int) - min (-(i : Int)) (-(j : Int))).toNat = u ∧ (-(j : Int) - min (-(i : Int)) (-(j : Int))).toNat = t ∧ min (-(i : Int)) (-(j : Int)) = -((i + u : Nat) : Int) := by
 by_cases h : i ≤ j
 ·exact ⟨j - i, 0, by omega, by omega, by omega, by omega⟩
 ·exact ⟨0, i - j, by omega, by omega, by omega, by omega⟩
theorem sum_up (s t : Bool) (a b : Int) (i j : Nat) (hs : a ≠ 0 → s = decide (a < 0)) (ht : b ≠ 0 → t = decide (b < 0)) (hn : (a + b).natAbs < 9007199254740992) :
  ∃ d, (Datum.number s (a.natAbs * 2 ^ i) (-(i : Int))).sum (.number t (b.natAbs * 2 ^ j) (-(j : Int))) = some d ∧ IsF (double.write d) (a + b) := by
 obtain ⟨u, v, huv, e1, e2, e3⟩ := base_up i j
 refine ⟨_, rfl, ?_⟩
 rw [e1, e2, signed_up s a i u hs, signed_up t b j v ht, ← huv, ← Int.add_mul, e3]
 have hp : 0 < 2 ^ (i + u) := Nat.two_pow_pos _
 have hpi : (0 : Int) < ((2 ^ (i + u) : Nat) : Int) := by omega
 have e4 : ((a + b) * ((2 ^ (i + u) : Nat) : Int)).natAbs = (a + b).natAbs * 2 ^ (i + u) := by
  rw [Int.natAbs_mul, Int.natAbs_natCast]
 rw [e4]
 refine isF_write _ (a + b) (i + u) hn fun h => ?_
 rw [if_neg (fun hz => by rcases Int.mul_eq_zero.1 hz with h' | h' <;> omega)]
 congr 1
 apply propext
 constructor
 ·intro hlt
  by_cases hc : a + b < 0
  ·exact hc
  ·have := Int.mul_nonneg (show 0 ≤ a + b by omega) (Int.le_of_lt hpi)
   omega
 ·intro hlt
  exact Int.mul_neg_of_neg_of_pos hlt hpi
theorem isF_add {a b : Int} (hx : IsF x a) (hy : IsF y b) (hn : (a + b).natAbs < 9007199254740992) : ∃ r, floatBits .add .f64 x y = some r ∧ IsF r (a + b) := by
 obtain ⟨s, i, ex, hs⟩ := hx
 obtain ⟨t, j, ey, ht⟩ := hy
 obtain ⟨d, hd, hr⟩ := sum_up s t a b i j hs ht hn
 refine ⟨double.write d, ?_, hr⟩
 show ((double.read x).sum (double.read y)).map double.write = _
 rw [ex, ey, hd]; rfl
theorem isF_order {a b : Int} (hx : IsF x a) (hy : IsF y b) : double.order x y = some (compare a b) := by
 obtain ⟨s, i, ex, hs⟩ := hx
 obtain ⟨t, j, ey, ht⟩ := hy
 obtain ⟨u, v, huv, e1, e2, e3⟩ := base_up i j
 show (double.read x).order (double.read y) = _
 rw [ex, ey]
 show some (compare (signed s (a.natAbs * 2 ^ i) (-(i : Int) - min (-(i : Int)) (-(j : Int))).toNat) (signed t (b.natAbs * 2 ^ j) (-(j : Int) - min (-(i : Int)) (-(j : Int))).toNat)) = _
 rw [e1, e2, signed_up s a i u hs, signed_up t b j v ht, ← huv]
 have hp : 0 < 2 ^ (i + u) := Nat.two_pow_pos _
 have hpi : (0 : Int) < ((2 ^ (i + u) : Nat) : Int) := by omega
 congr 1
 rcases Int.lt_trichotomy a b with h | h | h
 ·rw [Int.compare_eq_lt.2 h, Int.compare_eq_lt.2 (Int.mul_lt_mul_of_pos_right h hpi)]
 ·subst h
  rw [Int.compare_eq_eq.2 rfl, Int.compare_eq_eq.2 rfl]
 ·rw [Int.compare_eq_gt.2 h, Int.compare_eq_gt.2 (Int.mul_lt_mul_of_pos_right h hpi)]
theorem isF_eq {a b : Int} (hx : IsF x a) (hy : IsF y b) : (FloatKind.f64.format.order x y == some .eq) = decide (a = b) := by
 show (double.order x y == some .eq) = _
 rw [isF_order hx hy]
 rcases Int.lt_trichotomy a b with h | h | h
 ·rw [Int.compare_eq_lt.2 h]; simp; omega
 ·subst h; rw [Int.compare_eq_eq.2 rfl]; simp
 ·rw [Int.compare_eq_gt.2 h]; simp; omega
theorem cadd_whole {p q r t : Nat} {a b c d : Int} (hp : IsF p a) (hq : IsF q b) (hr : IsF r c) (ht : IsF t d)
  (h1 : (a + c).natAbs < 9007199254740992) (h2 : (b + d).natAbs < 9007199254740992) :
  ∃ x y, cSumBits .add .f64 p q r t = some (x, y) ∧ IsF x (a + c) ∧ IsF y (b + d) := by
 obtain ⟨r1, e1, f1⟩ := isF_add hp hr h1
 obtain ⟨r2, e2, f2⟩ := isF_add hq ht h2
 refine ⟨r1, r2, ?_, f1, f2⟩
 unfold cSumBits
 simp [e1, e2]
open Go.RowKit
def isI64 (x : Int) : Prop := (Lit.int .i64 x).wf = true
structure Kept (S : Nat → Prop) (w w' : World) : Prop where
 os : w'.os = w.os
 tape : w'.tape = w.tape
 output : w'.output = w.output
 size : w.heap.size ≤ w'.heap.size
 block : ∀ k, k < w.heap.size → ¬ S k → w'.heap[k]? = w.heap[k]?
theorem Kept.refl (S : Nat → Prop) (w : World) : Kept S w w := ⟨rfl, rfl, rfl, Nat.le_refl _, fun _ _ _ => rfl⟩
theorem Kept.trans {S S' : Nat → Prop} {a b c : World} (h : Kept S a b) (k : Kept S' b c) (hS : ∀ i, S' i → S i ∨ a.heap.size ≤ i) : Kept S a c :=
 ⟨k.os.trans h.os, k.tape.trans h.tape, k.output.trans h.output, Nat.le_trans h.size k.size, fun i hi hn =>
  (k.block i (Nat.lt_of_lt_of_le hi h.size) (fun hs => (hS i hs).elim hn (fun hb => by omega))).trans (h.block i hi hn)⟩
theorem Kept.and {S : Nat → Prop} {a b c : World} (h : Kept S a b) (k : Kept S b c) : Kept S a c := h.trans k (fun _ => .inl)
theorem Kept.mono {S S' : Nat → Prop} {a b : World} (h : Kept S a b) (hS : ∀ i, S i → S' i) : Kept S' a b :=
 ⟨h.os, h.tape, h.output, h.size, fun k hk hn => h.block k hk (fun hs => hn (hS k hs))⟩
theorem Kept.grown {S : Nat → Prop} {w w' : World} {row : Option Nat} (hg : w.grownBy w' row) (hr : ∀ k, row = some k → S k) : Kept S w w' :=
 ⟨hg.os, hg.tape, hg.output, hg.size, fun k hk hn => hg.block k hk (fun e => hn (hr k e.symm))⟩
theorem Kept.setCell {S : Nat → Prop} (w : World) (a : Addr) (u : Value) (h : S a.block) : Kept S w (w.setCell a u) :=
 ⟨rfl, rfl, rfl, by simp [World.setCell], fun k _ hn => Below.heap_setCell _ _ _ _ (fun e => hn (e ▸ h))⟩
theorem Kept.alloc (S : Nat → Prop) (w : World) (o : Obj) : Kept S w (w.alloc o) :=
 ⟨rfl, rfl, rfl, by simp, fun k hk _ => Below.heap_alloc _ _ _ hk⟩
theorem Kept.drew (S : Nat → Prop) (w : World) : Kept S w w.drew := ⟨rfl, rfl, rfl, Nat.le_refl _, fun _ _ _ => rfl⟩
theorem ret_int {k : IntKind} {a b : Int} (h : a = b) : Ending.returned (.int k a) = .returned (.int k b) := by rw [h]
theorem tmod_emod_neg {n m : Int} (hm : 0 < m) (h : n.tmod m < 0) : n.tmod m + m = n % m := by
 have h1 := Int.emod_nonneg n (by omega : m ≠ 0)
 have h2 := Int.emod_lt_of_pos n hm
 rw [Int.tmod_eq_emod] at h ⊢
 split at h <;> rename_i hc
 ·omega
 ·have : (m.natAbs : Int) = m := by omega
  rw [if_neg hc]
  omega
theorem tmod_emod_pos {n m : Int} (hm : 0 < m) (h : 0 ≤ n.tmod m) : n.tmod m = n % m := by
 have h1 := Int.emod_nonneg n (by omega : m ≠ 0)
 have h2 := Int.emod_lt_of_pos n hm
 rw [Int.tmod_eq_emod] at h ⊢
 split at h <;> rename_i hc
 ·rw [if_pos hc]; omega
 ·have : (m.natAbs : Int) = m := by omega
  omega
theorem within_any (w : World) (k m : Int) (hm : 0 < m) (hm2 : m ≤ 281474976710656) :
  Calls Tryd.prog 18 #[.int .i64 k, .int .i64 m] w fun e w' => e = .returned (.int .i64 (k % m)) ∧ w' = w := by
 have h1 := Int.emod_nonneg k (by omega : m ≠ 0)
 have h2 := Int.emod_lt_of_pos k hm
 have hmz : (m == 0) = false := by simp; omega
 by_cases h : k.tmod m < 0
 ·have e := tmod_emod_neg hm h
  have HE : Hid (k.tmod m + m = k % m) := e
  have hlo : -m ≤ k.tmod m := by omega
  clear e h1 h2
  go_enter Tryd.func18, Tryd.ntmps18
  go_wp2
  go_ret
  exact ⟨ret_int HE.out, rfl⟩
 ·have e := tmod_emod_pos (n := k) hm (by omega)
  have HE : Hid (k.tmod m = k % m) := e
  clear e h1 h2
  go_enter Tryd.func18, Tryd.ntmps18
  go_wp2
  go_ret
  exact ⟨ret_int HE.out, rfl⟩
theorem Kept.drewN (S : Nat → Prop) (w : World) (n : Nat) : Kept S w (w.drewN n) := ⟨rfl, rfl, rfl, Nat.le_refl _, fun _ _ _ => rfl⟩
theorem Kept.none {w w' : World} (h : Kept (fun _ => False) w w') : Below w.heap.size w w' :=
 ⟨h.os, h.tape, h.output, h.size, fun k hk => h.block k hk (fun h => h)⟩
theorem ownsRow_shape {w : World} {base n : Nat} (h : w.ownsRow base e size v n xs) : ∃ a c, v = .slice a n c := by
 rcases h.2 with ⟨rfl, rfl⟩ | ⟨g, cap, cur, rfl, _⟩
 ·exact ⟨_, _, rfl⟩
 ·exact ⟨_, _, rfl⟩
theorem addr_form {w : World} {x : Addr} (h : w.cell? (x.add 0) = some v) : ∃ b off, x = ⟨b, off, none⟩ := by
 cases x with
 | mk b off spot =>
  cases spot with
  | none => exact ⟨b, off, rfl⟩
  | some s =>
   have hs := World.cell?_spot h
   simp [Addr.add] at hs
open Go.ChangeShapes Go.WideShapes Go.ChangeAt
theorem Tryd.own : ownKnob Tryd.prog.godebug = none := by kernel_rfl
theorem Tryd.laidOut : laidOutB Tryd.prog = true := by kernel_rfl
def Src (w : World) (size : Nat) (x : Value) (m : Nat) (news : List Value) : Prop :=
 (∃ ad c, x = .slice (some ad) m c ∧ news.length = m * size ∧ ∀ j u, news[j]? = some u → w.cell? (ad.add j) = some u) ∨ (∃ c, x = .slice none 0 c ∧ m = 0 ∧ news = [])
theorem run_append_src {P : Program} (w : World) (base : Nat) (t ty e : TypeId) (i : TypeInfo) (z : Value) (size bytes : Nat) (ht : P.underlying t = some (.slice e)) (hi : P.info? e = some i) (hz : i.zero = some z)
  (hsize : i.size = size) (hby : i.bytes = bytes) (hzs : z.cells.size = size) (hsz : 0 < size)
  (v : Value) (n : Nat) (xs : List Value) (hown : w.ownsRow base e size v n xs) (x : Value) (m : Nat) (news : List Value) (hsrc : Src w size x m news) (h1 : ∀ u ∈ news, u.oneCell' = true)
  (h63 : n + m ≤ maxLen) (hbytes : (n + m) * bytes ≤ 140737488355328) (hbase : base ≤ w.heap.size) :
  ∃ v' w', (Builtin.append_ #[t, t] ty #[v, x]).run P w = .ok v' w' ∧ w'.ownsRow base e size v' (n + m) (xs ++ news) ∧ w.grownBy w' v.ownBlock ∧
   (v' = .slice none 0 0 ↔ v = .slice none 0 0 ∧ m = 0) ∧ (v'.ownBlock = v.ownBlock ∨ v'.ownBlock = some w.heap.size) := by
 rcases hsrc with ⟨ad, c, rfl, hl, hc⟩ | ⟨c, rfl, rfl, rfl⟩
 ·exact run_append_own_at w base t ty e i z size bytes ht hi hz hsize hby hzs hsz v n xs hown ad m c news hl hc h1 h63 hbytes hbase
 ·refine ⟨v, w, ?_, by simpa using hown, ⟨rfl, rfl, rfl, Nat.le_refl _, fun _ _ _ => rfl⟩, by simp, .inl rfl⟩
  rcases hown.2 with ⟨rfl, rfl⟩ | ⟨g, cap, cur, rfl, _, _, hnc, _⟩
  ·simp [Builtin.append_, run_underlying ht, sizeOf, typeInfo, hi, Builtin.lenOf, Builtin.firstCells]
  ·simp [Builtin.append_, run_underlying ht, sizeOf, typeInfo, hi, Builtin.lenOf, Builtin.firstCells, hnc, storeCells]
theorem wpList_append_src {P : Program} (w : World) {ops : Array Oper} {rest : List Oper} {o : Oper} {a : Act} {Q : Exit → Act → World → Prop} (hgd : o.guard = none) (s x : Operand) (t : TypeId)
  (ho : o.op = .call { callee := .builtin .append, args := #[s, x], argTypes := #[t, t] })
  (base : Nat) (e : TypeId) (i : TypeInfo) (z : Value) (size bytes : Nat) (ht : P.underlying t = some (.slice e)) (hi : P.info? e = some i) (hz : i.zero = some z)
  (hsize : i.size = size) (hby : i.bytes = bytes) (hzs : z.cells.size = size) (hsz : 0 < size)
  (v : Value) (n : Nat) (xs : List Value) (hs : a.eval s = v) (hown : w.ownsRow base e size v n xs) (xv : Value) (hx : a.eval x = xv) (m : Nat) (news : List Value) (hsrc : Src w size xv m news) (h1 : ∀ u ∈ news, u.oneCell' = true)
  (h63 : n + m ≤ maxLen) (hbytes : (n + m) * bytes ≤ 140737488355328) (hbase : base ≤ w.heap.size)
  (h : ∀ a' cap w', w'.ownsRow base e size (.slice a' (n + m) cap) (n + m) (xs ++ news) → w.grownBy w' v.ownBlock → (Value.slice a' (n + m) cap = .slice none 0 0 ↔ v = .slice none 0 0 ∧ m = 0) → ((Value.slice a' (n + m) cap).ownBlock = v.ownBlock ∨ (Value.slice a' (n + m) cap).ownBlock = some w.heap.size) → wpList P ops Q rest (a.put o.dst (.slice a' (n + m) cap)) w') :
  wpList P ops Q (o :: rest) a w := by
 refine wpList_plain hgd fun K hK => ?_
 obtain ⟨v', w', hrun, h2, h3, h4, h5⟩ := run_append_src (P := P) w base t o.type e i z size bytes ht hi hz hsize hby hzs hsz v n xs hown xv m news hsrc h1 h63 hbytes hbase
 obtain ⟨a', cap, rfl⟩ := ownsRow_shape h2
 unfold Oper.wp
 simp [execOp, ho, resolve, invoke, builtin, hs, hx, hrun, Result.andThen]
 exact hK _ _ (h a' cap w' h2 h3 h4 h5)
theorem ownsRow_empty (w : World) (base : Nat) (e : TypeId) (size : Nat) (hb : base ≤ w.heap.size) : (w.alloc (.cells #[] e)).ownsRow base e size (.slice (some ⟨w.heap.size, 0, none⟩) 0 0) 0 [] :=
 World.ownsRow_made w #[] 0 hb (by simp [maxLen]) (by simp)
open Go.RowKit Go.Shelf
structure Nd where
 name : ByteArray
 kind : Int
 arg : ByteArray
 «to» : ByteArray
 delay : Int
 tries : Int
 after : List ByteArray
def findP (ns : List Nd) (s : ByteArray) : Option Nat := ns.findIdx? (fun n => decide (n.name = s))
theorem findP_lt {ns : List Nd} (h : findP ns s = some i) : i < ns.length := by
 unfold findP at h
 rw [List.findIdx?_eq_some_iff_getElem] at h
 exact h.1
theorem findP_name {ns : List Nd} (h : findP ns s = some i) : (ns[i]'(findP_lt h)).name = s := by
 have h2 := h
 unfold findP at h2
 rw [List.findIdx?_eq_some_iff_getElem] at h2
 obtain ⟨_, h3, _⟩ := h2
 simpa using h3
theorem findP_first {ns : List Nd} (h : findP ns s = some i) {j : Nat} (hj : j < i) : (ns[j]'(Nat.lt_trans hj (findP_lt h))).name ≠ s := by
 have h2 := h
 unfold findP at h2
 rw [List.findIdx?_eq_some_iff_getElem] at h2
 obtain ⟨_, _, h4⟩ := h2
 have := h4 j hj
 simpa using this
theorem findP_none {ns : List Nd} : findP ns s = none ↔ ∀ n ∈ ns, n.name ≠ s := by
 unfold findP
 rw [List.findIdx?_eq_none_iff]
 simp
theorem findP_take {ns : List Nd} {k : Nat} (hk : k < ns.length) : findP (ns.take (k + 1)) s = (findP (ns.take k) s).or (if (ns[k]).name = s then some k else none) := by
 rw [List.take_add_one, List.getElem?_eq_getElem hk, Option.toList_some]
 unfold findP
 rw [List.findIdx?_append, List.length_take, Nat.min_eq_left (by omega)]
 congr 1
 by_cases h : (ns[k]).name = s
 ·simp [h]
 ·simp [h]
theorem findP_of_first {ns : List Nd} (hi : i < ns.length) (h : (ns[i]).name = s) (hf : ∀ j (hj : j < i), (ns[j]'(by omega)).name ≠ s) : findP ns s = some i := by
 unfold findP
 rw [List.findIdx?_eq_some_iff_getElem]
 exact ⟨hi, by simpa using h, fun j hj => by simpa using hf j hj⟩
def aheadP (ns : List Nd) (n : Nd) (s : ByteArray) : Option Nat := if s = n.name then none else findP ns s
theorem aheadP_lt {ns : List Nd} {n : Nd} (h : aheadP ns n s = some i) : i < ns.length := by
 unfold aheadP at h
 split at h
 ·cases h
 ·exact findP_lt h
def need (ns : List Nd) (T : List Nat) (n : Nd) : Nat := n.after.countP (fun s => match aheadP ns n s with | some j => !T.contains j | none => true)
def asks (ns : List Nd) (n : Nd) (j : Nat) : Nat := n.after.countP (fun s => decide (aheadP ns n s = some j))
def mayB (ns : List Nd) (T : List Nat) (i : Nat) : Bool := !T.contains i && match ns[i]? with | some n => decide (need ns T n = 0) | none => false
def nextP (ns : List Nd) (T : List Nat) : Option Nat := (List.range ns.length).find? (mayB ns T)
def ordK (ns : List Nd) : Nat → List Nat → List Nat
 | 0, T => T
 | k + 1, T => match nextP ns T with
  | some i => ordK ns k (T ++ [i])
  | none => T
def ordP (ns : List Nd) : List Nat := ordK ns ns.length []
theorem mayB_lt {ns : List Nd} (h : mayB ns T i = true) : i < ns.length := by
 unfold mayB at h
 cases hn : ns[i]? with
 | none => rw [hn] at h; simp at h
 | some n => exact (List.getElem?_eq_some_iff.1 hn).1
theorem nextP_some {ns : List Nd} (h1 : mayB ns T i = true) (h2 : ∀ j, j < i → mayB ns T j = false) : nextP ns T = some i := by
 unfold nextP
 rw [List.find?_range_eq_some]
 exact ⟨h1, by simpa using mayB_lt h1, fun j hj => by simp [h2 j hj]⟩
theorem nextP_is {ns : List Nd} (h : nextP ns T = some i) : mayB ns T i = true ∧ ∀ j, j < i → mayB ns T j = false := by
 unfold nextP at h
 rw [List.find?_range_eq_some] at h
 exact ⟨h.1, fun j hj => by simpa using h.2.2 j hj⟩
theorem nextP_none {ns : List Nd} (h : ∀ j, j < ns.length → mayB ns T j = false) : nextP ns T = none := by
 unfold nextP
 rw [List.find?_eq_none]
 intro x hx
 rw [List.mem_range] at hx
 simp [h x hx]
theorem need_add {ns : List Nd} (hi : i ∉ T) (n : Nd) : need ns T n = need ns (T ++ [i]) n + asks ns n i := by
 unfold need asks
 induction n.after with
 | nil => rfl
 | cons s r ih =>
  rw [List.countP_cons, List.countP_cons, List.countP_cons, ih]
  cases ha : aheadP ns n s with
  | none => simp; omega
  | some j =>
   by_cases hj : j = i
   ·subst hj
    simp [hi]; omega
   ·have : ¬ (i = j) := fun e => hj e.symm
    simp [hj]; omega
def Runs (ns : List Nd) (T : List Nat) : Prop := T.Nodup ∧ (∀ i ∈ T, i < ns.length) ∧ (∀ i ∈ T, ∀ n, ns[i]? = some n → need ns T n = 0) ∧ T.length ≤ ns.length ∧ ordP ns = ordK ns (ns.length - T.length) T
theorem nodup_le : ∀ {n : Nat} {l : List Nat}, l.Nodup → (∀ i ∈ l, i < n) → l.length ≤ n := by
 intro n
 induction n with
 | zero =>
  intro l _ h
  cases l with
  | nil => simp
  | cons x r => have := h x (List.mem_cons_self ..); omega
 | succ n ih =>
  intro l hn hl
  have h2 := ih (l := l.erase n) (hn.erase n) (fun i hi => by
   have h3 := hl i (List.mem_of_mem_erase hi)
   have h4 : i ≠ n := fun e => by subst e; exact (List.Nodup.not_mem_erase hn) hi
   omega)
  rw [List.length_erase] at h2
  split at h2 <;> omega
theorem Runs.zero (ns : List Nd) : Runs ns [] := ⟨by simp, by simp, by simp, by simp, rfl⟩
theorem Runs.step {ns : List Nd} (R : Runs ns T) (h1 : mayB ns T i = true) (h2 : ∀ j, j < i → mayB ns T j = false) : Runs ns (T ++ [i]) := by
 obtain ⟨r1, r2, r3, r4, r5⟩ := R
 have hi : i ∉ T := by
  intro hm
  unfold mayB at h1
  simp [hm] at h1
 have hlt := mayB_lt h1
 have n1 : (T ++ [i]).Nodup := by
  rw [List.nodup_append]
  exact ⟨r1, by simp, fun a ha b hb e => by simp at hb; subst hb; subst e; exact hi ha⟩
 have n2 : ∀ k ∈ T ++ [i], k < ns.length := by
  intro k hk
  rcases List.mem_append.1 hk with h | h
  ·exact r2 k h
  ·simp at h; subst h; exact hlt
 have n4 := nodup_le n1 n2
 refine ⟨n1, n2, ?_, n4, ?_⟩
 ·intro k hk n hn
  have ha := need_add (ns := ns) hi n
  rcases List.mem_append.1 hk with h | h
  ·have := r3 k h n hn; omega
  ·simp at h; subst h
   unfold mayB at h1
   rw [hn] at h1
   simp at h1
   omega
 ·rw [r5, List.length_append, List.length_singleton] at *
  have e : ns.length - T.length = (ns.length - (T.length + 1)) + 1 := by omega
  rw [e, ordK, nextP_some h1 h2]
theorem Runs.stop {ns : List Nd} (R : Runs ns T) (h : ∀ j, j < ns.length → mayB ns T j = false) : ordP ns = T := by
 obtain ⟨r1, r2, r3, r4, r5⟩ := R
 rw [r5]
 cases ns.length - T.length with
 | zero => rfl
 | succ k => rw [ordK, nextP_none h]
def madeP (s l : ByteArray) (most : Int) : Bool := decide (1 ≤ s.size) && decide ((s.size : Int) ≤ most) && s.data.toList.all (fun c => l.data.toList.contains c)
def lettersB : ByteArray := ⟨#[97, 98, 99, 100, 101, 102, 103, 104, 105, 106, 107, 108, 109, 110, 111, 112, 113, 114, 115, 116, 117, 118, 119, 120, 121, 122, 65, 66, 67, 68, 69, 70, 71, 72, 73, 74, 75, 76, 77, 78, 79, 80, 81, 82, 83, 84, 85, 86, 87, 88, 89, 90, 48, 49, 50, 51, 52, 53, 54, 55, 56, 57, 46, 45, 95]⟩
def flowsB : ByteArray := ⟨#[97, 98, 99, 100, 101, 102, 103, 104, 105, 106, 107, 108, 109, 110, 111, 112, 113, 114, 115, 116, 117, 118, 119, 120, 121, 122, 65, 66, 67, 68, 69, 70, 71, 72, 73, 74, 75, 76, 77, 78, 79, 80, 81, 82, 83, 84, 85, 86, 87, 88, 89, 90, 48, 49, 50, 51, 52, 53, 54, 55, 56, 57, 46, 45, 95, 47]⟩
def nameP (s : ByteArray) : Bool := madeP s lettersB 64
def flowP (s : ByteArray) : Bool := madeP s flowsB 256
def namedP (n : Nd) : Bool := nameP n.name && (n.kind == 2 || nameP n.arg) && (n.kind != 5 || flowP n.«to»)
def fitsP (n : Nd) : Bool :=
 if n.delay < 0 || n.delay > 1000000 then false
 else if n.kind == 1 then decide (1 ≤ n.tries) && decide (n.tries ≤ 10) && decide (n.«to».size = 0)
 else if n.kind == 2 then n.tries == 0 && decide (n.«to».size = 0) && decide (n.arg.size = 0)
 else if n.kind == 3 || n.kind == 4 then n.tries == 0 && decide (n.«to».size = 0) && n.delay == 0
 else if n.kind == 5 then n.tries == 0 && n.delay == 0
 else false
def nodeE (ns : List Nd) (i : Nat) (n : Nd) : Int :=
 if namedP n then (if (findP ns n.name).getD 0 < i then 16 else if fitsP n then 0 else 1) else 17
def afterE (ns : List Nd) (n : Nd) : Int :=
 if n.after.all (fun s => (findP ns s).isSome) then (if n.after.Nodup then 0 else 16) else 6
def firstE (f : Nat → Int) : Nat → Option (Nat × Int)
 | 0 => none
 | k + 1 => match firstE f k with
  | some x => some x
  | none => if f k = 0 then none else some (k, f k)
def checkP (name : ByteArray) (ns : List Nd) : Int × Int :=
 if nameP name = false then (-1, 17)
 else if ns.length < 1 ∨ 32 < ns.length then (-1, 10)
 else match firstE (fun i => match ns[i]? with | some n => nodeE ns i n | none => 0) ns.length with
  | some (i, e) => (i, e)
  | none => match firstE (fun i => match ns[i]? with | some n => afterE ns n | none => 0) ns.length with
   | some (i, e) => (i, e)
   | none => if (ordP ns).length = ns.length then (-1, 0) else (-1, 15)
def CellsAt (w : World) (a : Option Addr) (l : List Value) : Prop := l = [] ∨ ∃ b o, a = some ⟨b, o, none⟩ ∧ ∀ j u, l[j]? = some u → w.cell? ⟨b, o + j, none⟩ = some u
theorem CellsAt.kept {S : Nat → Prop} {w w' : World} {l : List Value} (C : CellsAt w a l) (K : Kept S w w') (hS : ∀ k, k < w.heap.size → ¬ S k) : CellsAt w' a l := by
 rcases C with h | ⟨b, o, h, hc⟩
 ·exact .inl h
 ·refine .inr ⟨b, o, h, fun j u hu => ?_⟩
  have h1 := hc j u hu
  have h2 := World.block_lt_of_cell? w _ h1
  rw [World.cell?_of_block (w := w) (K.block _ h2 (hS _ h2))]
  exact h1
theorem keepC {S : Nat → Prop} {w w' : World} (K : Kept S w w') {a : Addr} (h : w.cell? a = some v) (hS : ∀ k, k < w.heap.size → ¬ S k) : w'.cell? a = some v := by
 have h2 := World.block_lt_of_cell? w _ h
 rw [World.cell?_of_block (w := w) (K.block _ h2 (hS _ h2))]
 exact h
def TextsAt (w : World) (v : Value) (l : List ByteArray) : Prop := ∃ a c, v = .slice a l.length c ∧ l.length ≤ c ∧ c ≤ maxLen ∧ CellsAt w a (l.map Value.string) ∧ ∀ s ∈ l, s.size ≤ maxLen
theorem TextsAt.kept {S : Nat → Prop} {w w' : World} {l : List ByteArray} (C : TextsAt w v l) (K : Kept S w w') (hS : ∀ k, k < w.heap.size → ¬ S k) : TextsAt w' v l := by
 obtain ⟨a, c, h1, h2, h3, h4, h5⟩ := C
 exact ⟨a, c, h1, h2, h3, h4.kept K hS, h5⟩
theorem TextsAt.at {w : World} {l : List ByteArray} (C : TextsAt w v l) : ∃ a c, v = .slice a l.length c ∧ l.length ≤ c ∧ (l ≠ [] → ∃ b o, a = some ⟨b, o, none⟩ ∧ ∀ i (h : i < l.length), w.cell? ⟨b, o + i, none⟩ = some (.string (l[i]'h))) := by
 obtain ⟨a, c, h1, h2, h3, h4, h5⟩ := C
 refine ⟨a, c, h1, h2, fun hne => ?_⟩
 rcases h4 with h | ⟨b, o, h, hc⟩
 ·simp at h; exact absurd h hne
 ·exact ⟨b, o, h, fun i hi => hc i _ (by simp [hi])⟩
def ndC (n : Nd) (v : Value) : List Value := [.string n.name, .int .i64 n.kind, .string n.arg, .string n.«to», .int .i64 n.delay, .int .i64 n.tries, v]
structure NdOk (n : Nd) : Prop where
 name : n.name.size ≤ maxLen
 arg : n.arg.size ≤ maxLen
 «to» : n.«to».size ≤ maxLen
 kind : isI64 n.kind
 delay : isI64 n.delay
 tries : isI64 n.tries
 few : n.after.length ≤ 1000000
def NodesAt (w : World) (a : Option Addr) (ns : List Nd) : Prop := (∀ n ∈ ns, NdOk n) ∧ (ns = [] ∨ ∃ b o, a = some ⟨b, o, none⟩ ∧ ∀ i (h : i < ns.length), ∃ v, TextsAt w v (ns[i]'h).after ∧ ∀ j u, (ndC (ns[i]'h) v)[j]? = some u → w.cell? ⟨b, o + i * 7 + j, none⟩ = some u)
theorem NodesAt.kept {S : Nat → Prop} {w w' : World} {ns : List Nd} (C : NodesAt w a ns) (K : Kept S w w') (hS : ∀ k, k < w.heap.size → ¬ S k) : NodesAt w' a ns := by
 refine ⟨C.1, ?_⟩
 rcases C.2 with h | ⟨b, o, h, hc⟩
 ·exact .inl h
 ·refine .inr ⟨b, o, h, fun i hi => ?_⟩
  obtain ⟨v, hv, hw⟩ := hc i hi
  refine ⟨v, hv.kept K hS, fun j u hu => ?_⟩
  have h1 := hw j u hu
  have h2 := World.block_lt_of_cell? w _ h1
  rw [World.cell?_of_block (w := w) (K.block _ h2 (hS _ h2))]
  exact h1
theorem NodesAt.at {w : World} {ns : List Nd} (C : NodesAt w a ns) (hi : i < ns.length) : ∃ b o av cv, a = some ⟨b, o, none⟩ ∧ TextsAt w (.slice av (ns[i]).after.length cv) (ns[i]).after ∧
  w.cell? ⟨b, o + i * 7, none⟩ = some (.string (ns[i]).name) ∧ w.cell? ⟨b, o + i * 7 + 1, none⟩ = some (.int .i64 (ns[i]).kind) ∧ w.cell? ⟨b, o + i * 7 + 2, none⟩ = some (.string (ns[i]).arg) ∧ w.cell? ⟨b, o + i * 7 + 3, none⟩ = some (.string (ns[i]).«to») ∧
  w.cell? ⟨b, o + i * 7 + 4, none⟩ = some (.int .i64 (ns[i]).delay) ∧ w.cell? ⟨b, o + i * 7 + 5, none⟩ = some (.int .i64 (ns[i]).tries) ∧ w.cell? ⟨b, o + i * 7 + 6, none⟩ = some (.slice av (ns[i]).after.length cv) := by
 rcases C.2 with h | ⟨b, o, h, hc⟩
 ·subst h; simp at hi
 ·obtain ⟨v, hv, hw⟩ := hc i hi
  have hv2 := hv
  obtain ⟨av, cv, rfl, _⟩ := hv2
  exact ⟨b, o, av, cv, h, hv, hw 0 _ rfl, hw 1 _ rfl, hw 2 _ rfl, hw 3 _ rfl, hw 4 _ rfl, hw 5 _ rfl, hw 6 _ rfl⟩
def RawAt (w : World) (a : Option Addr) (ns : List Nd) : Prop := (∀ n ∈ ns, NdOk { n with after := [] }) ∧ (ns = [] ∨ ∃ b o, a = some ⟨b, o, none⟩ ∧ ∀ i (h : i < ns.length), ∃ v, TextsAt w v (ns[i]'h).after ∧ ∀ j u, (ndC (ns[i]'h) v)[j]? = some u → w.cell? ⟨b, o + i * 7 + j, none⟩ = some u)
theorem RawAt.kept {S : Nat → Prop} {w w' : World} {ns : List Nd} (C : RawAt w a ns) (K : Kept S w w') (hS : ∀ k, k < w.heap.size → ¬ S k) : RawAt w' a ns := by
 refine ⟨C.1, ?_⟩
 rcases C.2 with h | ⟨b, o, h, hc⟩
 ·exact .inl h
 ·refine .inr ⟨b, o, h, fun i hi => ?_⟩
  obtain ⟨v, hv, hw⟩ := hc i hi
  refine ⟨v, hv.kept K hS, fun j u hu => ?_⟩
  exact keepC K (hw j u hu) hS
theorem RawAt.at {w : World} {ns : List Nd} (C : RawAt w a ns) (hi : i < ns.length) : ∃ b o av cv, a = some ⟨b, o, none⟩ ∧ TextsAt w (.slice av (ns[i]).after.length cv) (ns[i]).after ∧
  w.cell? ⟨b, o + i * 7, none⟩ = some (.string (ns[i]).name) ∧ w.cell? ⟨b, o + i * 7 + 1, none⟩ = some (.int .i64 (ns[i]).kind) ∧ w.cell? ⟨b, o + i * 7 + 2, none⟩ = some (.string (ns[i]).arg) ∧ w.cell? ⟨b, o + i * 7 + 3, none⟩ = some (.string (ns[i]).«to») ∧
  w.cell? ⟨b, o + i * 7 + 4, none⟩ = some (.int .i64 (ns[i]).delay) ∧ w.cell? ⟨b, o + i * 7 + 5, none⟩ = some (.int .i64 (ns[i]).tries) ∧ w.cell? ⟨b, o + i * 7 + 6, none⟩ = some (.slice av (ns[i]).after.length cv) := by
 rcases C.2 with h | ⟨b, o, h, hc⟩
 ·subst h; simp at hi
 ·obtain ⟨v, hv, hw⟩ := hc i hi
  have hv2 := hv
  obtain ⟨av, cv, rfl, _⟩ := hv2
  exact ⟨b, o, av, cv, h, hv, hw 0 _ rfl, hw 1 _ rfl, hw 2 _ rfl, hw 3 _ rfl, hw 4 _ rfl, hw 5 _ rfl, hw 6 _ rfl⟩
theorem NodesAt.raw {w : World} {ns : List Nd} (C : NodesAt w a ns) : RawAt w a ns := ⟨fun n h => ⟨(C.1 n h).name, (C.1 n h).arg, (C.1 n h).«to», (C.1 n h).kind, (C.1 n h).delay, (C.1 n h).tries, Nat.zero_le _⟩, C.2⟩
theorem RawAt.nodes {w : World} {ns : List Nd} (C : RawAt w a ns) (h : ∀ n ∈ ns, n.after.length ≤ 1000000) : NodesAt w a ns := ⟨fun n hn => ⟨(C.1 n hn).name, (C.1 n hn).arg, (C.1 n hn).«to», (C.1 n hn).kind, (C.1 n hn).delay, (C.1 n hn).tries, h n hn⟩, C.2⟩
theorem keptRaw {w w' : World} (K : Kept (fun _ => False) w w') {ns : List Nd} (C : RawAt w a ns) : RawAt w' a ns := C.kept K (fun _ _ h => h)
theorem keptNew {w w' : World} (K : Kept (fun _ => False) w w') {ns : List Nd} (C : NodesAt w a ns) : NodesAt w' a ns := C.kept K (fun _ _ h => h)
theorem boxC {S : Nat → Prop} {w w' : World} {arr : Array Value} {T : TypeId} (K : Kept S (w.alloc (.cells arr T)) w') (hS : ¬ S w.heap.size) (j : Nat) (u : Value) (h : arr[j]? = some u) : w'.cell? ⟨w.heap.size, j, none⟩ = some u := by
 have hb := K.block w.heap.size (by simp) hS
 rw [World.cell?_of_block (w := w.alloc (.cells arr T)) hb]
 unfold World.cell?
 rw [heap_alloc_new]
 exact h
theorem boxD {w w' : World} {u0 u1 : Value} {T : TypeId} (K : Kept (fun _ => False) (w.alloc (.cells #[u0, u1] T)) w') : w'.cell? ⟨w.heap.size, 0, none⟩ = some u0 ∧ w'.cell? ⟨w.heap.size, 1, none⟩ = some u1 :=
 ⟨boxC K (fun h => h) 0 _ rfl, boxC K (fun h => h) 1 _ rfl⟩
theorem boxN {w w' : World} {u0 u1 u2 u3 u4 u5 u6 : Value} {T : TypeId} (K : Kept (fun _ => False) (w.alloc (.cells #[u0, u1, u2, u3, u4, u5, u6] T)) w') : w'.cell? ⟨w.heap.size, 0, none⟩ = some u0 ∧ w'.cell? ⟨w.heap.size, 1, none⟩ = some u1 ∧ w'.cell? ⟨w.heap.size, 2, none⟩ = some u2 ∧
  w'.cell? ⟨w.heap.size, 3, none⟩ = some u3 ∧ w'.cell? ⟨w.heap.size, 4, none⟩ = some u4 ∧ w'.cell? ⟨w.heap.size, 5, none⟩ = some u5 ∧ w'.cell? ⟨w.heap.size, 6, none⟩ = some u6 :=
 ⟨boxC K (fun h => h) 0 _ rfl, boxC K (fun h => h) 1 _ rfl, boxC K (fun h => h) 2 _ rfl, boxC K (fun h => h) 3 _ rfl, boxC K (fun h => h) 4 _ rfl, boxC K (fun h => h) 5 _ rfl, boxC K (fun h => h) 6 _ rfl⟩
open Go.RowKit Go.Maps Go.ChangeMaps Go.MapKept Go.WideMaps
open Go.WideElems (Fit rd rg pl rd_val elemAt)
def rawElem (v : Value) : Option (DataW Value × List MemPlace) := some (.held v, [])
def updS (M : ByteArray → Option Value) (i : ByteArray) (v : Option Value) : ByteArray → Option Value := fun x => if x = i then v else M x
def STab (P : Program) (k : TypeId) (w : World) (b n : Nat) (M : ByteArray → Option Value) : Prop :=
 ∃ D : DataW Value, w.ownsMap P k rawElem b n D ∧ ∀ x : ByteArray, x.size ≤ maxLen → ∀ z, D.atKey (.string x.data.toList) z = match M x with | some v => .held v | none => z
section
variable {P : Program} {k : TypeId} {w w' : World} {b n : Nat} {M : ByteArray → Option Value}
theorem STab.made (P : Program) (k : TypeId) (w : World) : STab P k (w.alloc (.map #[] 0)) w.heap.size 0 (fun _ => none) :=
 ⟨.map [], World.ownsMap_made w P k rawElem, fun x _ z => by simp [DataW.atKey]⟩
theorem STab.lt (T : STab P k w b n M) : b < w.heap.size := by obtain ⟨D, h, _⟩ := T; exact h.lt
theorem STab.block (T : STab P k w b n M) (h : w'.heap[b]? = w.heap[b]?) : STab P k w' b n M := by
 obtain ⟨D, ⟨es, clock, hb, r⟩, hD⟩ := T
 exact ⟨D, ⟨es, clock, h.trans hb, r⟩, hD⟩
theorem STab.kept {S : Nat → Prop} (T : STab P k w b n M) (K : Kept S w w') (hS : ¬ S b) : STab P k w' b n M := T.block (K.block b T.lt hS)
theorem STab.mono (T : STab P k w b n M) {n' : Nat} (h : n ≤ n') : STab P k w b n' M := by
 obtain ⟨D, hown, hD⟩ := T
 exact ⟨D, hown.mono h, hD⟩
theorem STab.is (T : STab P k w b n M) {M' : ByteArray → Option Value} (h : ∀ x, M x = M' x) : STab P k w b n M' := by
 have : M = M' := funext h
 rw [← this]; exact T
theorem has_of_stab {D : DataW Value} {x : List UInt8} {o : Option Value} (h : ∀ z, D.atKey (.string x) z = match o with | some v => .held v | none => z) : Maps.has D (.string x) = o.isSome := by
 cases hM : o with
 | none => rw [hM] at h; exact has_false_of_atKey h
 | some v => rw [hM] at h; exact has_true_of_atKey h
theorem STab.lookOk {t : TypeId} (T : STab P k w b n M) (hk : P.underlying k = some .string) (ht : P.underlying t = some (.map k e)) {z : Value} (hz : (zeroValue e).run P w = .ok z w) {i : ByteArray} (hi : i.size ≤ maxLen) :
  (Instr.lookup t (.map (some b)) (.string i) true).run P w = .ok (.tuple #[(M i).getD z, .bool (M i).isSome]) w := by
 obtain ⟨D, hown, hD⟩ := T
 obtain ⟨v, ps, hrun, hv⟩ := hown.look_ok (string_keyed hk) ht hz (zd := .held z) (zp := []) rfl (keyOf_string_mk hk hi)
 rw [hrun, has_of_stab (hD i hi)]
 have e1 := hD i hi (.held z)
 simp only [rawElem, Option.some.injEq, Prod.mk.injEq] at hv
 rw [e1] at hv
 cases hM : M i with
 | none => rw [hM] at hv; simp at hv; simp [hv]
 | some u => rw [hM] at hv; simp at hv; simp [hv]
theorem slit_ne {x i : ByteArray} (h : x ≠ i) : Lit.string x.data.toList ≠ Lit.string i.data.toList := fun e => h (by
 have e2 : x.data.toList = i.data.toList := by injection e
 apply ByteArray.ext
 exact Array.toList_inj.1 e2)
theorem STab.store {t : TypeId} (T : STab P k w b n M) (hk : P.underlying k = some .string) (ht : P.underlying t = some (.map k e)) (hn : n < maxLen) {i : ByteArray} (hi : i.size ≤ maxLen) (v : Value) :
  ∃ w', (Instr.mapUpdate t (.map (some b)) (.string i) v).run P w = .ok () w' ∧ STab P k w' b (n + 1) (updS M i (some v)) ∧ w.mapTurned w' b := by
 obtain ⟨D, hown, hD⟩ := T
 obtain ⟨w', hrun, hown', ht'⟩ := hown.store (string_keyed hk) ht hn (keyOf_string_mk hk hi) (d := .held v) (ps := []) rfl
 refine ⟨w', hrun, ⟨D.put (.string i.data.toList) (.held v), hown', ?_⟩, ht'⟩
 intro x hx z
 by_cases e : x = i
 ·subst e
  rw [atKey_put_same hown.isMap (by trivial)]
  simp [updS]
 ·rw [atKey_put_other (slit_ne e), hD x hx z]
  simp [updS, e]
end
theorem Kept.turned {S : Nat → Prop} {w w' : World} {b : Nat} (h : w.mapTurned w' b) (hS : S b) : Kept S w w' := by
 obtain ⟨es, c, es', c', hb, rfl⟩ := h
 exact ⟨rfl, rfl, rfl, by simp [setBlock], fun k hk hn => heap_setBlock_other hb _ (fun e => hn (e ▸ hS))⟩
theorem indexByte_neg (l : List UInt8) (c : UInt8) : (Lib.indexByte l c < 0) ↔ l.contains c = false := by
 induction l with
 | nil => simp [Lib.indexByte]
 | cons b r ih =>
  have hge := Lib.indexByte_ge r c
  unfold Lib.indexByte
  by_cases h : b = c
  ·subst h; simp
  ·have h2 : (b == c) = false := by simpa using h
   have h3 : (c == b) = false := by simpa using fun e => h e.symm
   rw [h2, List.contains_cons, h3, Bool.false_or, ← ih]
   simp only [Bool.false_eq_true, if_false]
   split
   ·rename_i h4; simp at h4; omega
   ·rename_i h4; simp at h4; omega
theorem all_next (s : ByteArray) (f : UInt8 → Bool) {k : Nat} (hk : k < s.size) : (s.data.toList.take (k + 1)).all f = ((s.data.toList.take k).all f && f (s[k]'hk)) := by
 have hl : k < s.data.toList.length := by simpa using hk
 rw [List.take_add_one, List.getElem?_eq_getElem hl, List.all_append]
 simp
 rfl
theorem all_ge (l : List UInt8) (f : UInt8 → Bool) (k : Nat) (h : (l.take k).all f = false) : l.all f = false := by
 cases hb : l.all f with
 | false => rfl
 | true =>
  rw [List.all_eq_true] at hb
  have : (l.take k).all f = true := List.all_eq_true.2 fun x hx => hb x (List.mem_of_mem_take hx)
  rw [this] at h; cases h
theorem made_any (w : World) (s l : ByteArray) (most : Int) (hm : most ≤ 1000) :
  Calls Tryd.prog 96 #[.string s, .string l, .int .i64 most] w fun e w' => e = .returned (.bool (madeP s l most)) ∧ w' = w := by
 unfold madeP
 by_cases h1 : 1 ≤ s.size
 ·by_cases h2 : (s.size : Int) ≤ most
  ·simp only [h1, h2, decide_true, Bool.true_and]
   go_enter Tryd.func96, Tryd.ntmps96
   go_wp2
   go_loopw [19] (fun i wr => ∃ (k : Nat), k ≤ s.size ∧ i = .int .i64 k ∧ wr = w ∧ (s.data.toList.take k).all (fun c => l.data.toList.contains c) = true) (fun i _ => s.size - (intOf i).toNat)
   case atStart => exact ⟨0, Nat.zero_le _, rfl, rfl, rfl⟩
   case round =>
    obtain ⟨k, hk, rfl, hwr, hall⟩ := hrel
    subst hwr
    by_cases hlt : k < s.size
    ·have hix : ∀ W, (Instr.index 9 (.string s) (.int .i64 (k : Int))).run Tryd.prog W = .ok (.int .u8 (((s[k]'hlt).toNat : Nat) : Int)) W := fun W => by
      rw [run_index_string W _ _ _ _ Tryd.underlying9]
      rw [dif_pos ⟨by omega, by omega⟩]
      simp
     have hnx := all_next s (fun c => l.data.toList.contains c) hlt
     rw [hall, Bool.true_and] at hnx
     have ec : (((s[k]'hlt).toNat : Nat) : Int).toNat.toUInt8 = s[k]'hlt := by simp
     have hI := Any.strings_IndexByte Tryd.indexByteL l (((s[k]'hlt).toNat : Nat) : Int) wr
     rw [ec] at hI
     have hng := indexByte_neg l.data.toList (s[k]'hlt)
     have hge := Lib.indexByte_ge l.data.toList (s[k]'hlt)
     have e0 : (k : Int) < (s.size : Int) := by omega
     change Calls Tryd.prog 108 _ _ _ at hI
     generalize Lib.indexByte l.data.toList (s[k]'hlt) = ix at *
     have HA : Hid ((s.data.toList.take (k + 1)).all (fun c => l.data.toList.contains c) = l.data.toList.contains (s[k]'hlt)) := hnx
     have HN : Hid (ix < 0 ↔ l.data.toList.contains (s[k]'hlt) = false) := hng
     clear hng hnx ec
     by_cases hneg : ix < 0
     ·go_wp2_with (first
       | (go_at_call 108; refine hI.mono ?_; rintro e w1 ⟨rfl, rfl⟩; clear hI)
       | fail)
      go_ret
      refine ⟨?_, rfl⟩
      rw [all_ge _ _ (k + 1) (by rw [HA.out]; exact HN.out.1 hneg)]
      rfl
     ·go_wp2_with (first
       | (go_at_call 108; refine hI.mono ?_; rintro e w1 ⟨rfl, rfl⟩; clear hI)
       | fail)
      go_roundw
      case rel =>
       refine ⟨k + 1, by omega, by go_num, trivial, ?_⟩
       rw [HA.out]
       cases hb : l.data.toList.contains (s[k]'hlt) with
       | true => rfl
       | false => have := HN.out.2 hb; omega
      case measure => simp [intOf]; omega
    ·obtain rfl : k = s.size := by omega
     go_wp2
     go_ret
     refine ⟨?_, rfl⟩
     have e : s.data.toList.take s.size = s.data.toList := List.take_of_length_le (by simp)
     rw [e] at hall
     rw [hall]
     rfl
  ·simp only [h1, h2, decide_true, decide_false, Bool.true_and, Bool.false_and]
   go_enter Tryd.func96, Tryd.ntmps96
   go_wp2
   go_ret
   exact ⟨rfl, rfl⟩
 ·simp only [h1, decide_false, Bool.false_and]
  go_enter Tryd.func96, Tryd.ntmps96
  go_wp2
  go_ret
  exact ⟨rfl, rfl⟩
theorem name_any (w : World) (s : ByteArray) :
  Calls Tryd.prog 75 #[.string s] w fun e w' => e = .returned (.bool (nameP s)) ∧ w' = w := by
 have h := made_any w s lettersB 64 (by decide)
 unfold nameP
 generalize madeP s lettersB 64 = b at *
 unfold lettersB at h
 go_enter Tryd.func75, Tryd.ntmps75
 go_wp2_with (first
  | (go_at_call 96; refine h.mono ?_; rintro e w1 ⟨rfl, rfl⟩; clear h)
  | fail)
 go_ret
 exact ⟨rfl, rfl⟩
def ndV (n : Nd) (v : Value) : Value := .agg #[.string n.name, .int .i64 n.kind, .string n.arg, .string n.«to», .int .i64 n.delay, .int .i64 n.tries, v]
theorem find_any (w : World) (name : ByteArray) (a : Option Addr) (n c : Nat) (ns : List Nd) (hN : NodesAt w a ns) (hl : ns.length = n) (hn : n ≤ 4611686018427387904) (s : ByteArray) :
  Calls Tryd.prog 89 #[.agg #[.string name, .slice a n c], .string s] w fun e w' => e = .returned (.tuple #[.int .i64 ((findP ns s).getD 0 : Nat), .bool (findP ns s).isSome]) ∧ Kept (fun _ => False) w w' := by
 subst hl
 go_enter Tryd.func89, Tryd.ntmps89
 go_wp2
 go_loopw [11] (fun i wr => ∃ (k : Nat), k ≤ ns.length ∧ i = .int .i64 k ∧ Kept (fun _ => False) (w.alloc (.cells #[.string name, .slice a ns.length c] 24)) wr ∧ findP (ns.take k) s = none) (fun i _ => ns.length - (intOf i).toNat)
 case atStart => exact ⟨0, Nat.zero_le _, rfl, Kept.refl _ _, rfl⟩
 case round =>
  obtain ⟨k, hk, rfl, K, hf⟩ := hrel
  by_cases hlt : k < ns.length
  ·obtain ⟨b, o, av, cv, rfl, hT, c0, c1, c2, c3, c4, c5, c6⟩ := (keptNew K (keptNew (Kept.alloc _ _ _) hN)).at hlt
   have hnx := findP_take (s := s) hlt
   have hft := fun h => findP_of_first hlt h (fun j hj => findP_none.1 hf _ (List.mem_take_iff_getElem.2 ⟨j, by omega, rfl⟩))
   rw [hf, Option.none_or] at hnx
   have HF : Hid ((ns[k]).name = s → findP ns s = some k) := hft
   have HN : Hid (findP (ns.take (k + 1)) s = if (ns[k]).name = s then some k else none) := hnx
   have e0 : (k : Int) < (ns.length : Int) := by omega
   clear hft hnx hT
   by_cases he : (ns[k]).name = s
   ·have he2 : ((ns[k]).name.toList == s.toList) = true := by rw [he]; simp
    generalize ns[k] = x at *
    go_wp2
    go_ret2
    rw [HF.out he]
    exact ⟨rfl, ((Kept.alloc _ _ _).and K).and (Kept.alloc _ _ _)⟩
   ·have he2 : ((ns[k]).name.toList == s.toList) = false := by
     simp only [beq_eq_false_iff_ne, ne_eq]
     exact fun h => he (ByteArray.ext (Array.toList_inj.1 (by rw [← Lib.toList_data, ← Lib.toList_data]; exact h)))
    generalize ns[k] = x at *
    go_wp2
    go_roundw
    case rel =>
     refine ⟨k + 1, by omega, by go_num, K.and (Kept.alloc _ _ _), ?_⟩
     rw [HN.out, if_neg he]
    case measure => simp [intOf]; omega
  ·obtain rfl : k = ns.length := by omega
   go_wp2
   go_ret2
   rw [List.take_length] at hf
   rw [hf]
   exact ⟨rfl, (Kept.alloc _ _ _).and K⟩
theorem str_empty (s : ByteArray) : (s.toList == ([] : List UInt8)) = decide (s.size = 0) := by
 have : s.toList.length = s.size := by rw [Lib.toList_data]; simp
 by_cases h : s.size = 0
 ·rw [h] at this
  have := List.eq_nil_of_length_eq_zero this
  rw [this]; simp [h]
 ·have h2 : s.toList ≠ [] := fun e => h (by rw [← this, e]; rfl)
  simp [h, h2]
def firstM (ns : List Nd) (s : ByteArray) : Option Value := (findP ns s).map (fun i => Value.int .i64 (i : Nat))
def FirstAt (w : World) (b : Nat) (ns : List Nd) : Prop := ∃ n, STab Tryd.prog 9 w b n (firstM ns)
theorem FirstAt.kept {S : Nat → Prop} {w w' : World} {b : Nat} {ns : List Nd} (T : FirstAt w b ns) (K : Kept S w w') (hS : ¬ S b) : FirstAt w' b ns := by
 obtain ⟨n, h⟩ := T
 exact ⟨n, h.kept K hS⟩
theorem firstM_next {ns : List Nd} {k : Nat} (hk : k < ns.length) (hf : findP (ns.take k) (ns[k]).name = none) : ∀ x, updS (firstM (ns.take k)) (ns[k]).name (some (.int .i64 (k : Nat))) x = firstM (ns.take (k + 1)) x := by
 intro x
 unfold updS firstM
 rw [findP_take hk]
 by_cases e : x = (ns[k]).name
 ·subst e; rw [hf]; simp
 ·have : ¬ (ns[k]).name = x := fun h => e h.symm
  simp [e, this]
theorem firstM_same {ns : List Nd} {k : Nat} (hk : k < ns.length) {j : Nat} (hf : findP (ns.take k) (ns[k]).name = some j) : ∀ x, firstM (ns.take k) x = firstM (ns.take (k + 1)) x := by
 intro x
 unfold firstM
 rw [findP_take hk]
 by_cases e : (ns[k]).name = x
 ·subst e; rw [hf]; rfl
 ·simp [e]
theorem firstM_isSome (ns : List Nd) (s : ByteArray) : (firstM ns s).isSome = (findP ns s).isSome := by unfold firstM; simp
theorem firsts_any (w : World) (name : ByteArray) (a : Option Addr) (n c : Nat) (ns : List Nd) (hN : NodesAt w a ns) (hl : ns.length = n) (hn : n ≤ 1000000000000) :
  Calls Tryd.prog 103 #[.agg #[.string name, .slice a n c]] w fun e w' => e = .returned (.map (some (w.heap.size + 1))) ∧ FirstAt w' (w.heap.size + 1) ns ∧ Kept (fun _ => False) w w' := by
 subst hl
 have hmm : ∀ W, (Instr.makeMap 145 (some (.int .i64 (ns.length : Nat)))).run Tryd.prog W = .ok (.map (some W.heap.size)) (W.alloc (.map #[] 0)) := fun W => rfl
 have HM : Hid (STab Tryd.prog 9 ((w.alloc (.cells #[.string name, .slice a ns.length c] 24)).alloc (.map #[] 0)) (w.heap.size + 1) 0 (firstM [])) := by
  have := STab.made Tryd.prog 9 (w.alloc (.cells #[.string name, .slice a ns.length c] 24))
  rw [World.size_alloc] at this
  exact this
 go_enter Tryd.func103, Tryd.ntmps103
 go_wp2
 go_loopw [15] (fun i wr => ∃ (k : Nat), k ≤ ns.length ∧ i = .int .i64 k ∧ Kept (fun j => j = w.heap.size + 1) ((w.alloc (.cells #[.string name, .slice a ns.length c] 24)).alloc (.map #[] 0)) wr ∧ STab Tryd.prog 9 wr (w.heap.size + 1) k (firstM (ns.take k))) (fun i _ => ns.length - (intOf i).toNat)
 case atStart => exact ⟨0, Nat.zero_le _, rfl, Kept.refl _ _, HM.out⟩
 case round =>
  obtain ⟨k, hk, rfl, K, T⟩ := hrel
  have Kw : Kept (fun _ => False) w wr := (((Kept.alloc (fun _ => False) _ _).and (Kept.alloc _ _ _)).trans K (fun i h => .inr (by omega)))
  by_cases hlt : k < ns.length
  ·obtain ⟨b, o, av, cv, rfl, hT, c0, c1, c2, c3, c4, c5, c6⟩ := (keptNew Kw hN).at hlt
   have hok := (hN.1 _ (List.getElem_mem hlt)).name
   have e0 : (k : Int) < (ns.length : Int) := by omega
   have T2 := T.kept (Kept.alloc (fun _ => False) wr (.cells #[.string (ns[k]).name, .int .i64 (ns[k]).kind, .string (ns[k]).arg, .string (ns[k]).«to», .int .i64 (ns[k]).delay, .int .i64 (ns[k]).tries, .slice av (ns[k]).after.length cv] 64)) (fun h => h)
   have hlk := T2.lookOk Tryd.underlying9 Tryd.underlying145 (z := .int .i64 0) (by rfl) hok
   have HT2 : Hid (STab Tryd.prog 9 (wr.alloc (.cells #[.string (ns[k]).name, .int .i64 (ns[k]).kind, .string (ns[k]).arg, .string (ns[k]).«to», .int .i64 (ns[k]).delay, .int .i64 (ns[k]).tries, .slice av (ns[k]).after.length cv] 64)) (w.heap.size + 1) k (firstM (ns.take k))) := T2
   clear hT T
   cases hf : findP (ns.take k) (ns[k]).name with
   | none =>
    have hf2 : firstM (ns.take k) (ns[k]).name = none := by unfold firstM; rw [hf]; rfl
    rw [hf2] at hlk
    obtain ⟨w2, hst, T3, ht⟩ := T2.store Tryd.underlying9 Tryd.underlying145 (by unfold maxLen; omega) hok (.int .i64 (k : Nat))
    have HN : Hid (∀ x, updS (firstM (ns.take k)) (ns[k]).name (some (.int .i64 (k : Nat))) x = firstM (ns.take (k + 1)) x) := firstM_next hlt hf
    clear hf hf2 T2
    generalize ns[k] = x at *
    go_wp2
    go_roundw
    case rel => exact ⟨k + 1, by omega, by go_num, (K.and (Kept.alloc _ _ _)).and (Kept.turned ht rfl), T3.is HN.out⟩
    case measure => simp [intOf]; omega
   | some j =>
    have hf2 : firstM (ns.take k) (ns[k]).name = some (.int .i64 (j : Nat)) := by unfold firstM; rw [hf]; rfl
    rw [hf2] at hlk
    simp only [Option.getD_some, Option.isSome_some] at hlk
    have HN : Hid (∀ x, firstM (ns.take k) x = firstM (ns.take (k + 1)) x) := firstM_same hlt hf
    clear hf hf2 T2
    generalize ns[k] = x at *
    go_wp2
    go_roundw
    case rel => exact ⟨k + 1, by omega, by go_num, K.and (Kept.alloc _ _ _), (HT2.out.mono (by omega)).is HN.out⟩
    case measure => simp [intOf]; omega
  ·obtain rfl : k = ns.length := by omega
   go_wp2
   go_ret
   rw [List.take_length] at T
   exact ⟨rfl, ⟨_, T⟩, Kw⟩
theorem str_eq (s t : ByteArray) : (s.toList == t.toList) = decide (s = t) := by
 by_cases h : s = t
 ·subst h; simp
 ·have : s.toList ≠ t.toList := fun e => h (ByteArray.ext (Array.toList_inj.1 (by rw [← Lib.toList_data, ← Lib.toList_data]; exact e)))
  simp [h, this]
theorem ahead_any (w : World) (mb : Nat) (ns : List Nd) (T : FirstAt w mb ns) (x0 : ByteArray) (x1 : Int) (x2 x3 : ByteArray) (x4 x5 : Int) (x6 : List ByteArray) (av : Option Addr) (lv cv : Nat) (s : ByteArray) (hs : s.size ≤ maxLen) :
  Calls Tryd.prog 110 #[.agg #[.string x0, .int .i64 x1, .string x2, .string x3, .int .i64 x4, .int .i64 x5, .slice av lv cv], .string s, .map (some mb)] w fun e w' => e = .returned (.tuple #[.int .i64 ((findP ns s).getD 0 : Nat), .bool (aheadP ns ⟨x0, x1, x2, x3, x4, x5, x6⟩ s).isSome]) ∧ Kept (fun _ => False) w w' := by
 obtain ⟨m, T⟩ := T
 have hlk := (T.kept (Kept.alloc (fun _ => False) w (.cells #[.string x0, .int .i64 x1, .string x2, .string x3, .int .i64 x4, .int .i64 x5, .slice av lv cv] 64)) (fun h => h)).lookOk Tryd.underlying9 Tryd.underlying145 (z := .int .i64 0) (by rfl) hs
 have hne := str_eq s x0
 unfold aheadP
 simp only []
 have hv : (firstM ns s).getD (.int .i64 0) = .int .i64 ((findP ns s).getD 0 : Nat) := by unfold firstM; cases findP ns s <;> rfl
 have hb := firstM_isSome ns s
 rw [hv, hb] at hlk
 generalize (findP ns s).getD 0 = g at *
 clear T hv hb
 by_cases he : s = x0
 ·rw [if_pos he]
  simp only [he, decide_true] at hne
  subst he
  cases hf : (findP ns s).isSome <;>
  ·rw [hf] at hlk
   go_enter Tryd.func110, Tryd.ntmps110
   go_wp2_with (first | go_quiet (fail) | fail)
   go_ret2
   exact ⟨rfl, (Kept.alloc _ _ _).and (Kept.drewN _ _ _)⟩
 ·rw [if_neg he]
  simp only [he, decide_false] at hne
  cases hf : (findP ns s).isSome <;>
  ·rw [hf] at hlk
   go_enter Tryd.func110, Tryd.ntmps110
   go_wp2_with (first | go_quiet (fail) | fail)
   go_ret2
   exact ⟨rfl, (Kept.alloc _ _ _).and (Kept.drewN _ _ _)⟩
theorem refFind_wide (w : World) (name : ByteArray) (a : Option Addr) (n c : Nat) (ns : List Nd) (hN : RawAt w a ns) (hl : ns.length = n) (hn : n ≤ 4611686018427387904) (s : ByteArray) :
  Calls Tryd.prog 23 #[.agg #[.string name, .slice a n c], .string s] w fun e w' => e = .returned (.tuple #[.int .i64 ((findP ns s).getD 0 : Nat), .bool (findP ns s).isSome]) ∧ Kept (fun _ => False) w w' := by
 subst hl
 go_enter Tryd.func23, Tryd.ntmps23
 go_wp2
 go_loopw [6] (fun i wr => ∃ (k : Nat), k ≤ ns.length ∧ i = .int .i64 k ∧ wr = w.alloc (.cells #[.string name, .slice a ns.length c] 24) ∧ findP (ns.take k) s = none) (fun i _ => ns.length - (intOf i).toNat)
 case atStart => exact ⟨0, Nat.zero_le _, rfl, rfl, rfl⟩
 case round =>
  obtain ⟨k, hk, rfl, rfl, hf⟩ := hrel
  by_cases hlt : k < ns.length
  ·obtain ⟨b, o, av, cv, rfl, hT, c0, c1, c2, c3, c4, c5, c6⟩ := (keptRaw (Kept.alloc (fun _ => False) w (.cells #[.string name, .slice a ns.length c] 24)) hN).at hlt
   have hnx := findP_take (s := s) hlt
   have hft := fun h => findP_of_first hlt h (fun j hj => findP_none.1 hf _ (List.mem_take_iff_getElem.2 ⟨j, by omega, rfl⟩))
   rw [hf, Option.none_or] at hnx
   have HF : Hid ((ns[k]).name = s → findP ns s = some k) := hft
   have HN : Hid (findP (ns.take (k + 1)) s = if (ns[k]).name = s then some k else none) := hnx
   have e0 : (k : Int) < (ns.length : Int) := by omega
   clear hft hnx hT hN
   by_cases he : (ns[k]).name = s
   ·have he2 : ((ns[k]).name.toList == s.toList) = true := by rw [he]; simp
    generalize ns[k] = x at *
    go_wp2
    go_ret2
    rw [HF.out he]
    exact ⟨rfl, Kept.alloc _ _ _⟩
   ·have he2 : ((ns[k]).name.toList == s.toList) = false := by
     simp only [beq_eq_false_iff_ne, ne_eq]
     exact fun h => he (ByteArray.ext (Array.toList_inj.1 (by rw [← Lib.toList_data, ← Lib.toList_data]; exact h)))
    generalize ns[k] = x at *
    go_wp2
    go_roundw
    case rel =>
     refine ⟨k + 1, by omega, by go_num, trivial, ?_⟩
     rw [HN.out, if_neg he]
    case measure => simp [intOf]; omega
  ·obtain rfl : k = ns.length := by omega
   clear hN
   go_wp2
   go_ret2
   rw [List.take_length] at hf
   rw [hf]
   exact ⟨rfl, Kept.alloc _ _ _⟩
theorem refFind_any (w : World) (name : ByteArray) (a : Option Addr) (n c : Nat) (ns : List Nd) (hN : NodesAt w a ns) (hl : ns.length = n) (hn : n ≤ 4611686018427387904) (s : ByteArray) :
  Calls Tryd.prog 23 #[.agg #[.string name, .slice a n c], .string s] w fun e w' => e = .returned (.tuple #[.int .i64 ((findP ns s).getD 0 : Nat), .bool (findP ns s).isSome]) ∧ Kept (fun _ => False) w w' :=
 refFind_wide w name a n c ns hN.raw hl hn s
theorem Tryd.info3 : (Tryd.prog.info? 3).map (fun i => (i.zero, i.size, i.bytes)) = some (some (.int .i64 0), 1, 8) := by kernel_rfl
def natsV (l : List Nat) : List Value := l.map (fun x => Value.int .i64 (x : Nat))
theorem natsV_one (l : List Nat) : ∀ u ∈ natsV l, u.oneCell' = true := by
 intro u hu
 obtain ⟨x, _, rfl⟩ := List.mem_map.1 hu
 rfl
theorem ownsRow_keep {w w' : World} {B e : Nat} {n : Nat} (h : w.ownsRow B e size v n xs) (hk : ∀ g, v.ownBlock = some g → w'.heap[g]? = w.heap[g]?) : w'.ownsRow B e size v n xs := by
 refine ⟨h.1, ?_⟩
 rcases h.2 with h0 | ⟨g, cap, cur, hv, hb, hg, r⟩
 ·exact .inl h0
 ·exact .inr ⟨g, cap, cur, hv, hb, (hk g (by rw [hv]; rfl)).trans hg, r⟩
theorem ownsRow_low {w : World} {B B' e : Nat} {n : Nat} (h : w.ownsRow B e size v n xs) (hB : B' ≤ B) : w.ownsRow B' e size v n xs := by
 refine ⟨h.1, ?_⟩
 rcases h.2 with h0 | ⟨g, cap, cur, hv, hb, r⟩
 ·exact .inl h0
 ·exact .inr ⟨g, cap, cur, hv, Nat.le_trans hB hb, r⟩
theorem ownsRow_blk {w : World} {B e : Nat} {n : Nat} (h : w.ownsRow B e size v n xs) {g : Nat} (hg : v.ownBlock = some g) : g < w.heap.size := (h.lt g hg).2
section
variable {w w' : World} {B bb n : Nat} {S : Nat → Prop} {f : Nat → List Nat} {vs : Nat → Value}
end
end Go.Proofs.YtfjekjbkifmpfaaDoor
namespace Go.Proofs.YtfjekjbkifmpfaaDoor
open Go.RowKit
variable {a : Act} {ops : Array Oper} {Q : Exit → Act → World → Prop} {r : List Oper} {P : Program} {w : World} {S : World → Prop}
abbrev KF (w w' : World) : Prop := Kept (fun _ => False) w w'
abbrev vl {α : Type} (a : Option Addr) (l : List α) (c : Nat) : Value := .slice a l.length c
def rgn (k : Nat) : Code → Option (Array Oper)
 | .region i o _ => if i = k then some o else none
 | .seq a b => match rgn k a with
  | some o => some o
  | none => rgn k b
 | .cond _ a b => match rgn k a with
  | some o => some o
  | none => rgn k b
 | .block _ b => rgn k b
 | .loop b => rgn k b
 | .scope b => rgn k b
 | _ => none
def rgF (f : Func) (k : Nat) : Array Oper := match f.body with
 | some c => (rgn k c).getD #[]
 | none => #[]
theorem atK {w' : World} {b : Nat} {o : Obj} (K : Kept (fun _ => False) w w') (h : w.heap[b]? = some o) : w'.heap[b]? = some o := (K.block b (Array.getElem?_eq_some_iff.1 h).1 (fun h => h)).trans h
theorem kc_ {w' : World} (K : Kept (fun _ => False) w w') {a : Addr} {v : Value} (h : w.cell? a = some v) : w'.cell? a = some v := keepC K h (fun _ _ h => h)
theorem drop_at {i : Nat} {o : Oper} (h : ops.toList.drop i = o :: r) : ops[i]? = some o := by
 have h2 : (ops.toList.drop i)[0]? = some o := by rw [h]; rfl
 rw [List.getElem?_drop] at h2
 simpa using h2
theorem tkR (i : Nat) {md : Region.Mode} {oi : Oper} {v : Value} {fuel : Nat} {listed : Array Bool} {a' : Act} (hS : S w)
  (h : wpAnyH P md ops Q S fuel (listed.setIfInBounds i true) a' w)
  (hi : ops.toList.drop i = oi :: r := by rfl) (hs : Region.noSelect ops = true := by kernel_rfl) (hf : Region.free md ops listed i = true := by kernel_rfl) (hr : (Region.ready md ops listed).contains i = true := by kernel_rfl)
  (hQ : ∀ c a w, Q (.panic c) (a.put oi.dst v) w → Q (.panic c) a w := by exact fun _ _ _ h => h)
  (hw : Region.wanted oi (yielded ops a.tmps) = true := by rfl)
  (hy : ∀ w, S w → (execOp a.eval oi).run P w = .ok (.value v) w := by intro V hV; (try dsimp only at hV); go_split_ands; go_simp; all_goals rfl)
  (ha : a.put oi.dst v = a' := by simp only [Act.put, List.setIfInBounds_toArray, List.set_cons_zero, List.set_cons_succ]; rfl) : wpAnyH P md ops Q S (fuel + 1) listed a w := by
 subst ha
 exact wpAnyH_take (drop_at hi) hs hf hr hQ (.inl ⟨hw, hy⟩) hS h
theorem rdy {md : Region.Mode} {fuel : Nat} {listed : Array Bool} {i : Nat} {o : Oper} {rs : List Nat}
  (h : ∀ K' : Act → World → Prop, Shut (∀ a w, S w → (S w → wpAnyH P md ops Q S fuel (listed.setIfInBounds i true) a w) → K' a w) → if Region.wanted o (yielded ops a.tmps) = true then Oper.wp P o a w K' Q else K' (a.put o.dst undef) w)
  (hs : AllReadyH P md ops Q S fuel listed a w rs) (ho : ops.toList.drop i = o :: r := by rfl) : AllReadyH P md ops Q S fuel listed a w (i :: rs) := AllReadyH.cons (drop_at ho) h hs
theorem heldR {G : Nat → Prop} {id : Nat} (HS : Hid (∀ V, Kept G w.drew V → S V)) (h : S w.drew → wpAnyH P .any ops Q S ops.size (Array.replicate ops.size false) a w.drew) (hm : P.follows .mixedOrders = true := by kernel_rfl) : (Code.region id ops true).wp P Q a w := wp_region_held_drew hm (HS.out _ (Kept.refl _ _)) h
end Go.Proofs.YtfjekjbkifmpfaaDoor
