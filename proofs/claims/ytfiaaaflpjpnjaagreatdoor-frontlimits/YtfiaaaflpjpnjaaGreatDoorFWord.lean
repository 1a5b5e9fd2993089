/-
  utf8.word: eight bytes as a number; where it has no high bit, none of its bytes has one.
-/
import Derived.Test.YtfiaaaflpjpnjaaGreatDoorFCard
import Derived.Laws.Bits64b
namespace Go.Proofs.YtfiaaaflpjpnjaaGreatDoor
open Go.RowKit

theorem top_bit {x : Nat} (k : Nat) (hx : x < 256) (h : (x * 2 ^ k).testBit (k + 7) = false) : x < 128 := by
  rw [← Nat.shiftLeft_eq, Nat.testBit_shiftLeft, Nat.add_sub_cancel_left, Nat.testBit_eq_decide_div_mod_eq] at h
  simp at h
  omega

/-- Eight bytes as a number. -/
def wordN (x0 x1 x2 x3 x4 x5 x6 x7 : Nat) : Nat := x0 ||| x1 * 256 ||| x2 * 65536 ||| x3 * 16777216 ||| x4 * 4294967296 ||| x5 * 1099511627776 ||| x6 * 281474976710656 ||| x7 * 72057594037927936

theorem wordN_lt {x0 x1 x2 x3 x4 x5 x6 x7 : Nat} (h0 : x0 < 256) (h1 : x1 < 256) (h2 : x2 < 256) (h3 : x3 < 256) (h4 : x4 < 256) (h5 : x5 < 256) (h6 : x6 < 256) (h7 : x7 < 256) : wordN x0 x1 x2 x3 x4 x5 x6 x7 < 18446744073709551616 := by
  unfold wordN
  have e : (18446744073709551616 : Nat) = 2 ^ 64 := by decide
  rw [e]
  repeat' apply Nat.or_lt_two_pow
  all_goals omega

theorem word_low {x0 x1 x2 x3 x4 x5 x6 x7 : Nat} (h0 : x0 < 256) (h1 : x1 < 256) (h2 : x2 < 256) (h3 : x3 < 256) (h4 : x4 < 256) (h5 : x5 < 256) (h6 : x6 < 256) (h7 : x7 < 256) (h : wordN x0 x1 x2 x3 x4 x5 x6 x7 &&& 9259542123273814144 = 0) :
    x0 < 128 ∧ x1 < 128 ∧ x2 < 128 ∧ x3 < 128 ∧ x4 < 128 ∧ x5 < 128 ∧ x6 < 128 ∧ x7 < 128 := by
  have key : ∀ i, (9259542123273814144 : Nat).testBit i = true → (wordN x0 x1 x2 x3 x4 x5 x6 x7).testBit i = false := fun i hi => by
    have h2 := congrArg (fun z => Nat.testBit z i) h
    simp only [Nat.testBit_and, Nat.zero_testBit, hi, Bool.and_true] at h2
    exact h2
  have k0 := key 7 (by decide)
  have k1 := key 15 (by decide)
  have k2 := key 23 (by decide)
  have k3 := key 31 (by decide)
  have k4 := key 39 (by decide)
  have k5 := key 47 (by decide)
  have k6 := key 55 (by decide)
  have k7 := key 63 (by decide)
  unfold wordN at k0 k1 k2 k3 k4 k5 k6 k7
  simp only [Nat.testBit_or, Bool.or_eq_false_iff] at k0 k1 k2 k3 k4 k5 k6 k7
  refine ⟨top_bit 0 h0 (by rw [show x0 * 2 ^ 0 = x0 by omega]; exact k0.1.1.1.1.1.1.1), top_bit 8 h1 k1.1.1.1.1.1.1.2, top_bit 16 h2 k2.1.1.1.1.1.2, top_bit 24 h3 k3.1.1.1.1.2, top_bit 32 h4 k4.1.1.1.2, top_bit 40 h5 k5.1.1.2, top_bit 48 h6 k6.1.2, top_bit 56 h7 k7.2⟩

theorem or_low {a b : Nat} (h : (a ||| b) &&& 9259542123273814144 = 0) : a &&& 9259542123273814144 = 0 ∧ b &&& 9259542123273814144 = 0 := by
  rw [Nat.and_or_distrib_right] at h
  exact Nat.or_eq_zero_iff.1 h

set_option maxRecDepth 100000 in
set_option maxHeartbeats 4000000 in
theorem word_any (w : World) (b o n : Nat) (x0 x1 x2 x3 x4 x5 x6 x7 : Nat) (hn : 8 ≤ n)
    (h0 : x0 < 256) (h1 : x1 < 256) (h2 : x2 < 256) (h3 : x3 < 256) (h4 : x4 < 256) (h5 : x5 < 256) (h6 : x6 < 256) (h7 : x7 < 256)
    (c0 : w.cell? ⟨b, o, none⟩ = some (.int .u8 (x0 : Int))) (c1 : w.cell? ⟨b, o + 1, none⟩ = some (.int .u8 (x1 : Int))) (c2 : w.cell? ⟨b, o + 2, none⟩ = some (.int .u8 (x2 : Int))) (c3 : w.cell? ⟨b, o + 3, none⟩ = some (.int .u8 (x3 : Int))) (c4 : w.cell? ⟨b, o + 4, none⟩ = some (.int .u8 (x4 : Int))) (c5 : w.cell? ⟨b, o + 5, none⟩ = some (.int .u8 (x5 : Int))) (c6 : w.cell? ⟨b, o + 6, none⟩ = some (.int .u8 (x6 : Int))) (c7 : w.cell? ⟨b, o + 7, none⟩ = some (.int .u8 (x7 : Int))) :
    Calls Tryz.prog 41 #[.slice (some ⟨b, o, none⟩) n n] w fun e w' => e = .returned (.int .u64 ((wordN x0 x1 x2 x3 x4 x5 x6 x7 : Nat) : Int)) ∧ ∃ q, w' = w.drewN q := by
  have HE : Hid (bits BinOp.or IntKind.u64 (bits BinOp.or IntKind.u64 (bits BinOp.or IntKind.u64 (bits BinOp.or IntKind.u64 (bits BinOp.or IntKind.u64 (bits BinOp.or IntKind.u64 (bits BinOp.or IntKind.u64 (IntKind.u64.wrap (x0 : Int)) (IntKind.u64.wrap (IntKind.u64.wrap (x1 : Int) * 256))) (IntKind.u64.wrap (IntKind.u64.wrap (x2 : Int) * 65536))) (IntKind.u64.wrap (IntKind.u64.wrap (x3 : Int) * 16777216))) (IntKind.u64.wrap (IntKind.u64.wrap (x4 : Int) * 4294967296))) (IntKind.u64.wrap (IntKind.u64.wrap (x5 : Int) * 1099511627776))) (IntKind.u64.wrap (IntKind.u64.wrap (x6 : Int) * 281474976710656))) (IntKind.u64.wrap (IntKind.u64.wrap (x7 : Int) * 72057594037927936)) = ((wordN x0 x1 x2 x3 x4 x5 x6 x7 : Nat) : Int)) := by
    show _ = _
    have e0 : IntKind.u64.wrap (x0 : Int) = ((x0 : Nat) : Int) := by rw [IntKind.wrap_u64]; omega
    have e1 : IntKind.u64.wrap (IntKind.u64.wrap (x1 : Int) * 256) = ((x1 * 256 : Nat) : Int) := by rw [IntKind.wrap_u64, IntKind.wrap_u64]; omega
    have e2 : IntKind.u64.wrap (IntKind.u64.wrap (x2 : Int) * 65536) = ((x2 * 65536 : Nat) : Int) := by rw [IntKind.wrap_u64, IntKind.wrap_u64]; omega
    have e3 : IntKind.u64.wrap (IntKind.u64.wrap (x3 : Int) * 16777216) = ((x3 * 16777216 : Nat) : Int) := by rw [IntKind.wrap_u64, IntKind.wrap_u64]; omega
    have e4 : IntKind.u64.wrap (IntKind.u64.wrap (x4 : Int) * 4294967296) = ((x4 * 4294967296 : Nat) : Int) := by rw [IntKind.wrap_u64, IntKind.wrap_u64]; omega
    have e5 : IntKind.u64.wrap (IntKind.u64.wrap (x5 : Int) * 1099511627776) = ((x5 * 1099511627776 : Nat) : Int) := by rw [IntKind.wrap_u64, IntKind.wrap_u64]; omega
    have e6 : IntKind.u64.wrap (IntKind.u64.wrap (x6 : Int) * 281474976710656) = ((x6 * 281474976710656 : Nat) : Int) := by rw [IntKind.wrap_u64, IntKind.wrap_u64]; omega
    have e7 : IntKind.u64.wrap (IntKind.u64.wrap (x7 : Int) * 72057594037927936) = ((x7 * 72057594037927936 : Nat) : Int) := by rw [IntKind.wrap_u64, IntKind.wrap_u64]; omega
    rw [e0, e1, e2, e3, e4, e5, e6, e7]
    have step : ∀ {a c : Nat}, a < 2 ^ 64 → c < 2 ^ 64 → bits .or .u64 (a : Int) (c : Int) = ((a ||| c : Nat) : Int) ∧ a ||| c < 2 ^ 64 := fun {a c} ha hc => ⟨bits_or_u64_nat a c (by omega) (by omega), Nat.or_lt_two_pow ha hc⟩
    have s1 := step (a := x0) (c := x1 * 256) (by omega) (by omega)
    rw [s1.1]
    have s2 := step (c := x2 * 65536) s1.2 (by omega)
    rw [s2.1]
    have s3 := step (c := x3 * 16777216) s2.2 (by omega)
    rw [s3.1]
    have s4 := step (c := x4 * 4294967296) s3.2 (by omega)
    rw [s4.1]
    have s5 := step (c := x5 * 1099511627776) s4.2 (by omega)
    rw [s5.1]
    have s6 := step (c := x6 * 281474976710656) s5.2 (by omega)
    rw [s6.1]
    have s7 := step (c := x7 * 72057594037927936) s6.2 (by omega)
    rw [s7.1]
    rfl
  have e0 : (0 : Int) < (n : Int) := by omega
  have e1 : (1 : Int) < (n : Int) := by omega
  have e2 : (2 : Int) < (n : Int) := by omega
  have e3 : (3 : Int) < (n : Int) := by omega
  have e4 : (4 : Int) < (n : Int) := by omega
  have e5 : (5 : Int) < (n : Int) := by omega
  have e6 : (6 : Int) < (n : Int) := by omega
  have e7 : (7 : Int) < (n : Int) := by omega
  clear hn h0 h1 h2 h3 h4 h5 h6 h7
  generalize hW : ((wordN x0 x1 x2 x3 x4 x5 x6 x7 : Nat) : Int) = W at *
  clear hW
  generalize (x0 : Int) = y0 at *
  generalize (x1 : Int) = y1 at *
  generalize (x2 : Int) = y2 at *
  generalize (x3 : Int) = y3 at *
  generalize (x4 : Int) = y4 at *
  generalize (x5 : Int) = y5 at *
  generalize (x6 : Int) = y6 at *
  generalize (x7 : Int) = y7 at *
  go_enter Tryz.func41, Tryz.ntmps41
  go_wp2_with (first | go_quiet (fail) | fail)
  go_ret
  exact ⟨congrArg (fun z => Ending.returned (.int .u64 z)) HE.out, _, rfl⟩

end Go.Proofs.YtfiaaaflpjpnjaaGreatDoor
