/-
  utf8.word: eight bytes as a number; where it has no high bit, none of its bytes has one.
-/
import Derived.Test.YtfiaaaflpjpnjaaGreatDoorFCard
import Derived.Test.YtfiaaaflpjpnjaaGreatDoorFUtf
import Derived.Laws.Bits64b
import Derived.Deep.RegionHeld3
import Derived.Deep.RegionLaw
namespace Go.Proofs.YtfiaaaflpjpnjaaGreatDoor
open Go.RowKit

theorem top_bit {x : Nat} (k : Nat) (hx : x < 256) (h : (x * 2 ^ k).testBit (k + 7) = false) : x < 128 := by
  rw [← Nat.shiftLeft_eq, Nat.testBit_shiftLeft, Nat.add_sub_cancel_left, Nat.testBit_eq_decide_div_mod_eq] at h
  simp at h
  omega

/-- Eight bytes as a number. -/
def wordN (x0 x1 x2 x3 x4 x5 x6 x7 : Nat) : Nat := x0 ||| x1 * 256 ||| x2 * 65536 ||| x3 * 16777216 ||| x4 * 4294967296 ||| x5 * 1099511627776 ||| x6 * 281474976710656 ||| x7 * 72057594037927936

theorem wordN_lt {x0 x1 x2 x3 x4 x5 x6 x7 : Nat} (h0 : x0 < 256) (h1 : x1 < 256) (h2 : x2 < 256) (h3 : x3 < 256) (h4 : x4 < 256) (h5 : x5 < 256) (h6 : x6 < 256) (h7 : x7 < 256) : wordN x0 x1 x2 x3 x4 x5 x6 x7 < 18446744073709551616 := by
  unfold wordN
  have e : (18446744073709551616 : Nat) = 2 ^ 64 := by decide
  rw [e]
  repeat' apply Nat.or_lt_two_pow
  all_goals omega

theorem word_low {x0 x1 x2 x3 x4 x5 x6 x7 : Nat} (h0 : x0 < 256) (h1 : x1 < 256) (h2 : x2 < 256) (h3 : x3 < 256) (h4 : x4 < 256) (h5 : x5 < 256) (h6 : x6 < 256) (h7 : x7 < 256) (h : wordN x0 x1 x2 x3 x4 x5 x6 x7 &&& 9259542123273814144 = 0) :
    x0 < 128 ∧ x1 < 128 ∧ x2 < 128 ∧ x3 < 128 ∧ x4 < 128 ∧ x5 < 128 ∧ x6 < 128 ∧ x7 < 128 := by
  have key : ∀ i, (9259542123273814144 : Nat).testBit i = true → (wordN x0 x1 x2 x3 x4 x5 x6 x7).testBit i = false := fun i hi => by
    have h2 := congrArg (fun z => Nat.testBit z i) h
    simp only [Nat.testBit_and, Nat.zero_testBit, hi, Bool.and_true] at h2
    exact h2
  have k0 := key 7 (by decide)
  have k1 := key 15 (by decide)
  have k2 := key 23 (by decide)
  have k3 := key 31 (by decide)
  have k4 := key 39 (by decide)
  have k5 := key 47 (by decide)
  have k6 := key 55 (by decide)
  have k7 := key 63 (by decide)
  unfold wordN at k0 k1 k2 k3 k4 k5 k6 k7
  simp only [Nat.testBit_or, Bool.or_eq_false_iff] at k0 k1 k2 k3 k4 k5 k6 k7
  refine ⟨top_bit 0 h0 (by rw [show x0 * 2 ^ 0 = x0 by omega]; exact k0.1.1.1.1.1.1.1), top_bit 8 h1 k1.1.1.1.1.1.1.2, top_bit 16 h2 k2.1.1.1.1.1.2, top_bit 24 h3 k3.1.1.1.1.2, top_bit 32 h4 k4.1.1.1.2, top_bit 40 h5 k5.1.1.2, top_bit 48 h6 k6.1.2, top_bit 56 h7 k7.2⟩

theorem or_low {a b : Nat} (h : (a ||| b) &&& 9259542123273814144 = 0) : a &&& 9259542123273814144 = 0 ∧ b &&& 9259542123273814144 = 0 := by
  rw [Nat.and_or_distrib_right] at h
  exact Nat.or_eq_zero_iff.1 h

set_option maxRecDepth 100000 in
set_option maxHeartbeats 4000000 in
theorem word_any (w : World) (b o n : Nat) (x0 x1 x2 x3 x4 x5 x6 x7 : Nat) (hn : 8 ≤ n)
    (h0 : x0 < 256) (h1 : x1 < 256) (h2 : x2 < 256) (h3 : x3 < 256) (h4 : x4 < 256) (h5 : x5 < 256) (h6 : x6 < 256) (h7 : x7 < 256)
    (c0 : w.cell? ⟨b, o, none⟩ = some (.int .u8 (x0 : Int))) (c1 : w.cell? ⟨b, o + 1, none⟩ = some (.int .u8 (x1 : Int))) (c2 : w.cell? ⟨b, o + 2, none⟩ = some (.int .u8 (x2 : Int))) (c3 : w.cell? ⟨b, o + 3, none⟩ = some (.int .u8 (x3 : Int))) (c4 : w.cell? ⟨b, o + 4, none⟩ = some (.int .u8 (x4 : Int))) (c5 : w.cell? ⟨b, o + 5, none⟩ = some (.int .u8 (x5 : Int))) (c6 : w.cell? ⟨b, o + 6, none⟩ = some (.int .u8 (x6 : Int))) (c7 : w.cell? ⟨b, o + 7, none⟩ = some (.int .u8 (x7 : Int))) :
    Calls Tryz.prog 41 #[.slice (some ⟨b, o, none⟩) n n] w fun e w' => e = .returned (.int .u64 ((wordN x0 x1 x2 x3 x4 x5 x6 x7 : Nat) : Int)) ∧ ∃ q, w' = w.drewN q := by
  have HE : Hid (bits BinOp.or IntKind.u64 (bits BinOp.or IntKind.u64 (bits BinOp.or IntKind.u64 (bits BinOp.or IntKind.u64 (bits BinOp.or IntKind.u64 (bits BinOp.or IntKind.u64 (bits BinOp.or IntKind.u64 (IntKind.u64.wrap (x0 : Int)) (IntKind.u64.wrap (IntKind.u64.wrap (x1 : Int) * 256))) (IntKind.u64.wrap (IntKind.u64.wrap (x2 : Int) * 65536))) (IntKind.u64.wrap (IntKind.u64.wrap (x3 : Int) * 16777216))) (IntKind.u64.wrap (IntKind.u64.wrap (x4 : Int) * 4294967296))) (IntKind.u64.wrap (IntKind.u64.wrap (x5 : Int) * 1099511627776))) (IntKind.u64.wrap (IntKind.u64.wrap (x6 : Int) * 281474976710656))) (IntKind.u64.wrap (IntKind.u64.wrap (x7 : Int) * 72057594037927936)) = ((wordN x0 x1 x2 x3 x4 x5 x6 x7 : Nat) : Int)) := by
    show _ = _
    have e0 : IntKind.u64.wrap (x0 : Int) = ((x0 : Nat) : Int) := by rw [IntKind.wrap_u64]; omega
    have e1 : IntKind.u64.wrap (IntKind.u64.wrap (x1 : Int) * 256) = ((x1 * 256 : Nat) : Int) := by rw [IntKind.wrap_u64, IntKind.wrap_u64]; omega
    have e2 : IntKind.u64.wrap (IntKind.u64.wrap (x2 : Int) * 65536) = ((x2 * 65536 : Nat) : Int) := by rw [IntKind.wrap_u64, IntKind.wrap_u64]; omega
    have e3 : IntKind.u64.wrap (IntKind.u64.wrap (x3 : Int) * 16777216) = ((x3 * 16777216 : Nat) : Int) := by rw [IntKind.wrap_u64, IntKind.wrap_u64]; omega
    have e4 : IntKind.u64.wrap (IntKind.u64.wrap (x4 : Int) * 4294967296) = ((x4 * 4294967296 : Nat) : Int) := by rw [IntKind.wrap_u64, IntKind.wrap_u64]; omega
    have e5 : IntKind.u64.wrap (IntKind.u64.wrap (x5 : Int) * 1099511627776) = ((x5 * 1099511627776 : Nat) : Int) := by rw [IntKind.wrap_u64, IntKind.wrap_u64]; omega
    have e6 : IntKind.u64.wrap (IntKind.u64.wrap (x6 : Int) * 281474976710656) = ((x6 * 281474976710656 : Nat) : Int) := by rw [IntKind.wrap_u64, IntKind.wrap_u64]; omega
    have e7 : IntKind.u64.wrap (IntKind.u64.wrap (x7 : Int) * 72057594037927936) = ((x7 * 72057594037927936 : Nat) : Int) := by rw [IntKind.wrap_u64, IntKind.wrap_u64]; omega
    rw [e0, e1, e2, e3, e4, e5, e6, e7]
    have step : ∀ {a c : Nat}, a < 2 ^ 64 → c < 2 ^ 64 → bits .or .u64 (a : Int) (c : Int) = ((a ||| c : Nat) : Int) ∧ a ||| c < 2 ^ 64 := fun {a c} ha hc => ⟨bits_or_u64_nat a c (by omega) (by omega), Nat.or_lt_two_pow ha hc⟩
    have s1 := step (a := x0) (c := x1 * 256) (by omega) (by omega)
    rw [s1.1]
    have s2 := step (c := x2 * 65536) s1.2 (by omega)
    rw [s2.1]
    have s3 := step (c := x3 * 16777216) s2.2 (by omega)
    rw [s3.1]
    have s4 := step (c := x4 * 4294967296) s3.2 (by omega)
    rw [s4.1]
    have s5 := step (c := x5 * 1099511627776) s4.2 (by omega)
    rw [s5.1]
    have s6 := step (c := x6 * 281474976710656) s5.2 (by omega)
    rw [s6.1]
    have s7 := step (c := x7 * 72057594037927936) s6.2 (by omega)
    rw [s7.1]
    rfl
  have e0 : (0 : Int) < (n : Int) := by omega
  have e1 : (1 : Int) < (n : Int) := by omega
  have e2 : (2 : Int) < (n : Int) := by omega
  have e3 : (3 : Int) < (n : Int) := by omega
  have e4 : (4 : Int) < (n : Int) := by omega
  have e5 : (5 : Int) < (n : Int) := by omega
  have e6 : (6 : Int) < (n : Int) := by omega
  have e7 : (7 : Int) < (n : Int) := by omega
  clear hn h0 h1 h2 h3 h4 h5 h6 h7
  generalize hW : ((wordN x0 x1 x2 x3 x4 x5 x6 x7 : Nat) : Int) = W at *
  clear hW
  generalize (x0 : Int) = y0 at *
  generalize (x1 : Int) = y1 at *
  generalize (x2 : Int) = y2 at *
  generalize (x3 : Int) = y3 at *
  generalize (x4 : Int) = y4 at *
  generalize (x5 : Int) = y5 at *
  generalize (x6 : Int) = y6 at *
  generalize (x7 : Int) = y7 at *
  go_enter Tryz.func41, Tryz.ntmps41
  go_wp2_with (first | go_quiet (fail) | fail)
  go_ret
  exact ⟨congrArg (fun z => Ending.returned (.int .u64 z)) HE.out, _, rfl⟩

end Go.Proofs.YtfiaaaflpjpnjaaGreatDoor

/-
  UTF-8, a character at a time, by the tables' words: as data.
-/
namespace Go.Proofs.YtfiaaaflpjpnjaaGreatDoor
open Go.RowKit

theorem utfB_same (s : ByteArray) : ∀ (n m p : Nat), s.size ≤ p + n → s.size ≤ p + m → utfB s n p = utfB s m p
  | 0, 0, _, _, _ => rfl
  | 0, m + 1, p, h, _ => by
    unfold utfB
    rw [if_neg (by omega)]
  | n + 1, 0, p, _, h => by
    conv => lhs; unfold utfB
    rw [if_neg (by omega)]
    rfl
  | n + 1, m + 1, p, h1, h2 => by
    unfold utfB
    by_cases h : p < s.size
    · rw [if_pos h, if_pos h]
      split
      · rfl
      · have := dec_pos s h
        exact utfB_same s n m _ (by omega) (by omega)
    · rw [if_neg h, if_neg h]

/-- From there on. -/
def vf (s : ByteArray) (k : Nat) : Bool := utfB s (s.size + 1 - k) k

theorem vf_all (s : ByteArray) : utfB s (s.size + 1) 0 = vf s 0 := rfl

theorem vf_end {s : ByteArray} {k : Nat} (h : s.size ≤ k) : vf s k = true := by
  unfold vf
  rw [utfB_same s _ 0 k (by omega) (by omega)]
  rfl

theorem vf_step {s : ByteArray} {k : Nat} (h : k < s.size) : vf s k = if (Utf8.decode s k).1 = 65533 ∧ (Utf8.decode s k).2 = 1 then false else vf s (k + (Utf8.decode s k).2) := by
  unfold vf
  rw [show s.size + 1 - k = (s.size - k) + 1 by omega]
  conv => lhs; unfold utfB
  rw [if_pos h]
  have := dec_pos s h
  rw [utfB_same s (s.size - k) (s.size + 1 - (k + (Utf8.decode s k).2)) _ (by omega) (by omega)]

theorem vf_ascii {s : ByteArray} {k : Nat} (h : k < s.size) (hc : (s[k]'h).toNat < 128) : vf s k = vf s (k + 1) := by
  rw [vf_step h, decode_ascii s k h hc, if_neg]
  rintro ⟨_, _⟩
  simp only at *
  omega

theorem vf_run {s : ByteArray} : ∀ (n k : Nat), (∀ j (_ : j < n), ∃ h : k + j < s.size, (s[k + j]'h).toNat < 128) → vf s k = vf s (k + n)
  | 0, k, _ => rfl
  | n + 1, k, h => by
    obtain ⟨h0, h1⟩ := h 0 (by omega)
    rw [vf_ascii (k := k) h0 h1, vf_run n (k + 1) (fun j hj => by
      obtain ⟨h2, h3⟩ := h (j + 1) (by omega)
      have e : k + (j + 1) = k + 1 + j := by omega
      simp only [e] at h2 h3
      exact ⟨h2, h3⟩)]
    rw [show k + 1 + n = k + (n + 1) by omega]

/-- The byte there; 0 behind the end. -/
def atB (s : ByteArray) (k : Nat) : Nat := (s.get! k).toNat

theorem atB_lt (s : ByteArray) (k : Nat) : atB s k < 256 := UInt8.toNat_lt _

theorem atB_is {s : ByteArray} {k : Nat} (h : k < s.size) : (s[k]'h).toNat = atB s k := by
  unfold atB
  rw [get!_some (b := s[k]'h) (by
    have h2 : k < s.data.toList.length := by rw [Array.length_toList]; exact h
    rw [List.getElem?_eq_getElem h2, Array.getElem_toList]
    rfl)]

/-- What is wrong with a character of sz bytes. -/
def badN (n b1 b2 b3 sz lo hi : Nat) : Prop := n < sz ∨ b1 < lo ∨ hi < b1 ∨ (3 ≤ sz ∧ (b2 < 128 ∨ 191 < b2)) ∨ (4 ≤ sz ∧ (b3 < 128 ∨ 191 < b3))

theorem slow_bad {n b0 b1 b2 b3 sz lo hi : Nat} (h2 : 2 ≤ sz) (h4 : sz ≤ 4) (h : badN n b1 b2 b3 sz lo hi) : Lib.slowN n b0 b1 b2 b3 sz lo hi = (65533, 1) := by
  unfold badN at h
  unfold Lib.slowN
  repeat' split
  all_goals first | rfl | (exfalso; omega)

theorem slow_good {n b0 b1 b2 b3 sz lo hi : Nat} (h2 : 2 ≤ sz) (h4 : sz ≤ 4) (h : ¬ badN n b1 b2 b3 sz lo hi) : (Lib.slowN n b0 b1 b2 b3 sz lo hi).2 = sz := by
  unfold badN at h
  unfold Lib.slowN
  repeat' split
  all_goals first | (exfalso; omega) | (show _ = sz; omega)

/-- A byte that opens a character of several: what the tables say of it. -/
theorem lead (b0 : Nat) (h0 : 128 ≤ b0) (h1 : b0 < 256) : (Lib.firstT b0 = 241 ∧ ∀ n b1 b2 b3, Lib.decodeN n b0 b1 b2 b3 = (65533, 1)) ∨
    ∃ sz ai, Lib.firstT b0 = ai * 16 + sz ∧ (sz = 2 ∨ sz = 3 ∨ sz = 4) ∧ ai < 5 ∧ ∀ n b1 b2 b3, 1 ≤ n → b1 < 256 → b2 < 256 → b3 < 256 → Lib.slowN n b0 b1 b2 b3 sz (Lib.accLo ai) (Lib.accHi ai) = Lib.decodeN n b0 b1 b2 b3 := by
  by_cases g1 : b0 < 194
  · refine .inl ⟨by unfold Lib.firstT; rw [if_neg (by omega), if_pos g1], fun n b1 b2 b3 => ?_⟩
    unfold Lib.decodeN
    repeat' split
    all_goals first | rfl | (exfalso; omega)
  by_cases g2 : b0 < 224
  · exact .inr ⟨2, 0, by unfold Lib.firstT; rw [if_neg (by omega), if_neg g1, if_pos g2], .inl rfl, by omega, fun n b1 b2 b3 hn k1 k2 k3 => Lib.slow_C2 n b0 b1 b2 b3 hn k1 k2 k3 ⟨by omega, g2⟩⟩
  by_cases g3 : b0 = 224
  · exact .inr ⟨3, 1, by unfold Lib.firstT; rw [if_neg (by omega), if_neg g1, if_neg g2, if_pos g3], .inr (.inl rfl), by omega, fun n b1 b2 b3 hn k1 k2 k3 => Lib.slow_E0 n b0 b1 b2 b3 hn k1 k2 k3 g3⟩
  by_cases g4 : b0 < 237
  · exact .inr ⟨3, 0, by unfold Lib.firstT; rw [if_neg (by omega), if_neg g1, if_neg g2, if_neg g3, if_pos g4], .inr (.inl rfl), by omega, fun n b1 b2 b3 hn k1 k2 k3 => Lib.slow_E1 n b0 b1 b2 b3 hn k1 k2 k3 (.inl ⟨by omega, g4⟩)⟩
  by_cases g5 : b0 = 237
  · exact .inr ⟨3, 2, by unfold Lib.firstT; rw [if_neg (by omega), if_neg g1, if_neg g2, if_neg g3, if_neg g4, if_pos g5], .inr (.inl rfl), by omega, fun n b1 b2 b3 hn k1 k2 k3 => Lib.slow_ED n b0 b1 b2 b3 hn k1 k2 k3 g5⟩
  by_cases g6 : b0 < 240
  · exact .inr ⟨3, 0, by unfold Lib.firstT; rw [if_neg (by omega), if_neg g1, if_neg g2, if_neg g3, if_neg g4, if_neg g5, if_pos g6], .inr (.inl rfl), by omega, fun n b1 b2 b3 hn k1 k2 k3 => Lib.slow_E1 n b0 b1 b2 b3 hn k1 k2 k3 (.inr ⟨by omega, g6⟩)⟩
  by_cases g7 : b0 = 240
  · exact .inr ⟨4, 3, by unfold Lib.firstT; rw [if_neg (by omega), if_neg g1, if_neg g2, if_neg g3, if_neg g4, if_neg g5, if_neg g6, if_pos g7], .inr (.inr rfl), by omega, fun n b1 b2 b3 hn k1 k2 k3 => Lib.slow_F0 n b0 b1 b2 b3 hn k1 k2 k3 g7⟩
  by_cases g8 : b0 < 244
  · exact .inr ⟨4, 0, by unfold Lib.firstT; rw [if_neg (by omega), if_neg g1, if_neg g2, if_neg g3, if_neg g4, if_neg g5, if_neg g6, if_neg g7, if_pos g8], .inr (.inr rfl), by omega, fun n b1 b2 b3 hn k1 k2 k3 => Lib.slow_F1 n b0 b1 b2 b3 hn k1 k2 k3 ⟨by omega, g8⟩⟩
  by_cases g9 : b0 = 244
  · exact .inr ⟨4, 4, by unfold Lib.firstT; rw [if_neg (by omega), if_neg g1, if_neg g2, if_neg g3, if_neg g4, if_neg g5, if_neg g6, if_neg g7, if_neg g8, if_pos g9], .inr (.inr rfl), by omega, fun n b1 b2 b3 hn k1 k2 k3 => Lib.slow_F4 n b0 b1 b2 b3 hn k1 k2 k3 g9⟩
  · refine .inl ⟨by unfold Lib.firstT; rw [if_neg (by omega), if_neg g1, if_neg g2, if_neg g3, if_neg g4, if_neg g5, if_neg g6, if_neg g7, if_neg g8, if_neg g9], fun n b1 b2 b3 => ?_⟩
    unfold Lib.decodeN
    repeat' split
    all_goals first | rfl | (exfalso; omega)

/-- A character of several bytes: it is wrong, or it is passed. -/
theorem vf_wrong {s : ByteArray} {k : Nat} (h : k < s.size) (hd : Lib.decodeN (s.size - k) (atB s k) (atB s (k + 1)) (atB s (k + 2)) (atB s (k + 3)) = (65533, 1)) : vf s k = false := by
  have e : Utf8.decode s k = (65533, 1) := (Lib.decode_at s k).trans hd
  rw [vf_step h, e, if_pos ⟨rfl, rfl⟩]

theorem vf_char {s : ByteArray} {k sz lo hi : Nat} (h : k < s.size) (h2 : 2 ≤ sz) (h4 : sz ≤ 4) (hd : Lib.slowN (s.size - k) (atB s k) (atB s (k + 1)) (atB s (k + 2)) (atB s (k + 3)) sz lo hi = Lib.decodeN (s.size - k) (atB s k) (atB s (k + 1)) (atB s (k + 2)) (atB s (k + 3))) :
    (badN (s.size - k) (atB s (k + 1)) (atB s (k + 2)) (atB s (k + 3)) sz lo hi → vf s k = false) ∧ (¬ badN (s.size - k) (atB s (k + 1)) (atB s (k + 2)) (atB s (k + 3)) sz lo hi → vf s k = vf s (k + sz)) := by
  refine ⟨fun hb => vf_wrong h (hd.symm.trans (slow_bad h2 h4 hb)), fun hb => ?_⟩
  have e : (Utf8.decode s k).2 = sz := by
    rw [Lib.decode_at s k]
    show (Lib.decodeN (s.size - k) (atB s k) (atB s (k + 1)) (atB s (k + 2)) (atB s (k + 3))).2 = sz
    rw [← hd]
    exact slow_good h2 h4 hb
  rw [vf_step h, e, if_neg (fun hx => by omega)]

end Go.Proofs.YtfiaaaflpjpnjaaGreatDoor

/-
  Calls within a region that draws its order (for utf8.Valid).
-/
namespace Go.Proofs.YtfiaaaflpjpnjaaGreatDoor
open Go.RowKit

def onlyN (K : Act → World → Prop) : Exit → Act → World → Prop
  | .normal, a, w => K a w
  | _, _, _ => False

theorem wp_onlyN {P : Program} {c : Code} {Q : Exit → Act → World → Prop} {a : Act} {w : World} (h : c.wp P (onlyN (fun a w => Q .normal a w)) a w) : c.wp P Q a w :=
  Code.wp_mono (fun e a w h => by cases e <;> first | exact h | exact h.elim) h

theorem step_call1f {P : Program} {ops : Array Oper} {o : Oper} {a : Act} (w : World) {K : Act → World → Prop} {Q : Exit → Act → World → Prop} {E : Prop}
    (hw : Region.wanted o (yielded ops a.tmps) = true) (f : Nat) (x : Operand) (t : TypeId) (hop : o.op = Op.call { callee := .value (.func f), args := #[x], argTypes := #[t] })
    (he : ∀ args w, (callFunc f args).run P w = .ok (.enter f args) w) (v : Value) (hx : a.eval x = v) {R : Ending → World → Prop} (hC : Calls P f #[v] w R)
    (hK : ∀ e w', R e w' → ∃ u, e = .returned u ∧ K (a.put o.dst u) w') :
    if Region.wanted o (yielded ops a.tmps) = true then Oper.wp P o a w K Q else E := by
  rw [if_pos hw]
  unfold Oper.wp
  have hf : a.eval (.func f) = .func (.func f) #[] #[] := rfl
  simp [execOp, hop, resolve, invoke, hf, hx, he, Deferred.ofValue]
  refine hC.mono ?_
  rintro e w' h
  obtain ⟨u, rfl, k⟩ := hK e w' h
  exact k

theorem step_call2f {P : Program} {ops : Array Oper} {o : Oper} {a : Act} (w : World) {K : Act → World → Prop} {Q : Exit → Act → World → Prop} {E : Prop}
    (hw : Region.wanted o (yielded ops a.tmps) = true) (f : Nat) (x y : Operand) (t t2 : TypeId) (hop : o.op = Op.call { callee := .value (.func f), args := #[x, y], argTypes := #[t, t2] })
    (he : ∀ args w, (callFunc f args).run P w = .ok (.enter f args) w) (v v2 : Value) (hx : a.eval x = v) (hy : a.eval y = v2) {R : Ending → World → Prop} (hC : Calls P f #[v, v2] w R)
    (hK : ∀ e w', R e w' → ∃ u, e = .returned u ∧ K (a.put o.dst u) w') :
    if Region.wanted o (yielded ops a.tmps) = true then Oper.wp P o a w K Q else E := by
  rw [if_pos hw]
  unfold Oper.wp
  have hf : a.eval (.func f) = .func (.func f) #[] #[] := rfl
  simp [execOp, hop, resolve, invoke, hf, hx, hy, he, Deferred.ofValue]
  refine hC.mono ?_
  rintro e w' h
  obtain ⟨u, rfl, k⟩ := hK e w' h
  exact k

end Go.Proofs.YtfiaaaflpjpnjaaGreatDoor
