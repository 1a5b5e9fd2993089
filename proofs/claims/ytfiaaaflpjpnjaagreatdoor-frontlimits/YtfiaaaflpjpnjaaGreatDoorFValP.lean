/-
  UTF-8, a character at a time, by the tables' words: as data.
-/
import Derived.Test.YtfiaaaflpjpnjaaGreatDoorFUtf
import Derived.Test.YtfiaaaflpjpnjaaGreatDoorFWord
namespace Go.Proofs.YtfiaaaflpjpnjaaGreatDoor
open Go.RowKit

theorem utfB_same (s : ByteArray) : ∀ (n m p : Nat), s.size ≤ p + n → s.size ≤ p + m → utfB s n p = utfB s m p
  | 0, 0, _, _, _ => rfl
  | 0, m + 1, p, h, _ => by
    unfold utfB
    rw [if_neg (by omega)]
  | n + 1, 0, p, _, h => by
    conv => lhs; unfold utfB
    rw [if_neg (by omega)]
    rfl
  | n + 1, m + 1, p, h1, h2 => by
    unfold utfB
    by_cases h : p < s.size
    · rw [if_pos h, if_pos h]
      split
      · rfl
      · have := dec_pos s h
        exact utfB_same s n m _ (by omega) (by omega)
    · rw [if_neg h, if_neg h]

/-- From there on. -/
def vf (s : ByteArray) (k : Nat) : Bool := utfB s (s.size + 1 - k) k

theorem vf_all (s : ByteArray) : utfB s (s.size + 1) 0 = vf s 0 := rfl

theorem vf_end {s : ByteArray} {k : Nat} (h : s.size ≤ k) : vf s k = true := by
  unfold vf
  rw [utfB_same s _ 0 k (by omega) (by omega)]
  rfl

theorem vf_step {s : ByteArray} {k : Nat} (h : k < s.size) : vf s k = if (Utf8.decode s k).1 = 65533 ∧ (Utf8.decode s k).2 = 1 then false else vf s (k + (Utf8.decode s k).2) := by
  unfold vf
  rw [show s.size + 1 - k = (s.size - k) + 1 by omega]
  conv => lhs; unfold utfB
  rw [if_pos h]
  have := dec_pos s h
  rw [utfB_same s (s.size - k) (s.size + 1 - (k + (Utf8.decode s k).2)) _ (by omega) (by omega)]

theorem vf_ascii {s : ByteArray} {k : Nat} (h : k < s.size) (hc : (s[k]'h).toNat < 128) : vf s k = vf s (k + 1) := by
  rw [vf_step h, decode_ascii s k h hc, if_neg]
  rintro ⟨_, _⟩
  simp only at *
  omega

theorem vf_run {s : ByteArray} : ∀ (n k : Nat), (∀ j (_ : j < n), ∃ h : k + j < s.size, (s[k + j]'h).toNat < 128) → vf s k = vf s (k + n)
  | 0, k, _ => rfl
  | n + 1, k, h => by
    obtain ⟨h0, h1⟩ := h 0 (by omega)
    rw [vf_ascii (k := k) h0 h1, vf_run n (k + 1) (fun j hj => by
      obtain ⟨h2, h3⟩ := h (j + 1) (by omega)
      have e : k + (j + 1) = k + 1 + j := by omega
      simp only [e] at h2 h3
      exact ⟨h2, h3⟩)]
    rw [show k + 1 + n = k + (n + 1) by omega]

/-- The byte there; 0 behind the end. -/
def atB (s : ByteArray) (k : Nat) : Nat := (s.get! k).toNat

theorem atB_lt (s : ByteArray) (k : Nat) : atB s k < 256 := UInt8.toNat_lt _

theorem atB_is {s : ByteArray} {k : Nat} (h : k < s.size) : (s[k]'h).toNat = atB s k := by
  unfold atB
  rw [get!_some (b := s[k]'h) (by
    have h2 : k < s.data.toList.length := by rw [Array.length_toList]; exact h
    rw [List.getElem?_eq_getElem h2, Array.getElem_toList]
    rfl)]

/-- What is wrong with a character of sz bytes. -/
def badN (n b1 b2 b3 sz lo hi : Nat) : Prop := n < sz ∨ b1 < lo ∨ hi < b1 ∨ (3 ≤ sz ∧ (b2 < 128 ∨ 191 < b2)) ∨ (4 ≤ sz ∧ (b3 < 128 ∨ 191 < b3))

theorem slow_bad {n b0 b1 b2 b3 sz lo hi : Nat} (h2 : 2 ≤ sz) (h4 : sz ≤ 4) (h : badN n b1 b2 b3 sz lo hi) : Lib.slowN n b0 b1 b2 b3 sz lo hi = (65533, 1) := by
  unfold badN at h
  unfold Lib.slowN
  repeat' split
  all_goals first | rfl | (exfalso; omega)

theorem slow_good {n b0 b1 b2 b3 sz lo hi : Nat} (h2 : 2 ≤ sz) (h4 : sz ≤ 4) (h : ¬ badN n b1 b2 b3 sz lo hi) : (Lib.slowN n b0 b1 b2 b3 sz lo hi).2 = sz := by
  unfold badN at h
  unfold Lib.slowN
  repeat' split
  all_goals first | (exfalso; omega) | (show _ = sz; omega)

/-- A byte that opens a character of several: what the tables say of it. -/
theorem lead (b0 : Nat) (h0 : 128 ≤ b0) (h1 : b0 < 256) : (Lib.firstT b0 = 241 ∧ ∀ n b1 b2 b3, Lib.decodeN n b0 b1 b2 b3 = (65533, 1)) ∨
    ∃ sz ai, Lib.firstT b0 = ai * 16 + sz ∧ (sz = 2 ∨ sz = 3 ∨ sz = 4) ∧ ai < 5 ∧ ∀ n b1 b2 b3, 1 ≤ n → b1 < 256 → b2 < 256 → b3 < 256 → Lib.slowN n b0 b1 b2 b3 sz (Lib.accLo ai) (Lib.accHi ai) = Lib.decodeN n b0 b1 b2 b3 := by
  by_cases g1 : b0 < 194
  · refine .inl ⟨by unfold Lib.firstT; rw [if_neg (by omega), if_pos g1], fun n b1 b2 b3 => ?_⟩
    unfold Lib.decodeN
    repeat' split
    all_goals first | rfl | (exfalso; omega)
  by_cases g2 : b0 < 224
  · exact .inr ⟨2, 0, by unfold Lib.firstT; rw [if_neg (by omega), if_neg g1, if_pos g2], .inl rfl, by omega, fun n b1 b2 b3 hn k1 k2 k3 => Lib.slow_C2 n b0 b1 b2 b3 hn k1 k2 k3 ⟨by omega, g2⟩⟩
  by_cases g3 : b0 = 224
  · exact .inr ⟨3, 1, by unfold Lib.firstT; rw [if_neg (by omega), if_neg g1, if_neg g2, if_pos g3], .inr (.inl rfl), by omega, fun n b1 b2 b3 hn k1 k2 k3 => Lib.slow_E0 n b0 b1 b2 b3 hn k1 k2 k3 g3⟩
  by_cases g4 : b0 < 237
  · exact .inr ⟨3, 0, by unfold Lib.firstT; rw [if_neg (by omega), if_neg g1, if_neg g2, if_neg g3, if_pos g4], .inr (.inl rfl), by omega, fun n b1 b2 b3 hn k1 k2 k3 => Lib.slow_E1 n b0 b1 b2 b3 hn k1 k2 k3 (.inl ⟨by omega, g4⟩)⟩
  by_cases g5 : b0 = 237
  · exact .inr ⟨3, 2, by unfold Lib.firstT; rw [if_neg (by omega), if_neg g1, if_neg g2, if_neg g3, if_neg g4, if_pos g5], .inr (.inl rfl), by omega, fun n b1 b2 b3 hn k1 k2 k3 => Lib.slow_ED n b0 b1 b2 b3 hn k1 k2 k3 g5⟩
  by_cases g6 : b0 < 240
  · exact .inr ⟨3, 0, by unfold Lib.firstT; rw [if_neg (by omega), if_neg g1, if_neg g2, if_neg g3, if_neg g4, if_neg g5, if_pos g6], .inr (.inl rfl), by omega, fun n b1 b2 b3 hn k1 k2 k3 => Lib.slow_E1 n b0 b1 b2 b3 hn k1 k2 k3 (.inr ⟨by omega, g6⟩)⟩
  by_cases g7 : b0 = 240
  · exact .inr ⟨4, 3, by unfold Lib.firstT; rw [if_neg (by omega), if_neg g1, if_neg g2, if_neg g3, if_neg g4, if_neg g5, if_neg g6, if_pos g7], .inr (.inr rfl), by omega, fun n b1 b2 b3 hn k1 k2 k3 => Lib.slow_F0 n b0 b1 b2 b3 hn k1 k2 k3 g7⟩
  by_cases g8 : b0 < 244
  · exact .inr ⟨4, 0, by unfold Lib.firstT; rw [if_neg (by omega), if_neg g1, if_neg g2, if_neg g3, if_neg g4, if_neg g5, if_neg g6, if_neg g7, if_pos g8], .inr (.inr rfl), by omega, fun n b1 b2 b3 hn k1 k2 k3 => Lib.slow_F1 n b0 b1 b2 b3 hn k1 k2 k3 ⟨by omega, g8⟩⟩
  by_cases g9 : b0 = 244
  · exact .inr ⟨4, 4, by unfold Lib.firstT; rw [if_neg (by omega), if_neg g1, if_neg g2, if_neg g3, if_neg g4, if_neg g5, if_neg g6, if_neg g7, if_neg g8, if_pos g9], .inr (.inr rfl), by omega, fun n b1 b2 b3 hn k1 k2 k3 => Lib.slow_F4 n b0 b1 b2 b3 hn k1 k2 k3 g9⟩
  · refine .inl ⟨by unfold Lib.firstT; rw [if_neg (by omega), if_neg g1, if_neg g2, if_neg g3, if_neg g4, if_neg g5, if_neg g6, if_neg g7, if_neg g8, if_neg g9], fun n b1 b2 b3 => ?_⟩
    unfold Lib.decodeN
    repeat' split
    all_goals first | rfl | (exfalso; omega)

/-- A character of several bytes: it is wrong, or it is passed. -/
theorem vf_wrong {s : ByteArray} {k : Nat} (h : k < s.size) (hd : Lib.decodeN (s.size - k) (atB s k) (atB s (k + 1)) (atB s (k + 2)) (atB s (k + 3)) = (65533, 1)) : vf s k = false := by
  have e : Utf8.decode s k = (65533, 1) := (Lib.decode_at s k).trans hd
  rw [vf_step h, e, if_pos ⟨rfl, rfl⟩]

theorem vf_char {s : ByteArray} {k sz lo hi : Nat} (h : k < s.size) (h2 : 2 ≤ sz) (h4 : sz ≤ 4) (hd : Lib.slowN (s.size - k) (atB s k) (atB s (k + 1)) (atB s (k + 2)) (atB s (k + 3)) sz lo hi = Lib.decodeN (s.size - k) (atB s k) (atB s (k + 1)) (atB s (k + 2)) (atB s (k + 3))) :
    (badN (s.size - k) (atB s (k + 1)) (atB s (k + 2)) (atB s (k + 3)) sz lo hi → vf s k = false) ∧ (¬ badN (s.size - k) (atB s (k + 1)) (atB s (k + 2)) (atB s (k + 3)) sz lo hi → vf s k = vf s (k + sz)) := by
  refine ⟨fun hb => vf_wrong h (hd.symm.trans (slow_bad h2 h4 hb)), fun hb => ?_⟩
  have e : (Utf8.decode s k).2 = sz := by
    rw [Lib.decode_at s k]
    show (Lib.decodeN (s.size - k) (atB s k) (atB s (k + 1)) (atB s (k + 2)) (atB s (k + 3))).2 = sz
    rw [← hd]
    exact slow_good h2 h4 hb
  rw [vf_step h, e, if_neg (fun hx => by omega)]

end Go.Proofs.YtfiaaaflpjpnjaaGreatDoor
