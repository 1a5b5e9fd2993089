/-
  Quote: a text as it is written.
-/
import Derived.Test.YtdbplemcjnlfiaaGreatDoorFRead2
import Derived.Test.YtdbplemcjnlfiaaGreatDoorFBld
namespace Go.Proofs.YtdbplemcjnlfiaaGreatDoor
open Go.RowKit

def hexC (n : Nat) : UInt8 := [48, 49, 50, 51, 52, 53, 54, 55, 56, 57, 97, 98, 99, 100, 101, 102].getD n 0

/-- A byte that may not stand in a text as it is. -/
def escd (c : UInt8) : List UInt8 :=
  if c = 8 then [92, 98] else if c = 12 then [92, 102] else if c = 10 then [92, 110] else if c = 13 then [92, 114] else if c = 9 then [92, 116]
  else if c = 34 ∨ c = 92 then [92, c] else [92, 117, 48, 48, hexC (c.toNat / 16), hexC (c.toNat % 16)]

/-- What is written of the character at i. -/
def pieceP (s : ByteArray) (i : Nat) : List UInt8 :=
  if (Utf8.decode s i).1 = 65533 ∧ (Utf8.decode s i).2 = 1 then [92, 117, 102, 102, 102, 100]
  else if (Utf8.decode s i).1 < 32 ∨ (Utf8.decode s i).1 = 34 ∨ (Utf8.decode s i).1 = 92 then escd (s.data.toList.getD i 0)
  else (s.extract i (i + (Utf8.decode s i).2)).data.toList

def quoteF (s : ByteArray) : Nat → Nat → List UInt8
  | 0, _ => []
  | n + 1, i => if i < s.size then pieceP s i ++ quoteF s n (i + (Utf8.decode s i).2) else []

/-- A text, written. -/
def quoteP (s : ByteArray) : List UInt8 := 34 :: (quoteF s (s.size + 1) 0 ++ [34])

theorem quoteF_more {s : ByteArray} {n i : Nat} (h : i < s.size) : quoteF s (n + 1) i = pieceP s i ++ quoteF s n (i + (Utf8.decode s i).2) := by
  rw [quoteF, if_pos h]

theorem quoteF_end {s : ByteArray} {n i : Nat} (h : ¬ i < s.size) : quoteF s n i = [] := by
  cases n with
  | zero => rfl
  | succ n => rw [quoteF, if_neg h]

theorem quoteF_fuel {s : ByteArray} : ∀ {n m i : Nat}, s.size ≤ i + n → s.size ≤ i + m → quoteF s n i = quoteF s m i
  | 0, m, i, h, _ => by rw [quoteF_end (by omega), quoteF_end (by omega)]
  | n + 1, 0, i, _, h => by rw [quoteF_end (by omega), quoteF_end (by omega)]
  | n + 1, m + 1, i, h, h' => by
    by_cases hi : i < s.size
    · have := dec_pos s hi
      rw [quoteF_more hi, quoteF_more hi, quoteF_fuel (n := n) (m := m) (by omega) (by omega)]
    · rw [quoteF_end hi, quoteF_end hi]

theorem escd_len (c : UInt8) : (escd c).length ≤ 6 := by
  unfold escd
  repeat' split
  all_goals simp

theorem piece_len (s : ByteArray) (i : Nat) (h : i < s.size) : (pieceP s i).length ≤ 6 := by
  unfold pieceP
  repeat' split
  · simp
  · exact escd_len _
  · have h4 : (Utf8.decode s i).2 ≤ 4 := by
      rw [Lib.decode_at]
      unfold Lib.decodeN
      repeat' split
      all_goals (simp only; omega)
    have : (s.extract i (i + (Utf8.decode s i).2)).data.toList.length = (s.extract i (i + (Utf8.decode s i).2)).size := Array.length_toList
    rw [this, ByteArray.size_extract]
    omega

/-- An ASCII character is its byte. -/
theorem dec_small {s : ByteArray} {i : Nat} (h : i < s.size) (hc : (Utf8.decode s i).1 < 128) (hb : ¬ ((Utf8.decode s i).1 = 65533 ∧ (Utf8.decode s i).2 = 1)) : (Utf8.decode s i).2 = 1 ∧ (s[i]'h).toNat = (Utf8.decode s i).1 := by
  have e : s.get! i = s[i]'h := Utf8W.get!_of_lt s i h
  rw [Lib.decode_at, e] at hc hb ⊢
  generalize (s[i]'h).toNat = b0 at *
  revert hc hb
  unfold Lib.decodeN
  repeat' split
  all_goals first | (intro _ _; exact ⟨rfl, rfl⟩) | (intro hc hb; exfalso; simp only at hc hb; omega)

set_option maxRecDepth 100000 in
set_option maxHeartbeats 4000000 in
theorem escaped_any (w : World) (c : UInt8) (hc : c.toNat < 32 ∨ c = 34 ∨ c = 92) :
    Calls Tryz.prog 19 #[.int .u8 (c.toNat : Int)] w fun e w' => e = .returned (.string (mkB (escd c))) ∧ Kept (fun _ => False) w w' := by
  have key : ∀ n : Nat, n < 32 → Calls Tryz.prog 19 #[.int .u8 (n : Int)] w fun e w' => e = .returned (.string (mkB (escd (UInt8.ofNat n)))) ∧ Kept (fun _ => False) w w' := by
    intro n hn
    match n, hn with
    | 0, _ =>
      show Calls Tryz.prog 19 #[.int .u8 0] w _
      go_enter Tryz.func19, Tryz.ntmps19
      go_wp2_with (first | go_quiet (fail) | fail)
      go_ret
      exact ⟨rfl, Kept.drewN _ _ _⟩
    | 1, _ =>
      show Calls Tryz.prog 19 #[.int .u8 1] w _
      go_enter Tryz.func19, Tryz.ntmps19
      go_wp2_with (first | go_quiet (fail) | fail)
      go_ret
      exact ⟨rfl, Kept.drewN _ _ _⟩
    | 2, _ =>
      show Calls Tryz.prog 19 #[.int .u8 2] w _
      go_enter Tryz.func19, Tryz.ntmps19
      go_wp2_with (first | go_quiet (fail) | fail)
      go_ret
      exact ⟨rfl, Kept.drewN _ _ _⟩
    | 3, _ =>
      show Calls Tryz.prog 19 #[.int .u8 3] w _
      go_enter Tryz.func19, Tryz.ntmps19
      go_wp2_with (first | go_quiet (fail) | fail)
      go_ret
      exact ⟨rfl, Kept.drewN _ _ _⟩
    | 4, _ =>
      show Calls Tryz.prog 19 #[.int .u8 4] w _
      go_enter Tryz.func19, Tryz.ntmps19
      go_wp2_with (first | go_quiet (fail) | fail)
      go_ret
      exact ⟨rfl, Kept.drewN _ _ _⟩
    | 5, _ =>
      show Calls Tryz.prog 19 #[.int .u8 5] w _
      go_enter Tryz.func19, Tryz.ntmps19
      go_wp2_with (first | go_quiet (fail) | fail)
      go_ret
      exact ⟨rfl, Kept.drewN _ _ _⟩
    | 6, _ =>
      show Calls Tryz.prog 19 #[.int .u8 6] w _
      go_enter Tryz.func19, Tryz.ntmps19
      go_wp2_with (first | go_quiet (fail) | fail)
      go_ret
      exact ⟨rfl, Kept.drewN _ _ _⟩
    | 7, _ =>
      show Calls Tryz.prog 19 #[.int .u8 7] w _
      go_enter Tryz.func19, Tryz.ntmps19
      go_wp2_with (first | go_quiet (fail) | fail)
      go_ret
      exact ⟨rfl, Kept.drewN _ _ _⟩
    | 8, _ =>
      show Calls Tryz.prog 19 #[.int .u8 8] w _
      go_enter Tryz.func19, Tryz.ntmps19
      go_wp2_with (first | go_quiet (fail) | fail)
      go_ret
      exact ⟨rfl, Kept.refl _ _⟩
    | 9, _ =>
      show Calls Tryz.prog 19 #[.int .u8 9] w _
      go_enter Tryz.func19, Tryz.ntmps19
      go_wp2_with (first | go_quiet (fail) | fail)
      go_ret
      exact ⟨rfl, Kept.refl _ _⟩
    | 10, _ =>
      show Calls Tryz.prog 19 #[.int .u8 10] w _
      go_enter Tryz.func19, Tryz.ntmps19
      go_wp2_with (first | go_quiet (fail) | fail)
      go_ret
      exact ⟨rfl, Kept.refl _ _⟩
    | 11, _ =>
      show Calls Tryz.prog 19 #[.int .u8 11] w _
      go_enter Tryz.func19, Tryz.ntmps19
      go_wp2_with (first | go_quiet (fail) | fail)
      go_ret
      exact ⟨rfl, Kept.drewN _ _ _⟩
    | 12, _ =>
      show Calls Tryz.prog 19 #[.int .u8 12] w _
      go_enter Tryz.func19, Tryz.ntmps19
      go_wp2_with (first | go_quiet (fail) | fail)
      go_ret
      exact ⟨rfl, Kept.refl _ _⟩
    | 13, _ =>
      show Calls Tryz.prog 19 #[.int .u8 13] w _
      go_enter Tryz.func19, Tryz.ntmps19
      go_wp2_with (first | go_quiet (fail) | fail)
      go_ret
      exact ⟨rfl, Kept.refl _ _⟩
    | 14, _ =>
      show Calls Tryz.prog 19 #[.int .u8 14] w _
      go_enter Tryz.func19, Tryz.ntmps19
      go_wp2_with (first | go_quiet (fail) | fail)
      go_ret
      exact ⟨rfl, Kept.drewN _ _ _⟩
    | 15, _ =>
      show Calls Tryz.prog 19 #[.int .u8 15] w _
      go_enter Tryz.func19, Tryz.ntmps19
      go_wp2_with (first | go_quiet (fail) | fail)
      go_ret
      exact ⟨rfl, Kept.drewN _ _ _⟩
    | 16, _ =>
      show Calls Tryz.prog 19 #[.int .u8 16] w _
      go_enter Tryz.func19, Tryz.ntmps19
      go_wp2_with (first | go_quiet (fail) | fail)
      go_ret
      exact ⟨rfl, Kept.drewN _ _ _⟩
    | 17, _ =>
      show Calls Tryz.prog 19 #[.int .u8 17] w _
      go_enter Tryz.func19, Tryz.ntmps19
      go_wp2_with (first | go_quiet (fail) | fail)
      go_ret
      exact ⟨rfl, Kept.drewN _ _ _⟩
    | 18, _ =>
      show Calls Tryz.prog 19 #[.int .u8 18] w _
      go_enter Tryz.func19, Tryz.ntmps19
      go_wp2_with (first | go_quiet (fail) | fail)
      go_ret
      exact ⟨rfl, Kept.drewN _ _ _⟩
    | 19, _ =>
      show Calls Tryz.prog 19 #[.int .u8 19] w _
      go_enter Tryz.func19, Tryz.ntmps19
      go_wp2_with (first | go_quiet (fail) | fail)
      go_ret
      exact ⟨rfl, Kept.drewN _ _ _⟩
    | 20, _ =>
      show Calls Tryz.prog 19 #[.int .u8 20] w _
      go_enter Tryz.func19, Tryz.ntmps19
      go_wp2_with (first | go_quiet (fail) | fail)
      go_ret
      exact ⟨rfl, Kept.drewN _ _ _⟩
    | 21, _ =>
      show Calls Tryz.prog 19 #[.int .u8 21] w _
      go_enter Tryz.func19, Tryz.ntmps19
      go_wp2_with (first | go_quiet (fail) | fail)
      go_ret
      exact ⟨rfl, Kept.drewN _ _ _⟩
    | 22, _ =>
      show Calls Tryz.prog 19 #[.int .u8 22] w _
      go_enter Tryz.func19, Tryz.ntmps19
      go_wp2_with (first | go_quiet (fail) | fail)
      go_ret
      exact ⟨rfl, Kept.drewN _ _ _⟩
    | 23, _ =>
      show Calls Tryz.prog 19 #[.int .u8 23] w _
      go_enter Tryz.func19, Tryz.ntmps19
      go_wp2_with (first | go_quiet (fail) | fail)
      go_ret
      exact ⟨rfl, Kept.drewN _ _ _⟩
    | 24, _ =>
      show Calls Tryz.prog 19 #[.int .u8 24] w _
      go_enter Tryz.func19, Tryz.ntmps19
      go_wp2_with (first | go_quiet (fail) | fail)
      go_ret
      exact ⟨rfl, Kept.drewN _ _ _⟩
    | 25, _ =>
      show Calls Tryz.prog 19 #[.int .u8 25] w _
      go_enter Tryz.func19, Tryz.ntmps19
      go_wp2_with (first | go_quiet (fail) | fail)
      go_ret
      exact ⟨rfl, Kept.drewN _ _ _⟩
    | 26, _ =>
      show Calls Tryz.prog 19 #[.int .u8 26] w _
      go_enter Tryz.func19, Tryz.ntmps19
      go_wp2_with (first | go_quiet (fail) | fail)
      go_ret
      exact ⟨rfl, Kept.drewN _ _ _⟩
    | 27, _ =>
      show Calls Tryz.prog 19 #[.int .u8 27] w _
      go_enter Tryz.func19, Tryz.ntmps19
      go_wp2_with (first | go_quiet (fail) | fail)
      go_ret
      exact ⟨rfl, Kept.drewN _ _ _⟩
    | 28, _ =>
      show Calls Tryz.prog 19 #[.int .u8 28] w _
      go_enter Tryz.func19, Tryz.ntmps19
      go_wp2_with (first | go_quiet (fail) | fail)
      go_ret
      exact ⟨rfl, Kept.drewN _ _ _⟩
    | 29, _ =>
      show Calls Tryz.prog 19 #[.int .u8 29] w _
      go_enter Tryz.func19, Tryz.ntmps19
      go_wp2_with (first | go_quiet (fail) | fail)
      go_ret
      exact ⟨rfl, Kept.drewN _ _ _⟩
    | 30, _ =>
      show Calls Tryz.prog 19 #[.int .u8 30] w _
      go_enter Tryz.func19, Tryz.ntmps19
      go_wp2_with (first | go_quiet (fail) | fail)
      go_ret
      exact ⟨rfl, Kept.drewN _ _ _⟩
    | 31, _ =>
      show Calls Tryz.prog 19 #[.int .u8 31] w _
      go_enter Tryz.func19, Tryz.ntmps19
      go_wp2_with (first | go_quiet (fail) | fail)
      go_ret
      exact ⟨rfl, Kept.drewN _ _ _⟩
    | n + 32, h => exact absurd h (by omega)
  rcases hc with hc | rfl | rfl
  · have h := key c.toNat hc
    rwa [UInt8.ofNat_toNat] at h
  · show Calls Tryz.prog 19 #[.int .u8 34] w _
    go_enter Tryz.func19, Tryz.ntmps19
    go_wp2_with (first | go_quiet (fail) | fail)
    go_ret
    exact ⟨rfl, Kept.refl _ _⟩
  · show Calls Tryz.prog 19 #[.int .u8 92] w _
    go_enter Tryz.func19, Tryz.ntmps19
    go_wp2_with (first | go_quiet (fail) | fail)
    go_ret
    exact ⟨rfl, Kept.refl _ _⟩

end Go.Proofs.YtdbplemcjnlfiaaGreatDoor
