/-
  One changed byte changes the sum.
-/
import Derived.Test.YtchdmlckicipcaaCSum
namespace Go.Proofs.Ytchdmlckicipcaa
open Go.RowKit

theorem bit1_inj {s t : Nat} (hs : s < 4294967296) (ht : t < 4294967296) (h : bit1 s = bit1 t) : s = t := by
  have hP : (3988292384 : Nat).testBit 31 = true := by decide
  have tb : ∀ x, x < 4294967296 → (bit1 x).testBit 31 = decide (x % 2 = 1) := by
    intro x hx
    have h31 : (x / 2).testBit 31 = false := Nat.testBit_lt_two_pow (by omega)
    unfold bit1
    split
    · rename_i ho
      rw [Nat.testBit_xor, h31, hP]
      simp [ho]
    · rename_i ho
      rw [h31]
      simp [ho]
  have h1 := tb s hs
  have h2 := tb t ht
  rw [h, h2] at h1
  have hpar : s % 2 = t % 2 := by
    by_cases ho : t % 2 = 1
    · simp only [ho, decide_true] at h1
      have := of_decide_eq_true h1.symm
      omega
    · simp only [ho, decide_false] at h1
      have := of_decide_eq_false h1.symm
      omega
  unfold bit1 at h
  by_cases ho : t % 2 = 1
  · rw [if_pos ho, if_pos (by omega)] at h
    have h3 : s / 2 = t / 2 := by
      have h4 := congrArg (· ^^^ 3988292384) h
      simp only [Nat.xor_assoc, Nat.xor_self, Nat.xor_zero] at h4
      exact h4
    omega
  · rw [if_neg ho, if_neg (by omega)] at h
    omega

theorem bitN_inj (j : Nat) {s t : Nat} (hs : s < 4294967296) (ht : t < 4294967296) (h : bitN j s = bitN j t) : s = t := by
  induction j with
  | zero => exact h
  | succ j ih => exact ih (bit1_inj (bitN_lt j hs) (bitN_lt j ht) h)

theorem xor_cancel {a b c : Nat} (h : a ^^^ c = b ^^^ c) : a = b := by
  have h4 := congrArg (· ^^^ c) h
  simp only [Nat.xor_assoc, Nat.xor_self, Nat.xor_zero] at h4
  exact h4

theorem byte1_inj_s {s t : Nat} {x : Int} (hx : x ≤ 255) (hs : s < 4294967296) (ht : t < 4294967296) (h : byte1 s x = byte1 t x) : s = t :=
  xor_cancel (bitN_inj 8 (Nat.xor_lt_two_pow (n := 32) hs (by omega)) (Nat.xor_lt_two_pow (n := 32) ht (by omega)) h)

theorem byte1_inj_x {s : Nat} {x y : Int} (h0 : 0 ≤ x) (hx : x ≤ 255) (h1 : 0 ≤ y) (hy : y ≤ 255) (hs : s < 4294967296) (h : byte1 s x = byte1 s y) : x = y := by
  have h2 := bitN_inj 8 (Nat.xor_lt_two_pow (n := 32) hs (by omega)) (Nat.xor_lt_two_pow (n := 32) hs (by omega)) h
  rw [Nat.xor_comm s, Nat.xor_comm s] at h2
  have := xor_cancel h2
  omega

theorem fold_inj (l : List Int) (hl : Bs l) : ∀ {s t : Nat}, s < 4294967296 → t < 4294967296 → l.foldl byte1 s = l.foldl byte1 t → s = t := by
  induction l with
  | nil => intro s t _ _ h; exact h
  | cons x r ih =>
    intro s t hs ht h
    have hx := hl x (List.mem_cons_self ..)
    have hr : Bs r := fun y hy => hl y (List.mem_cons_of_mem _ hy)
    exact byte1_inj_s hx.2 hs ht (ih hr (byte1_lt hs hx.2) (byte1_lt ht hx.2) h)

theorem fold_set (l : List Int) (hl : Bs l) : ∀ (k : Nat) (y : Int) {s : Nat}, s < 4294967296 → k < l.length → 0 ≤ y → y ≤ 255 → (l.set k y).foldl byte1 s = l.foldl byte1 s → y = l.getD k 0 := by
  induction l with
  | nil => intro k y s _ hk; simp at hk
  | cons x r ih =>
    intro k y s hs hk h0 h1 h
    have hx := hl x (List.mem_cons_self ..)
    have hr : Bs r := fun z hz => hl z (List.mem_cons_of_mem _ hz)
    cases k with
    | zero =>
      simp only [List.set_cons_zero, List.foldl_cons] at h
      have h2 := fold_inj r hr (byte1_lt hs h1) (byte1_lt hs hx.2) h
      simpa using byte1_inj_x h0 h1 hx.1 hx.2 hs h2
    | succ k =>
      simp only [List.set_cons_succ, List.foldl_cons] at h
      simpa using ih hr k y (byte1_lt hs hx.2) (by simpa using hk) h0 h1 h

/-- One changed byte, another sum. -/
theorem crc_set (l : List Int) (hl : Bs l) (k : Nat) (y : Int) (hk : k < l.length) (h0 : 0 ≤ y) (h1 : y ≤ 255) (hne : y ≠ l.getD k 0) : crc (l.set k y) ≠ crc l := by
  intro h
  unfold crc at h
  rw [Nat.xor_comm 4294967295, Nat.xor_comm 4294967295] at h
  exact hne (fold_set l hl k y (by decide) hk h0 h1 (xor_cancel h))

/-- Bytes of one length that are one number are the same. -/
theorem valB_inj {l r : List Int} (hl : Bs l) (hr : Bs r) (hn : l.length = r.length) (h : valB l = valB r) : l = r := by
  rw [← low_val l hl, ← low_val r hr, h, hn]

end Go.Proofs.Ytchdmlckicipcaa
