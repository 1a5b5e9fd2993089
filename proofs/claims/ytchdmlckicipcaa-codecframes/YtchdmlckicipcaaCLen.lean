/-
  How many bytes a number needs, by the library's own count of bits.
-/
import Derived.Test.YtchdmlckicipcaaCPure
namespace Go.Proofs.Ytchdmlckicipcaa
open Go.RowKit

def tab8 : ByteArray := ⟨#[0, 1, 2, 2, 3, 3, 3, 3, 4, 4, 4, 4, 4, 4, 4, 4, 5, 5, 5, 5, 5, 5, 5, 5, 5, 5, 5, 5, 5, 5, 5, 5, 6, 6, 6, 6, 6, 6, 6, 6, 6, 6, 6, 6, 6, 6, 6, 6, 6, 6, 6, 6, 6, 6, 6, 6, 6, 6, 6, 6, 6, 6, 6, 6, 7, 7, 7, 7, 7, 7, 7, 7, 7, 7, 7, 7, 7, 7, 7, 7, 7, 7, 7, 7, 7, 7, 7, 7, 7, 7, 7, 7, 7, 7, 7, 7, 7, 7, 7, 7, 7, 7, 7, 7, 7, 7, 7, 7, 7, 7, 7, 7, 7, 7, 7, 7, 7, 7, 7, 7, 7, 7, 7, 7, 7, 7, 7, 7, 8, 8, 8, 8, 8, 8, 8, 8, 8, 8, 8, 8, 8, 8, 8, 8, 8, 8, 8, 8, 8, 8, 8, 8, 8, 8, 8, 8, 8, 8, 8, 8, 8, 8, 8, 8, 8, 8, 8, 8, 8, 8, 8, 8, 8, 8, 8, 8, 8, 8, 8, 8, 8, 8, 8, 8, 8, 8, 8, 8, 8, 8, 8, 8, 8, 8, 8, 8, 8, 8, 8, 8, 8, 8, 8, 8, 8, 8, 8, 8, 8, 8, 8, 8, 8, 8, 8, 8, 8, 8, 8, 8, 8, 8, 8, 8, 8, 8, 8, 8, 8, 8, 8, 8, 8, 8, 8, 8, 8, 8, 8, 8, 8, 8, 8, 8, 8, 8, 8, 8, 8, 8, 8, 8, 8, 8, 8, 8]⟩

set_option maxRecDepth 100000 in
theorem tab8_bd : ∀ i : Fin 256, (i.val = 0 → (tab8.data.toList.getD i.val 0).toNat = 0) ∧ (0 < i.val → 1 ≤ (tab8.data.toList.getD i.val 0).toNat ∧ (tab8.data.toList.getD i.val 0).toNat ≤ 8) := by decide +kernel

set_option maxRecDepth 100000 in
theorem tab8_size : tab8.size = 256 := by decide +kernel

set_option maxRecDepth 100000 in
theorem tab8_at (i : Nat) (h : i < tab8.size) : (i = 0 → tab8[i].toNat = 0) ∧ (0 < i → 1 ≤ tab8[i].toNat ∧ tab8[i].toNat ≤ 8) := by
  have h2 : i < 256 := tab8_size ▸ h
  have h3 := tab8_bd ⟨i, h2⟩
  have e : tab8.data.toList.getD i 0 = tab8[i] := by
    rw [List.getD_eq_getElem?_getD, List.getElem?_eq_getElem (show i < tab8.data.toList.length from h)]
    rfl
  rw [e] at h3
  exact h3

/-- What is counted, in bytes. -/
theorem len_close {k x n : Int} {t : Nat} (ht : (x.toNat = 0 → t = 0) ∧ (0 < x.toNat → 1 ≤ t ∧ t ≤ 8)) (hk0 : 0 ≤ k) (hk : k ≤ 48) (h : ∀ t : Nat, (x.toNat = 0 → t = 0) → (0 < x.toNat → 1 ≤ t ∧ t ≤ 8) → (k + t + 7) / 8 = sz n.toNat) :
    (wrap64 (k + wrap64 t) + 7) / 8 = sz n.toNat ∧ wrap64 (k + wrap64 t) ≤ 64 ∧ 0 ≤ wrap64 (k + wrap64 t) := by
  have h2 := h t ht.1 ht.2
  have h3 : t ≤ 8 := by
    rcases Nat.eq_zero_or_pos x.toNat with e | e
    · have := ht.1 e; omega
    · exact (ht.2 e).2
  have e1 : wrap64 t = t := by unfold wrap64; omega
  rw [e1]
  have e2 : wrap64 (k + t) = k + t := by unfold wrap64; omega
  rw [e2]
  exact ⟨h2, by omega, by omega⟩

set_option maxRecDepth 100000 in
set_option maxHeartbeats 400000 in
theorem len64_0 (w : World) (n : Int) (h0 : 0 ≤ n) (h1 : n < 256) :
    Calls Try.prog 37 #[.int .u64 n] w fun e w' => ∃ r : Int, e = .returned (.int .i64 r) ∧ ((r + 7) / 8 = sz n.toNat ∧ r ≤ 64 ∧ 0 ≤ r) ∧ w' = w := by
  have hx : (n).toNat < tab8.size := by rw [tab8_size]; omega
  have hs : ∀ t : Nat, ((n).toNat = 0 → t = 0) → (0 < (n).toNat → 1 ≤ t ∧ t ≤ 8) → ((0 : Int) + t + 7) / 8 = sz n.toNat := by
    intro t h2 h3
    by_cases e : n.toNat = 0
    · rw [h2 e, e]; decide
    · have := h3 (by omega)
      rw [sz_eq (k := 0) (by decide) (by simp only [Nat.reducePow]; omega) (by simp only [Nat.reducePow, Nat.reduceAdd]; omega)]
      omega
  have hc := len_close (n := n) (tab8_at _ hx) (by decide) (by decide) hs
  clear hs
  rw [Int.zero_add] at hc
  have HC : Hid _ := hc
  clear hc
  go_enter Try.func37, Try.ntmps37
  go_wp2
  go_ret
  exact ⟨_, rfl, HC.out, rfl⟩

set_option maxRecDepth 100000 in
set_option maxHeartbeats 400000 in
theorem len64_1 (w : World) (n : Int) (h0 : 256 ≤ n) (h1 : n < 65536) :
    Calls Try.prog 37 #[.int .u64 n] w fun e w' => ∃ r : Int, e = .returned (.int .i64 r) ∧ ((r + 7) / 8 = sz n.toNat ∧ r ≤ 64 ∧ 0 ≤ r) ∧ w' = w := by
  have hx : (n / 256).toNat < tab8.size := by rw [tab8_size]; omega
  have hs : ∀ t : Nat, ((n / 256).toNat = 0 → t = 0) → (0 < (n / 256).toNat → 1 ≤ t ∧ t ≤ 8) → ((8 : Int) + t + 7) / 8 = sz n.toNat := by
    intro t h2 h3
    have := h3 (by omega)
    rw [sz_eq (k := 1) (by decide) (by simp only [Nat.reducePow]; omega) (by simp only [Nat.reducePow, Nat.reduceAdd]; omega)]
    omega
  have hc := len_close (n := n) (tab8_at _ hx) (by decide) (by decide) hs
  clear hs
  have HC : Hid _ := hc
  clear hc
  go_enter Try.func37, Try.ntmps37
  go_wp2
  go_ret
  exact ⟨_, rfl, HC.out, rfl⟩

set_option maxRecDepth 100000 in
set_option maxHeartbeats 400000 in
theorem len64_2 (w : World) (n : Int) (h0 : 65536 ≤ n) (h1 : n < 16777216) :
    Calls Try.prog 37 #[.int .u64 n] w fun e w' => ∃ r : Int, e = .returned (.int .i64 r) ∧ ((r + 7) / 8 = sz n.toNat ∧ r ≤ 64 ∧ 0 ≤ r) ∧ w' = w := by
  have hx : (n / 65536).toNat < tab8.size := by rw [tab8_size]; omega
  have hs : ∀ t : Nat, ((n / 65536).toNat = 0 → t = 0) → (0 < (n / 65536).toNat → 1 ≤ t ∧ t ≤ 8) → ((16 : Int) + t + 7) / 8 = sz n.toNat := by
    intro t h2 h3
    have := h3 (by omega)
    rw [sz_eq (k := 2) (by decide) (by simp only [Nat.reducePow]; omega) (by simp only [Nat.reducePow, Nat.reduceAdd]; omega)]
    omega
  have hc := len_close (n := n) (tab8_at _ hx) (by decide) (by decide) hs
  clear hs
  have HC : Hid _ := hc
  clear hc
  go_enter Try.func37, Try.ntmps37
  go_wp2
  go_ret
  exact ⟨_, rfl, HC.out, rfl⟩

set_option maxRecDepth 100000 in
set_option maxHeartbeats 400000 in
theorem len64_3 (w : World) (n : Int) (h0 : 16777216 ≤ n) (h1 : n < 4294967296) :
    Calls Try.prog 37 #[.int .u64 n] w fun e w' => ∃ r : Int, e = .returned (.int .i64 r) ∧ ((r + 7) / 8 = sz n.toNat ∧ r ≤ 64 ∧ 0 ≤ r) ∧ w' = w := by
  have hx : (n / 65536 / 256).toNat < tab8.size := by rw [tab8_size]; omega
  have hs : ∀ t : Nat, ((n / 65536 / 256).toNat = 0 → t = 0) → (0 < (n / 65536 / 256).toNat → 1 ≤ t ∧ t ≤ 8) → ((24 : Int) + t + 7) / 8 = sz n.toNat := by
    intro t h2 h3
    have := h3 (by omega)
    rw [sz_eq (k := 3) (by decide) (by simp only [Nat.reducePow]; omega) (by simp only [Nat.reducePow, Nat.reduceAdd]; omega)]
    omega
  have hc := len_close (n := n) (tab8_at _ hx) (by decide) (by decide) hs
  clear hs
  have HC : Hid _ := hc
  clear hc
  go_enter Try.func37, Try.ntmps37
  go_wp2
  go_ret
  exact ⟨_, rfl, HC.out, rfl⟩

set_option maxRecDepth 100000 in
set_option maxHeartbeats 400000 in
theorem len64_4 (w : World) (n : Int) (h0 : 4294967296 ≤ n) (h1 : n < 1099511627776) :
    Calls Try.prog 37 #[.int .u64 n] w fun e w' => ∃ r : Int, e = .returned (.int .i64 r) ∧ ((r + 7) / 8 = sz n.toNat ∧ r ≤ 64 ∧ 0 ≤ r) ∧ w' = w := by
  have hx : (n / 4294967296).toNat < tab8.size := by rw [tab8_size]; omega
  have hs : ∀ t : Nat, ((n / 4294967296).toNat = 0 → t = 0) → (0 < (n / 4294967296).toNat → 1 ≤ t ∧ t ≤ 8) → ((32 : Int) + t + 7) / 8 = sz n.toNat := by
    intro t h2 h3
    have := h3 (by omega)
    rw [sz_eq (k := 4) (by decide) (by simp only [Nat.reducePow]; omega) (by simp only [Nat.reducePow, Nat.reduceAdd]; omega)]
    omega
  have hc := len_close (n := n) (tab8_at _ hx) (by decide) (by decide) hs
  clear hs
  have HC : Hid _ := hc
  clear hc
  go_enter Try.func37, Try.ntmps37
  go_wp2
  go_ret
  exact ⟨_, rfl, HC.out, rfl⟩

set_option maxRecDepth 100000 in
set_option maxHeartbeats 400000 in
theorem len64_5 (w : World) (n : Int) (h0 : 1099511627776 ≤ n) (h1 : n < 281474976710656) :
    Calls Try.prog 37 #[.int .u64 n] w fun e w' => ∃ r : Int, e = .returned (.int .i64 r) ∧ ((r + 7) / 8 = sz n.toNat ∧ r ≤ 64 ∧ 0 ≤ r) ∧ w' = w := by
  have hx : (n / 4294967296 / 256).toNat < tab8.size := by rw [tab8_size]; omega
  have hs : ∀ t : Nat, ((n / 4294967296 / 256).toNat = 0 → t = 0) → (0 < (n / 4294967296 / 256).toNat → 1 ≤ t ∧ t ≤ 8) → ((40 : Int) + t + 7) / 8 = sz n.toNat := by
    intro t h2 h3
    have := h3 (by omega)
    rw [sz_eq (k := 5) (by decide) (by simp only [Nat.reducePow]; omega) (by simp only [Nat.reducePow, Nat.reduceAdd]; omega)]
    omega
  have hc := len_close (n := n) (tab8_at _ hx) (by decide) (by decide) hs
  clear hs
  have HC : Hid _ := hc
  clear hc
  go_enter Try.func37, Try.ntmps37
  go_wp2
  go_ret
  exact ⟨_, rfl, HC.out, rfl⟩

set_option maxRecDepth 100000 in
set_option maxHeartbeats 400000 in
theorem len64_6 (w : World) (n : Int) (h0 : 281474976710656 ≤ n) (h1 : n < 4503599627370497) :
    Calls Try.prog 37 #[.int .u64 n] w fun e w' => ∃ r : Int, e = .returned (.int .i64 r) ∧ ((r + 7) / 8 = sz n.toNat ∧ r ≤ 64 ∧ 0 ≤ r) ∧ w' = w := by
  have hx : (n / 4294967296 / 65536).toNat < tab8.size := by rw [tab8_size]; omega
  have hs : ∀ t : Nat, ((n / 4294967296 / 65536).toNat = 0 → t = 0) → (0 < (n / 4294967296 / 65536).toNat → 1 ≤ t ∧ t ≤ 8) → ((48 : Int) + t + 7) / 8 = sz n.toNat := by
    intro t h2 h3
    have := h3 (by omega)
    rw [sz_eq (k := 6) (by decide) (by simp only [Nat.reducePow]; omega) (by simp only [Nat.reducePow, Nat.reduceAdd]; omega)]
    omega
  have hc := len_close (n := n) (tab8_at _ hx) (by decide) (by decide) hs
  clear hs
  have HC : Hid _ := hc
  clear hc
  go_enter Try.func37, Try.ntmps37
  go_wp2
  go_ret
  exact ⟨_, rfl, HC.out, rfl⟩

theorem len_any (w : World) (n : Int) (h0 : 0 ≤ n) (h1 : n ≤ 4503599627370496) :
    Calls Try.prog 33 #[.int .u64 n] w fun e w' => ∃ r : Int, e = .returned (.int .i64 r) ∧ ((r + 7) / 8 = sz n.toNat ∧ r ≤ 64 ∧ 0 ≤ r) ∧ w' = w := by
  have h : Calls Try.prog 37 #[.int .u64 n] w fun e w' => ∃ r : Int, e = .returned (.int .i64 r) ∧ ((r + 7) / 8 = sz n.toNat ∧ r ≤ 64 ∧ 0 ≤ r) ∧ w' = w := by
    by_cases c0 : n < 256
    · exact len64_0 w n h0 c0
    by_cases c1 : n < 65536
    · exact len64_1 w n (by omega) c1
    by_cases c2 : n < 16777216
    · exact len64_2 w n (by omega) c2
    by_cases c3 : n < 4294967296
    · exact len64_3 w n (by omega) c3
    by_cases c4 : n < 1099511627776
    · exact len64_4 w n (by omega) c4
    by_cases c5 : n < 281474976710656
    · exact len64_5 w n (by omega) c5
    · exact len64_6 w n (by omega) (by omega)
  go_enter Try.func33, Try.ntmps33
  go_wp2_with (first
    | (go_at_call 37; refine h.mono ?_; rintro e w1 ⟨r, rfl, hr, rfl⟩; have HR : Hid _ := hr; clear hr)
    | fail)
  go_ret
  exact ⟨r, rfl, HR.out, rfl⟩

end Go.Proofs.Ytchdmlckicipcaa
