/-
  The sum of bytes.
-/
import Derived.Test.YtchdmlckicipcaaCPure
namespace Go.Proofs.Ytchdmlckicipcaa
open Go.RowKit

def bit1 (s : Nat) : Nat := if s % 2 = 1 then s / 2 ^^^ 3988292384 else s / 2
def bitN : Nat → Nat → Nat
  | 0, s => s
  | j + 1, s => bit1 (bitN j s)
def byte1 (s : Nat) (x : Int) : Nat := bitN 8 (s ^^^ x.toNat)
def crcS (b : List Int) : Nat := b.foldl byte1 4294967295
/-- The document's sum. -/
def crc (b : List Int) : Nat := 4294967295 ^^^ crcS b

theorem bits_xor_u32 (a b : Nat) (ha : a < 4294967296) (hb : b < 4294967296) : bits .xor .u32 (a : Int) (b : Int) = ((a ^^^ b : Nat) : Int) := by
  have hx : a ^^^ b < 2 ^ 32 := Nat.xor_lt_two_pow (by omega) (by omega)
  have h1 : (BitVec.ofInt 32 (a : Int)).toNat = a := by
    rw [BitVec.ofInt_natCast, BitVec.toNat_ofNat]; exact Nat.mod_eq_of_lt (by omega)
  have h2 : (BitVec.ofInt 32 (b : Int)).toNat = b := by
    rw [BitVec.ofInt_natCast, BitVec.toNat_ofNat]; exact Nat.mod_eq_of_lt (by omega)
  show IntKind.u32.wrap ((BitVec.ofInt 32 (a : Int) ^^^ BitVec.ofInt 32 (b : Int)).toNat : Int) = _
  rw [BitVec.toNat_xor, h1, h2, IntKind.wrap_u32]
  omega

theorem bit1_lt {s : Nat} (h : s < 4294967296) : bit1 s < 4294967296 := by
  unfold bit1
  split
  · exact Nat.xor_lt_two_pow (n := 32) (by omega) (by decide)
  · omega

theorem bitN_lt (j : Nat) {s : Nat} (h : s < 4294967296) : bitN j s < 4294967296 := by
  induction j with
  | zero => exact h
  | succ j ih => exact bit1_lt ih

theorem byte1_lt {s : Nat} (h : s < 4294967296) {x : Int} (hx : x ≤ 255) : byte1 s x < 4294967296 := bitN_lt _ (Nat.xor_lt_two_pow (n := 32) h (by omega))

theorem fold_lt (b : List Int) (hb : Bs b) : ∀ {s : Nat}, s < 4294967296 → b.foldl byte1 s < 4294967296 := by
  induction b with
  | nil => intro s h; exact h
  | cons x r ih => intro s h; exact ih (fun y hy => hb y (List.mem_cons_of_mem _ hy)) (byte1_lt h (hb x (List.mem_cons_self ..)).2)

theorem crc_lt (b : List Int) (hb : Bs b) : crc b < 4294967296 := Nat.xor_lt_two_pow (n := 32) (by decide) (fold_lt b hb (by decide))

theorem bits_xor_zero (a : Nat) (ha : a < 4294967296) : bits .xor .u32 (a : Int) 0 = a := by
  have := bits_xor_u32 a 0 ha (by decide)
  rw [Nat.xor_zero] at this
  exact this

theorem bits_xor_pol (a : Nat) (ha : a < 4294967296) : bits .xor .u32 (a : Int) 3988292384 = ((a ^^^ 3988292384 : Nat) : Int) := bits_xor_u32 a 3988292384 ha (by decide)

theorem bit1_eq {s : Nat} (h : s < 4294967296) : bits .xor .u32 ((s : Int) / 2) (bits .and .u32 (s : Int) 1 * 3988292384 % 4294967296) = (bit1 s : Nat) := by
  have h1 : bits .and .u32 (s : Int) 1 = (s : Int) % 2 := bits_mask .u32 32 (by decide) (fun n h0 h1 => by rw [IntKind.wrap_u32]; omega) 1 (by decide) _ (by omega) (by omega)
  rw [h1]
  have h2 : (s : Int) / 2 = ((s / 2 : Nat) : Int) := by omega
  have hs : s / 2 < 4294967296 := by omega
  rw [h2]
  unfold bit1
  split
  · have h3 : (s : Int) % 2 * 3988292384 % 4294967296 = 3988292384 := by omega
    rw [h3, bits_xor_pol _ hs]
  · have h4 : (s : Int) % 2 = 0 := by omega
    have h3 : (s : Int) % 2 * 3988292384 % 4294967296 = 0 := by rw [h4]; decide
    rw [h3, bits_xor_zero _ hs]

theorem xbyte_eq {s : Nat} (h : s < 4294967296) {x : Int} (h0 : 0 ≤ x) (h1 : x ≤ 255) : bits .xor .u32 (s : Int) x = ((s ^^^ x.toNat : Nat) : Int) := by
  have := bits_xor_u32 s x.toNat h (by omega)
  rwa [Int.toNat_of_nonneg h0] at this

theorem crcS_next (b : List Int) (k : Nat) (hk : k < b.length) : crcS (b.take (k + 1)) = byte1 (crcS (b.take k)) (b.getD k 0) := by
  unfold crcS
  rw [List.take_add_one, List.foldl_append, List.getElem?_eq_getElem hk, List.getD_eq_getElem?_getD, List.getElem?_eq_getElem hk]
  rfl

theorem crcS_lt (b : List Int) (hb : Bs b) : crcS b < 4294967296 := fold_lt b hb (by decide)

theorem Bs.of {w : World} {a : Option Addr} {m c : Nat} {b : List Int} (B : BytesAt w a m c b) : Bs b := B.byte

set_option maxRecDepth 100000 in
set_option maxHeartbeats 400000 in
theorem sum_any (w : World) (a : Option Addr) (m c : Nat) (b : List Int) (B : BytesAt w a m c b) (hm : m ≤ 4611686018427387904) :
    Calls Try.prog 14 #[.slice a m c] w fun e w' => e = .returned (.int .u32 (crc b)) ∧ w' = w := by
  go_enter Try.func14, Try.ntmps14
  go_wp2
  go_loopw [3, 9] (fun s i wr => ∃ (k : Nat), k ≤ m ∧ i = .int .i64 k ∧ s = .int .u32 (crcS (b.take k)) ∧ wr = w) (fun _ i _ => m - (intOf i).toNat)
  case atStart => exact ⟨0, Nat.zero_le _, rfl, rfl, rfl⟩
  case round =>
    obtain ⟨k, hk, rfl, rfl, hwr⟩ := hrel
    subst hwr
    have hsb := crcS_lt (b.take k) ((Bs.of B).take k)
    by_cases hlt : k < m
    · obtain ⟨ba, oa, rfl, hc⟩ := B.at (j := k) (by rw [B.len]; exact hlt)
      have hx := hc k (by rw [B.len]; exact hlt)
      have hbd := (Bs.of B).getD k
      have hxe := xbyte_eq hsb hbd.1 hbd.2
      have hxl : (crcS (b.take k)) ^^^ (b.getD k 0).toNat < 4294967296 := Nat.xor_lt_two_pow (n := 32) hsb (by omega)
      have HS : Hid (crcS (b.take (k + 1)) = bitN 8 ((crcS (b.take k)) ^^^ (b.getD k 0).toNat)) := crcS_next b k (by rw [B.len]; exact hlt)
      generalize (crcS (b.take k)) ^^^ (b.getD k 0).toNat = s1 at *
      generalize crcS (b.take k) = s0 at *
      generalize b.getD k 0 = x at *
      have e1 : (k : Int) < (m : Int) := by omega
      have HX : Hid (s1 < 4294967296) := hxl
      clear hc B hxl
      go_wp2
      go_loopw [3, 17] (fun s i wr' => ∃ (j : Nat), j ≤ 8 ∧ i = .int .i64 j ∧ s = .int .u32 (bitN j s1) ∧ wr' = wr) (fun _ i _ => 8 - (intOf i).toNat)
      case atStart => exact ⟨0, Nat.zero_le _, rfl, rfl, rfl⟩
      case round =>
        obtain ⟨j, hk, rfl, rfl, hwr⟩ := hrel
        subst hwr
        by_cases hj : j < 8
        · have hlt2 := bitN_lt j HX.out
          have HJ : Hid (bitN (j + 1) s1 = bit1 (bitN j s1)) := rfl
          have hbe := bit1_eq hlt2
          generalize bitN j s1 = s at *
          clear hxe
          go_wp2
          go_roundw
          case rel => exact ⟨j + 1, by omega, by go_num, by rw [HJ.out], trivial⟩
          case measure => simp [intOf]; omega
        · have hj8 : j = 8 := by omega
          subst hj8
          clear hxe
          go_wp2
          go_roundw
          case rel => exact ⟨k + 1, by omega, by go_num, by rw [HS.out], trivial⟩
          case measure => simp [intOf]; omega
    · have hxe := bits_xor_u32 4294967295 (crcS (b.take k)) (by omega) hsb
      have hkm : b.take k = b := List.take_of_length_le (by rw [B.len]; omega)
      rw [hkm] at hxe ⊢
      have HC : Hid (bits .xor .u32 4294967295 (crcS b : Int) = (crc b : Int)) := hxe
      clear hxe
      generalize crcS b = s1 at *
      go_wp2
      go_ret
      exact ⟨ret_int HC.out, rfl⟩

set_option maxRecDepth 100000 in
set_option maxHeartbeats 400000 in
theorem refSum_any (w : World) (a : Option Addr) (m c : Nat) (b : List Int) (B : BytesAt w a m c b) (hm : m ≤ 4611686018427387904) :
    Calls Try.prog 16 #[.slice a m c] w fun e w' => e = .returned (.int .u32 (crc b)) ∧ w' = w := by
  go_enter Try.func16, Try.ntmps16
  go_wp2
  go_loopw [3, 4] (fun s i wr => ∃ (k : Nat), k ≤ m ∧ i = .int .i64 k ∧ s = .int .u32 (crcS (b.take k)) ∧ wr = w) (fun _ i _ => m - (intOf i).toNat)
  case atStart => exact ⟨0, Nat.zero_le _, rfl, rfl, rfl⟩
  case round =>
    obtain ⟨k, hk, rfl, rfl, hwr⟩ := hrel
    subst hwr
    have hsb := crcS_lt (b.take k) ((Bs.of B).take k)
    by_cases hlt : k < m
    · obtain ⟨ba, oa, rfl, hc⟩ := B.at (j := k) (by rw [B.len]; exact hlt)
      have hx := hc k (by rw [B.len]; exact hlt)
      have hbd := (Bs.of B).getD k
      have hxe := xbyte_eq hsb hbd.1 hbd.2
      have hxl : (crcS (b.take k)) ^^^ (b.getD k 0).toNat < 4294967296 := Nat.xor_lt_two_pow (n := 32) hsb (by omega)
      have HS : Hid (crcS (b.take (k + 1)) = bitN 8 ((crcS (b.take k)) ^^^ (b.getD k 0).toNat)) := crcS_next b k (by rw [B.len]; exact hlt)
      generalize (crcS (b.take k)) ^^^ (b.getD k 0).toNat = s1 at *
      generalize crcS (b.take k) = s0 at *
      generalize b.getD k 0 = x at *
      have e1 : (k : Int) < (m : Int) := by omega
      have HX : Hid (s1 < 4294967296) := hxl
      clear hc B hxl
      go_wp2
      go_loopw [3, 5] (fun s i wr' => ∃ (j : Nat), j ≤ 8 ∧ i = .int .i64 j ∧ s = .int .u32 (bitN j s1) ∧ wr' = wr) (fun _ i _ => 8 - (intOf i).toNat)
      case atStart => exact ⟨0, Nat.zero_le _, rfl, rfl, rfl⟩
      case round =>
        obtain ⟨j, hk, rfl, rfl, hwr⟩ := hrel
        subst hwr
        by_cases hj : j < 8
        · have hlt2 := bitN_lt j HX.out
          have HJ : Hid (bitN (j + 1) s1 = bit1 (bitN j s1)) := rfl
          generalize bitN j s1 = s at *
          clear hxe
          by_cases hodd : s % 2 = 1
          · have ho : ((s : Int) % 2 == 1) = true := by simp; omega
            have hs2 : s / 2 < 4294967296 := by omega
            have hbe := bits_xor_pol (s / 2) hs2
            have hb1 : bit1 s = s / 2 ^^^ 3988292384 := by unfold bit1; rw [if_pos hodd]
            have hdv : ((s / 2 : Nat) : Int) = (s : Int) / 2 := by omega
            rw [hdv] at hbe
            go_wp2
            go_roundw
            case rel => exact ⟨j + 1, by omega, by go_num, by rw [HJ.out, hb1], trivial⟩
            case measure => simp [intOf]; omega
          · have ho : ((s : Int) % 2 == 1) = false := by simp; omega
            have hb1 : bit1 s = s / 2 := by unfold bit1; rw [if_neg hodd]
            have hdv : ((s / 2 : Nat) : Int) = (s : Int) / 2 := by omega
            go_wp2
            go_roundw
            case rel => exact ⟨j + 1, by omega, by go_num, by rw [HJ.out, hb1, hdv], trivial⟩
            case measure => simp [intOf]; omega
        · have hj8 : j = 8 := by omega
          subst hj8
          clear hxe
          go_wp2
          go_roundw
          case rel => exact ⟨k + 1, by omega, by go_num, by rw [HS.out], trivial⟩
          case measure => simp [intOf]; omega
    · have hxe := bits_xor_u32 4294967295 (crcS (b.take k)) (by omega) hsb
      have hkm : b.take k = b := List.take_of_length_le (by rw [B.len]; omega)
      rw [hkm] at hxe ⊢
      have HC : Hid (bits .xor .u32 4294967295 (crcS b : Int) = (crc b : Int)) := hxe
      clear hxe
      generalize crcS b = s1 at *
      go_wp2
      go_ret
      exact ⟨ret_int HC.out, rfl⟩


end Go.Proofs.Ytchdmlckicipcaa
