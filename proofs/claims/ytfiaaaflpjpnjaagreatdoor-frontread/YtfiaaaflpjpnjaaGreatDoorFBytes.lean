/-
  The bytes of a head: which may stand where; all of a text's bytes.
-/
import Derived.Test.YtfiaaaflpjpnjaaGreatDoorFObj
namespace Go.Proofs.YtfiaaaflpjpnjaaGreatDoor
open Go.RowKit

def capB (c : UInt8) : Bool := decide (65 ≤ c.toNat) && decide (c.toNat ≤ 90)
def smallB (c : UInt8) : Bool := decide (97 ≤ c.toNat) && decide (c.toNat ≤ 122)
def nmB (c : UInt8) : Bool := isDig c || capB c || smallB c || c == 45
def pathB (c : UInt8) : Bool := decide (33 ≤ c.toNat) && decide (c.toNat ≤ 126)
def valB (c : UInt8) : Bool := decide (32 ≤ c.toNat) && decide (c.toNat ≤ 126)

/-- A text that has bytes, all of a kind. -/
def allP (f : UInt8 → Bool) (l : List UInt8) : Bool := l.all f && !l.isEmpty

set_option maxRecDepth 100000 in
theorem isCapital_int (w : World) (x : Int) :
    Calls Tryz.prog 33 #[.int .u8 x] w fun e w' => e = .returned (.bool (decide (65 ≤ x) && decide (x ≤ 90))) ∧ w' = w := by
  by_cases h1 : 65 ≤ x
  · by_cases h2 : x ≤ 90
    · rw [decide_eq_true h1, decide_eq_true h2]
      go_enter Tryz.func33, Tryz.ntmps33
      go_wp2
      go_ret
      exact ⟨rfl, rfl⟩
    · rw [decide_eq_true h1, decide_eq_false h2]
      go_enter Tryz.func33, Tryz.ntmps33
      go_wp2
      go_ret
      exact ⟨rfl, rfl⟩
  · rw [decide_eq_false h1, Bool.false_and]
    go_enter Tryz.func33, Tryz.ntmps33
    go_wp2
    go_ret
    exact ⟨rfl, rfl⟩

theorem isCapital_any (w : World) (c : UInt8) :
    Calls Tryz.prog 33 #[.int .u8 (c.toNat : Int)] w fun e w' => e = .returned (.bool (capB c)) ∧ w' = w := by
  have h := isCapital_int w (c.toNat : Int)
  have e : (decide (65 ≤ (c.toNat : Int)) && decide ((c.toNat : Int) ≤ 90)) = capB c := by
    unfold capB
    rw [Bool.eq_iff_iff]
    simp only [Bool.and_eq_true, decide_eq_true_eq]
    omega
  rwa [e] at h

set_option maxRecDepth 100000 in
theorem isPathByte_any (w : World) (c : UInt8) :
    Calls Tryz.prog 52 #[.int .u8 (c.toNat : Int)] w fun e w' => e = .returned (.bool (pathB c)) ∧ w' = w := by
  unfold pathB
  generalize c.toNat = n
  by_cases h1 : 33 ≤ n
  · by_cases h2 : n ≤ 126
    · have e1 : (32 : Int) < (n : Int) := by omega
      have e2 : (n : Int) < 127 := by omega
      rw [decide_eq_true h1, decide_eq_true h2]
      go_enter Tryz.func52, Tryz.ntmps52
      go_wp2
      go_ret
      exact ⟨rfl, rfl⟩
    · have e1 : (32 : Int) < (n : Int) := by omega
      have e2 : ¬ (n : Int) < 127 := by omega
      rw [decide_eq_true h1, decide_eq_false h2]
      go_enter Tryz.func52, Tryz.ntmps52
      go_wp2
      go_ret
      exact ⟨rfl, rfl⟩
  · have e1 : ¬ (32 : Int) < (n : Int) := by omega
    rw [decide_eq_false h1, Bool.false_and]
    go_enter Tryz.func52, Tryz.ntmps52
    go_wp2
    go_ret
    exact ⟨rfl, rfl⟩

set_option maxRecDepth 100000 in
theorem isValueByte_any (w : World) (c : UInt8) :
    Calls Tryz.prog 37 #[.int .u8 (c.toNat : Int)] w fun e w' => e = .returned (.bool (valB c)) ∧ w' = w := by
  unfold valB
  generalize c.toNat = n
  by_cases h1 : 32 ≤ n
  · by_cases h2 : n ≤ 126
    · have e1 : (32 : Int) ≤ (n : Int) := by omega
      have e2 : (n : Int) < 127 := by omega
      rw [decide_eq_true h1, decide_eq_true h2]
      go_enter Tryz.func37, Tryz.ntmps37
      go_wp2
      go_ret
      exact ⟨rfl, rfl⟩
    · have e1 : (32 : Int) ≤ (n : Int) := by omega
      have e2 : ¬ (n : Int) < 127 := by omega
      rw [decide_eq_true h1, decide_eq_false h2]
      go_enter Tryz.func37, Tryz.ntmps37
      go_wp2
      go_ret
      exact ⟨rfl, rfl⟩
  · have e1 : ¬ (32 : Int) ≤ (n : Int) := by omega
    rw [decide_eq_false h1, Bool.false_and]
    go_enter Tryz.func37, Tryz.ntmps37
    go_wp2
    go_ret
    exact ⟨rfl, rfl⟩

set_option maxRecDepth 100000 in
set_option maxHeartbeats 1000000 in
theorem isNameByte_any (w : World) (c : UInt8) :
    Calls Tryz.prog 36 #[.int .u8 (c.toNat : Int)] w fun e w' => e = .returned (.bool (nmB c)) ∧ w' = w := by
  have hD := fun W => isDigit_any W c
  have hC := fun W => isCapital_any W c
  have hI := fun W x => isCapital_int W x
  have hb : (((c.toNat : Nat) : Int) == 45) = (c == 45) := u8i_beq c 45 (by decide)
  have hsm : smallB c = (decide (65 ≤ ((c.toNat : Int) - 97 + 65)) && decide (((c.toNat : Int) - 97 + 65) ≤ 90)) := by
    unfold smallB
    rw [Bool.eq_iff_iff]
    simp only [Bool.and_eq_true, decide_eq_true_eq]
    omega
  have hlt := c.toNat_lt
  unfold nmB
  cases h1 : isDig c with
  | true =>
    rw [h1] at hD
    generalize (c == 45) = b45 at *
    generalize smallB c = bs at *
    generalize capB c = bc at *
    generalize ((c.toNat : Nat) : Int) = x at *
    clear hsm
    go_enter Tryz.func36, Tryz.ntmps36
    go_wp2_with (first
      | (go_at_call 54; refine (hD _).mono ?_; rintro e w1 ⟨rfl, hw1⟩; subst w1; clear hD)
      | fail)
    go_ret
    exact ⟨by simp, rfl⟩
  | false =>
    rw [h1] at hD
    cases h2 : capB c with
    | true =>
      rw [h2] at hC
      generalize (c == 45) = b45 at *
      generalize smallB c = bs at *
      generalize ((c.toNat : Nat) : Int) = x at *
      clear hsm
      go_enter Tryz.func36, Tryz.ntmps36
      go_wp2_with (first
        | (go_at_call 54; refine (hD _).mono ?_; rintro e w1 ⟨rfl, hw1⟩; subst w1; clear hD)
        | (go_at_call 33; refine (hC _).mono ?_; rintro e w1 ⟨rfl, hw1⟩; subst w1; clear hC)
        | fail)
      go_ret
      exact ⟨by simp, rfl⟩
    | false =>
      rw [h2] at hC
      by_cases h97 : 97 ≤ c.toNat
      · generalize hb45 : (c == 45) = b45 at *
        have hI2 : ∀ W, Calls Tryz.prog 33 #[.int .u8 ((c.toNat : Int) - 97 + 65)] W fun e w' => e = .returned (.bool (smallB c)) ∧ w' = W := fun W => by rw [hsm]; exact hI W _
        have f1 : (97 : Int) ≤ (c.toNat : Int) := by omega
        have f2 : (c.toNat : Int) ≤ 255 := by omega
        clear hsm hI
        generalize smallB c = bs at *
        generalize ((c.toNat : Nat) : Int) = x at *
        cases bs with
        | true =>
          go_enter Tryz.func36, Tryz.ntmps36
          go_wp2_with (first
            | (go_at_call 54; refine (hD _).mono ?_; rintro e w1 ⟨rfl, hw1⟩; subst w1; clear hD)
            | (go_at_call 33; refine (hC _).mono ?_; rintro e w1 ⟨rfl, hw1⟩; subst w1; clear hC)
            | (go_at_call 33; refine (hI2 _).mono ?_; rintro e w1 ⟨rfl, hw1⟩; subst w1; clear hI2)
            | fail)
          go_ret
          exact ⟨by simp, rfl⟩
        | false =>
          go_enter Tryz.func36, Tryz.ntmps36
          go_wp2_with (first
            | (go_at_call 54; refine (hD _).mono ?_; rintro e w1 ⟨rfl, hw1⟩; subst w1; clear hD)
            | (go_at_call 33; refine (hC _).mono ?_; rintro e w1 ⟨rfl, hw1⟩; subst w1; clear hC)
            | (go_at_call 33; refine (hI2 _).mono ?_; rintro e w1 ⟨rfl, hw1⟩; subst w1; clear hI2)
            | fail)
          go_ret
          exact ⟨by simp, rfl⟩
      · have hs0 : smallB c = false := by unfold smallB; rw [decide_eq_false h97]; rfl
        rw [hs0]
        generalize hb45 : (c == 45) = b45 at *
        have f1 : (c.toNat : Int) < 97 := by omega
        have f2 : 0 ≤ (c.toNat : Int) := by omega
        clear hsm hs0
        generalize ((c.toNat : Nat) : Int) = x at *
        have hI3 : ∀ W, Calls Tryz.prog 33 #[.int .u8 ((x - 97 + 65) % 256)] W fun e w' => e = .returned (.bool false) ∧ w' = W := fun W => by
          have h := hI W ((x - 97 + 65) % 256)
          have e : (decide (65 ≤ (x - 97 + 65) % 256) && decide ((x - 97 + 65) % 256 ≤ 90)) = false := by
            rw [Bool.and_eq_false_iff]
            by_cases h32 : x < 32
            · right; rw [decide_eq_false]; omega
            · left; rw [decide_eq_false]; omega
          rwa [e] at h
        clear hI
        go_enter Tryz.func36, Tryz.ntmps36
        go_wp2_with (first
          | (go_at_call 54; refine (hD _).mono ?_; rintro e w1 ⟨rfl, hw1⟩; subst w1; clear hD)
          | (go_at_call 33; refine (hC _).mono ?_; rintro e w1 ⟨rfl, hw1⟩; subst w1; clear hC)
          | (go_at_call 33; refine (hI3 _).mono ?_; rintro e w1 ⟨rfl, hw1⟩; subst w1; clear hI3)
          | fail)
        go_ret
        exact ⟨by simp, rfl⟩

theorem all_next (s : ByteArray) (f : UInt8 → Bool) {k : Nat} (hk : k < s.size) : (s.data.toList.take (k + 1)).all f = ((s.data.toList.take k).all f && f (s[k]'hk)) := by
  have hl : k < s.data.toList.length := by simpa using hk
  rw [List.take_add_one, List.getElem?_eq_getElem hl, List.all_append]
  simp
  rfl

theorem all_ge (l : List UInt8) (f : UInt8 → Bool) (k : Nat) (h : (l.take k).all f = false) : l.all f = false := by
  cases hb : l.all f with
  | false => rfl
  | true =>
    rw [List.all_eq_true] at hb
    have : (l.take k).all f = true := List.all_eq_true.2 fun x hx => hb x (List.mem_of_mem_take hx)
    rw [this] at h; cases h

set_option maxRecDepth 100000 in
set_option maxHeartbeats 1000000 in
theorem all_isCapital (w : World) (s : ByteArray) (hs : s.size ≤ 281474976710656) :
    Calls Tryz.prog 32 #[.string s, .func (.func 33) #[] #[]] w fun e w' => e = .returned (.bool (allP capB s.data.toList)) ∧ w' = w := by
  unfold allP
  go_enter Tryz.func32, Tryz.ntmps32
  go_wp2
  go_loopw [8] (fun v wr => ∃ (k : Nat), k ≤ s.size ∧ v = .int .i64 (k : Int) ∧ wr = w ∧ (s.data.toList.take k).all capB = true) (fun v _ => s.size - (intOf v).toNat)
  case atStart => exact ⟨0, Nat.zero_le _, rfl, rfl, rfl⟩
  case round =>
    obtain ⟨k, hk, rfl, hwr, hall⟩ := hrel
    subst wr
    by_cases hlt : k < s.size
    · have hix := ix_str s hlt
      have hnx := all_next s capB hlt
      rw [hall, Bool.true_and] at hnx
      have hP := fun W => isCapital_any W (s[k]'hlt)
      have e0 : (k : Int) < (s.size : Int) := by omega
      have HA : Hid ((s.data.toList.take (k + 1)).all capB = capB (s[k]'hlt)) := hnx
      clear hnx hall
      generalize (((s[k]'hlt).toNat : Nat) : Int) = x at *
      cases hb : capB (s[k]'hlt) with
      | true =>
        rw [hb] at hP
        have HB : Hid ((s.data.toList.take (k + 1)).all capB = true) := HA.out.trans hb
        clear hb HA
        go_wp2_with (first
          | (go_at_call 33; refine (hP _).mono ?_; rintro e w1 ⟨rfl, hw1⟩; subst w1; clear hP)
          | fail)
        go_roundw
        case rel => exact ⟨k + 1, by omega, by go_num, trivial, HB.out⟩
        case measure => simp [intOf]; omega
      | false =>
        rw [hb] at hP
        have HB : Hid ((s.data.toList.take (k + 1)).all capB = false) := HA.out.trans hb
        clear hb HA
        go_wp2_with (first
          | (go_at_call 33; refine (hP _).mono ?_; rintro e w1 ⟨rfl, hw1⟩; subst w1; clear hP)
          | fail)
        go_ret
        refine ⟨?_, rfl⟩
        rw [all_ge _ _ (k + 1) HB.out]
        rfl
    · obtain rfl : k = s.size := by omega
      have e : s.data.toList.take s.size = s.data.toList := List.take_of_length_le (by simp)
      rw [e] at hall
      have HB : Hid (s.data.toList.all capB = true) := hall
      clear hall e
      go_wp2
      go_ret
      refine ⟨?_, rfl⟩
      rw [HB.out, ← Lib.toList_data]
      rfl

set_option maxRecDepth 100000 in
set_option maxHeartbeats 1000000 in
theorem all_isNameByte (w : World) (s : ByteArray) (hs : s.size ≤ 281474976710656) :
    Calls Tryz.prog 32 #[.string s, .func (.func 36) #[] #[]] w fun e w' => e = .returned (.bool (allP nmB s.data.toList)) ∧ w' = w := by
  unfold allP
  go_enter Tryz.func32, Tryz.ntmps32
  go_wp2
  go_loopw [8] (fun v wr => ∃ (k : Nat), k ≤ s.size ∧ v = .int .i64 (k : Int) ∧ wr = w ∧ (s.data.toList.take k).all nmB = true) (fun v _ => s.size - (intOf v).toNat)
  case atStart => exact ⟨0, Nat.zero_le _, rfl, rfl, rfl⟩
  case round =>
    obtain ⟨k, hk, rfl, hwr, hall⟩ := hrel
    subst wr
    by_cases hlt : k < s.size
    · have hix := ix_str s hlt
      have hnx := all_next s nmB hlt
      rw [hall, Bool.true_and] at hnx
      have hP := fun W => isNameByte_any W (s[k]'hlt)
      have e0 : (k : Int) < (s.size : Int) := by omega
      have HA : Hid ((s.data.toList.take (k + 1)).all nmB = nmB (s[k]'hlt)) := hnx
      clear hnx hall
      generalize (((s[k]'hlt).toNat : Nat) : Int) = x at *
      cases hb : nmB (s[k]'hlt) with
      | true =>
        rw [hb] at hP
        have HB : Hid ((s.data.toList.take (k + 1)).all nmB = true) := HA.out.trans hb
        clear hb HA
        go_wp2_with (first
          | (go_at_call 36; refine (hP _).mono ?_; rintro e w1 ⟨rfl, hw1⟩; subst w1; clear hP)
          | fail)
        go_roundw
        case rel => exact ⟨k + 1, by omega, by go_num, trivial, HB.out⟩
        case measure => simp [intOf]; omega
      | false =>
        rw [hb] at hP
        have HB : Hid ((s.data.toList.take (k + 1)).all nmB = false) := HA.out.trans hb
        clear hb HA
        go_wp2_with (first
          | (go_at_call 36; refine (hP _).mono ?_; rintro e w1 ⟨rfl, hw1⟩; subst w1; clear hP)
          | fail)
        go_ret
        refine ⟨?_, rfl⟩
        rw [all_ge _ _ (k + 1) HB.out]
        rfl
    · obtain rfl : k = s.size := by omega
      have e : s.data.toList.take s.size = s.data.toList := List.take_of_length_le (by simp)
      rw [e] at hall
      have HB : Hid (s.data.toList.all nmB = true) := hall
      clear hall e
      go_wp2
      go_ret
      refine ⟨?_, rfl⟩
      rw [HB.out, ← Lib.toList_data]
      rfl

set_option maxRecDepth 100000 in
set_option maxHeartbeats 1000000 in
theorem all_isPathByte (w : World) (s : ByteArray) (hs : s.size ≤ 281474976710656) :
    Calls Tryz.prog 32 #[.string s, .func (.func 52) #[] #[]] w fun e w' => e = .returned (.bool (allP pathB s.data.toList)) ∧ w' = w := by
  unfold allP
  go_enter Tryz.func32, Tryz.ntmps32
  go_wp2
  go_loopw [8] (fun v wr => ∃ (k : Nat), k ≤ s.size ∧ v = .int .i64 (k : Int) ∧ wr = w ∧ (s.data.toList.take k).all pathB = true) (fun v _ => s.size - (intOf v).toNat)
  case atStart => exact ⟨0, Nat.zero_le _, rfl, rfl, rfl⟩
  case round =>
    obtain ⟨k, hk, rfl, hwr, hall⟩ := hrel
    subst wr
    by_cases hlt : k < s.size
    · have hix := ix_str s hlt
      have hnx := all_next s pathB hlt
      rw [hall, Bool.true_and] at hnx
      have hP := fun W => isPathByte_any W (s[k]'hlt)
      have e0 : (k : Int) < (s.size : Int) := by omega
      have HA : Hid ((s.data.toList.take (k + 1)).all pathB = pathB (s[k]'hlt)) := hnx
      clear hnx hall
      generalize (((s[k]'hlt).toNat : Nat) : Int) = x at *
      cases hb : pathB (s[k]'hlt) with
      | true =>
        rw [hb] at hP
        have HB : Hid ((s.data.toList.take (k + 1)).all pathB = true) := HA.out.trans hb
        clear hb HA
        go_wp2_with (first
          | (go_at_call 52; refine (hP _).mono ?_; rintro e w1 ⟨rfl, hw1⟩; subst w1; clear hP)
          | fail)
        go_roundw
        case rel => exact ⟨k + 1, by omega, by go_num, trivial, HB.out⟩
        case measure => simp [intOf]; omega
      | false =>
        rw [hb] at hP
        have HB : Hid ((s.data.toList.take (k + 1)).all pathB = false) := HA.out.trans hb
        clear hb HA
        go_wp2_with (first
          | (go_at_call 52; refine (hP _).mono ?_; rintro e w1 ⟨rfl, hw1⟩; subst w1; clear hP)
          | fail)
        go_ret
        refine ⟨?_, rfl⟩
        rw [all_ge _ _ (k + 1) HB.out]
        rfl
    · obtain rfl : k = s.size := by omega
      have e : s.data.toList.take s.size = s.data.toList := List.take_of_length_le (by simp)
      rw [e] at hall
      have HB : Hid (s.data.toList.all pathB = true) := hall
      clear hall e
      go_wp2
      go_ret
      refine ⟨?_, rfl⟩
      rw [HB.out, ← Lib.toList_data]
      rfl

set_option maxRecDepth 100000 in
set_option maxHeartbeats 1000000 in
theorem all_isValueByte (w : World) (s : ByteArray) (hs : s.size ≤ 281474976710656) :
    Calls Tryz.prog 32 #[.string s, .func (.func 37) #[] #[]] w fun e w' => e = .returned (.bool (allP valB s.data.toList)) ∧ w' = w := by
  unfold allP
  go_enter Tryz.func32, Tryz.ntmps32
  go_wp2
  go_loopw [8] (fun v wr => ∃ (k : Nat), k ≤ s.size ∧ v = .int .i64 (k : Int) ∧ wr = w ∧ (s.data.toList.take k).all valB = true) (fun v _ => s.size - (intOf v).toNat)
  case atStart => exact ⟨0, Nat.zero_le _, rfl, rfl, rfl⟩
  case round =>
    obtain ⟨k, hk, rfl, hwr, hall⟩ := hrel
    subst wr
    by_cases hlt : k < s.size
    · have hix := ix_str s hlt
      have hnx := all_next s valB hlt
      rw [hall, Bool.true_and] at hnx
      have hP := fun W => isValueByte_any W (s[k]'hlt)
      have e0 : (k : Int) < (s.size : Int) := by omega
      have HA : Hid ((s.data.toList.take (k + 1)).all valB = valB (s[k]'hlt)) := hnx
      clear hnx hall
      generalize (((s[k]'hlt).toNat : Nat) : Int) = x at *
      cases hb : valB (s[k]'hlt) with
      | true =>
        rw [hb] at hP
        have HB : Hid ((s.data.toList.take (k + 1)).all valB = true) := HA.out.trans hb
        clear hb HA
        go_wp2_with (first
          | (go_at_call 37; refine (hP _).mono ?_; rintro e w1 ⟨rfl, hw1⟩; subst w1; clear hP)
          | fail)
        go_roundw
        case rel => exact ⟨k + 1, by omega, by go_num, trivial, HB.out⟩
        case measure => simp [intOf]; omega
      | false =>
        rw [hb] at hP
        have HB : Hid ((s.data.toList.take (k + 1)).all valB = false) := HA.out.trans hb
        clear hb HA
        go_wp2_with (first
          | (go_at_call 37; refine (hP _).mono ?_; rintro e w1 ⟨rfl, hw1⟩; subst w1; clear hP)
          | fail)
        go_ret
        refine ⟨?_, rfl⟩
        rw [all_ge _ _ (k + 1) HB.out]
        rfl
    · obtain rfl : k = s.size := by omega
      have e : s.data.toList.take s.size = s.data.toList := List.take_of_length_le (by simp)
      rw [e] at hall
      have HB : Hid (s.data.toList.all valB = true) := hall
      clear hall e
      go_wp2
      go_ret
      refine ⟨?_, rfl⟩
      rw [HB.out, ← Lib.toList_data]
      rfl

set_option maxRecDepth 100000 in
set_option maxHeartbeats 1000000 in
theorem all_isDigit (w : World) (s : ByteArray) (hs : s.size ≤ 281474976710656) :
    Calls Tryz.prog 32 #[.string s, .func (.func 54) #[] #[]] w fun e w' => e = .returned (.bool (allP isDig s.data.toList)) ∧ w' = w := by
  unfold allP
  go_enter Tryz.func32, Tryz.ntmps32
  go_wp2
  go_loopw [8] (fun v wr => ∃ (k : Nat), k ≤ s.size ∧ v = .int .i64 (k : Int) ∧ wr = w ∧ (s.data.toList.take k).all isDig = true) (fun v _ => s.size - (intOf v).toNat)
  case atStart => exact ⟨0, Nat.zero_le _, rfl, rfl, rfl⟩
  case round =>
    obtain ⟨k, hk, rfl, hwr, hall⟩ := hrel
    subst wr
    by_cases hlt : k < s.size
    · have hix := ix_str s hlt
      have hnx := all_next s isDig hlt
      rw [hall, Bool.true_and] at hnx
      have hP := fun W => isDigit_any W (s[k]'hlt)
      have e0 : (k : Int) < (s.size : Int) := by omega
      have HA : Hid ((s.data.toList.take (k + 1)).all isDig = isDig (s[k]'hlt)) := hnx
      clear hnx hall
      generalize (((s[k]'hlt).toNat : Nat) : Int) = x at *
      cases hb : isDig (s[k]'hlt) with
      | true =>
        rw [hb] at hP
        have HB : Hid ((s.data.toList.take (k + 1)).all isDig = true) := HA.out.trans hb
        clear hb HA
        go_wp2_with (first
          | (go_at_call 54; refine (hP _).mono ?_; rintro e w1 ⟨rfl, hw1⟩; subst w1; clear hP)
          | fail)
        go_roundw
        case rel => exact ⟨k + 1, by omega, by go_num, trivial, HB.out⟩
        case measure => simp [intOf]; omega
      | false =>
        rw [hb] at hP
        have HB : Hid ((s.data.toList.take (k + 1)).all isDig = false) := HA.out.trans hb
        clear hb HA
        go_wp2_with (first
          | (go_at_call 54; refine (hP _).mono ?_; rintro e w1 ⟨rfl, hw1⟩; subst w1; clear hP)
          | fail)
        go_ret
        refine ⟨?_, rfl⟩
        rw [all_ge _ _ (k + 1) HB.out]
        rfl
    · obtain rfl : k = s.size := by omega
      have e : s.data.toList.take s.size = s.data.toList := List.take_of_length_le (by simp)
      rw [e] at hall
      have HB : Hid (s.data.toList.all isDig = true) := hall
      clear hall e
      go_wp2
      go_ret
      refine ⟨?_, rfl⟩
      rw [HB.out, ← Lib.toList_data]
      rfl

end Go.Proofs.YtfiaaaflpjpnjaaGreatDoor
