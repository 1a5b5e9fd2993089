/-
  The small readers of a body: stands, pastBlanks, isDigit, lower, an escape by its number, escapes, characters.
-/
import Derived.Test.YtfiaaaflpjpnjaaGreatDoorFPure
import Derived.Test.YtfiaaaflpjpnjaaGreatDoorFLay
namespace Go.Proofs.YtfiaaaflpjpnjaaGreatDoor
open Go.RowKit

/-- The tables that characters are read by. -/
abbrev Utf8At (w : World) : Prop := Lib.Utf8Tabs (Tryz.decodeL_ren.g 3) (Tryz.decodeL_ren.g 4) w

theorem Utf8At.kept {w w' : World} (T : Utf8At w) (K : Kept (fun _ => False) w w') : Utf8At w' := by
  have key : ∀ {a : Addr} {v : Value}, w.cell? a = some v → w'.cell? a = some v := fun {a v} h => by
    rw [World.cell?_of_block (w := w) (K.block _ (World.block_lt_of_cell? w _ h) (fun h => h))]
    exact h
  exact ⟨fun c hc => key (T.1 c hc), fun i hi => ⟨key (T.2 i hi).1, key (T.2 i hi).2⟩⟩

theorem ix_str (s : ByteArray) {k : Nat} (hlt : k < s.size) (W : World) : (Instr.index 9 (.string s) (.int .i64 (k : Int))).run Tryz.prog W = .ok (.int .u8 (((s[k]'hlt).toNat : Nat) : Int)) W := by
  rw [run_index_string W _ _ _ _ Tryz.underlying9]
  rw [dif_pos ⟨by omega, by omega⟩]
  simp

theorem u8_beq (a b : UInt8) : ((a.toNat : Int) == (b.toNat : Int)) = (a == b) := by
  rw [Bool.eq_iff_iff, beq_iff_eq, beq_iff_eq]
  constructor
  · intro h; exact UInt8.toNat_inj.1 (by omega)
  · intro h; rw [h]

set_option maxRecDepth 100000 in
set_option maxHeartbeats 1000000 in
theorem stands_any (w : World) (s : ByteArray) (i : Nat) (c : UInt8) :
    Calls Tryz.prog 44 #[.string s, .int .i64 (i : Int), .int .u8 (c.toNat : Int)] w fun e w' => e = .returned (.bool (standsP s i c)) ∧ w' = w := by
  by_cases h : i < s.size
  · have hix := ix_str s h
    rw [standsP_lt s h, ← u8_beq]
    have e0 : (i : Int) < (s.size : Int) := by omega
    generalize (((s[i]'h).toNat : Nat) : Int) = x at *
    generalize ((c.toNat : Nat) : Int) = y at *
    go_enter Tryz.func44, Tryz.ntmps44
    go_wp2
    go_ret
    exact ⟨rfl, rfl⟩
  · rw [standsP_ge s (by omega)]
    have e0 : ¬ (i : Int) < (s.size : Int) := by omega
    go_enter Tryz.func44, Tryz.ntmps44
    go_wp2
    go_ret
    exact ⟨rfl, rfl⟩

theorem blank_index (c : UInt8) : (0 ≤ Lib.indexByte [32, 9, 10, 13] c) = (blankB c = true) := by
  have h : ∀ n : Fin 256, decide (0 ≤ Lib.indexByte [32, 9, 10, 13] (UInt8.ofNat n.1)) = blankB (UInt8.ofNat n.1) := by decide +kernel
  have := h ⟨c.toNat, c.toNat_lt⟩
  simp only [UInt8.ofNat_toNat] at this
  rw [← this, decide_eq_true_eq]

set_option maxRecDepth 100000 in
set_option maxHeartbeats 1000000 in
theorem pastBlanks_any (w : World) (s : ByteArray) (i : Nat) (hs : s.size ≤ 281474976710656) (hi : i ≤ s.size) :
    Calls Tryz.prog 43 #[.string s, .int .i64 (i : Int)] w fun e w' => e = .returned (.int .i64 (skipP s i : Nat)) ∧ w' = w := by
  go_enter Tryz.func43, Tryz.ntmps43
  go_wp2
  go_loopw [1] (fun v wr => ∃ (k : Nat), k ≤ s.size ∧ v = .int .i64 k ∧ wr = w ∧ skipP s k = skipP s i) (fun v _ => s.size - (intOf v).toNat)
  case atStart => exact ⟨i, hi, rfl, rfl, rfl⟩
  case round =>
    obtain ⟨k, hk, rfl, hwr, hsk⟩ := hrel
    subst hwr
    by_cases hlt : k < s.size
    · have hix := ix_str s hlt
      have ec : (((s[k]'hlt).toNat : Nat) : Int).toNat.toUInt8 = s[k]'hlt := by simp
      have hI := Any.strings_IndexByte Tryz.indexByteL ⟨#[32, 9, 10, 13]⟩ (((s[k]'hlt).toNat : Nat) : Int) wr
      rw [ec] at hI
      have hb := blank_index (s[k]'hlt)
      have HN : Hid (blankB (s[k]'hlt) = true → skipP s k = skipP s (k + 1)) := skipP_next s hlt
      have HS : Hid (blankB (s[k]'hlt) = false → skipP s k = k) := skipP_stop s hlt
      have e0 : (k : Int) < (s.size : Int) := by omega
      change Calls Tryz.prog 65 _ _ (fun e w' => e = .returned (.int .i64 (Lib.indexByte [32, 9, 10, 13] (s[k]'hlt))) ∧ w' = wr) at hI
      generalize Lib.indexByte [32, 9, 10, 13] (s[k]'hlt) = ix at *
      have HB : Hid ((0 ≤ ix) = (blankB (s[k]'hlt) = true)) := hb
      have HK : Hid (skipP s k = skipP s i) := hsk
      clear ec hb hsk
      by_cases hz : 0 ≤ ix
      · go_wp2_with (first
          | (go_at_call 65; refine hI.mono ?_; rintro e w1 ⟨rfl, rfl⟩; clear hI)
          | fail)
        go_roundw
        case rel =>
          refine ⟨k + 1, by omega, by go_num, trivial, ?_⟩
          rw [← HN.out (by rw [← HB.out]; exact hz)]
          exact HK.out
        case measure => simp [intOf]; omega
      · go_wp2_with (first
          | (go_at_call 65; refine hI.mono ?_; rintro e w1 ⟨rfl, rfl⟩; clear hI)
          | fail)
        go_ret
        refine ⟨?_, rfl⟩
        rw [← HK.out, HS.out (by cases hb : blankB (s[k]'hlt) with | false => rfl | true => have h0 : 0 ≤ ix := (by rw [HB.out]; exact hb); omega)]
        rfl
    · obtain rfl : k = s.size := by omega
      have HK : Hid (skipP s s.size = skipP s i) := hsk
      clear hsk
      go_wp2
      go_ret
      refine ⟨?_, rfl⟩
      rw [← HK.out, skipP_end s (Nat.le_refl _)]
      rfl

set_option maxRecDepth 100000 in
theorem isDigit_any (w : World) (c : UInt8) :
    Calls Tryz.prog 54 #[.int .u8 (c.toNat : Int)] w fun e w' => e = .returned (.bool (isDig c)) ∧ w' = w := by
  unfold isDig
  generalize c.toNat = n
  by_cases h1 : 48 ≤ n
  · by_cases h2 : n ≤ 57
    · have e1 : (48 : Int) ≤ (n : Int) := by omega
      have e2 : (n : Int) ≤ 57 := by omega
      rw [decide_eq_true h1, decide_eq_true h2]
      go_enter Tryz.func54, Tryz.ntmps54
      go_wp2
      go_ret
      exact ⟨rfl, rfl⟩
    · have e1 : (48 : Int) ≤ (n : Int) := by omega
      have e2 : ¬ (n : Int) ≤ 57 := by omega
      rw [decide_eq_true h1, decide_eq_false h2]
      go_enter Tryz.func54, Tryz.ntmps54
      go_wp2
      go_ret
      exact ⟨rfl, rfl⟩
  · have e1 : ¬ (48 : Int) ≤ (n : Int) := by omega
    rw [decide_eq_false h1, Bool.false_and]
    go_enter Tryz.func54, Tryz.ntmps54
    go_wp2
    go_ret
    exact ⟨rfl, rfl⟩

set_option maxRecDepth 100000 in
theorem lower_any (w : World) (c : UInt8) :
    Calls Tryz.prog 109 #[.int .u8 (c.toNat : Int)] w fun e w' => e = .returned (.int .u8 ((lowerP c).toNat : Int)) ∧ w' = w := by
  have hl := c.toNat_lt
  by_cases h1 : 65 ≤ c.toNat ∧ c.toNat ≤ 90
  · have hc : ((lowerP c).toNat : Int) = (c.toNat : Int) + 32 := by
      unfold lowerP
      rw [if_pos h1, UInt8.toNat_add]
      simp
      omega
    rw [hc]
    obtain ⟨h1a, h1b⟩ := h1
    generalize c.toNat = n at *
    have e1 : (65 : Int) ≤ (n : Int) := by omega
    have e2 : (n : Int) ≤ 90 := by omega
    clear hc
    go_enter Tryz.func109, Tryz.ntmps109
    go_wp2
    go_ret
    refine ⟨?_, rfl⟩
    exact ret_int (by omega)
  · have hc : ((lowerP c).toNat : Int) = (c.toNat : Int) := by
      unfold lowerP
      rw [if_neg h1]
    rw [hc]
    clear hc
    generalize c.toNat = n at *
    by_cases h2 : 65 ≤ n
    · have e1 : (65 : Int) ≤ (n : Int) := by omega
      have e2 : ¬ (n : Int) ≤ 90 := by omega
      go_enter Tryz.func109, Tryz.ntmps109
      go_wp2
      go_ret
      exact ⟨rfl, rfl⟩
    · have e1 : ¬ (65 : Int) ≤ (n : Int) := by omega
      go_enter Tryz.func109, Tryz.ntmps109
      go_wp2
      go_ret
      exact ⟨rfl, rfl⟩

end Go.Proofs.YtfiaaaflpjpnjaaGreatDoor
