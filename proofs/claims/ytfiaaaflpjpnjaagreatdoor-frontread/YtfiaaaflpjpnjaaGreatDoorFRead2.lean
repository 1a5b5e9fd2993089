/-
  Escapes and characters.
-/
import Derived.Test.YtfiaaaflpjpnjaaGreatDoorFRead1
import Derived.Lib.RuneCountTail
namespace Go.Proofs.YtfiaaaflpjpnjaaGreatDoor
open Go.RowKit

theorem hexF_some {s : ByteArray} {at0 k next : Nat} {c : Int} (h : next < s.size) (hd : ¬ hexD (s[next]'h) < 0) : hexF s at0 (k + 1) next c = hexF s at0 k (next + 1) (c * 16 + hexD (s[next]'h)) := by
  rw [hexF, get_lt s h]
  simp only [hd, if_false]

theorem hexF_bad {s : ByteArray} {at0 k next : Nat} {c : Int} (h : next < s.size) (hd : hexD (s[next]'h) < 0) : hexF s at0 (k + 1) next c = (0, at0, false) := by
  rw [hexF, get_lt s h]
  simp only [hd, if_true]

theorem hexF_none {s : ByteArray} {at0 k next : Nat} {c : Int} (h : s.size ≤ next) : hexF s at0 (k + 1) next c = (0, next, false) := by
  rw [hexF, get_ge s h]

def triV (r : Int × Nat × Bool) : Value := .tuple #[.int .i32 r.1, .int .i64 (r.2.1 : Int), .bool r.2.2]

set_option maxRecDepth 100000 in
set_option maxHeartbeats 1000000 in
theorem readHex_any (w : World) (s : ByteArray) (i : Nat) (hs : s.size ≤ 281474976710656) (hi : i + 2 ≤ s.size) :
    Calls Tryz.prog 100 #[.string s, .int .i64 (i : Int)] w fun e w' => e = .returned (triV (hexF s i 4 (i + 2) 0)) ∧ w' = w := by
  go_enter Tryz.func100, Tryz.ntmps100
  go_wp2
  go_loopw [4, 5, 6, 8] (fun c v _ _ wr => ∃ (k j p : Nat) (z : Int), p = i + 2 + j ∧ j + k = 4 ∧ p ≤ s.size ∧ c = .int .i32 z ∧ v = .int .i64 (p : Int) ∧ wr = w ∧ 0 ≤ z ∧ z < 16 ^ j ∧ hexF s i k p z = hexF s i 4 (i + 2) 0) (fun _ v _ _ _ => i + 6 - (intOf v).toNat)
  case atStart => exact ⟨4, 0, i + 2, 0, rfl, rfl, by omega, rfl, by go_num, rfl, Int.le_refl _, by decide, rfl⟩
  case round =>
    obtain ⟨k, j, p, z, hp, hkj, hj, rfl, rfl, hwr, z0, z1, hF⟩ := hrel
    subst hwr
    have HP : Hid (p = i + 2 + j) := hp
    have HF : Hid (hexF s i k p z = hexF s i 4 (i + 2) 0) := hF
    clear hF
    have hz : z < 65536 := Int.lt_of_lt_of_le z1 (by have : j ≤ 4 := by omega
                                                     match j, this with
                                                     | 0, _ => decide
                                                     | 1, _ => decide
                                                     | 2, _ => decide
                                                     | 3, _ => decide
                                                     | 4, _ => decide)
    cases k with
    | zero =>
      obtain rfl : j = 4 := by omega
      have e0 : ¬ (p : Int) < (i : Int) + 2 + 4 := by omega
      clear hp
      have hV := Any.utf8_ValidRune Tryz.validRuneL z
      have HR : Hid (hexF s i 0 p z = if Lib.validRune z then (z, p, true) else (0, i, false)) := rfl
      cases hv : Lib.validRune z with
      | true =>
        rw [hv] at hV
        go_wp2_with (first
          | (go_at_call 108; refine (hV _).mono ?_; rintro e w1 ⟨rfl, rfl⟩; clear hV)
          | fail)
        go_ret3
        refine ⟨?_, rfl⟩
        rw [← HF.out, HR.out, hv]
        rfl
      | false =>
        rw [hv] at hV
        go_wp2_with (first
          | (go_at_call 108; refine (hV _).mono ?_; rintro e w1 ⟨rfl, rfl⟩; clear hV)
          | fail)
        go_ret3
        refine ⟨?_, rfl⟩
        rw [← HF.out, HR.out, hv]
        rfl
    | succ k =>
      have e0 : (p : Int) < (i : Int) + 2 + 4 := by omega
      clear hp
      by_cases hlt : p < s.size
      · have hix := ix_str s hlt
        have e1 : ((p : Int) == (s.size : Int)) = false := by simp; omega
        have hL := fun W => lower_any W (s[p]'hlt)
        have ec : (((lowerP (s[p]'hlt)).toNat : Nat) : Int).toNat.toUInt8 = lowerP (s[p]'hlt) := by simp
        have hI := fun W => Any.strings_IndexByte Tryz.indexByteL ⟨#[48, 49, 50, 51, 52, 53, 54, 55, 56, 57, 97, 98, 99, 100, 101, 102]⟩ (((lowerP (s[p]'hlt)).toNat : Nat) : Int) W
        rw [ec] at hI
        change ∀ W, Calls Tryz.prog 65 _ _ (fun e w' => e = .returned (.int .i64 (hexD (s[p]'hlt))) ∧ w' = W) at hI
        have hr := hexD_range (s[p]'hlt)
        have HG : Hid (¬ hexD (s[p]'hlt) < 0 → hexF s i (k + 1) p z = hexF s i k (p + 1) (z * 16 + hexD (s[p]'hlt))) := hexF_some hlt
        have HB : Hid (hexD (s[p]'hlt) < 0 → hexF s i (k + 1) p z = (0, i, false)) := hexF_bad hlt
        generalize hexD (s[p]'hlt) = d at *
        generalize (((lowerP (s[p]'hlt)).toNat : Nat) : Int) = lc at *
        generalize (((s[p]'hlt).toNat : Nat) : Int) = cc at *
        by_cases hd : d < 0
        · go_wp2_with (first
            | (go_at_call 109; refine (hL _).mono ?_; rintro e w1 ⟨rfl, rfl⟩; clear hL)
            | (go_at_call 65; refine (hI _).mono ?_; rintro e w1 ⟨rfl, rfl⟩; clear hI)
            | fail)
          go_ret3
          refine ⟨?_, rfl⟩
          rw [← HF.out, HB.out hd]
          rfl
        · have hd' : 0 ≤ d := by omega
          go_wp2_with (first
            | (go_at_call 109; refine (hL _).mono ?_; rintro e w1 ⟨rfl, rfl⟩; clear hL)
            | (go_at_call 65; refine (hI _).mono ?_; rintro e w1 ⟨rfl, rfl⟩; clear hI)
            | fail)
          go_roundw
          case rel =>
            refine ⟨k, j + 1, p + 1, z * 16 + d, by have := HP.out; omega, by omega, by omega, by go_num, by go_num, trivial, by omega, ?_, ?_⟩
            · rw [Int.pow_succ]; omega
            · rw [← HF.out, HG.out (by omega)]
          case measure => simp [intOf]; omega
      · have e1 : ((p : Int) == (s.size : Int)) = true := by simp; omega
        go_wp2
        go_ret3
        refine ⟨?_, rfl⟩
        rw [← HF.out, hexF_none (by omega)]
        rfl

theorem go_tail (s : ByteArray) (i : Nat) (h : i < s.size) : Lib.decodeGo (s.extract i s.size) = Utf8.decode s i := by
  have hz : (s.extract i s.size).size ≠ 0 := by rw [ByteArray.size_extract]; omega
  unfold Lib.decodeGo
  rw [if_neg hz, Lib.tail_decode]
  rfl

def u8i (c : UInt8) : Int := (c.toNat : Int)

theorem u8i_beq (c : UInt8) (k : Nat) (hk : k < 256) : (u8i c == (k : Int)) = (c == UInt8.ofNat k) := by
  have h := u8_beq c (UInt8.ofNat k)
  rw [UInt8.toNat_ofNat', Nat.mod_eq_of_lt hk] at h
  exact h

theorem u8i_bd (c : UInt8) : 0 ≤ u8i c ∧ u8i c ≤ 255 := by
  have := c.toNat_lt
  unfold u8i
  omega

set_option maxRecDepth 100000 in
set_option maxHeartbeats 1000000 in
theorem readEscape_any (w : World) (s : ByteArray) (i : Nat) (hs : s.size ≤ 281474976710656) (hi : i < s.size) :
    Calls Tryz.prog 84 #[.string s, .int .i64 (i : Int)] w fun e w' => e = .returned (triV (escP s i)) ∧ w' = w := by
  by_cases hlt : i + 1 < s.size
  · have hix := ix_str s hlt
    rw [show (((i + 1 : Nat) : Int)) = (i : Int) + 1 by omega] at hix
    have e1 : ((i : Int) + 1 == (s.size : Int)) = false := by simp; omega
    have hrun : ∀ W, (Instr.index 9 (.string s) (.int .i64 ((i : Int) + 1))).run Tryz.prog W = .ok (.int .u8 (u8i (s[i + 1]'hlt))) W := hix
    have HE : Hid (s.data.toList[i + 1]? = some (s[i + 1]'hlt)) := get_lt s hlt
    clear hix
    generalize s[i + 1]'hlt = c at *
    by_cases h34 : c = 34
    · subst h34
      have hrun2 : ∀ W, (Instr.index 9 (.string s) (.int .i64 ((i : Int) + 1))).run Tryz.prog W = .ok (.int .u8 34) W := hrun
      clear hrun
      go_enter Tryz.func84, Tryz.ntmps84
      go_wp2
      go_ret3
      refine ⟨?_, rfl⟩
      unfold escP
      rw [HE.out]
      rfl
    by_cases h92 : c = 92
    · subst h92
      have hrun2 : ∀ W, (Instr.index 9 (.string s) (.int .i64 ((i : Int) + 1))).run Tryz.prog W = .ok (.int .u8 92) W := hrun
      clear hrun
      go_enter Tryz.func84, Tryz.ntmps84
      go_wp2
      go_ret3
      refine ⟨?_, rfl⟩
      unfold escP
      rw [HE.out]
      rfl
    by_cases h47 : c = 47
    · subst h47
      have hrun2 : ∀ W, (Instr.index 9 (.string s) (.int .i64 ((i : Int) + 1))).run Tryz.prog W = .ok (.int .u8 47) W := hrun
      clear hrun
      go_enter Tryz.func84, Tryz.ntmps84
      go_wp2
      go_ret3
      refine ⟨?_, rfl⟩
      unfold escP
      rw [HE.out]
      rfl
    by_cases h98 : c = 98
    · subst h98
      have hrun2 : ∀ W, (Instr.index 9 (.string s) (.int .i64 ((i : Int) + 1))).run Tryz.prog W = .ok (.int .u8 98) W := hrun
      clear hrun
      go_enter Tryz.func84, Tryz.ntmps84
      go_wp2
      go_ret3
      refine ⟨?_, rfl⟩
      unfold escP
      rw [HE.out]
      rfl
    by_cases h102 : c = 102
    · subst h102
      have hrun2 : ∀ W, (Instr.index 9 (.string s) (.int .i64 ((i : Int) + 1))).run Tryz.prog W = .ok (.int .u8 102) W := hrun
      clear hrun
      go_enter Tryz.func84, Tryz.ntmps84
      go_wp2
      go_ret3
      refine ⟨?_, rfl⟩
      unfold escP
      rw [HE.out]
      rfl
    by_cases h110 : c = 110
    · subst h110
      have hrun2 : ∀ W, (Instr.index 9 (.string s) (.int .i64 ((i : Int) + 1))).run Tryz.prog W = .ok (.int .u8 110) W := hrun
      clear hrun
      go_enter Tryz.func84, Tryz.ntmps84
      go_wp2
      go_ret3
      refine ⟨?_, rfl⟩
      unfold escP
      rw [HE.out]
      rfl
    by_cases h114 : c = 114
    · subst h114
      have hrun2 : ∀ W, (Instr.index 9 (.string s) (.int .i64 ((i : Int) + 1))).run Tryz.prog W = .ok (.int .u8 114) W := hrun
      clear hrun
      go_enter Tryz.func84, Tryz.ntmps84
      go_wp2
      go_ret3
      refine ⟨?_, rfl⟩
      unfold escP
      rw [HE.out]
      rfl
    by_cases h116 : c = 116
    · subst h116
      have hrun2 : ∀ W, (Instr.index 9 (.string s) (.int .i64 ((i : Int) + 1))).run Tryz.prog W = .ok (.int .u8 116) W := hrun
      clear hrun
      go_enter Tryz.func84, Tryz.ntmps84
      go_wp2
      go_ret3
      refine ⟨?_, rfl⟩
      unfold escP
      rw [HE.out]
      rfl
    by_cases h117 : c = 117
    · subst h117
      have hrun2 : ∀ W, (Instr.index 9 (.string s) (.int .i64 ((i : Int) + 1))).run Tryz.prog W = .ok (.int .u8 117) W := hrun
      clear hrun
      have hH := fun W => readHex_any W s i hs (by omega)
      have HX : Hid (escP s i = hexF s i 4 (i + 2) 0) := by
        unfold escP
        rw [HE.out]
        rfl
      unfold triV at hH
      generalize hexF s i 4 (i + 2) 0 = r at *
      go_enter Tryz.func84, Tryz.ntmps84
      go_wp2_with (first
        | (go_at_call 100; refine (hH _).mono ?_; rintro e w1 ⟨rfl, rfl⟩; clear hH)
        | fail)
      go_ret3
      refine ⟨?_, rfl⟩
      rw [HX.out]
      rfl
    have hx : ∀ (k : Nat), k < 256 → c ≠ UInt8.ofNat k → (u8i c == (k : Int)) = false := fun k hk hne => by
      rw [u8i_beq c k hk]
      simpa using hne
    have b34 : (u8i c == 34) = false := hx 34 (by decide) h34
    have b92 : (u8i c == 92) = false := hx 92 (by decide) h92
    have b47 : (u8i c == 47) = false := hx 47 (by decide) h47
    have b98 : (u8i c == 98) = false := hx 98 (by decide) h98
    have b102 : (u8i c == 102) = false := hx 102 (by decide) h102
    have b110 : (u8i c == 110) = false := hx 110 (by decide) h110
    have b114 : (u8i c == 114) = false := hx 114 (by decide) h114
    have b116 : (u8i c == 116) = false := hx 116 (by decide) h116
    have b117 : (u8i c == 117) = false := hx 117 (by decide) h117
    have HD : Hid (escP s i = (0, i, false)) := by
      show escP s i = _
      unfold escP
      rw [HE.out]
      simp only [h34, h92, h47, h98, h102, h110, h114, h116, h117, or_self, if_false]
    clear hx h34 h92 h47 h98 h102 h110 h114 h116 h117
    generalize u8i c = u at *
    go_enter Tryz.func84, Tryz.ntmps84
    go_wp2
    go_ret3
    refine ⟨?_, rfl⟩
    rw [HD.out]
    rfl
  · have e1 : ((i : Int) + 1 == (s.size : Int)) = true := by simp; omega
    unfold escP
    rw [get_ge s (by omega)]
    go_enter Tryz.func84, Tryz.ntmps84
    go_wp2
    go_ret3
    exact ⟨rfl, rfl⟩

set_option maxRecDepth 100000 in
set_option maxHeartbeats 1000000 in
theorem readCharacter_any (w : World) (s : ByteArray) (i : Nat) (hs : s.size ≤ 281474976710656) (hi : i ≤ s.size) (T : Utf8At w) :
    Calls Tryz.prog 66 #[.string s, .int .i64 (i : Int)] w fun e w' => e = .returned (triV (charP s i)) ∧ Kept (fun _ => False) w w' := by
  by_cases hlt : i < s.size
  · have hix := ix_str s hlt
    have e1 : ((i : Int) == (s.size : Int)) = false := by simp; omega
    have hrun : ∀ W, (Instr.index 9 (.string s) (.int .i64 (i : Int))).run Tryz.prog W = .ok (.int .u8 (u8i (s[i]'hlt))) W := hix
    have HE : Hid (s.data.toList[i]? = some (s[i]'hlt)) := get_lt s hlt
    have HU : Hid (u8i (s[i]'hlt) = ((s[i]'hlt).toNat : Int)) := rfl
    clear hix
    generalize s[i]'hlt = c at *
    by_cases hsm : c.toNat < 32
    · have e2 : u8i c < 32 := by rw [HU.out]; omega
      have HX : Hid (charP s i = (0, i, false)) := by
        show charP s i = _
        unfold charP
        rw [HE.out]
        simp only [hsm, if_true]
      generalize u8i c = u at *
      go_enter Tryz.func66, Tryz.ntmps66
      go_wp2
      go_ret3
      refine ⟨?_, Kept.refl _ _⟩
      rw [HX.out]
      rfl
    · have e2 : ¬ u8i c < 32 := by rw [HU.out]; omega
      by_cases h92 : c = 92
      · subst h92
        have hrun2 : ∀ W, (Instr.index 9 (.string s) (.int .i64 (i : Int))).run Tryz.prog W = .ok (.int .u8 92) W := hrun
        have hH := fun W => readEscape_any W s i hs hlt
        have HX : Hid (charP s i = escP s i) := by
          unfold charP
          rw [HE.out]
          rfl
        clear hrun e2
        unfold triV at hH
        generalize escP s i = r at *
        go_enter Tryz.func66, Tryz.ntmps66
        go_wp2_with (first
          | (go_at_call 84; refine (hH _).mono ?_; rintro e w1 ⟨rfl, rfl⟩; clear hH)
          | fail)
        go_ret3
        refine ⟨?_, Kept.refl _ _⟩
        rw [HX.out]
        rfl
      · have e3 : (u8i c == 92) = false := by
          refine (u8i_beq c 92 (by decide)).trans ?_
          simpa using h92
        have hD := Any.utf8_DecodeRuneInString Tryz.decodeL (s.extract i s.size) w T
        rw [go_tail s i hlt] at hD
        change Calls Tryz.prog 55 _ _ _ at hD
        have hp := dec_pos s hlt
        have hl := dec_le s hlt
        have HX : Hid (charP s i = if (Utf8.decode s i).1 = 65533 ∧ (Utf8.decode s i).2 = 1 then (0, i, false) else (((Utf8.decode s i).1 : Int), i + (Utf8.decode s i).2, true)) := by
          show charP s i = _
          unfold charP
          rw [HE.out]
          simp only [hsm, h92, if_false]
        generalize (Utf8.decode s i).1 = r at *
        generalize (Utf8.decode s i).2 = z at *
        clear hsm h92 HU HE
        generalize u8i c = u at *
        have f0 : (i : Int) ≤ (s.size : Int) := by omega
        obtain ⟨hl1, hl2⟩ := hl
        by_cases hr : r = 65533
        · by_cases hz : z = 1
          · subst hr hz
            go_enter Tryz.func66, Tryz.ntmps66
            go_wp2_with (first
              | (go_at_call 55; refine hD.mono ?_; rintro e w1 ⟨rfl, K1⟩; clear hD)
              | fail)
            go_ret3
            refine ⟨?_, ⟨K1.os, K1.tape, K1.output, K1.size, fun k hk _ => K1.block k hk⟩⟩
            rw [HX.out]
            rfl
          · subst hr
            have f1 : ((z : Int) == 1) = false := by simp; omega
            go_enter Tryz.func66, Tryz.ntmps66
            go_wp2_with (first
              | (go_at_call 55; refine hD.mono ?_; rintro e w1 ⟨rfl, K1⟩; clear hD)
              | fail)
            go_ret3
            refine ⟨?_, ⟨K1.os, K1.tape, K1.output, K1.size, fun k hk _ => K1.block k hk⟩⟩
            rw [HX.out, if_neg (fun h => hz h.2)]
            rfl
        · have f1 : ((r : Int) == 65533) = false := by simp; omega
          go_enter Tryz.func66, Tryz.ntmps66
          go_wp2_with (first
            | (go_at_call 55; refine hD.mono ?_; rintro e w1 ⟨rfl, K1⟩; clear hD)
            | fail)
          go_ret3
          refine ⟨?_, ⟨K1.os, K1.tape, K1.output, K1.size, fun k hk _ => K1.block k hk⟩⟩
          rw [HX.out, if_neg (fun h => hr h.1)]
          rfl
  · obtain rfl : i = s.size := by omega
    have HX : Hid (charP s s.size = (0, s.size, false)) := by
      show charP s s.size = _
      unfold charP
      rw [get_ge s (Nat.le_refl _)]
    go_enter Tryz.func66, Tryz.ntmps66
    go_wp2
    go_ret3
    refine ⟨?_, Kept.refl _ _⟩
    rw [HX.out]
    rfl

end Go.Proofs.YtfiaaaflpjpnjaaGreatDoor
