/-
  FrontSpoilt, walked: of a body none of its beginnings is a body, but with blanks alone cut off.
-/
import Derived.Test.YtfogkbdbncfleaaGreatDoorFSpoP
import Derived.Test.YtfogkbdbncfleaaGreatDoorFObjW
import Derived.Test.YtfogkbdbncfleaaGreatDoorFWakes
namespace Go.Proofs.YtfogkbdbncfleaaGreatDoor
open Go.ChangeShapes Go.WideShapes Go.ChangeAt Go.RowKit Go.Deep

theorem obj_no (w : World) (t : ByteArray) (hs : t.size ≤ 1000000000000) (T : Utf8At w) (h : (objP t).2.2 ≠ 0) :
    Calls Tryz.prog 8 #[.string t] w fun e w' => ∃ a c, e = .returned (.tuple #[.slice a 0 c, .int .i64 ((objP t).2.1 : Int), .int .i64 (objP t).2.2]) ∧ Kept (fun _ => False) w w' := by
  refine (object_any w t hs T).mono fun e w' h1 => ?_
  obtain ⟨v, he, a, c, rfl, _, K⟩ := h1
  rw [objP_list t h] at he
  exact ⟨a, c, he, K⟩

theorem robj_no (w : World) (t : ByteArray) (hs : t.size ≤ 1000000000000) (h : (objP t).2.2 ≠ 0) :
    Calls Tryz.prog 9 #[.string t] w fun e w' => ∃ a c, e = .returned (.tuple #[.slice a 0 c, .int .i64 ((objP t).2.1 : Int), .int .i64 (objP t).2.2]) ∧ Kept (fun _ => False) w w' := by
  refine (robj_any w t hs).mono fun e w' h1 => ?_
  obtain ⟨v, he, a, c, rfl, _, K⟩ := h1
  rw [objP_list t h] at he
  exact ⟨a, c, he, K⟩

theorem byte_ne (c : UInt8) : (((c.toNat : Nat) : Int) != 125) = !(c == 125) := by
  by_cases h : c = 125
  · subst h; rfl
  · have h1 : ((c.toNat : Nat) : Int) ≠ 125 := fun e => h (by
      have : c.toNat = (125 : UInt8).toNat := by
        have h2 : (125 : UInt8).toNat = 125 := rfl
        omega
      exact UInt8.toNat_inj.1 this)
    rw [bne_iff_ne.2 h1, beq_eq_false_iff_ne.2 h]
    rfl

set_option maxRecDepth 100000 in
set_option maxHeartbeats 4000000 in
theorem frontSpoilt_walk (w : World) (s : ByteArray) (T : Utf8At w) (M : MaxAt w) :
    Calls Tryz.prog 6 #[.string s] w fun e w' => e = .returned (.bool true) ∧ Below w.heap.size w w' := by
  have HT := hid T
  have HM := hid M
  by_cases hs : s.size ≤ 200
  · have hO := object_any w s (by omega) T
    have HJ : Hid (∀ (k j : Nat), k ≤ j → ∀ hj : j < s.size, (s[j]'hj) = 125 → (objP s).2.2 = 0 → (objP (s.extract 0 k)).2.2 ≠ 0) := fun k j h1 h2 h3 h4 => spoilt_not s k j h1 h2 h3 h4
    unfold ObjPost at hO
    have e0 : ¬ (s.size : Int) > 200 := by omega
    clear T M
    by_cases hz : (objP s).2.2 = 0
    · have HZ := hid hz
      rw [hz] at hO
      generalize (objP s).1 = ps at *
      generalize (objP s).2.1 = pl at *
      clear hz
      have e1 : ((0 : Int) != 0) = false := rfl
      go_enter Tryz.func6, Tryz.ntmps6
      go_wp2_with (first
        | (go_at_call 8; refine hO.mono ?_; rintro e w1 ⟨v, rfl, a, c, rfl, _, K1⟩; clear hO)
        | fail)
      go_loopw [6] (fun i wr => ∃ (n : Nat), n ≤ s.size ∧ i = .int .i64 (n : Int) ∧ Kept (fun _ => False) w wr) (fun i _ => (intOf i).toNat)
      case atStart => exact ⟨s.size, Nat.le_refl _, rfl, K1⟩
      case round =>
        clear K1
        obtain ⟨n, hn, rfl, K⟩ := hrel
        have HK := hid K
        clear K
        rcases Nat.eq_zero_or_pos n with h0 | h0
        · subst h0
          have e2 : ¬ (((0 : Nat) : Int) > 0) := by decide
          have HS : Hid (∀ k, k < 0 → (objP (s.extract 0 k)).2.2 ≠ 0) := fun k h => absurd h (Nat.not_lt_zero k)
          clear HJ HZ
          go_wp2
          go_loopw [7] (fun i wr2 => ∃ (k : Nat), k ≤ 0 ∧ i = .int .i64 (k : Int) ∧ Kept (fun _ => False) w wr2) (fun i _ => 0 - (intOf i).toNat)
          case atStart => exact ⟨0, Nat.zero_le _, rfl, HK.out⟩
          case round =>
            obtain ⟨k, hk, rfl, K2⟩ := hrel
            have HK2 := hid K2
            by_cases hlt : k < 0
            · exact absurd hlt (Nat.not_lt_zero _)
            · have g1 : ¬ (k : Int) < ((0 : Nat) : Int) := by omega
              have hWk := wakes_any wr (HT.out.kept K2) (HM.out.kept K2)
              clear K2
              go_wp2_with (first
                | (go_at_call 19; refine hWk.mono ?_; rintro e w5 ⟨rfl, K5⟩; clear hWk)
                | fail)
              go_ret
              exact ⟨rfl, (HK2.out.and K5).below (Nat.le_refl _) (fun i h => h.elim)⟩
        · obtain ⟨m, hm, hcast, hml, hle⟩ : ∃ m, m < s.size ∧ (n : Int) - 1 = (m : Int) ∧ m < n ∧ n ≤ m + 1 := ⟨n - 1, by omega, by omega, by omega, by omega⟩
          have hix := ix_str s hm
          have hb := byte_ne (s[m]'hm)
          have e2 : (n : Int) > 0 := by omega
          cases hc : ((s[m]'hm) == 125) with
          | true =>
            have HS : Hid (∀ k, k < n → (objP (s.extract 0 k)).2.2 ≠ 0) := fun k h => HJ.out k m (by omega) hm (by simpa using hc) HZ.out
            rw [hc] at hb
            clear HJ HZ hc
            generalize (((s[m]'hm).toNat : Nat) : Int) = x at *
            go_wp2
            go_loopw [7] (fun i wr2 => ∃ (k : Nat), k ≤ n ∧ i = .int .i64 (k : Int) ∧ Kept (fun _ => False) w wr2) (fun i _ => n - (intOf i).toNat)
            case atStart => exact ⟨0, Nat.zero_le _, rfl, HK.out⟩
            case round =>
              obtain ⟨k, hk, rfl, K2⟩ := hrel
              have HK2 := hid K2
              by_cases hlt : k < n
              · have g1 : (k : Int) < (n : Int) := by omega
                have g2 : (k : Int) ≤ (s.size : Int) := by omega
                have hne := HS.out k hlt
                have hsz : (s.extract 0 k).size ≤ 1000000000000 := by rw [ByteArray.size_extract]; omega
                have hA := obj_no wr (s.extract 0 k) hsz (HT.out.kept K2) hne
                have HB := hid (fun V => robj_no V (s.extract 0 k) hsz hne)
                have f0 : ((objP (s.extract 0 k)).2.2 == 0) = false := by simpa using hne
                clear hne hsz K2
                generalize (objP (s.extract 0 k)).2.2 = f at *
                generalize (((objP (s.extract 0 k)).2.1 : Nat) : Int) = q at *
                have f1 : (f != f) = false := by simp
                have f2 : (q != q) = false := by simp
                go_wp2_with (first
                  | (go_at_call 8; refine hA.mono ?_; rintro e w3 ⟨a3, c3, rfl, K3⟩; clear hA; have HK3 := hid (HK2.out.and K3); clear K3)
                  | (go_at_call 9; refine (HB.out _).mono ?_; rintro e w4 ⟨a4, c4, rfl, K4⟩; have HK4 := hid (HK3.out.and K4); clear K4)
                  | fail)
                go_roundw
                case rel => exact ⟨k + 1, by omega, by go_num, HK4.out⟩
                case measure => simp [intOf]; omega
              · have g1 : ¬ (k : Int) < (n : Int) := by omega
                have hWk := wakes_any wr (HT.out.kept K2) (HM.out.kept K2)
                clear K2
                go_wp2_with (first
                  | (go_at_call 19; refine hWk.mono ?_; rintro e w5 ⟨rfl, K5⟩; clear hWk)
                  | fail)
                go_ret
                exact ⟨rfl, (HK2.out.and K5).below (Nat.le_refl _) (fun i h => h.elim)⟩
          | false =>
            rw [hc] at hb
            clear HJ HZ hc
            generalize (((s[m]'hm).toNat : Nat) : Int) = x at *
            go_wp2
            go_roundw
            case rel => exact ⟨m, by omega, by go_num, HK.out⟩
            case measure => simp [intOf]; omega
    · have e1 : ((objP s).2.2 != 0) = true := by simpa using hz
      clear HJ
      generalize (objP s).1 = ps at *
      generalize (objP s).2.1 = pl at *
      generalize (objP s).2.2 = cd at *
      clear hz
      go_enter Tryz.func6, Tryz.ntmps6
      go_wp2_with (first
        | (go_at_call 8; refine hO.mono ?_; rintro e w1 ⟨v, rfl, a, c, rfl, _, K1⟩; clear hO; have hWk := wakes_any w1 (HT.out.kept K1) (HM.out.kept K1))
        | (go_at_call 19; refine hWk.mono ?_; rintro e w2 ⟨rfl, K2⟩; clear hWk)
        | fail)
      go_ret
      exact ⟨rfl, (K1.and K2).below (Nat.le_refl _) (fun i h => h.elim)⟩
  · have e0 : (s.size : Int) > 200 := by omega
    have hWk := wakes_any w T M
    clear T M
    go_enter Tryz.func6, Tryz.ntmps6
    go_wp2_with (first
      | (go_at_call 19; refine hWk.mono ?_; rintro e w2 ⟨rfl, K2⟩; clear hWk)
      | fail)
    go_ret
    exact ⟨rfl, K2.below (Nat.le_refl _) (fun i h => h.elim)⟩

end Go.Proofs.YtfogkbdbncfleaaGreatDoor
