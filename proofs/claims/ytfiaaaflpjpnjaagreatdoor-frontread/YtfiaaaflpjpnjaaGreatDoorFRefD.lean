/-
  The document's Digits: a number in digits.
-/
import Derived.Test.YtfiaaaflpjpnjaaGreatDoorFBld
import Derived.Lib.ItoaNum
namespace Go.Proofs.YtfiaaaflpjpnjaaGreatDoor
open Go.RowKit

theorem byte_s1 (w : World) (x : Int) (hx : 0 ≤ x ∧ x ≤ 255) : (convert 23 9 (.slice (some ⟨w.heap.size, 0, none⟩) 1 1)).run Tryz.prog (w.alloc (.cells #[.int .u8 x] 5)) = .ok (.string (strOfNums [x])) (w.alloc (.cells #[.int .u8 x] 5)) :=
  BytesAt.str (b := [x]) ⟨rfl, Nat.le_refl _, fun h => (by cases h), fun ad h => (by cases h; exact World.news_of_block (heap_alloc_new w _)), fun y hy => by simp at hy; omega⟩

theorem dec_step {u : Nat} (h : ¬ u < 10) : Lib.decDigits u = Lib.decDigits (u / 10) ++ [UInt8.ofNat (48 + u % 10)] := by
  conv => lhs; rw [Lib.decDigits, dif_neg h]

theorem dec_last {u : Nat} (h : u < 10) : Lib.decDigits u = [UInt8.ofNat (48 + u % 10)] := by
  rw [Lib.decDigits, dif_pos h, Nat.mod_eq_of_lt h]

theorem digs_le (k : Nat) : ∀ u : Nat, u < 10 ^ (k + 1) → (Lib.decDigits u).length ≤ k + 1 := by
  induction k with
  | zero => intro u h; rw [dec_last (by simpa using h)]; simp
  | succ k ih =>
    intro u h
    by_cases h10 : u < 10
    · rw [dec_last h10]; simp
    · rw [dec_step h10, List.length_append]
      have := ih (u / 10) (by rw [Nat.pow_succ] at h; omega)
      simp only [List.length_singleton]
      omega

theorem dig_nums : ∀ d : Nat, d < 10 → strOfNums [48 + (d : Int)] = mkB [UInt8.ofNat (48 + d)] := by
  have h : ∀ k : Fin 10, strOfNums [48 + ((k.1 : Nat) : Int)] = mkB [UInt8.ofNat (48 + k.1)] := by decide +kernel
  exact fun d hd => h ⟨d, hd⟩

theorem cons_cat (c : UInt8) (t : List UInt8) : mkB [c] ++ mkB t = mkB (c :: t) := by
  apply ByteArray.ext
  rw [ByteArray.data_append]
  show #[c] ++ t.toArray = (c :: t).toArray
  simp

theorem run_cons (W : World) (c : UInt8) (t : List UInt8) (h : t.length ≤ 1000000) : (Op.stringOp .add (mkB [c]) (mkB t)).run Tryz.prog W = .ok (.string (mkB (c :: t))) W := by
  unfold Op.stringOp
  dsimp only
  rw [if_neg (by rw [mkB_size, mkB_size]; simp [IntKind.max, IntKind.signed, IntKind.bits]; omega), cons_cat]
  rfl

set_option maxRecDepth 100000 in
set_option maxHeartbeats 2000000 in
theorem digits_pos (w : World) (u : Nat) (hu : u ≤ 9223372036854775807) :
    Calls Tryz.prog 12 #[.int .i64 (u : Int)] w fun e w' => e = .returned (.string (mkB (Lib.decDigits u))) ∧ Kept (fun _ => False) w w' := by
  have hlen := digs_le 18 u (by omega)
  have f0 : ¬ (u : Int) < 0 := by omega
  go_enter Tryz.func12, Tryz.ntmps12
  go_wp2
  go_loopw [0, 3] (fun x s wr => ∃ (v : Nat) (t : List UInt8), v ≤ u ∧ x = .int .i64 (v : Int) ∧ s = .string (mkB t) ∧ Lib.decDigits u = Lib.decDigits v ++ t ∧ Kept (fun _ => False) w wr) (fun x _ _ => (intOf x).natAbs)
  case atStart => exact ⟨u, [], Nat.le_refl _, rfl, rfl, (by rw [List.append_nil]), Kept.refl _ _⟩
  case round =>
    obtain ⟨v, t, hv, rfl, rfl, hd, K⟩ := hrel
    have HD := hid hd
    have HK := hid K
    have htl : t.length ≤ 19 := by
      have := congrArg List.length hd
      rw [List.length_append] at this
      omega
    have hm : Int.tmod (v : Int) 10 = ((v % 10 : Nat) : Int) := by rw [Int.tmod_eq_emod_of_nonneg (by omega)]; omega
    have hq : Int.tdiv (v : Int) 10 = ((v / 10 : Nat) : Int) := by rw [Int.tdiv_eq_ediv_of_nonneg (by omega)]; omega
    have hb : ∀ W : World, (convert 23 9 (.slice (some ⟨W.heap.size, 0, none⟩) 1 1)).run Tryz.prog (W.alloc (.cells #[.int .u8 (48 + ((v % 10 : Nat) : Int))] 5)) = .ok (.string (mkB [UInt8.ofNat (48 + v % 10)])) (W.alloc (.cells #[.int .u8 (48 + ((v % 10 : Nat) : Int))] 5)) := fun W => by
      rw [byte_s1 W _ (by omega), dig_nums _ (by omega)]
    have hc := fun W => run_cons W (UInt8.ofNat (48 + v % 10)) t (by omega)
    have hd9 : ((v % 10 : Nat) : Int) ≤ 9 := by omega
    have hd0 : (0 : Int) ≤ ((v % 10 : Nat) : Int) := by omega
    have HM : Hid (¬ v < 10 → Lib.decDigits v = Lib.decDigits (v / 10) ++ [UInt8.ofNat (48 + v % 10)]) := dec_step
    have HL : Hid (v < 10 → Lib.decDigits v = [UInt8.ofNat (48 + v % 10)]) := dec_last
    have hvb : (v : Int) ≤ 9223372036854775808 := by omega
    clear hd K
    by_cases h10 : v < 10
    · have hz : v / 10 = 0 := by omega
      rw [hz] at hq
      have HX : Hid (Lib.decDigits u = UInt8.ofNat (48 + v % 10) :: t) := by
        show Lib.decDigits u = _
        rw [HD.out, HL.out h10]
        rfl
      generalize ((v % 10 : Nat) : Int) = dd at *
      generalize UInt8.ofNat (48 + v % 10) = dc at *
      go_wp2
      go_ret
      refine ⟨?_, HK.out.and (Kept.alloc _ _ _)⟩
      rw [HX.out]
      rfl
    · have hnz : ((((v / 10 : Nat) : Int)) == 0) = false := by rw [beq_eq_false_iff_ne]; omega
      have HX : Hid (Lib.decDigits u = Lib.decDigits (v / 10) ++ (UInt8.ofNat (48 + v % 10) :: t)) := by
        show Lib.decDigits u = _
        rw [HD.out, HM.out h10, List.append_assoc]
        rfl
      generalize ((v % 10 : Nat) : Int) = dd at *
      generalize UInt8.ofNat (48 + v % 10) = dc at *
      go_wp2
      go_roundw
      case rel => exact ⟨v / 10, dc :: t, by omega, by go_num, rfl, HX.out, HK.out.and (Kept.alloc _ _ _)⟩
      case measure => simp [intOf]; omega

set_option maxRecDepth 100000 in
set_option maxHeartbeats 2000000 in
theorem digits_neg (w : World) (u : Nat) (hu : 1 ≤ u ∧ u ≤ 9223372036854775808) :
    Calls Tryz.prog 12 #[.int .i64 (-(u : Int))] w fun e w' => e = .returned (.string (mkB (45 :: Lib.decDigits u))) ∧ Kept (fun _ => False) w w' := by
  have hlen := digs_le 18 u (by omega)
  have f0 : -(u : Int) < 0 := by omega
  go_enter Tryz.func12, Tryz.ntmps12
  go_wp2
  go_loopw [0, 3] (fun x s wr => ∃ (v : Nat) (t : List UInt8), v ≤ u ∧ x = .int .i64 (-(v : Int)) ∧ s = .string (mkB t) ∧ Lib.decDigits u = Lib.decDigits v ++ t ∧ Kept (fun _ => False) w wr) (fun x _ _ => (intOf x).natAbs)
  case atStart => exact ⟨u, [], Nat.le_refl _, rfl, rfl, (by rw [List.append_nil]), Kept.refl _ _⟩
  case round =>
    obtain ⟨v, t, hv, rfl, rfl, hd, K⟩ := hrel
    have HD := hid hd
    have HK := hid K
    have htl : t.length ≤ 19 := by
      have := congrArg List.length hd
      rw [List.length_append] at this
      omega
    have hm : Int.tmod (-(v : Int)) 10 = -((v % 10 : Nat) : Int) := by rw [Int.neg_tmod, Int.tmod_eq_emod_of_nonneg (by omega)]; omega
    have hq : Int.tdiv (-(v : Int)) 10 = -((v / 10 : Nat) : Int) := by rw [Int.neg_tdiv, Int.tdiv_eq_ediv_of_nonneg (by omega)]; omega
    have hb : ∀ W : World, (convert 23 9 (.slice (some ⟨W.heap.size, 0, none⟩) 1 1)).run Tryz.prog (W.alloc (.cells #[.int .u8 (48 + ((v % 10 : Nat) : Int))] 5)) = .ok (.string (mkB [UInt8.ofNat (48 + v % 10)])) (W.alloc (.cells #[.int .u8 (48 + ((v % 10 : Nat) : Int))] 5)) := fun W => by
      rw [byte_s1 W _ (by omega), dig_nums _ (by omega)]
    have hc := fun W => run_cons W (UInt8.ofNat (48 + v % 10)) t (by omega)
    have hd9 : ((v % 10 : Nat) : Int) ≤ 9 := by omega
    have hd0 : (0 : Int) ≤ ((v % 10 : Nat) : Int) := by omega
    have HM : Hid (¬ v < 10 → Lib.decDigits v = Lib.decDigits (v / 10) ++ [UInt8.ofNat (48 + v % 10)]) := dec_step
    have HL : Hid (v < 10 → Lib.decDigits v = [UInt8.ofNat (48 + v % 10)]) := dec_last
    have hvb : (v : Int) ≤ 9223372036854775808 := by omega
    clear hd K
    by_cases h10 : v < 10
    · have hz : v / 10 = 0 := by omega
      rw [hz] at hq
      have HX : Hid (Lib.decDigits u = UInt8.ofNat (48 + v % 10) :: t) := by
        show Lib.decDigits u = _
        rw [HD.out, HL.out h10]
        rfl
      generalize ((v % 10 : Nat) : Int) = dd at *
      generalize UInt8.ofNat (48 + v % 10) = dc at *
      have hc2 : ∀ W, (Op.stringOp .add ⟨#[45]⟩ (mkB (dc :: t))).run Tryz.prog W = .ok (.string (mkB (45 :: dc :: t))) W := fun W => run_cons W 45 (dc :: t) (by simp; omega)
      go_wp2
      go_ret
      refine ⟨?_, HK.out.and (Kept.alloc _ _ _)⟩
      rw [HX.out]
      rfl
    · have hnz : ((-((v / 10 : Nat) : Int)) == 0) = false := by rw [beq_eq_false_iff_ne]; omega
      have HX : Hid (Lib.decDigits u = Lib.decDigits (v / 10) ++ (UInt8.ofNat (48 + v % 10) :: t)) := by
        show Lib.decDigits u = _
        rw [HD.out, HM.out h10, List.append_assoc]
        rfl
      generalize ((v % 10 : Nat) : Int) = dd at *
      generalize UInt8.ofNat (48 + v % 10) = dc at *
      go_wp2
      go_roundw
      case rel => exact ⟨v / 10, dc :: t, by omega, by go_num, rfl, HX.out, HK.out.and (Kept.alloc _ _ _)⟩
      case measure => simp [intOf]; omega

theorem digits_any (w : World) (n : Int) (h0 : -9223372036854775808 ≤ n) (h1 : n ≤ 9223372036854775807) :
    Calls Tryz.prog 12 #[.int .i64 n] w fun e w' => e = .returned (.string (mkB (Lib.itoa n))) ∧ Kept (fun _ => False) w w' := by
  by_cases hn : n < 0
  · obtain ⟨u, rfl⟩ : ∃ u : Nat, n = -(u : Int) := ⟨n.natAbs, by omega⟩
    have h := digits_neg w u ⟨by omega, by omega⟩
    rwa [show 45 :: Lib.decDigits u = Lib.itoa (-(u : Int)) by unfold Lib.itoa; rw [if_pos hn]; simp] at h
  · obtain ⟨u, rfl⟩ : ∃ u : Nat, n = (u : Int) := ⟨n.toNat, by omega⟩
    have h := digits_pos w u (by omega)
    rwa [show Lib.decDigits u = Lib.itoa (u : Int) by unfold Lib.itoa; rw [if_neg hn]; simp] at h

end Go.Proofs.YtfiaaaflpjpnjaaGreatDoor
