/-
  The document's numbers in digits: text, signed.
-/
import Derived.Test.YtjfgjmiedmpieaaDoorRHost
namespace Go.Proofs.YtjfgjmiedmpieaaDoor
open Go.RowKit Go.Sort

theorem byte_st (w : World) (d : Nat) (hd : d < 10) : (convert 79 9 (.slice (some ⟨w.heap.size, 0, none⟩) 1 1)).run Tryd.prog (w.alloc (.cells #[.int .u8 (48 + (d : Int))] 5)) = .ok (.string (bs [UInt8.ofNat (48 + d)])) (w.alloc (.cells #[.int .u8 (48 + (d : Int))] 5)) := by
  have h := BytesAt.str (w := w.alloc (.cells #[.int .u8 (48 + (d : Int))] 5)) (a := some ⟨w.heap.size, 0, none⟩) (m := 1) (c := 1) (b := [48 + (d : Int)]) ⟨rfl, Nat.le_refl _, fun h => (by cases h), fun ad h => (by cases h; exact World.news_of_block (heap_alloc_new w _)), fun y hy => by simp at hy; omega⟩
  rw [h]
  have e : (48 + (d : Int)).toNat = 48 + d := by omega
  show Result.ok (Value.string ⟨#[UInt8.ofNat (48 + (d : Int)).toNat]⟩) _ = _
  rw [e]
  rfl

theorem dec_le : ∀ (k u : Nat), u < 10 ^ (k + 1) → (Lib.decDigits u).length ≤ k + 1
  | 0, u, h => by rw [Lib.decDigits, dif_pos (by simpa using h)]; simp
  | k + 1, u, h => by
    rw [Lib.decDigits]
    split
    · simp
    · have := dec_le k (u / 10) (by rw [Nat.pow_succ] at h; omega)
      rw [List.length_append]
      simp only [List.length_cons, List.length_nil]
      omega

theorem dec_lt {u : Nat} (h : u ≤ 9223372036854775808) : (Lib.decDigits u).length ≤ 19 := dec_le 18 u (by omega)

theorem dec_small {v : Nat} (h : v < 10) : Lib.decDigits v = [UInt8.ofNat (48 + v % 10)] := by rw [Lib.decDigits, dif_pos h, Nat.mod_eq_of_lt h]
theorem dec_big {v : Nat} (h : ¬ v < 10) : Lib.decDigits v = Lib.decDigits (v / 10) ++ [UInt8.ofNat (48 + v % 10)] := by
  conv => lhs; rw [Lib.decDigits, dif_neg h]

theorem ret_str {a b : ByteArray} (h : a = b) : Ending.returned (.string a) = .returned (.string b) := by rw [h]

set_option maxRecDepth 100000 in
set_option maxHeartbeats 2000000 in
theorem text_any (w : World) (u : Nat) (hu : u < 9223372036854775808) :
    Calls Tryd.prog 24 #[.int .i64 (u : Int)] w fun e w' => e = .returned (.string (bs (Lib.decDigits u))) ∧ Kept (fun _ => False) w w' := by
  have HL : Hid ((Lib.decDigits u).length ≤ 19) := dec_lt (by omega)
  go_enter Tryd.func24, Tryd.ntmps24
  go_wp2
  go_loopw [0, 3] (fun n s wr => ∃ (v : Nat) (t : List UInt8), v ≤ u ∧ n = .int .i64 (v : Int) ∧ s = .string (bs t) ∧ Lib.decDigits u = Lib.decDigits v ++ t ∧ Kept (fun _ => False) w wr) (fun n _ _ => (intOf n).toNat)
  case atStart => exact ⟨u, [], Nat.le_refl _, rfl, rfl, by simp, Kept.refl _ _⟩
  case round =>
    obtain ⟨v, t, hv, rfl, rfl, hd, K⟩ := hrel
    have hdl : v % 10 < 10 := Nat.mod_lt _ (by decide)
    have e1 : (v : Int).tmod 10 = ((v % 10 : Nat) : Int) := by rw [Int.tmod_eq_emod_of_nonneg (by omega)]; omega
    have e2 : (v : Int).tdiv 10 = ((v / 10 : Nat) : Int) := by rw [Int.tdiv_eq_ediv_of_nonneg (by omega)]; omega
    have hq : v / 10 ≤ v := Nat.div_le_self _ _
    have htl : t.length ≤ 19 := by
      have := HL.out
      rw [hd, List.length_append] at this
      omega
    have C := fun W => run_cat W [UInt8.ofNat (48 + v % 10)] t (by simp; omega)
    have S := byte_st wr (v % 10) hdl
    have HD : Hid (Lib.decDigits u = Lib.decDigits v ++ t) := hd
    obtain ⟨s2, hs2⟩ : ∃ s2, bs ([UInt8.ofNat (48 + v % 10)] ++ t) = s2 := ⟨_, rfl⟩
    have HS2 : Hid (bs ([UInt8.ofNat (48 + v % 10)] ++ t) = s2) := hs2
    by_cases h10 : v < 10
    · have hz : v / 10 = 0 := by omega
      have HR : Hid ([UInt8.ofNat (48 + v % 10)] ++ t = Lib.decDigits u) := by show _ = _; rw [HD.out, dec_small h10]
      rw [hz] at e2
      rw [hs2] at C
      generalize bs [UInt8.ofNat (48 + v % 10)] = s1 at *
      clear hd hz hs2
      generalize v % 10 = d at *
      have hw : IntKind.u8.wrap (48 + (d : Int)) = 48 + (d : Int) := by rw [IntKind.wrap_u8]; omega
      go_wp2
      go_ret
      exact ⟨ret_str (by rw [← HR.out, HS2.out]), K.and (Kept.alloc _ _ _)⟩
    · have hz : ((v / 10 : Nat) : Int) ≠ 0 := by omega
      have hz2 : (((v / 10 : Nat) : Int) == 0) = false := by simp; omega
      have HR : Hid (Lib.decDigits u = Lib.decDigits (v / 10) ++ ([UInt8.ofNat (48 + v % 10)] ++ t)) := by show _ = _; rw [HD.out, dec_big h10, List.append_assoc]
      have hqv : v / 10 < v := by omega
      rw [hs2] at C
      generalize bs [UInt8.ofNat (48 + v % 10)] = s1 at *
      clear hd hs2
      generalize v / 10 = q at *
      generalize v % 10 = d at *
      have hw : IntKind.u8.wrap (48 + (d : Int)) = 48 + (d : Int) := by rw [IntKind.wrap_u8]; omega
      go_wp2
      go_roundw
      case rel => exact ⟨q, [UInt8.ofNat (48 + d)] ++ t, by omega, rfl, by rw [HS2.out], HR.out, K.and (Kept.alloc _ _ _)⟩
      case measure => simp [intOf]; omega

set_option maxRecDepth 100000 in
set_option maxHeartbeats 2000000 in
theorem signed_any (w : World) (n : Int) (hlo : -9223372036854775808 ≤ n) (hhi : n ≤ 9223372036854775807) :
    Calls Tryd.prog 33 #[.int .i64 n] w fun e w' => e = .returned (.string (bs (Lib.itoa n))) ∧ Kept (fun _ => False) w w' := by
  by_cases h0 : 0 ≤ n
  · obtain ⟨u, rfl⟩ := Int.eq_ofNat_of_zero_le h0
    have T := text_any w u (by omega)
    have e : Lib.itoa (u : Int) = Lib.decDigits u := by unfold Lib.itoa; rw [if_neg (by omega)]; rfl
    rw [e]
    generalize bs (Lib.decDigits u) = s at *
    go_enter Tryd.func33, Tryd.ntmps33
    go_wp2_with (first
      | (go_at_call 24; refine T.mono ?_; rintro e w1 ⟨rfl, K1⟩)
      | fail)
    go_ret
    exact ⟨rfl, K1⟩
  · obtain ⟨u, rfl⟩ : ∃ u : Nat, n = -(u : Int) := ⟨n.natAbs, by omega⟩
    have HI : Hid (Lib.itoa (-(u : Int)) = 45 :: Lib.decDigits u) := by
      show _ = _
      unfold Lib.itoa
      rw [if_pos (by omega)]
      congr 2
      omega
    have HL : Hid ((Lib.decDigits u).length ≤ 19) := dec_lt (by omega)
    have g0 : ¬ (0 : Int) ≤ -(u : Int) := h0
    have hu : 1 ≤ u ∧ u ≤ 9223372036854775808 := by omega
    clear hlo hhi h0
    go_enter Tryd.func33, Tryd.ntmps33
    go_wp2
    go_loopw [0, 3] (fun n s wr => ∃ (v : Nat) (t : List UInt8), v ≤ u ∧ n = .int .i64 (-(v : Int)) ∧ s = .string (bs t) ∧ Lib.decDigits u = Lib.decDigits v ++ t ∧ Kept (fun _ => False) w wr) (fun n _ _ => (-(intOf n)).toNat)
    case atStart => exact ⟨u, [], Nat.le_refl _, rfl, rfl, by simp, Kept.refl _ _⟩
    case round =>
      obtain ⟨v, t, hv, rfl, rfl, hd, K⟩ := hrel
      have hdl : v % 10 < 10 := Nat.mod_lt _ (by decide)
      have e1 : (-(v : Int)).tmod 10 = -((v % 10 : Nat) : Int) := by rw [Int.neg_tmod, Int.tmod_eq_emod_of_nonneg (by omega)]; omega
      have e2 : (-(v : Int)).tdiv 10 = -((v / 10 : Nat) : Int) := by rw [Int.neg_tdiv, Int.tdiv_eq_ediv_of_nonneg (by omega)]; omega
      have hq : v / 10 ≤ v := Nat.div_le_self _ _
      have htl : t.length ≤ 19 := by
        have := HL.out
        rw [hd, List.length_append] at this
        omega
      have C := fun W => run_cat W [UInt8.ofNat (48 + v % 10)] t (by simp; omega)
      have C2 := fun W => run_cat W [45] ([UInt8.ofNat (48 + v % 10)] ++ t) (by simp; omega)
      have S := byte_st wr (v % 10) hdl
      have HD : Hid (Lib.decDigits u = Lib.decDigits v ++ t) := hd
      obtain ⟨s2, hs2⟩ : ∃ s2, bs ([UInt8.ofNat (48 + v % 10)] ++ t) = s2 := ⟨_, rfl⟩
      have HS2 : Hid (bs ([UInt8.ofNat (48 + v % 10)] ++ t) = s2) := hs2
      rw [hs2] at C C2
      change ∀ W, (Op.stringOp .add ⟨#[45]⟩ s2).run Tryd.prog W = _ at C2
      by_cases h10 : v < 10
      · have hz : v / 10 = 0 := by omega
        have HR : Hid ([45] ++ ([UInt8.ofNat (48 + v % 10)] ++ t) = Lib.itoa (-(u : Int))) := by show _ = _; rw [HI.out, HD.out, dec_small h10]; rfl
        have HS3 : Hid (bs ([45] ++ ([UInt8.ofNat (48 + v % 10)] ++ t)) = bs (Lib.itoa (-(u : Int)))) := by show _ = _; rw [HR.out]
        rw [hz] at e2
        generalize bs ([45] ++ ([UInt8.ofNat (48 + v % 10)] ++ t)) = s3 at *
        generalize bs [UInt8.ofNat (48 + v % 10)] = s1 at *
        clear hd hz hs2
        generalize v % 10 = d at *
        have hw : IntKind.u8.wrap (48 + (d : Int)) = 48 + (d : Int) := by rw [IntKind.wrap_u8]; omega
        go_wp2
        go_ret
        exact ⟨ret_str HS3.out, K.and (Kept.alloc _ _ _)⟩
      · have hz2 : ((-((v / 10 : Nat) : Int)) == 0) = false := by simp; omega
        have HR : Hid (Lib.decDigits u = Lib.decDigits (v / 10) ++ ([UInt8.ofNat (48 + v % 10)] ++ t)) := by show _ = _; rw [HD.out, dec_big h10, List.append_assoc]
        have hqv : v / 10 < v := by omega
        generalize bs [UInt8.ofNat (48 + v % 10)] = s1 at *
        clear hd hs2 C2
        generalize v / 10 = q at *
        generalize v % 10 = d at *
        have hw : IntKind.u8.wrap (48 + (d : Int)) = 48 + (d : Int) := by rw [IntKind.wrap_u8]; omega
        go_wp2
        go_roundw
        case rel => exact ⟨q, [UInt8.ofNat (48 + d)] ++ t, by omega, rfl, by rw [HS2.out], HR.out, K.and (Kept.alloc _ _ _)⟩
        case measure => simp [intOf]; omega

end Go.Proofs.YtjfgjmiedmpieaaDoor
