/-
  Unframe.
-/
import Derived.Test.YtchdmlckicipcaaCFrame
import Derived.Test.YtchdmlckicipcaaCRec
namespace Go.Proofs.Ytchdmlckicipcaa
open Go.RowKit

theorem or4 {x0 x1 x2 x3 : Int} (a0 : 0 ≤ x0) (b0 : x0 ≤ 255) (a1 : 0 ≤ x1) (b1 : x1 ≤ 255) (a2 : 0 ≤ x2) (b2 : x2 ≤ 255) (a3 : 0 ≤ x3) (b3 : x3 ≤ 255) :
    bits .or .u32 (bits .or .u32 (bits .or .u32 (x0 * 16777216) (x1 * 65536)) (x2 * 256)) x3 = valB [x0, x1, x2, x3] := by
  have hk : ∀ n : Int, 0 ≤ n → n < 2 ^ 32 → IntKind.u32.wrap n = n := fun n h0 h1 => by rw [IntKind.wrap_u32]; omega
  rw [bits_join .u32 32 (by decide) hk 24 (x0 * 16777216) (x1 * 65536) (by omega) (by omega) (by omega) (by omega) (by omega) (by omega)]
  rw [bits_join .u32 32 (by decide) hk 16 (x0 * 16777216 + x1 * 65536) (x2 * 256) (by omega) (by omega) (by omega) (by omega) (by omega) (by omega)]
  rw [bits_join .u32 32 (by decide) hk 8 (x0 * 16777216 + x1 * 65536 + x2 * 256) x3 (by omega) (by omega) (by omega) (by omega) (by omega) (by omega)]
  simp only [valB, List.foldl_cons, List.foldl_nil]
  omega

theorem take4 {raw : List Int} {i : Nat} (h : i + 4 ≤ raw.length) : (raw.drop i).take 4 = [raw.getD i 0, raw.getD (i + 1) 0, raw.getD (i + 2) 0, raw.getD (i + 3) 0] := by
  apply List.ext_getElem?
  intro j
  rw [List.getElem?_take]
  have e : ∀ k, i + k < raw.length → raw[i + k]? = some (raw.getD (i + k) 0) := fun k hk => by rw [List.getD_eq_getElem?_getD, List.getElem?_eq_getElem hk]; rfl
  match j with
  | 0 => simp only [List.getElem?_drop]; rw [if_pos (by decide), e 0 (by omega)]; rfl
  | 1 => simp only [List.getElem?_drop]; rw [if_pos (by decide), e 1 (by omega)]; rfl
  | 2 => simp only [List.getElem?_drop]; rw [if_pos (by decide), e 2 (by omega)]; rfl
  | 3 => simp only [List.getElem?_drop]; rw [if_pos (by decide), e 3 (by omega)]; rfl
  | j + 4 => rw [if_neg (by omega)]; rfl

set_option maxRecDepth 100000 in
set_option maxHeartbeats 400000 in
theorem wordAt_any (w : World) (a : Option Addr) (m c : Nat) (raw : List Int) (B : BytesAt w a m c raw) (i : Nat) (hi : i + 4 ≤ m) (hm : m ≤ 140737488355328) :
    Calls Try.prog 17 #[.slice a m c, .int .i64 i] w fun e w' => e = .returned (.int .u32 (valB ((raw.drop i).take 4))) ∧ Kept (fun _ => False) w w' := by
  have hlen := B.len
  obtain ⟨ba, oa, rfl, hc⟩ := B.at (j := i) (by omega)
  have y0 := hc i (by omega)
  have y1 := hc (i + 1) (by omega)
  have y2 := hc (i + 2) (by omega)
  have y3 := hc (i + 3) (by omega)
  have d0 := Bs.getD B.byte i
  have d1 := Bs.getD B.byte (i + 1)
  have d2 := Bs.getD B.byte (i + 2)
  have d3 := Bs.getD B.byte (i + 3)
  have HO := or4 d0.1 d0.2 d1.1 d1.2 d2.1 d2.2 d3.1 d3.2
  rw [← take4 (by omega)] at HO
  have HH : Hid _ := HO
  generalize raw.getD i 0 = x0 at *
  generalize raw.getD (i + 1) 0 = x1 at *
  generalize raw.getD (i + 2) 0 = x2 at *
  generalize raw.getD (i + 3) 0 = x3 at *
  have g0 : (i : Int) < (m : Int) := by omega
  have g1 : (i : Int) + 1 < (m : Int) := by omega
  have g2 : (i : Int) + 2 < (m : Int) := by omega
  have g3 : (i : Int) + 3 < (m : Int) := by omega
  have t1 : ((i : Int) + 1).toNat = i + 1 := by omega
  have t2 : ((i : Int) + 2).toNat = i + 2 := by omega
  have t3 : ((i : Int) + 3).toNat = i + 3 := by omega
  clear hc B HO hlen
  go_enter Try.func17, Try.ntmps17
  go_wp2_with fail
  go_quiet (fail)
  go_wp2
  go_ret
  exact ⟨ret_int HH.out, Kept.drewN _ _ _⟩

theorem lend_k1' (w w1 : World) (h : (w.alloc (.cells #[] 5)).grownBy w1 (Value.slice (some ⟨w.heap.size, 0, none⟩) 0 0).ownBlock) : Kept (fun _ => False) w w1 :=
  (Kept.alloc _ w _).trans (Kept.grown (S := fun k => w.heap.size ≤ k) h (fun _ e => Nat.le_of_eq (Option.some.inj e))) (fun _ h => .inr h)

set_option maxRecDepth 100000 in
set_option maxHeartbeats 400000 in
/-- Bytes are cloned. -/
theorem cloneB (w : World) (a : Option Addr) (m c : Nat) (b : List Int) (B : BytesAt w a m c b) (hm : m ≤ 1099511627776) :
    Calls Try.prog 18 #[.slice a m c] w fun e w' => ∃ a' c', e = .returned (.slice a' m c') ∧ w'.ownsRow w.heap.size 5 1 (.slice a' m c') m (b.map (Value.int .u8)) ∧ Kept (fun _ => False) w w' := by
  obtain ⟨i0, hi, hz0, hz1, hz2⟩ := info_parts Try.info5
  have hq : ∀ (a : Option Addr) (n c : Nat) w, (binOp .eql 23 (.slice a n c) (.slice none 0 0)).run Try.prog w = .ok (.bool a.isNone) w := fun a n c w => Lib.run_eql_slice_nil w _ _ a n c 0 0 Try.underlying23
  cases a with
  | none =>
    have hm0 := B.nil rfl
    subst hm0
    obtain rfl : b = [] := List.eq_nil_of_length_eq_zero B.len
    go_enter Try.func18, Try.ntmps18
    go_wp2
    go_ret
    exact ⟨none, 0, rfl, World.ownsRow_nil _ _ _ _, Kept.refl _ _⟩
  | some ad =>
    have hown := ownsRow_empty w w.heap.size 5 1 (Nat.le_refl _)
    have src := (B.kept (Kept.alloc (fun _ => False) w (.cells #[] 5)) (fun _ _ _ h => h)).src
    go_enter Try.func18, Try.ntmps18
    go_wp2_with (first
      | (at_builtin; refine wpList_append_src _ rfl _ _ 23 rfl w.heap.size 5 i0 (.int .u8 0) 1 1 Try.underlying23 hi hz0 hz1 hz2 rfl (by decide) (.slice (some ⟨w.heap.size, 0, none⟩) 0 0) 0 [] rfl hown _ rfl m _ src (oneCells _) (by unfold maxLen; omega) (by omega) (by simp) ?_; intro a1 c1 w1 ho1 hg1 _ _; simp only [Nat.zero_add, List.nil_append] at ho1 ⊢)
      | fail)
    go_ret
    exact ⟨a1, c1, rfl, ho1, lend_k1' w w1 hg1⟩

set_option maxRecDepth 100000 in
set_option maxHeartbeats 1000000 in
theorem unfr_mid (w : World) (b o m c : Nat) (raw : List Int) (B : BytesAt w (some ⟨b, o, none⟩) m c raw) (hm8 : 8 ≤ m) (hm : m ≤ 70368744177664) (n : Nat) (hn : valB ((raw.drop 0).take 4) = (n : Int)) (hn1 : n ≤ 1048576) (hn2 : 8 + n ≤ m) (hc8 : c ≠ 8) :
    Calls Try.prog 7 #[.slice (some ⟨b, o, none⟩) m c] w fun e w' =>
      IfP ((crc ((raw.drop 8).take n) : Int) = valB ((raw.drop 4).take 4))
        ((∃ a' c', e = .returned (.tuple #[.slice a' n c', .int .i64 (8 + (n : Int)), .int .i64 0]) ∧ w'.ownsRow w.heap.size 5 1 (.slice a' n c') n (((raw.drop 8).take n).map (Value.int .u8))) ∧ Kept (fun _ => False) w w')
        (e = .returned (.tuple #[.slice none 0 0, .int .i64 0, .int .i64 2]) ∧ Kept (fun _ => False) w w') := by
  have hcap := B.cap
  have hw0 := wordAt_any w _ m c raw B 0 (by omega) (by omega)
  rw [hn] at hw0
  have HB : Hid (∀ w', Kept (fun _ => False) w w' → BytesAt w' (some ⟨b, o, none⟩) m c raw) := fun w' K => B.kept K (fun _ _ _ h => h)
  have HP : Hid (∀ w', Kept (fun _ => False) w w' → BytesAt w' (some ⟨b, o + 8, none⟩) n (c - 8) ((raw.drop 8).take n)) := fun w' K => (HB.out w' K).piece hn2 _ (.inl rfl) _ (by omega)
  have hS0 : ∀ w', Kept (fun _ => False) w w' → Calls Try.prog 14 #[.slice (some ⟨b, o + 8, none⟩) n (c - 8)] w' fun e w'' => e = .returned (.int .u32 (crc ((raw.drop 8).take n))) ∧ w'' = w' := fun w' K => sum_any w' _ n _ _ (HP.out w' K) (by omega)
  have hW4 : ∀ w', Kept (fun _ => False) w w' → Calls Try.prog 17 #[.slice (some ⟨b, o, none⟩) m c, .int .i64 4] w' fun e w'' => e = .returned (.int .u32 (valB ((raw.drop 4).take 4))) ∧ Kept (fun _ => False) w' w'' := fun w' K => wordAt_any w' _ m c raw (HB.out w' K) 4 (by omega) (by omega)
  have hC : ∀ w', Kept (fun _ => False) w w' → _ := fun w' K => cloneB w' _ n (c - 8) _ (HP.out w' K) (by omega)
  have q1 : (8 : Int) ≤ (m : Int) := by omega
  have q2 : (n : Int) ≤ 1048576 := by omega
  have q3 : (n : Int) ≤ (m : Int) - 8 := by omega
  have q4 : (8 : Int) + n ≤ (c : Int) := by omega
  have q5 : 8 + n ≤ c := by omega
  have q6 : 8 ≤ 8 + n := by omega
  have q7 : ((8 : Int) + n).toNat = 8 + n := by omega
  clear hn B
  by_cases hcr : (crc ((raw.drop 8).take n) : Int) = valB ((raw.drop 4).take 4)
  · generalize valB ((raw.drop 4).take 4) = v4 at *
    generalize crc ((raw.drop 8).take n) = cr at *
    have hne : ((cr : Int) != v4) = false := by simpa using hcr
    go_enter Try.func7, Try.ntmps7
    go_wp2_with (first
      | (go_at_call 17; have _t := hw0; refine hw0.mono ?_; rintro e w1 ⟨rfl, K1⟩; have hS := hS0 w1 K1; have hW := hW4 w1 K1; clear hw0 _t hS0 hW4)
      | (go_at_call 14; refine hS.mono ?_; rintro e ws ⟨rfl, hws⟩; subst ws; clear hS)
      | (go_at_call 17; refine hW.mono ?_; rintro e w2 ⟨rfl, K2⟩; have K12 := K1.and K2; have hC2 := hC w2 K12; clear hW hC)
      | (go_at_call 18; refine hC2.mono ?_; rintro e w3 ⟨a3, c3, rfl, ho3, K3⟩; clear hC2)
      | fail)
    all_goals
      go_ret3
      exact .yes hcr ⟨⟨_, _, rfl, ownsRow_mono ho3 K12.size⟩, K12.and K3⟩
  · generalize valB ((raw.drop 4).take 4) = v4 at *
    generalize crc ((raw.drop 8).take n) = cr at *
    have hne : ((cr : Int) != v4) = true := by simpa using hcr
    clear hC
    go_enter Try.func7, Try.ntmps7
    go_wp2_with (first
      | (go_at_call 17; have _t := hw0; refine hw0.mono ?_; rintro e w1 ⟨rfl, K1⟩; have hS := hS0 w1 K1; have hW := hW4 w1 K1; clear hw0 _t hS0 hW4)
      | (go_at_call 14; refine hS.mono ?_; rintro e ws ⟨rfl, hws⟩; subst ws; clear hS)
      | (go_at_call 17; refine hW.mono ?_; rintro e w2 ⟨rfl, K2⟩; have K12 := K1.and K2; clear hW)
      | fail)
    all_goals
      go_ret3
      exact .no hcr ⟨rfl, K12⟩

set_option maxRecDepth 100000 in
set_option maxHeartbeats 1000000 in
theorem unfr_eight (w : World) (b o : Nat) (raw : List Int) (B : BytesAt w (some ⟨b, o, none⟩) 8 8 raw) (hn : valB ((raw.drop 0).take 4) = 0) :
    Calls Try.prog 7 #[.slice (some ⟨b, o, none⟩) 8 8] w fun e w' =>
      IfP ((crc [] : Int) = valB ((raw.drop 4).take 4))
        ((∃ a' c', e = .returned (.tuple #[.slice a' 0 c', .int .i64 8, .int .i64 0]) ∧ w'.ownsRow w.heap.size 5 1 (.slice a' 0 c') 0 []) ∧ Kept (fun _ => False) w w')
        (e = .returned (.tuple #[.slice none 0 0, .int .i64 0, .int .i64 2]) ∧ Kept (fun _ => False) w w') := by
  have hw0 := wordAt_any w _ 8 8 raw B 0 (by omega) (by omega)
  rw [hn] at hw0
  have HB : Hid (∀ w', Kept (fun _ => False) w w' → BytesAt w' (some ⟨b, o, none⟩) 8 8 raw) := fun w' K => B.kept K (fun _ _ _ h => h)
  have HP : Hid (∀ w', BytesAt w' (some ⟨b, o, none⟩) 0 0 []) := fun w' => ⟨rfl, Nat.le_refl _, fun _ => rfl, fun ad _ j u hu => (by simp at hu), fun y hy => (by cases hy)⟩
  have hS0 : ∀ w', Calls Try.prog 14 #[.slice (some ⟨b, o, none⟩) 0 0] w' fun e w'' => e = .returned (.int .u32 (crc [])) ∧ w'' = w' := fun w' => sum_any w' _ 0 _ _ (HP.out w') (by omega)
  have hW4 : ∀ w', Kept (fun _ => False) w w' → Calls Try.prog 17 #[.slice (some ⟨b, o, none⟩) 8 8, .int .i64 4] w' fun e w'' => e = .returned (.int .u32 (valB ((raw.drop 4).take 4))) ∧ Kept (fun _ => False) w' w'' := fun w' K => wordAt_any w' _ 8 8 raw (HB.out w' K) 4 (by omega) (by omega)
  have hC : ∀ w', _ := fun w' => cloneB w' _ 0 0 _ (HP.out w') (by omega)
  clear hn B
  by_cases hcr : (crc [] : Int) = valB ((raw.drop 4).take 4)
  · generalize valB ((raw.drop 4).take 4) = v4 at *
    generalize crc [] = cr at *
    have hne : ((cr : Int) != v4) = false := by simpa using hcr
    go_enter Try.func7, Try.ntmps7
    go_wp2_with (first
      | (go_at_call 17; have _t := hw0; refine hw0.mono ?_; rintro e w1 ⟨rfl, K1⟩; have hS := hS0 w1; have hW := hW4 w1 K1; clear hw0 _t hS0 hW4)
      | (go_at_call 14; refine hS.mono ?_; rintro e ws ⟨rfl, hws⟩; subst ws; clear hS)
      | (go_at_call 17; refine hW.mono ?_; rintro e w2 ⟨rfl, K2⟩; have K12 := K1.and K2; have hC2 := hC w2; clear hW hC)
      | (go_at_call 18; refine hC2.mono ?_; rintro e w3 ⟨a3, c3, rfl, ho3, K3⟩; clear hC2)
      | fail)
    all_goals
      go_ret3
      exact .yes hcr ⟨⟨_, _, rfl, ownsRow_mono ho3 K12.size⟩, K12.and K3⟩
  · generalize valB ((raw.drop 4).take 4) = v4 at *
    generalize crc [] = cr at *
    have hne : ((cr : Int) != v4) = true := by simpa using hcr
    clear hC
    go_enter Try.func7, Try.ntmps7
    go_wp2_with (first
      | (go_at_call 17; have _t := hw0; refine hw0.mono ?_; rintro e w1 ⟨rfl, K1⟩; have hS := hS0 w1; have hW := hW4 w1 K1; clear hw0 _t hS0 hW4)
      | (go_at_call 14; refine hS.mono ?_; rintro e ws ⟨rfl, hws⟩; subst ws; clear hS)
      | (go_at_call 17; refine hW.mono ?_; rintro e w2 ⟨rfl, K2⟩; have K12 := K1.and K2; clear hW)
      | fail)
    all_goals
      go_ret3
      exact .no hcr ⟨rfl, K12⟩

set_option maxRecDepth 100000 in
set_option maxHeartbeats 400000 in
theorem unfr_short (w : World) (a : Option Addr) (m c : Nat) (h : m < 8) :
    Calls Try.prog 7 #[.slice a m c] w fun e w' => e = .returned (.tuple #[.slice none 0 0, .int .i64 0, .int .i64 2]) ∧ w' = w := by
  have h2 : (m : Int) < 8 := by omega
  go_enter Try.func7, Try.ntmps7
  go_wp2
  go_ret3
  exact ⟨rfl, rfl⟩

set_option maxRecDepth 100000 in
set_option maxHeartbeats 400000 in
theorem unfr_long (w : World) (a : Option Addr) (m c : Nat) (raw : List Int) (B : BytesAt w a m c raw) (hm8 : 8 ≤ m) (hm : m ≤ 70368744177664) (n : Nat) (hn : valB ((raw.drop 0).take 4) = (n : Int)) (hlong : 1048576 < n ∨ m < 8 + n) :
    Calls Try.prog 7 #[.slice a m c] w fun e w' => e = .returned (.tuple #[.slice none 0 0, .int .i64 0, .int .i64 2]) ∧ Kept (fun _ => False) w w' := by
  have hw0 := wordAt_any w _ m c raw B 0 (by omega) (by omega)
  rw [hn] at hw0
  have hq : n < 4294967296 := by
    have h1 := valB_bd ((raw.drop 0).take 4) (Bs.take (Bs.drop B.byte _) _)
    rw [hn] at h1
    have h2 : ((raw.drop 0).take 4).length ≤ 4 := by rw [List.length_take]; omega
    have h3 : 256 ^ ((raw.drop 0).take 4).length ≤ 256 ^ 4 := Nat.pow_le_pow_right (by decide) h2
    have h4 : (256 : Nat) ^ 4 = 4294967296 := by decide
    omega
  have q1 : (8 : Int) ≤ (m : Int) := by omega
  clear hn B
  by_cases h1 : 1048576 < n
  · have q2 : (1048576 : Int) < (n : Int) := by omega
    go_enter Try.func7, Try.ntmps7
    go_wp2_with (first
      | (go_at_call 17; refine hw0.mono ?_; rintro e w1 ⟨rfl, K1⟩; clear hw0)
      | fail)
    go_ret3
    exact ⟨rfl, K1⟩
  · have q2 : (n : Int) ≤ 1048576 := by omega
    have q3 : (m : Int) - 8 < (n : Int) := by omega
    go_enter Try.func7, Try.ntmps7
    go_wp2_with (first
      | (go_at_call 17; refine hw0.mono ?_; rintro e w1 ⟨rfl, K1⟩; clear hw0)
      | fail)
    go_ret3
    exact ⟨rfl, K1⟩

/-- The payload of the frame at the front. -/
def unfr (raw : List Int) : Option (List Int) :=
  if raw.length < 8 then none
  else if 1048576 < (valB ((raw.drop 0).take 4)).toNat ∨ raw.length < 8 + (valB ((raw.drop 0).take 4)).toNat then none
  else if (crc ((raw.drop 8).take (valB ((raw.drop 0).take 4)).toNat) : Int) = valB ((raw.drop 4).take 4) then some ((raw.drop 8).take (valB ((raw.drop 0).take 4)).toNat)
  else none

/-- What Unframe answers. -/
def UnfrPost (w w' : World) (x : Option (List Int)) (e : Ending) : Prop := match x with
  | none => e = .returned (.tuple #[.slice none 0 0, .int .i64 0, .int .i64 2])
  | some p => ∃ a' c', e = .returned (.tuple #[.slice a' p.length c', .int .i64 (8 + (p.length : Int)), .int .i64 0]) ∧ w'.ownsRow w.heap.size 5 1 (.slice a' p.length c') p.length (p.map (Value.int .u8))

theorem unframe_any (w : World) (a : Option Addr) (m c : Nat) (raw : List Int) (B : BytesAt w a m c raw) (hm : m ≤ 70368744177664) :
    Calls Try.prog 7 #[.slice a m c] w fun e w' => UnfrPost w w' (unfr raw) e ∧ Kept (fun _ => False) w w' := by
  have hlen := B.len
  have hcap := B.cap
  unfold unfr
  by_cases h1 : raw.length < 8
  · rw [if_pos h1]
    refine (unfr_short w a m c (by omega)).mono ?_
    rintro e w' ⟨rfl, rfl⟩
    exact ⟨rfl, Kept.refl _ _⟩
  rw [if_neg h1]
  have hv := valB_bd ((raw.drop 0).take 4) (Bs.take (Bs.drop B.byte _) _)
  have hn : valB ((raw.drop 0).take 4) = ((valB ((raw.drop 0).take 4)).toNat : Int) := by omega
  by_cases h2 : 1048576 < (valB ((raw.drop 0).take 4)).toNat ∨ raw.length < 8 + (valB ((raw.drop 0).take 4)).toNat
  · rw [if_pos h2]
    refine (unfr_long w a m c raw B (by omega) hm _ hn (by omega)).mono ?_
    rintro e w' ⟨rfl, K⟩
    exact ⟨rfl, K⟩
  rw [if_neg h2]
  obtain ⟨b, o, rfl, _⟩ := B.at (j := 0) (by omega)
  by_cases hc8 : c = 8
  · have hm8 : m = 8 := by omega
    subst hc8
    subst hm8
    have hn0 : (valB ((raw.drop 0).take 4)).toNat = 0 := by omega
    rw [hn0] at hn ⊢
    refine (unfr_eight w b o raw B hn).mono ?_
    intro e w' h
    by_cases h3 : (crc ((raw.drop 8).take 0) : Int) = valB ((raw.drop 4).take 4)
    · rw [if_pos h3]
      obtain ⟨⟨a', c', he, ho⟩, K⟩ := h.1 h3
      exact ⟨⟨a', c', he, ho⟩, K⟩
    · rw [if_neg h3]
      exact h.2 h3
  · refine (unfr_mid w b o m c raw B (by omega) hm _ hn (by omega) (by omega) hc8).mono ?_
    intro e w' h
    have hl : ((raw.drop 8).take (valB ((raw.drop 0).take 4)).toNat).length = (valB ((raw.drop 0).take 4)).toNat := by rw [List.length_take, List.length_drop]; omega
    by_cases h3 : (crc ((raw.drop 8).take (valB ((raw.drop 0).take 4)).toNat) : Int) = valB ((raw.drop 4).take 4)
    · rw [if_pos h3]
      obtain ⟨⟨a', c', he, ho⟩, K⟩ := h.1 h3
      exact ⟨⟨a', c', by rw [hl]; exact he, by rw [hl]; exact ho⟩, K⟩
    · rw [if_neg h3]
      exact h.2 h3

end Go.Proofs.Ytchdmlckicipcaa
