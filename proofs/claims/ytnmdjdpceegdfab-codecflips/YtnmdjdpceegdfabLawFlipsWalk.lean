/-
  The walk of CodecFlips.
-/
import Derived.Test.YtnmdjdpceegdfabLawFlips
namespace Go.Proofs.Ytnmdjdpceegdfab
open Go.ChangeShapes Go.WideShapes Go.ChangeAt Go.RowKit

theorem xor_u8 (x y : Int) (h0 : 0 ≤ x) (h1 : x ≤ 255) (k0 : 0 ≤ y) (k1 : y ≤ 255) : 0 ≤ bits .xor .u8 x y ∧ bits .xor .u8 x y ≤ 255 ∧ (y = 0 → bits .xor .u8 x y = x) ∧ (y ≠ 0 → bits .xor .u8 x y ≠ x) := by
  obtain ⟨a, rfl⟩ := Int.eq_ofNat_of_zero_le h0
  obtain ⟨b, rfl⟩ := Int.eq_ofNat_of_zero_le k0
  have hx : a ^^^ b < 2 ^ 8 := Nat.xor_lt_two_pow (by omega) (by omega)
  have e1 : (BitVec.ofInt 8 (a : Int)).toNat = a := by
    rw [BitVec.ofInt_natCast, BitVec.toNat_ofNat]; exact Nat.mod_eq_of_lt (by omega)
  have e2 : (BitVec.ofInt 8 (b : Int)).toNat = b := by
    rw [BitVec.ofInt_natCast, BitVec.toNat_ofNat]; exact Nat.mod_eq_of_lt (by omega)
  have e : bits .xor .u8 (a : Int) (b : Int) = ((a ^^^ b : Nat) : Int) := by
    show IntKind.u8.wrap ((BitVec.ofInt 8 (a : Int) ^^^ BitVec.ofInt 8 (b : Int)).toNat : Int) = _
    rw [BitVec.toNat_xor, e1, e2, IntKind.wrap_u8]
    omega
  rw [e]
  refine ⟨by omega, by omega, fun h => ?_, fun h h2 => ?_⟩
  · have : b = 0 := by omega
    rw [this, Nat.xor_zero]
  · have h3 : a ^^^ b = a := by omega
    have h4 := congrArg (a ^^^ ·) h3
    simp only [← Nat.xor_assoc, Nat.xor_self, Nat.zero_xor] at h4
    omega

/-- The frame, one byte of it changed. -/
theorem flip_row {w : World} {base g c n k : Nat} {l : List Int} {y : Int} (ho : w.ownsRow base 5 1 (.slice (some ⟨g, 0, none⟩) n c) n (l.map (Value.int .u8))) (hl : l.length = n) (hb : Bs l) (h0 : 0 ≤ y) (h1 : y ≤ 255) :
    BytesAt (w.setCell ⟨g, k, none⟩ (.int .u8 y)) (some ⟨g, 0, none⟩) n c (l.set k y) := by
  have h2 := ownsRow_set ho (k := k) (.int .u8 y)
  rw [← List.map_set] at h2
  have hbs : Bs (l.set k y) := by
    intro z hz
    rcases List.mem_or_eq_of_mem_set hz with hm | rfl
    · exact hb z hm
    · exact ⟨h0, h1⟩
  have h3 : (w.setCell ⟨g, k, none⟩ (.int .u8 y)).ownsRow base 5 1 (.slice (some ⟨g, 0, none⟩) (l.set k y).length c) (l.set k y).length ((l.set k y).map (Value.int .u8)) := by
    rw [List.length_set, hl]; exact h2
  have h4 := BytesAt.ofRow h3 hbs
  rw [List.length_set, hl] at h4
  exact h4

set_option maxRecDepth 100000 in
set_option maxHeartbeats 4000000 in
theorem flips_walk (a : Option Addr) (len cap : Nat) (zs : List Int) (at_ by_ : Int) (w : World) (hr : IsRow .u8 w a len cap zs) (_ : isI64 at_) (hby : (Lit.int .u8 by_).wf = true) :
    Calls Try.prog 5 #[.slice a len cap, .int .i64 at_, .int .u8 by_] w fun e w' => e = .returned (.bool true) ∧ Below w.heap.size w w' := by
  obtain ⟨hb0, hb1⟩ := u8_bd hby
  have hcap := hr.bytes.cap
  by_cases hlen : 300 < len
  · have B := (hr.bytes).take (h := 300) (by omega)
    have hl1 : (300 : Int) < (len : Int) := by omega
    have hc1 : (300 : Int) ≤ (cap : Int) := by omega
    generalize (zs.take len).take 300 = ps at *
    clear hr
    have hF := frame_any w a 300 cap ps B (by omega)
    have hps : ps.length = 300 := B.len
    have HB : Hid (∀ w', Kept (fun _ => False) w w' → BytesAt w' a 300 cap ps) := fun w' K => B.kept K (fun _ _ _ h => h)
    have hpb : Bs ps := B.byte
    have hfl : (frameB ps).length = 8 + 300 := by rw [frameB_length, hps]
    have hfb := frameB_bs hpb
    have kk0 := Int.emod_nonneg at_ (by omega : (8 + (300 : Int)) ≠ 0)
    have kk1 := Int.emod_lt_of_pos at_ (by omega : (0 : Int) < 8 + (300 : Int))
    have hW : ∀ W, Calls Try.prog 19 #[.int .i64 at_, .int .i64 (8 + (300 : Int))] W fun e w' => e = .returned (.int .i64 (at_ % (8 + (300 : Int)))) ∧ w' = W := fun W => within_any W at_ (8 + (300 : Int)) (by omega) (by omega)
    obtain ⟨k, hk⟩ := Int.eq_ofNat_of_zero_le kk0
    rw [hk] at hW kk1
    have hkn : k < 8 + 300 := by omega
    have hget : ((frameB ps).map (Value.int .u8))[k]? = some (.int .u8 ((frameB ps).getD k 0)) := by
      rw [List.getElem?_map, List.getD_eq_getElem?_getD, List.getElem?_eq_getElem (by omega)]; rfl
    have hxb := hfb.getD k
    have hy := xor_u8 ((frameB ps).getD k 0) by_ hxb.1 hxb.2 hb0 hb1
    obtain ⟨yy, hyy⟩ : ∃ yy, bits .xor .u8 ((frameB ps).getD k 0) by_ = yy := ⟨_, rfl⟩
    rw [hyy] at hy
    have q1 : (k : Int) < 8 + (300 : Int) := by omega
    have q2 : ((8 + (300 : Int)) != (300 : Int) + 8) = false := by first | (simp; done) | (simp; omega)
    clear hk kk0 kk1 B
    by_cases hb : by_ = 0
    · subst hb
      have hyx : yy = (frameB ps).getD k 0 := hy.2.2.1 rfl
      have hsame : (frameB ps).set k yy = frameB ps := by
        rw [hyx, List.getD_eq_getElem?_getD, List.getElem?_eq_getElem (by omega)]
        exact List.set_getElem_self _
      have hun : unfr ((frameB ps).set k yy) = some ps := by rw [hsame]; exact unfr_frame ps hpb (by omega)
      clear hsame
      subst hyx
      go_enter Try.func5, Try.ntmps5
      go_wp2_with (first
        | (go_at_call 13; refine hF.mono ?_; rintro e w1 ⟨af, cf, rfl, ho1, K1⟩; obtain ⟨g, cc, eg, hg1, hg2⟩ := ho1.form (by omega); simp only [Value.slice.injEq] at eg; obtain ⟨rfl, _, rfl⟩ := eg; obtain ⟨x1, x2⟩ := ownsRow_get ho1 (k := k) (u := .int .u8 ((frameB ps).getD k 0)) hget; have BF := flip_row (k := k) ho1 hfl hfb hy.1 hy.2.1; have KF : Kept (fun _ => False) w (w1.setCell ⟨g, k, none⟩ (.int .u8 ((frameB ps).getD k 0))) := K1.trans (Kept.setCell (S := fun k => k = g) _ _ _ rfl) (fun k h => .inr (by have : k = g := h; omega)); generalize hxx : (frameB ps).getD k 0 = xx at *; have HO1 : Hid _ := ho1; clear hF ho1 hget)
        | (go_at_call 19; refine (hW _).mono ?_; rintro e wz ⟨rfl, hwz⟩; subst wz)
        | (go_at_call 15; refine (unframe_any _ _ _ _ _ BF (by omega)).mono ?_; rintro e w3 ⟨hU, K3⟩; have K13 := KF.and K3; rw [hun] at hU; obtain ⟨a3, c3, rfl, ho3⟩ := hU; have s1 := (BytesAt.ofRow ho3 hpb).str; have s2 := (HB.out w3 K13).str; simp only [hps] at s1 ⊢; clear hun)
        | (go_at_call 12; refine (wakes_any _).mono ?_; rintro e w4 ⟨rfl, K4⟩; have KE := K13.and K4)
        | fail)
      all_goals
        go_ret
        exact ⟨rfl, KE.none⟩
    · have hyx : yy ≠ (frameB ps).getD k 0 := hy.2.2.2 hb
      have hbe : (by_ == 0) = false := by simpa using hb
      by_cases hk4 : k < 4
      · have q4 : (k : Int) < 4 := by omega
        clear hyx
        cases hun : unfr ((frameB ps).set k yy) with
        | none =>
          go_enter Try.func5, Try.ntmps5
          go_wp2_with (first
            | (go_at_call 13; refine hF.mono ?_; rintro e w1 ⟨af, cf, rfl, ho1, K1⟩; obtain ⟨g, cc, eg, hg1, hg2⟩ := ho1.form (by omega); simp only [Value.slice.injEq] at eg; obtain ⟨rfl, _, rfl⟩ := eg; obtain ⟨x1, x2⟩ := ownsRow_get ho1 (k := k) (u := .int .u8 ((frameB ps).getD k 0)) hget; have BF := flip_row (k := k) ho1 hfl hfb hy.1 hy.2.1; have KF : Kept (fun _ => False) w (w1.setCell ⟨g, k, none⟩ (.int .u8 yy)) := K1.trans (Kept.setCell (S := fun k => k = g) _ _ _ rfl) (fun k h => .inr (by have : k = g := h; omega)); generalize hxx : (frameB ps).getD k 0 = xx at *; have HO1 : Hid _ := ho1; clear hF ho1 hget)
            | (go_at_call 19; refine (hW _).mono ?_; rintro e wz ⟨rfl, hwz⟩; subst wz)
            | (go_at_call 15; refine (unframe_any _ _ _ _ _ BF (by omega)).mono ?_; rintro e w3 ⟨hU, K3⟩; have K13 := KF.and K3; rw [hun] at hU; obtain rfl := hU; clear hun)
            | (go_at_call 12; refine (wakes_any _).mono ?_; rintro e w4 ⟨rfl, K4⟩; have KE := K13.and K4)
            | fail)
          all_goals
            go_ret
            exact ⟨rfl, KE.none⟩
        | some pq =>
          go_enter Try.func5, Try.ntmps5
          go_wp2_with (first
            | (go_at_call 13; refine hF.mono ?_; rintro e w1 ⟨af, cf, rfl, ho1, K1⟩; obtain ⟨g, cc, eg, hg1, hg2⟩ := ho1.form (by omega); simp only [Value.slice.injEq] at eg; obtain ⟨rfl, _, rfl⟩ := eg; obtain ⟨x1, x2⟩ := ownsRow_get ho1 (k := k) (u := .int .u8 ((frameB ps).getD k 0)) hget; have BF := flip_row (k := k) ho1 hfl hfb hy.1 hy.2.1; have KF : Kept (fun _ => False) w (w1.setCell ⟨g, k, none⟩ (.int .u8 yy)) := K1.trans (Kept.setCell (S := fun k => k = g) _ _ _ rfl) (fun k h => .inr (by have : k = g := h; omega)); generalize hxx : (frameB ps).getD k 0 = xx at *; have HO1 : Hid _ := ho1; clear hF ho1 hget)
            | (go_at_call 19; refine (hW _).mono ?_; rintro e wz ⟨rfl, hwz⟩; subst wz)
            | (go_at_call 15; refine (unframe_any _ _ _ _ _ BF (by omega)).mono ?_; rintro e w3 ⟨hU, K3⟩; have K13 := KF.and K3; rw [hun] at hU; obtain ⟨a3, c3, rfl, ho3⟩ := hU; clear hun)
            | (go_at_call 12; refine (wakes_any _).mono ?_; rintro e w4 ⟨rfl, K4⟩; have KE := K13.and K4)
            | fail)
          all_goals
            go_ret
            exact ⟨rfl, KE.none⟩
      · have q4 : ¬ (k : Int) < 4 := by omega
        have hun : unfr ((frameB ps).set k yy) = none := unfr_flip ps hpb (by omega) k (by omega) (by omega) yy hy.1 hy.2.1 hyx
        clear hyx
        go_enter Try.func5, Try.ntmps5
        go_wp2_with (first
          | (go_at_call 13; refine hF.mono ?_; rintro e w1 ⟨af, cf, rfl, ho1, K1⟩; obtain ⟨g, cc, eg, hg1, hg2⟩ := ho1.form (by omega); simp only [Value.slice.injEq] at eg; obtain ⟨rfl, _, rfl⟩ := eg; obtain ⟨x1, x2⟩ := ownsRow_get ho1 (k := k) (u := .int .u8 ((frameB ps).getD k 0)) hget; have BF := flip_row (k := k) ho1 hfl hfb hy.1 hy.2.1; have KF : Kept (fun _ => False) w (w1.setCell ⟨g, k, none⟩ (.int .u8 yy)) := K1.trans (Kept.setCell (S := fun k => k = g) _ _ _ rfl) (fun k h => .inr (by have : k = g := h; omega)); generalize hxx : (frameB ps).getD k 0 = xx at *; have HO1 : Hid _ := ho1; clear hF ho1 hget)
          | (go_at_call 19; refine (hW _).mono ?_; rintro e wz ⟨rfl, hwz⟩; subst wz)
          | (go_at_call 15; refine (unframe_any _ _ _ _ _ BF (by omega)).mono ?_; rintro e w3 ⟨hU, K3⟩; have K13 := KF.and K3; rw [hun] at hU; obtain rfl := hU; clear hun)
          | (go_at_call 12; refine (wakes_any _).mono ?_; rintro e w4 ⟨rfl, K4⟩; have KE := K13.and K4)
          | fail)
        all_goals
          go_ret
          exact ⟨rfl, KE.none⟩
  · have B := hr.bytes
    have hl1 : ¬ (300 : Int) < (len : Int) := by omega
    generalize zs.take len = ps at *
    clear hr
    have hF := frame_any w a len cap ps B (by omega)
    have hps : ps.length = len := B.len
    have HB : Hid (∀ w', Kept (fun _ => False) w w' → BytesAt w' a len cap ps) := fun w' K => B.kept K (fun _ _ _ h => h)
    have hpb : Bs ps := B.byte
    have hfl : (frameB ps).length = 8 + len := by rw [frameB_length, hps]
    have hfb := frameB_bs hpb
    have kk0 := Int.emod_nonneg at_ (by omega : (8 + (len : Int)) ≠ 0)
    have kk1 := Int.emod_lt_of_pos at_ (by omega : (0 : Int) < 8 + (len : Int))
    have hW : ∀ W, Calls Try.prog 19 #[.int .i64 at_, .int .i64 (8 + (len : Int))] W fun e w' => e = .returned (.int .i64 (at_ % (8 + (len : Int)))) ∧ w' = W := fun W => within_any W at_ (8 + (len : Int)) (by omega) (by omega)
    obtain ⟨k, hk⟩ := Int.eq_ofNat_of_zero_le kk0
    rw [hk] at hW kk1
    have hkn : k < 8 + len := by omega
    have hget : ((frameB ps).map (Value.int .u8))[k]? = some (.int .u8 ((frameB ps).getD k 0)) := by
      rw [List.getElem?_map, List.getD_eq_getElem?_getD, List.getElem?_eq_getElem (by omega)]; rfl
    have hxb := hfb.getD k
    have hy := xor_u8 ((frameB ps).getD k 0) by_ hxb.1 hxb.2 hb0 hb1
    obtain ⟨yy, hyy⟩ : ∃ yy, bits .xor .u8 ((frameB ps).getD k 0) by_ = yy := ⟨_, rfl⟩
    rw [hyy] at hy
    have q1 : (k : Int) < 8 + (len : Int) := by omega
    have q2 : ((8 + (len : Int)) != (len : Int) + 8) = false := by first | (simp; done) | (simp; omega)
    clear hk kk0 kk1 B
    by_cases hb : by_ = 0
    · subst hb
      have hyx : yy = (frameB ps).getD k 0 := hy.2.2.1 rfl
      have hsame : (frameB ps).set k yy = frameB ps := by
        rw [hyx, List.getD_eq_getElem?_getD, List.getElem?_eq_getElem (by omega)]
        exact List.set_getElem_self _
      have hun : unfr ((frameB ps).set k yy) = some ps := by rw [hsame]; exact unfr_frame ps hpb (by omega)
      clear hsame
      subst hyx
      go_enter Try.func5, Try.ntmps5
      go_wp2_with (first
        | (go_at_call 13; refine hF.mono ?_; rintro e w1 ⟨af, cf, rfl, ho1, K1⟩; obtain ⟨g, cc, eg, hg1, hg2⟩ := ho1.form (by omega); simp only [Value.slice.injEq] at eg; obtain ⟨rfl, _, rfl⟩ := eg; obtain ⟨x1, x2⟩ := ownsRow_get ho1 (k := k) (u := .int .u8 ((frameB ps).getD k 0)) hget; have BF := flip_row (k := k) ho1 hfl hfb hy.1 hy.2.1; have KF : Kept (fun _ => False) w (w1.setCell ⟨g, k, none⟩ (.int .u8 ((frameB ps).getD k 0))) := K1.trans (Kept.setCell (S := fun k => k = g) _ _ _ rfl) (fun k h => .inr (by have : k = g := h; omega)); generalize hxx : (frameB ps).getD k 0 = xx at *; have HO1 : Hid _ := ho1; clear hF ho1 hget)
        | (go_at_call 19; refine (hW _).mono ?_; rintro e wz ⟨rfl, hwz⟩; subst wz)
        | (go_at_call 15; refine (unframe_any _ _ _ _ _ BF (by omega)).mono ?_; rintro e w3 ⟨hU, K3⟩; have K13 := KF.and K3; rw [hun] at hU; obtain ⟨a3, c3, rfl, ho3⟩ := hU; have s1 := (BytesAt.ofRow ho3 hpb).str; have s2 := (HB.out w3 K13).str; simp only [hps] at s1 ⊢; clear hun)
        | (go_at_call 12; refine (wakes_any _).mono ?_; rintro e w4 ⟨rfl, K4⟩; have KE := K13.and K4)
        | fail)
      all_goals
        go_ret
        exact ⟨rfl, KE.none⟩
    · have hyx : yy ≠ (frameB ps).getD k 0 := hy.2.2.2 hb
      have hbe : (by_ == 0) = false := by simpa using hb
      by_cases hk4 : k < 4
      · have q4 : (k : Int) < 4 := by omega
        clear hyx
        cases hun : unfr ((frameB ps).set k yy) with
        | none =>
          go_enter Try.func5, Try.ntmps5
          go_wp2_with (first
            | (go_at_call 13; refine hF.mono ?_; rintro e w1 ⟨af, cf, rfl, ho1, K1⟩; obtain ⟨g, cc, eg, hg1, hg2⟩ := ho1.form (by omega); simp only [Value.slice.injEq] at eg; obtain ⟨rfl, _, rfl⟩ := eg; obtain ⟨x1, x2⟩ := ownsRow_get ho1 (k := k) (u := .int .u8 ((frameB ps).getD k 0)) hget; have BF := flip_row (k := k) ho1 hfl hfb hy.1 hy.2.1; have KF : Kept (fun _ => False) w (w1.setCell ⟨g, k, none⟩ (.int .u8 yy)) := K1.trans (Kept.setCell (S := fun k => k = g) _ _ _ rfl) (fun k h => .inr (by have : k = g := h; omega)); generalize hxx : (frameB ps).getD k 0 = xx at *; have HO1 : Hid _ := ho1; clear hF ho1 hget)
            | (go_at_call 19; refine (hW _).mono ?_; rintro e wz ⟨rfl, hwz⟩; subst wz)
            | (go_at_call 15; refine (unframe_any _ _ _ _ _ BF (by omega)).mono ?_; rintro e w3 ⟨hU, K3⟩; have K13 := KF.and K3; rw [hun] at hU; obtain rfl := hU; clear hun)
            | (go_at_call 12; refine (wakes_any _).mono ?_; rintro e w4 ⟨rfl, K4⟩; have KE := K13.and K4)
            | fail)
          all_goals
            go_ret
            exact ⟨rfl, KE.none⟩
        | some pq =>
          go_enter Try.func5, Try.ntmps5
          go_wp2_with (first
            | (go_at_call 13; refine hF.mono ?_; rintro e w1 ⟨af, cf, rfl, ho1, K1⟩; obtain ⟨g, cc, eg, hg1, hg2⟩ := ho1.form (by omega); simp only [Value.slice.injEq] at eg; obtain ⟨rfl, _, rfl⟩ := eg; obtain ⟨x1, x2⟩ := ownsRow_get ho1 (k := k) (u := .int .u8 ((frameB ps).getD k 0)) hget; have BF := flip_row (k := k) ho1 hfl hfb hy.1 hy.2.1; have KF : Kept (fun _ => False) w (w1.setCell ⟨g, k, none⟩ (.int .u8 yy)) := K1.trans (Kept.setCell (S := fun k => k = g) _ _ _ rfl) (fun k h => .inr (by have : k = g := h; omega)); generalize hxx : (frameB ps).getD k 0 = xx at *; have HO1 : Hid _ := ho1; clear hF ho1 hget)
            | (go_at_call 19; refine (hW _).mono ?_; rintro e wz ⟨rfl, hwz⟩; subst wz)
            | (go_at_call 15; refine (unframe_any _ _ _ _ _ BF (by omega)).mono ?_; rintro e w3 ⟨hU, K3⟩; have K13 := KF.and K3; rw [hun] at hU; obtain ⟨a3, c3, rfl, ho3⟩ := hU; clear hun)
            | (go_at_call 12; refine (wakes_any _).mono ?_; rintro e w4 ⟨rfl, K4⟩; have KE := K13.and K4)
            | fail)
          all_goals
            go_ret
            exact ⟨rfl, KE.none⟩
      · have q4 : ¬ (k : Int) < 4 := by omega
        have hun : unfr ((frameB ps).set k yy) = none := unfr_flip ps hpb (by omega) k (by omega) (by omega) yy hy.1 hy.2.1 hyx
        clear hyx
        go_enter Try.func5, Try.ntmps5
        go_wp2_with (first
          | (go_at_call 13; refine hF.mono ?_; rintro e w1 ⟨af, cf, rfl, ho1, K1⟩; obtain ⟨g, cc, eg, hg1, hg2⟩ := ho1.form (by omega); simp only [Value.slice.injEq] at eg; obtain ⟨rfl, _, rfl⟩ := eg; obtain ⟨x1, x2⟩ := ownsRow_get ho1 (k := k) (u := .int .u8 ((frameB ps).getD k 0)) hget; have BF := flip_row (k := k) ho1 hfl hfb hy.1 hy.2.1; have KF : Kept (fun _ => False) w (w1.setCell ⟨g, k, none⟩ (.int .u8 yy)) := K1.trans (Kept.setCell (S := fun k => k = g) _ _ _ rfl) (fun k h => .inr (by have : k = g := h; omega)); generalize hxx : (frameB ps).getD k 0 = xx at *; have HO1 : Hid _ := ho1; clear hF ho1 hget)
          | (go_at_call 19; refine (hW _).mono ?_; rintro e wz ⟨rfl, hwz⟩; subst wz)
          | (go_at_call 15; refine (unframe_any _ _ _ _ _ BF (by omega)).mono ?_; rintro e w3 ⟨hU, K3⟩; have K13 := KF.and K3; rw [hun] at hU; obtain rfl := hU; clear hun)
          | (go_at_call 12; refine (wakes_any _).mono ?_; rintro e w4 ⟨rfl, K4⟩; have KE := K13.and K4)
          | fail)
        all_goals
          go_ret
          exact ⟨rfl, KE.none⟩

end Go.Proofs.Ytnmdjdpceegdfab
