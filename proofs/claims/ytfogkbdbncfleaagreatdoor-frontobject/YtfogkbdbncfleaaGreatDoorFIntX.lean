/-
  The document's Int and Text.
-/
import Derived.Test.YtfogkbdbncfleaaGreatDoorFIntW
namespace Go.Proofs.YtfogkbdbncfleaaGreatDoor
open Go.RowKit

theorem mk_at (v : List UInt8) {j : Nat} (h : j < (mkB v).size) (h2 : j < v.length) : (mkB v)[j]'h = v[j]'h2 := by
  show (v.toArray)[j]'(by simpa using h2) = v[j]
  simp

theorem mk_ne (c : UInt8) (r : List UInt8) : (mkB (c :: r)).toList.isEmpty = false := by
  rw [Lib.toList_data]
  rfl

theorem mk_first (c : UInt8) (r : List UInt8) (W : World) : (Instr.index 9 (.string (mkB (c :: r))) (.int .i64 0)).run Tryz.prog W = .ok (.int .u8 ((c.toNat : Nat) : Int)) W := by
  have hlt : 0 < (mkB (c :: r)).size := by rw [mkB_size]; simp
  have h := ix_str (mkB (c :: r)) hlt W
  rwa [mk_at (c :: r) hlt (by simp)] at h

theorem mk_tail (c : UInt8) (r : List UInt8) : (mkB (c :: r)).extract 1 (mkB (c :: r)).size = mkB r := by
  refine ByteArray.ext ?_
  refine Array.ext' ?_
  rw [ByteArray.data_extract, Array.toList_extract, mkB_size]
  show List.extract (c :: r) 1 (c :: r).length = r
  simp [List.extract]

set_option maxRecDepth 100000 in
set_option maxHeartbeats 2000000 in
theorem rtext_of (w : World) (a : Option Addr) (c : Nat) (ps : List Pr) (k : List UInt8) (hP : PairsAt w a ps) (hm : ps.length ≤ 1000000) (hV : ∀ p ∈ ps, ValT p.2) (hl : ∀ v, fieldP ps k = some v → v.length ≤ 1000000000) :
    Calls Tryz.prog 16 #[.slice a ps.length c, .string (mkB k)] w fun e w' => e = .returned (fldV (textOf (fieldP ps k))) ∧ w' = w := by
  have hFd := rfield_any w a c ps k hP hm
  have hcase := fieldP_valT hV k
  unfold fldV at hFd
  clear hP hV
  generalize fieldP ps k = o at *
  rcases hcase with rfl | ⟨v, rfl, ⟨t, rfl⟩ | hv⟩
  · simp only [Option.getD_none, Option.isSome_none] at hFd
    generalize mkB k = kn at *
    go_enter Tryz.func16, Tryz.ntmps16
    go_wp2_with (first
      | (go_at_call 12; refine hFd.mono ?_; rintro e w1 ⟨rfl, hw1⟩; subst w1; clear hFd)
      | fail)
    go_ret2
    exact ⟨rfl, rfl⟩
  · simp only [Option.getD_some, Option.isSome_some] at hFd
    have hq := mk_ne 34 t
    have hix : ∀ W, (Instr.index 9 (.string (mkB (34 :: t))) (.int .i64 0)).run Tryz.prog W = .ok (.int .u8 34) W := fun W => mk_first 34 t W
    have HT := hid (mk_tail 34 t)
    have hsz : (1 : Int) ≤ ((mkB (34 :: t)).size : Int) := by rw [mkB_size, List.length_cons]; omega
    have hs2 : ((mkB (34 :: t)).size : Int) ≤ 1000000000 := by have := hl _ rfl; rw [mkB_size]; omega
    clear hl
    generalize mkB (34 :: t) = x at *
    generalize mkB k = kn at *
    go_enter Tryz.func16, Tryz.ntmps16
    go_wp2_with (first
      | (go_at_call 12; refine hFd.mono ?_; rintro e w1 ⟨rfl, hw1⟩; subst w1; clear hFd)
      | fail)
    go_ret2
    refine ⟨?_, rfl⟩
    rw [HT.out]
    rfl
  · obtain ⟨_, _, hne, _, h34⟩ := intF_num hv
    cases v with
    | nil => exact absurd rfl hne
    | cons c0 r =>
      have hc := h34 c0 r rfl
      simp only [Option.getD_some, Option.isSome_some] at hFd
      have hq := mk_ne c0 r
      have hix := mk_first c0 r
      have hx : (((c0.toNat : Nat) : Int) != 34) = true := by
        rw [bne_iff_ne]
        intro e
        exact hc (UInt8.toNat_inj.1 (by have h2 : (34 : UInt8).toNat = 34 := rfl; omega))
      have HX : Hid (textOf (some (c0 :: r)) = none) := by
        show textOf _ = none
        unfold textOf
        split
        · rename_i t h
          simp only [Option.some.injEq, List.cons.injEq] at h
          exact absurd h.1 hc
        · rfl
      clear hl hv hne h34 hc
      generalize mkB (c0 :: r) = x at *
      generalize ((c0.toNat : Nat) : Int) = y at *
      generalize mkB k = kn at *
      go_enter Tryz.func16, Tryz.ntmps16
      go_wp2_with (first
        | (go_at_call 12; refine hFd.mono ?_; rintro e w1 ⟨rfl, hw1⟩; subst w1; clear hFd)
        | fail)
      go_ret2
      refine ⟨?_, rfl⟩
      rw [HX.out]
      rfl

set_option maxRecDepth 100000 in
set_option maxHeartbeats 2000000 in
theorem rint_of (w : World) (a : Option Addr) (c : Nat) (ps : List Pr) (k : List UInt8) (hP : PairsAt w a ps) (hm : ps.length ≤ 1000000) (hV : ∀ p ∈ ps, ValT p.2) :
    Calls Tryz.prog 14 #[.slice a ps.length c, .string (mkB k)] w fun e w' => e = .returned (intA (fieldP ps k)) ∧ w' = w := by
  have hFd := rfield_any w a c ps k hP hm
  have hcase := fieldP_valT hV k
  unfold fldV at hFd
  clear hP hV
  generalize fieldP ps k = o at *
  rcases hcase with rfl | ⟨v, rfl, ⟨t, rfl⟩ | hv⟩
  · simp only [Option.getD_none, Option.isSome_none] at hFd
    generalize mkB k = kn at *
    go_enter Tryz.func14, Tryz.ntmps14
    go_wp2_with (first
      | (go_at_call 12; refine hFd.mono ?_; rintro e w1 ⟨rfl, hw1⟩; subst w1; clear hFd)
      | fail)
    go_ret2
    exact ⟨rfl, rfl⟩
  · simp only [Option.getD_some, Option.isSome_some] at hFd
    have hq := mk_ne 34 t
    have hix : ∀ W, (Instr.index 9 (.string (mkB (34 :: t))) (.int .i64 0)).run Tryz.prog W = .ok (.int .u8 34) W := fun W => mk_first 34 t W
    generalize mkB (34 :: t) = x at *
    generalize mkB k = kn at *
    go_enter Tryz.func14, Tryz.ntmps14
    go_wp2_with (first
      | (go_at_call 12; refine hFd.mono ?_; rintro e w1 ⟨rfl, hw1⟩; subst w1; clear hFd)
      | fail)
    go_ret2
    exact ⟨rfl, rfl⟩
  · obtain ⟨hF, hlen, hne, hall, h34⟩ := intF_num hv
    have hnum := (numT_atoi hv).2.1
    obtain ⟨hq, hix0, hx0⟩ : (mkB v).toList.isEmpty = false ∧ (∃ y : Int, (∀ W, (Instr.index 9 (.string (mkB v)) (.int .i64 0)).run Tryz.prog W = .ok (.int .u8 y) W) ∧ (y == 34) = false) ∧ True := by
      cases v with
      | nil => exact absurd rfl hne
      | cons c0 r =>
        refine ⟨mk_ne c0 r, ⟨_, mk_first c0 r, ?_⟩, trivial⟩
        rw [beq_eq_false_iff_ne]
        intro e
        exact h34 c0 r rfl (UInt8.toNat_inj.1 (by have h2 : (34 : UInt8).toNat = 34 := rfl; omega))
    obtain ⟨y0, hix, hy0⟩ := hix0
    have HAll := hid hall
    have HX : Hid (intA (some v) = .tuple #[.int .i64 (intV v), .bool true]) := by
      show intA (some v) = _
      unfold intA
      rw [Option.getD_some, hnum]
    have HI : Hid (∀ (j : Nat) (h : j < v.length), ∀ W, (Instr.index 9 (.string (mkB v)) (.int .i64 (j : Int))).run Tryz.prog W = .ok (.int .u8 (((v[j]'h).toNat : Nat) : Int)) W) := fun j h W => by
      have hlt : j < (mkB v).size := by rw [mkB_size]; exact h
      have h2 := ix_str (mkB v) hlt W
      rwa [mk_at v hlt h] at h2
    have hsz : ((mkB v).size : Int) = (v.length : Int) := by rw [mkB_size]
    have HF := hid hF
    simp only [Option.getD_some, Option.isSome_some] at hFd
    clear hv hF hne hall h34 hnum hx0
    generalize mkB v = x at *
    generalize mkB k = kn at *
    go_enter Tryz.func14, Tryz.ntmps14
    go_wp2_with (first
      | (go_at_call 12; refine hFd.mono ?_; rintro e w1 ⟨rfl, hw1⟩; subst w1; clear hFd)
      | fail)
    clear hix hy0 hq
    go_loopw [8, 9, 10] (fun n g i wr => ∃ (j : Nat) (z y : Int), j ≤ v.length ∧ i = .int .i64 (j : Int) ∧ n = .int .i64 z ∧ g = .int .i64 y ∧ 0 ≤ z ∧ z < ((10 ^ j : Nat) : Int) ∧ (y = 1 ∨ y = -1) ∧ intF (v.drop j) z y = intV v ∧ wr = w) (fun _ _ i _ => v.length - (intOf i).toNat)
    case atStart => exact ⟨0, 0, 1, Nat.zero_le _, rfl, rfl, rfl, Int.le_refl _, by decide, .inl rfl, by rw [List.drop_zero]; exact HF.out, rfl⟩
    case round =>
      obtain ⟨j, z, y, hj, rfl, rfl, rfl, hz0, hz1, hy, hG, hwr⟩ := hrel
      subst wr
      have HG := hid hG
      have HZ := hid hz1
      have HY := hid hy
      clear hG
      by_cases hlt : j < v.length
      · have e0 : (j : Int) < (v.length : Int) := by omega
        have hp : (10 : Nat) ^ j ≤ 1000000000000000 := Nat.le_trans (Nat.pow_le_pow_right (by decide) (show j ≤ 15 by omega)) (by decide)
        have hz2 : z < 1000000000000000 := by
          generalize 10 ^ j = q at *
          omega
        have hix := HI.out j hlt
        have HD : Hid (v.drop j = v[j]'hlt :: v.drop (j + 1)) := List.drop_eq_getElem_cons hlt
        rcases HAll.out (v[j]'hlt) (List.getElem_mem hlt) with hc | hc
        · have HG2 : Hid (intF (v.drop (j + 1)) z (-1) = intV v) := by
            have h := HG.out
            rw [HD.out] at h
            unfold intF at h
            rw [if_pos hc] at h
            exact h
          rw [hc] at hix
          have hix' : ∀ W, (Instr.index 9 (.string x) (.int .i64 (j : Int))).run Tryz.prog W = .ok (.int .u8 45) W := hix
          clear hix hc HD HI hp hz1 hy
          go_wp2
          go_roundw
          case rel =>
            refine ⟨j + 1, z, -1, by omega, by go_num, rfl, rfl, hz0, ?_, .inr rfl, HG2.out, by trivial⟩
            have h := HZ.out
            rw [Nat.pow_succ]
            generalize 10 ^ j = q at *
            omega
          case measure => simp [intOf]; omega
        · have hr := dig_range hc
          have hn45 := (dig_ne hc).1
          obtain ⟨d, hd, hd0, hd9⟩ : ∃ d : Int, (((v[j]'hlt).toNat : Nat) : Int) - 48 = d ∧ 0 ≤ d ∧ d ≤ 9 := ⟨_, rfl, by omega, by omega⟩
          have HG2 : Hid (intF (v.drop (j + 1)) (10 * z + d) y = intV v) := by
            have h := HG.out
            rw [HD.out] at h
            unfold intF at h
            rw [if_neg hn45, hd] at h
            exact h
          have hne : ((((v[j]'hlt).toNat : Nat) : Int) == 45) = false := by rw [beq_eq_false_iff_ne]; omega
          have hw1 : IntKind.i64.wrap (10 * z) = 10 * z := by rw [IntKind.wrap_i64]; omega
          have hw3 : IntKind.i64.wrap (10 * z + d) = 10 * z + d := by rw [IntKind.wrap_i64]; omega
          clear hc hr hn45 HD HI hp hz1 hy
          generalize (((v[j]'hlt).toNat : Nat) : Int) = b at *
          go_wp2
          go_roundw
          case rel =>
            refine ⟨j + 1, 10 * z + d, y, by omega, by go_num, rfl, rfl, by omega, ?_, HY.out, HG2.out, by trivial⟩
            have h := HZ.out
            rw [Nat.pow_succ]
            generalize 10 ^ j = q at *
            omega
          case measure => simp [intOf]; omega
      · have e0 : ¬ (j : Int) < (v.length : Int) := by omega
        have hp : (10 : Nat) ^ j ≤ 10000000000000000 := Nat.le_trans (Nat.pow_le_pow_right (by decide) (show j ≤ 16 by omega)) (by decide)
        have hz2 : z < 10000000000000000 := by
          generalize 10 ^ j = q at *
          omega
        have HG2 : Hid (y * z = intV v) := by
          have h := HG.out
          rw [List.drop_of_length_le (by omega)] at h
          exact h
        clear HI hp hz1 HZ HG hy
        rcases HY.out with hy | hy
        · subst hy
          go_wp2
          go_ret2
          refine ⟨?_, rfl⟩
          rw [HX.out, ← HG2.out, Int.one_mul]
          rfl
        · subst hy
          go_wp2
          go_ret2
          refine ⟨?_, rfl⟩
          rw [HX.out, ← HG2.out]
          simp

end Go.Proofs.YtfogkbdbncfleaaGreatDoor
