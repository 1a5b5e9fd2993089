/-
  A request's head, as data; a path; a length.
-/
import Derived.Test.YtfiaaaflpjpnjaaGreatDoorFWakes
import Derived.Test.YtfiaaaflpjpnjaaGreatDoorFIntP
namespace Go.Proofs.YtfiaaaflpjpnjaaGreatDoor
open Go.RowKit

/-- Is it a path? -/
def pathP : List UInt8 → Bool
  | [] => false
  | c :: r => c == 47 && (r.isEmpty || r.all pathB)

theorem path_any (W : World) (p : ByteArray) (hs : p.size ≤ 1000000) : Calls Tryz.prog 34 #[.string p] W fun e w' => e = .returned (.bool (pathP p.data.toList)) ∧ w' = W := by
  have hC := fun V => Any.strings_CutPrefix Tryz.cutPrefixL p ⟨#[47]⟩ V
  change ∀ V, Calls Tryz.prog 48 #[.string p, .string ⟨#[47]⟩] V _ at hC
  have hz : p.data.toList.length = p.size := Array.length_toList
  cases hl : p.data.toList with
  | nil =>
    have e1 : Lib.hasPrefix p.data.toList [47] = false := by rw [hl]; rfl
    have HG : Hid (pathP [] = false) := rfl
    have hC2 : ∀ V, Calls Tryz.prog 48 #[.string p, .string ⟨#[47]⟩] V fun e w' => e = .returned (.tuple #[.string ⟨(Lib.trimPrefix p.data.toList [47]).toArray⟩, .bool false]) ∧ w' = V := fun V => by
      have h := hC V
      rwa [show Lib.hasPrefix p.data.toList (⟨#[47]⟩ : ByteArray).data.toList = false from e1] at h
    generalize (⟨(Lib.trimPrefix p.data.toList [47]).toArray⟩ : ByteArray) = r at *
    clear hC hz hl e1
    go_enter Tryz.func34, Tryz.ntmps34
    go_wp2_with (first
      | (go_at_call 48; refine (hC2 _).mono ?_; rintro e w1 ⟨rfl, hw1⟩; subst w1; clear hC2)
      | fail)
    go_ret
    exact ⟨by rw [HG.out]; rfl, rfl⟩
  | cons c t =>
    by_cases hc : c = 47
    · subst hc
      have e1 : Lib.hasPrefix p.data.toList [47] = true := by rw [hl]; rfl
      have e2 : (⟨(Lib.trimPrefix p.data.toList [47]).toArray⟩ : ByteArray) = mkB t := by
        unfold Lib.trimPrefix
        rw [e1, hl]
        rfl
      have hC2 : ∀ V, Calls Tryz.prog 48 #[.string p, .string ⟨#[47]⟩] V fun e w' => e = .returned (.tuple #[.string (mkB t), .bool true]) ∧ w' = V := fun V => by
        have h := hC V
        rwa [show Lib.hasPrefix p.data.toList (⟨#[47]⟩ : ByteArray).data.toList = true from e1, show (⟨(Lib.trimPrefix p.data.toList (⟨#[47]⟩ : ByteArray).data.toList).toArray⟩ : ByteArray) = mkB t from e2] at h
      have hA := all_isPathByte W (mkB t) (by rw [mkB_size]; rw [hl, List.length_cons] at hz; omega)
      rw [mkB_list] at hA
      cases t with
      | nil =>
        have HG : Hid (pathP [47] = true) := rfl
        have e3 : (mkB []).toList.isEmpty = true := by decide +kernel
        clear hC hz hl e1 e2 hA
        go_enter Tryz.func34, Tryz.ntmps34
        go_wp2_with (first
          | (go_at_call 48; refine (hC2 _).mono ?_; rintro e w1 ⟨rfl, hw1⟩; subst w1; clear hC2)
          | fail)
        go_ret
        exact ⟨by rw [HG.out]; rfl, rfl⟩
      | cons c2 t2 =>
        have HG : Hid (pathP (47 :: c2 :: t2) = allP pathB (c2 :: t2)) := by
          show pathP (47 :: c2 :: t2) = allP pathB (c2 :: t2)
          unfold pathP allP
          simp
        have e3 : (mkB (c2 :: t2)).toList.isEmpty = false := by
          rw [Lib.toList_data]
          rfl
        generalize allP pathB (c2 :: t2) = g at *
        generalize mkB (c2 :: t2) = r at *
        clear hC hz hl e1 e2
        go_enter Tryz.func34, Tryz.ntmps34
        go_wp2_with (first
          | (go_at_call 48; refine (hC2 _).mono ?_; rintro e w1 ⟨rfl, hw1⟩; subst w1; clear hC2)
          | (go_at_call 32; refine hA.mono ?_; rintro e w1 ⟨rfl, hw1⟩; subst w1; clear hA)
          | fail)
        go_ret
        exact ⟨by rw [HG.out]; rfl, rfl⟩
    · have e1 : Lib.hasPrefix p.data.toList [47] = false := by
        rw [hl]
        unfold Lib.hasPrefix
        simp only [List.isPrefixOf, Bool.and_true]
        rw [beq_eq_false_iff_ne]
        exact fun h => hc h.symm
      have HG : Hid (pathP (c :: t) = false) := by
        show pathP (c :: t) = false
        show (c == 47 && (t.isEmpty || t.all pathB)) = false
        rw [show (c == 47) = false by rw [beq_eq_false_iff_ne]; exact hc]
        rfl
      have hC2 : ∀ V, Calls Tryz.prog 48 #[.string p, .string ⟨#[47]⟩] V fun e w' => e = .returned (.tuple #[.string ⟨(Lib.trimPrefix p.data.toList [47]).toArray⟩, .bool false]) ∧ w' = V := fun V => by
        have h := hC V
        rwa [show Lib.hasPrefix p.data.toList (⟨#[47]⟩ : ByteArray).data.toList = false from e1] at h
      generalize (⟨(Lib.trimPrefix p.data.toList [47]).toArray⟩ : ByteArray) = r at *
      clear hC hz hl e1 hc
      go_enter Tryz.func34, Tryz.ntmps34
      go_wp2_with (first
        | (go_at_call 48; refine (hC2 _).mono ?_; rintro e w1 ⟨rfl, hw1⟩; subst w1; clear hC2)
        | fail)
      go_ret
      exact ⟨by rw [HG.out]; rfl, rfl⟩

/-- A length. -/
def lenP (l : List UInt8) : Option Nat := if 9 < l.length then none else if allP isDig l = false then none else if 1 < l.length ∧ l.head? = some 48 then none else some (digV 0 l)

theorem lenP_lt {l : List UInt8} {n : Nat} (h : lenP l = some n) : n < 1000000000 := by
  unfold lenP at h
  split at h
  · cases h
  · split at h
    · cases h
    · rename_i h9 ha
      split at h
      · cases h
      · simp only [Option.some.injEq] at h
        subst h
        have hd : ∀ c ∈ l, isDig c = true := fun c hc => by
          have h2 : allP isDig l = true := by simpa using ha
          unfold allP at h2
          simp only [Bool.and_eq_true, List.all_eq_true] at h2
          exact h2.1 c hc
        have h3 := digV_lt l hd 0 0 (by decide)
        rw [Nat.zero_add] at h3
        have h4 : 10 ^ l.length ≤ 10 ^ 9 := Nat.pow_le_pow_right (by decide) (by omega)
        omega

theorem length_any (w : World) (s : ByteArray) (hs : s.size ≤ 1000000) : Calls Tryz.prog 39 #[.string s] w fun e w' => e = .returned (.tuple #[.int .i64 (((lenP s.data.toList).getD 0 : Nat) : Int), .bool (lenP s.data.toList).isSome]) ∧ Kept (fun _ => False) w w' := by
  have hz : s.data.toList.length = s.size := Array.length_toList
  have hA := all_isDigit w s (by omega)
  by_cases h9 : 9 < s.size
  · have HG : Hid (lenP s.data.toList = none) := by show _ = _; unfold lenP; rw [if_pos (by omega)]
    have f1 : (9 : Int) < (s.size : Int) := by omega
    clear hA hz h9
    go_enter Tryz.func39, Tryz.ntmps39
    go_wp2
    go_ret2
    exact ⟨by rw [HG.out]; rfl, Kept.refl _ _⟩
  · have f1 : ¬ (9 : Int) < (s.size : Int) := by omega
    cases ha : allP isDig s.data.toList with
    | false =>
      have HG : Hid (lenP s.data.toList = none) := by show _ = _; unfold lenP; rw [if_neg (by omega), if_pos ha]
      rw [ha] at hA
      clear hz h9 ha
      go_enter Tryz.func39, Tryz.ntmps39
      go_wp2_with (first
        | (go_at_call 32; refine hA.mono ?_; rintro e w1 ⟨rfl, hw1⟩; subst w1; clear hA)
        | fail)
      go_ret2
      exact ⟨by rw [HG.out]; rfl, Kept.refl _ _⟩
    | true =>
      rw [ha] at hA
      have hd : ∀ c ∈ s.data.toList, isDig c = true := fun c hc => by
        unfold allP at ha
        simp only [Bool.and_eq_true, List.all_eq_true] at ha
        exact ha.1 c hc
      have hne : s.data.toList ≠ [] := fun h => by
        rw [h] at ha
        cases ha
      have h0 : 0 < s.size := by
        have := List.length_pos_iff.2 hne
        omega
      have hix := ix_str s h0
      change ∀ W, (Instr.index 9 (.string s) (.int .i64 0)).run Tryz.prog W = _ at hix
      have hhd : s.data.toList.head? = some (s[0]'h0) := by
        have h2 : 0 < s.data.toList.length := by omega
        rw [List.head?_eq_getElem?, List.getElem?_eq_getElem h2, Array.getElem_toList]
        rfl
      have hT : ∀ W, Calls Tryz.prog 57 #[.string s] W fun e w' => e = .returned (.tuple #[.int .i64 ((digV 0 s.data.toList : Nat) : Int), .nilIface]) ∧ Kept (fun _ => False) W w' := fun W => by
        have hN : NumT s.data.toList := ⟨s.data.toList, .inl rfl, hne, by omega, hd⟩
        have h1 := (numT_atoi hN).1
        have h2 : intV s.data.toList = ((digV 0 s.data.toList : Nat) : Int) := by
          cases hl : s.data.toList with
          | nil => exact absurd hl hne
          | cons c r =>
            have := dig_ne (hd c (by rw [hl]; exact List.mem_cons_self))
            show (if c = 45 then -(digV 0 r : Int) else if c = 34 then 0 else (digV 0 (c :: r) : Int)) = _
            rw [if_neg this.1, if_neg this.2.1]
        rw [h2] at h1
        refine (Any.strconv_Atoi_ok Tryz.atoiL s (by omega) _ h1 W).mono fun e w' ⟨he, hw⟩ => ⟨he, ?_⟩
        rcases hw with rfl | ⟨t, rfl⟩
        · exact Kept.refl _ _
        · exact bytesKept _ _ _ _
      by_cases h1 : 1 < s.size
      · have f2 : (1 : Int) < (s.size : Int) := by omega
        by_cases h48 : s[0]'h0 = 48
        · have HG : Hid (lenP s.data.toList = none) := by
            show _ = _
            unfold lenP
            rw [if_neg (by omega), if_neg (by rw [ha]; decide), if_pos ⟨by omega, by rw [hhd, h48]⟩]
          rw [h48] at hix
          clear hz h9 ha hd hne hhd hT h48 h1
          go_enter Tryz.func39, Tryz.ntmps39
          go_wp2_with (first
            | (go_at_call 32; refine hA.mono ?_; rintro e w1 ⟨rfl, hw1⟩; subst w1; clear hA)
            | fail)
          go_ret2
          exact ⟨by rw [HG.out]; rfl, Kept.refl _ _⟩
        · have HG : Hid (lenP s.data.toList = some (digV 0 s.data.toList)) := by
            show _ = _
            unfold lenP
            rw [if_neg (by omega), if_neg (by rw [ha]; decide), if_neg (fun h => h48 (by rw [hhd] at h; exact Option.some.inj h.2))]
          have f3 : ((((s[0]'h0).toNat : Nat) : Int) == 48) = false := by
            rw [beq_eq_false_iff_ne]
            intro h
            exact h48 (UInt8.toNat_inj.1 (by show _ = 48; omega))
          clear hz h9 ha hd hne hhd h48 h1
          generalize digV 0 s.data.toList = n at *
          generalize (((s[0]'h0).toNat : Nat) : Int) = c at *
          go_enter Tryz.func39, Tryz.ntmps39
          go_wp2_with (first
            | (go_at_call 32; refine hA.mono ?_; rintro e w1 ⟨rfl, hw1⟩; subst w1; clear hA)
            | (go_at_call 57; refine (hT _).mono ?_; rintro e w1 ⟨rfl, K1⟩; clear hT)
            | go_quiet (fail)
            | fail)
          go_ret2
          exact ⟨by rw [HG.out]; rfl, K1.and (Kept.drewN _ _ _)⟩
      · have f2 : ¬ (1 : Int) < (s.size : Int) := by omega
        have HG : Hid (lenP s.data.toList = some (digV 0 s.data.toList)) := by
          show _ = _
          unfold lenP
          rw [if_neg (by omega), if_neg (by rw [ha]; decide), if_neg (fun h => h1 (by omega))]
        clear hz h9 ha hd hne hhd h1 hix
        generalize digV 0 s.data.toList = n at *
        go_enter Tryz.func39, Tryz.ntmps39
        go_wp2_with (first
          | (go_at_call 32; refine hA.mono ?_; rintro e w1 ⟨rfl, hw1⟩; subst w1; clear hA)
          | (go_at_call 57; refine (hT _).mono ?_; rintro e w1 ⟨rfl, K1⟩; clear hT)
          | go_quiet (fail)
          | fail)
        go_ret2
        exact ⟨by rw [HG.out]; rfl, K1.and (Kept.drewN _ _ _)⟩

end Go.Proofs.YtfiaaaflpjpnjaaGreatDoor
