/-
  Texts, numbers and values of a body.
-/
import Derived.Test.YtfiaaaflpjpnjaaGreatDoorFRead2
import Derived.Test.YtfiaaaflpjpnjaaGreatDoorFBld
namespace Go.Proofs.YtfiaaaflpjpnjaaGreatDoor
open Go.RowKit

def txtV (r : List UInt8 × Nat × Bool) : Value := .tuple #[.string (mkB r.1), .int .i64 (r.2.1 : Int), .bool r.2.2]

theorem textF_stop {s : ByteArray} {n i : Nat} {acc : List UInt8} (h : standsP s i 34 = true) : textF s (n + 1) i acc = (acc, i + 1, true) := by
  rw [textF, if_pos h]

theorem textF_more {s : ByteArray} {n i : Nat} {acc : List UInt8} (h : standsP s i 34 = false) (hc : (charP s i).2.2 = true) : textF s (n + 1) i acc = textF s n (charP s i).2.1 (acc ++ Lib.encodeRune (charP s i).1) := by
  rw [textF, if_neg (by rw [h]; decide), if_pos hc]

theorem textF_bad {s : ByteArray} {n i : Nat} {acc : List UInt8} (h : standsP s i 34 = false) (hc : (charP s i).2.2 = false) : textF s (n + 1) i acc = ([], (charP s i).2.1, false) := by
  rw [textF, if_neg (by rw [h]; decide), if_neg (by rw [hc]; decide)]

set_option maxRecDepth 100000 in
set_option maxHeartbeats 1000000 in
theorem readText_any (w : World) (s : ByteArray) (i : Nat) (hs : s.size ≤ 1000000000000) (T : Utf8At w) :
    Calls Tryz.prog 45 #[.string s, .int .i64 (i : Int)] w fun e w' => e = .returned (txtV (textP s i)) ∧ Kept (fun _ => False) w w' := by
  have hS0 : ∀ W, Calls Tryz.prog 44 #[.string s, .int .i64 (i : Int), .int .u8 34] W fun e w' => e = .returned (.bool (standsP s i 34)) ∧ w' = W := fun W => stands_any W s i 34
  cases h0 : standsP s i 34 with
  | false =>
    rw [h0] at hS0
    have HX : Hid (textP s i = ([], i, false)) := by
      show textP s i = _
      unfold textP
      rw [if_neg (by rw [h0]; decide)]
    clear h0
    go_enter Tryz.func45, Tryz.ntmps45
    go_wp2_with (first
      | (go_at_call 44; refine (hS0 _).mono ?_; rintro e w1 ⟨rfl, hw1⟩; subst w1; clear hS0)
      | fail)
    go_ret3
    refine ⟨?_, Kept.refl _ _⟩
    rw [HX.out]
    rfl
  | true =>
    rw [h0] at hS0
    have hlt := standsP_some s h0
    have HX : Hid (textP s i = textF s (s.size + 1 - (i + 1)) (i + 1) []) := by
      show textP s i = _
      unfold textP
      rw [if_pos h0]
    clear h0
    have HB : Hid (BSt w (w.alloc (.cells #[.pointer none, .slice none 0 0] 96)) w.heap.size []) := BSt.begun w
    go_enter Tryz.func45, Tryz.ntmps45
    go_wp2_with (first
      | (go_at_call 44; refine (hS0 _).mono ?_; rintro e w1 ⟨rfl, hw1⟩; subst w1; clear hS0)
      | fail)
    go_loopw [1, 5, 6, 8] (fun v _ _ _ wr => ∃ (k n : Nat) (acc : List UInt8), k ≤ s.size ∧ s.size + 1 ≤ k + n ∧ acc.length ≤ 4 * k ∧ v = .int .i64 (k : Int) ∧ BSt w wr w.heap.size acc ∧ textF s n k acc = textP s i) (fun v _ _ _ _ => s.size + 1 - (intOf v).toNat)
    case atStart => exact ⟨i + 1, _, [], by omega, by omega, by simp, by go_num, HB.out, HX.out.symm⟩
    case round =>
      obtain ⟨k, n, acc, hk, hn, hacc, rfl, S, hF⟩ := hrel
      obtain ⟨m, rfl⟩ : ∃ m, n = m + 1 := ⟨n - 1, by omega⟩
      have HF : Hid (textF s (m + 1) k acc = textP s i) := hF
      have HN : Hid (s.size + 1 ≤ k + (m + 1)) := hn
      clear hF hn
      have hS1 : ∀ W, Calls Tryz.prog 44 #[.string s, .int .i64 (k : Int), .int .u8 34] W fun e w' => e = .returned (.bool (standsP s k 34)) ∧ w' = W := fun W => stands_any W s k 34
      have HS : Hid (BSt w wr w.heap.size acc) := S
      cases h1 : standsP s k 34 with
      | true =>
        rw [h1] at hS1
        have HY : Hid (textF s (m + 1) k acc = (acc, k + 1, true)) := textF_stop h1
        clear h1
        have hst := string_any S
        clear S
        go_wp2_with (first
          | (go_at_call 44; refine (hS1 _).mono ?_; rintro e w1 ⟨rfl, hw1⟩; subst w1; clear hS1)
          | (go_at_call 68; refine hst.mono ?_; rintro e w2 ⟨rfl, K2⟩; clear hst)
          | fail)
        go_ret3
        refine ⟨?_, K2⟩
        rw [← HF.out, HY.out]
        rfl
      | false =>
        rw [h1] at hS1
        have hC := readCharacter_any wr s k (by omega) hk (T.kept S.kept)
        have hcn := charP_next s hk
        cases h2 : (charP s k).2.2 with
        | false =>
          have HY : Hid (textF s (m + 1) k acc = ([], (charP s k).2.1, false)) := textF_bad h1 h2
          unfold triV at hC
          rw [h2] at hC
          clear h1 h2 S hcn
          generalize (charP s k).2.1 = nx at *
          generalize (charP s k).1 = r at *
          go_wp2_with (first
            | (go_at_call 44; refine (hS1 _).mono ?_; rintro e w1 ⟨rfl, hw1⟩; subst w1; clear hS1)
            | (go_at_call 66; refine hC.mono ?_; rintro e w2 ⟨rfl, K2⟩; clear hC)
            | fail)
          go_ret3
          refine ⟨?_, HS.out.kept.and K2⟩
          rw [← HF.out, HY.out]
          rfl
        | true =>
          have HY : Hid (textF s (m + 1) k acc = textF s m (charP s k).2.1 (acc ++ Lib.encodeRune (charP s k).1)) := textF_more h1 h2
          obtain ⟨hc0, hc1, hc2⟩ := hcn
          obtain ⟨hc3, hv⟩ := hc2 h2
          have h4 : (Lib.encodeRune (charP s k).1).length ≤ 4 := by
            unfold Lib.encodeRune Lib.encodeRuneZ
            repeat' split
            all_goals simp
          have hr : 0 ≤ (charP s k).1 ∧ (charP s k).1 ≤ 1114111 := by
            unfold Lib.validRune at hv
            rw [decide_eq_true_eq] at hv
            omega
          unfold triV at hC
          rw [h2] at hC
          clear h1 h2 S hc0 hc2 hv
          generalize (charP s k).2.1 = nx at *
          generalize (charP s k).1 = r at *
          obtain ⟨hr0, hr1⟩ := hr
          have H4 : Hid ((Lib.encodeRune r).length ≤ 4) := h4
          clear h4
          go_wp2_with (first
            | (go_at_call 44; refine (hS1 _).mono ?_; rintro e w1 ⟨rfl, hw1⟩; subst w1; clear hS1)
            | (go_at_call 66; refine hC.mono ?_; rintro e w2 ⟨rfl, K2⟩; clear hC; have hW := writeRune_any (HS.out.call K2) r (by omega) (by omega) (by omega); clear K2)
            | (go_at_call 67; refine hW.mono ?_; rintro e w3 ⟨rfl, S3⟩; clear hW)
            | fail)
          go_roundw
          case rel =>
            refine ⟨nx, m, _, hc1, ?_, ?_, by go_num, S3, ?_⟩
            · have := HN.out; omega
            · have := H4.out; rw [List.length_append]; omega
            · rw [← HF.out, HY.out]
          case measure => simp [intOf]; omega

/-- So many digits stand there, at most m. -/
def digsK (s : ByteArray) (i m : Nat) : Nat := min m ((s.data.toList.drop i).takeWhile isDig).length

theorem digsK_next {s : ByteArray} {i m : Nat} (h : i < s.size) (hd : isDig (s[i]'h) = true) : digsK s i (m + 1) = 1 + digsK s (i + 1) m := by
  unfold digsK
  rw [drop_next s h, List.takeWhile_cons, if_pos hd, List.length_cons]
  omega

theorem digsK_stop {s : ByteArray} {i m : Nat} (h : i < s.size) (hd : isDig (s[i]'h) = false) : digsK s i m = 0 := by
  unfold digsK
  rw [drop_next s h, List.takeWhile_cons, if_neg (by rw [hd]; decide)]
  simp

theorem digsK_end {s : ByteArray} {i m : Nat} (h : s.size ≤ i) : digsK s i m = 0 := by
  unfold digsK
  rw [List.drop_of_length_le (by simpa using h)]
  simp

theorem digsK_zero (s : ByteArray) (i : Nat) : digsK s i 0 = 0 := by unfold digsK; omega

theorem sub_extract (s : ByteArray) (i j : Nat) : mkB (subL s i j) = s.extract i j := by
  apply ByteArray.ext
  rw [ByteArray.data_extract]
  show (subL s i j).toArray = _
  unfold subL
  apply Array.toList_inj.1
  rw [Array.toList_extract, List.toList_toArray, List.extract_eq_take_drop]

theorem numP_eq (s : ByteArray) (i : Nat) (hz : (!standsP s i 45 && standsP s i 48) = false) (first next : Nat) (hf : first = if standsP s i 45 then i + 1 else i) (hn : next = if standsP s first 48 then first else first + digsP s first) :
    numP s i = if next = first then ([], first, false) else (subL s i next, next, true) := by
  unfold numP
  rw [if_neg (by rw [hz]; decide)]
  simp only
  rw [← hf, ← hn]

theorem ret_first {n : Nat} {z : Int} (h : z = (n : Int)) : Ending.returned (.tuple #[.string { data := #[] }, .int .i64 z, .bool false]) = .returned (txtV ([], n, false)) := by rw [h]; rfl

set_option maxRecDepth 100000 in
set_option maxHeartbeats 1000000 in
theorem readNumber_any (w : World) (s : ByteArray) (i : Nat) (hs : s.size ≤ 1000000000000) (hi : i ≤ s.size) :
    Calls Tryz.prog 69 #[.string s, .int .i64 (i : Int)] w fun e w' => e = .returned (txtV (numP s i)) ∧ w' = w := by
  have hA : ∀ W, Calls Tryz.prog 44 #[.string s, .int .i64 (i : Int), .int .u8 45] W fun e w' => e = .returned (.bool (standsP s i 45)) ∧ w' = W := fun W => stands_any W s i 45
  have hB : ∀ W, Calls Tryz.prog 44 #[.string s, .int .i64 (i : Int), .int .u8 48] W fun e w' => e = .returned (.bool (standsP s i 48)) ∧ w' = W := fun W => stands_any W s i 48
  cases h0 : standsP s i 45 with
  | false =>
    rw [h0] at hA
    cases h1 : standsP s i 48 with
    | true =>
      rw [h1] at hB
      have hlt := standsP_some s h1
      have HX : Hid (numP s i = ([48], i + 1, true)) := by
        show numP s i = _
        unfold numP
        rw [h0, h1]
        rfl
      clear h0 h1
      go_enter Tryz.func69, Tryz.ntmps69
      go_wp2_with (first
        | (go_at_call_of 44 (Value.int .u8 45); refine (hA _).mono ?_; rintro e w1 ⟨rfl, hw1⟩; subst w1; clear hA)
        | (go_at_call 44; refine (hB _).mono ?_; rintro e w1 ⟨rfl, hw1⟩; subst w1; clear hB)
        | fail)
      go_ret3
      refine ⟨?_, rfl⟩
      rw [HX.out]
      rfl
    | false =>
      rw [h1] at hB
      obtain ⟨first, hfe⟩ : ∃ first, first = i := ⟨_, rfl⟩
      have hf1 : first ≤ s.size := by omega
      have HFE : Hid (first = _) := hfe
      have HN : Hid (∀ next, next = first + digsP s first → numP s i = if next = first then ([], first, false) else (subL s i next, next, true)) := fun next hn => numP_eq s i (by rw [h0, h1]; rfl) first next (by rw [h0, hfe]; rfl) (by rw [hfe, h1, ← hfe]; exact hn)
      clear h0 h1
      go_enter Tryz.func69, Tryz.ntmps69
      go_wp2_with (first
        | (go_at_call_of 44 (Value.int .u8 45); refine (hA _).mono ?_; rintro e w1 ⟨rfl, hw1⟩; subst w1; clear hA)
        | (go_at_call 44; refine (hB _).mono ?_; rintro e w1 ⟨rfl, hw1⟩; subst w1)
        | fail)
      clear hB
      go_loopw [5] (fun v wr => ∃ (p j : Nat), p = first + j ∧ j ≤ 15 ∧ p ≤ s.size ∧ v = .int .i64 (p : Int) ∧ wr = w ∧ digsP s first = j + digsK s p (15 - j)) (fun v _ => s.size + 1 - (intOf v).toNat)
      case atStart => exact ⟨first, 0, by omega, by omega, hf1, by go_num, rfl, by rw [Nat.zero_add]; rfl⟩
      case round =>
        obtain ⟨p, j, hp, hj, hps, rfl, hwr, hD⟩ := hrel
        subst wr
        have HD : Hid (digsP s first = j + digsK s p (15 - j)) := hD
        have HP : Hid (p = first + j) := hp
        have fin : Hid (digsK s p (15 - j) = 0 → numP s i = if p = first then ([], first, false) else (subL s i p, p, true)) := fun h0 => HN.out p (by rw [HD.out, h0, HP.out]; omega)
        have ends : Hid (digsK s p (15 - j) = 0 → p ≠ first → numP s i = (subL s i p, p, true)) := fun h0 hne => (fin.out h0).trans (if_neg hne)
        have ends0 : Hid (digsK s p (15 - j) = 0 → p = first → numP s i = ([], first, false)) := fun h0 hne => (fin.out h0).trans (if_pos hne)
        have l0 : (i : Int) ≤ (p : Int) := by omega
        have l1 : (p : Int) ≤ (s.size : Int) := by omega
        have e15 : j < 15 → (p : Int) < (i : Int) + 15 := by omega
        have n15 : ¬ j < 15 → ¬ (p : Int) < (i : Int) + 15 := by omega
        have eqf : p = first → ((p : Int) == (i : Int)) = true := fun h => by rw [beq_iff_eq]; omega
        have nef : p ≠ first → ((p : Int) == (i : Int)) = false := fun h => by rw [beq_eq_false_iff_ne]; omega
        clear hD hp hfe
        by_cases hlt : p < s.size
        · have hix := ix_str s hlt
          have f1 : (p : Int) < (s.size : Int) := by omega
          have hDg := fun W => isDigit_any W (s[p]'hlt)
          have HY : Hid (isDig (s[p]'hlt) = true → ∀ m, digsK s p (m + 1) = 1 + digsK s (p + 1) m) := fun h m => digsK_next hlt h
          have HZ : Hid (isDig (s[p]'hlt) = false → ∀ m, digsK s p m = 0) := fun h m => digsK_stop hlt h
          generalize (((s[p]'hlt).toNat : Nat) : Int) = u at *
          cases hd : isDig (s[p]'hlt) with
          | true =>
            rw [hd] at hDg
            by_cases hj15 : j < 15
            · have f2 := e15 hj15
              clear e15 n15 eqf nef
              go_wp2_with (first
                | (go_at_call 54; refine (hDg _).mono ?_; rintro e w1 ⟨rfl, hw1⟩; subst w1; clear hDg)
                | fail)
              go_roundw
              case rel =>
                refine ⟨p + 1, j + 1, by have := HP.out; omega, by omega, by omega, by go_num, trivial, ?_⟩
                obtain ⟨m, hm⟩ : ∃ m, 15 - j = m + 1 := ⟨14 - j, by omega⟩
                rw [HD.out, hm, HY.out hd, show 15 - (j + 1) = m by omega]
                omega
              case measure => simp [intOf]; omega
            · have f2 := n15 hj15
              have hne : p ≠ first := by have := HP.out; omega
              have f3 := nef hne
              clear e15 n15 eqf nef
              go_wp2_with (first
                | (go_at_call 54; refine (hDg _).mono ?_; rintro e w1 ⟨rfl, hw1⟩; subst w1; clear hDg)
                | fail)
              go_ret3
              refine ⟨?_, rfl⟩
              rw [ends.out (by rw [show 15 - j = 0 by omega]; exact digsK_zero _ _) hne]
              unfold txtV
              rw [sub_extract]
              rfl
          | false =>
            rw [hd] at hDg
            by_cases he : p = first
            · have f3 := eqf he
              have HE : Hid (p = first) := he
              clear e15 n15 eqf nef he
              go_wp2_with (first
                | (go_at_call 54; refine (hDg _).mono ?_; rintro e w1 ⟨rfl, hw1⟩; subst w1; clear hDg)
                | fail)
              go_ret3
              refine ⟨?_, rfl⟩
              rw [ends0.out (HZ.out hd _) HE.out]
              exact ret_first (by have := HFE.out; omega)
            · have f3 := nef he
              clear e15 n15 eqf nef
              go_wp2_with (first
                | (go_at_call 54; refine (hDg _).mono ?_; rintro e w1 ⟨rfl, hw1⟩; subst w1; clear hDg)
                | fail)
              go_ret3
              refine ⟨?_, rfl⟩
              rw [ends.out (HZ.out hd _) he]
              unfold txtV
              rw [sub_extract]
              rfl
        · have f1 : ¬ (p : Int) < (s.size : Int) := by omega
          by_cases he : p = first
          · have f3 := eqf he
            have HE : Hid (p = first) := he
            clear e15 n15 eqf nef he
            go_wp2
            go_ret3
            refine ⟨?_, rfl⟩
            rw [ends0.out (digsK_end (by omega)) HE.out]
            exact ret_first (by have := HFE.out; omega)
          · have f3 := nef he
            clear e15 n15 eqf nef
            go_wp2
            go_ret3
            refine ⟨?_, rfl⟩
            rw [ends.out (digsK_end (by omega)) he]
            unfold txtV
            rw [sub_extract]
            rfl
  | true =>
    rw [h0] at hA
    have hlt := standsP_some s h0
    have hC : ∀ W, Calls Tryz.prog 44 #[.string s, .int .i64 ((i : Int) + 1), .int .u8 48] W fun e w' => e = .returned (.bool (standsP s (i + 1) 48)) ∧ w' = W := fun W => by
      have h := stands_any W s (i + 1) 48
      rwa [show (((i + 1 : Nat) : Int)) = (i : Int) + 1 by omega] at h
    cases h1 : standsP s (i + 1) 48 with
    | true =>
      rw [h1] at hC
      have HX : Hid (numP s i = ([], i + 1, false)) := by
        show numP s i = _
        rw [numP_eq s i (by rw [h0]; rfl) (i + 1) (i + 1) (by rw [h0]; rfl) (by rw [h1]; rfl), if_pos rfl]
      clear h0 h1 hB
      go_enter Tryz.func69, Tryz.ntmps69
      go_wp2_with (first
        | (go_at_call_of 44 (Value.int .u8 45); refine (hA _).mono ?_; rintro e w1 ⟨rfl, hw1⟩; subst w1; clear hA)
        | (go_at_call 44; refine (hC _).mono ?_; rintro e w1 ⟨rfl, hw1⟩; subst w1; clear hC)
        | fail)
      go_ret3
      refine ⟨?_, rfl⟩
      rw [HX.out]
      rfl
    | false =>
      rw [h1] at hC
      obtain ⟨first, hfe⟩ : ∃ first, first = i + 1 := ⟨_, rfl⟩
      have hf1 : first ≤ s.size := by omega
      have HFE : Hid (first = _) := hfe
      have HN : Hid (∀ next, next = first + digsP s first → numP s i = if next = first then ([], first, false) else (subL s i next, next, true)) := fun next hn => numP_eq s i (by rw [h0]; rfl) first next (by rw [h0, hfe]; rfl) (by rw [hfe, h1, ← hfe]; exact hn)
      clear h0 h1 hB
      go_enter Tryz.func69, Tryz.ntmps69
      go_wp2_with (first
        | (go_at_call_of 44 (Value.int .u8 45); refine (hA _).mono ?_; rintro e w1 ⟨rfl, hw1⟩; subst w1; clear hA)
        | (go_at_call 44; refine (hC _).mono ?_; rintro e w1 ⟨rfl, hw1⟩; subst w1)
        | fail)
      clear hC
      go_loopw [5] (fun v wr => ∃ (p j : Nat), p = first + j ∧ j ≤ 15 ∧ p ≤ s.size ∧ v = .int .i64 (p : Int) ∧ wr = w ∧ digsP s first = j + digsK s p (15 - j)) (fun v _ => s.size + 1 - (intOf v).toNat)
      case atStart => exact ⟨first, 0, by omega, by omega, hf1, by go_num, rfl, by rw [Nat.zero_add]; rfl⟩
      case round =>
        obtain ⟨p, j, hp, hj, hps, rfl, hwr, hD⟩ := hrel
        subst wr
        have HD : Hid (digsP s first = j + digsK s p (15 - j)) := hD
        have HP : Hid (p = first + j) := hp
        have fin : Hid (digsK s p (15 - j) = 0 → numP s i = if p = first then ([], first, false) else (subL s i p, p, true)) := fun h0 => HN.out p (by rw [HD.out, h0, HP.out]; omega)
        have ends : Hid (digsK s p (15 - j) = 0 → p ≠ first → numP s i = (subL s i p, p, true)) := fun h0 hne => (fin.out h0).trans (if_neg hne)
        have ends0 : Hid (digsK s p (15 - j) = 0 → p = first → numP s i = ([], first, false)) := fun h0 hne => (fin.out h0).trans (if_pos hne)
        have l0 : (i : Int) ≤ (p : Int) := by omega
        have l1 : (p : Int) ≤ (s.size : Int) := by omega
        have e15 : j < 15 → (p : Int) < ((i : Int) + 1) + 15 := by omega
        have n15 : ¬ j < 15 → ¬ (p : Int) < ((i : Int) + 1) + 15 := by omega
        have eqf : p = first → ((p : Int) == ((i : Int) + 1)) = true := fun h => by rw [beq_iff_eq]; omega
        have nef : p ≠ first → ((p : Int) == ((i : Int) + 1)) = false := fun h => by rw [beq_eq_false_iff_ne]; omega
        clear hD hp hfe
        by_cases hlt : p < s.size
        · have hix := ix_str s hlt
          have f1 : (p : Int) < (s.size : Int) := by omega
          have hDg := fun W => isDigit_any W (s[p]'hlt)
          have HY : Hid (isDig (s[p]'hlt) = true → ∀ m, digsK s p (m + 1) = 1 + digsK s (p + 1) m) := fun h m => digsK_next hlt h
          have HZ : Hid (isDig (s[p]'hlt) = false → ∀ m, digsK s p m = 0) := fun h m => digsK_stop hlt h
          generalize (((s[p]'hlt).toNat : Nat) : Int) = u at *
          cases hd : isDig (s[p]'hlt) with
          | true =>
            rw [hd] at hDg
            by_cases hj15 : j < 15
            · have f2 := e15 hj15
              clear e15 n15 eqf nef
              go_wp2_with (first
                | (go_at_call 54; refine (hDg _).mono ?_; rintro e w1 ⟨rfl, hw1⟩; subst w1; clear hDg)
                | fail)
              go_roundw
              case rel =>
                refine ⟨p + 1, j + 1, by have := HP.out; omega, by omega, by omega, by go_num, trivial, ?_⟩
                obtain ⟨m, hm⟩ : ∃ m, 15 - j = m + 1 := ⟨14 - j, by omega⟩
                rw [HD.out, hm, HY.out hd, show 15 - (j + 1) = m by omega]
                omega
              case measure => simp [intOf]; omega
            · have f2 := n15 hj15
              have hne : p ≠ first := by have := HP.out; omega
              have f3 := nef hne
              clear e15 n15 eqf nef
              go_wp2_with (first
                | (go_at_call 54; refine (hDg _).mono ?_; rintro e w1 ⟨rfl, hw1⟩; subst w1; clear hDg)
                | fail)
              go_ret3
              refine ⟨?_, rfl⟩
              rw [ends.out (by rw [show 15 - j = 0 by omega]; exact digsK_zero _ _) hne]
              unfold txtV
              rw [sub_extract]
              rfl
          | false =>
            rw [hd] at hDg
            by_cases he : p = first
            · have f3 := eqf he
              have HE : Hid (p = first) := he
              clear e15 n15 eqf nef he
              go_wp2_with (first
                | (go_at_call 54; refine (hDg _).mono ?_; rintro e w1 ⟨rfl, hw1⟩; subst w1; clear hDg)
                | fail)
              go_ret3
              refine ⟨?_, rfl⟩
              rw [ends0.out (HZ.out hd _) HE.out]
              exact ret_first (by have := HFE.out; omega)
            · have f3 := nef he
              clear e15 n15 eqf nef
              go_wp2_with (first
                | (go_at_call 54; refine (hDg _).mono ?_; rintro e w1 ⟨rfl, hw1⟩; subst w1; clear hDg)
                | fail)
              go_ret3
              refine ⟨?_, rfl⟩
              rw [ends.out (HZ.out hd _) he]
              unfold txtV
              rw [sub_extract]
              rfl
        · have f1 : ¬ (p : Int) < (s.size : Int) := by omega
          by_cases he : p = first
          · have f3 := eqf he
            have HE : Hid (p = first) := he
            clear e15 n15 eqf nef he
            go_wp2
            go_ret3
            refine ⟨?_, rfl⟩
            rw [ends0.out (digsK_end (by omega)) HE.out]
            exact ret_first (by have := HFE.out; omega)
          · have f3 := nef he
            clear e15 n15 eqf nef
            go_wp2
            go_ret3
            refine ⟨?_, rfl⟩
            rw [ends.out (digsK_end (by omega)) he]
            unfold txtV
            rw [sub_extract]
            rfl

set_option maxRecDepth 100000 in
set_option maxHeartbeats 1000000 in
theorem readValue_any (w : World) (s : ByteArray) (i : Nat) (hs : s.size ≤ 1000000000000) (hi : i ≤ s.size) (T : Utf8At w) :
    Calls Tryz.prog 47 #[.string s, .int .i64 (i : Int)] w fun e w' => e = .returned (txtV (valP s i)) ∧ Kept (fun _ => False) w w' := by
  have hA : ∀ W, Calls Tryz.prog 44 #[.string s, .int .i64 (i : Int), .int .u8 34] W fun e w' => e = .returned (.bool (standsP s i 34)) ∧ w' = W := fun W => stands_any W s i 34
  cases h0 : standsP s i 34 with
  | false =>
    rw [h0] at hA
    have hN := readNumber_any w s i hs hi
    have HX : Hid (valP s i = numP s i) := by
      show valP s i = _
      unfold valP
      rw [if_neg (by rw [h0]; decide)]
    clear h0
    unfold txtV at hN
    generalize numP s i = r at *
    go_enter Tryz.func47, Tryz.ntmps47
    go_wp2_with (first
      | (go_at_call 44; refine (hA _).mono ?_; rintro e w1 ⟨rfl, hw1⟩; subst w1; clear hA)
      | (go_at_call 69; refine hN.mono ?_; rintro e w1 ⟨rfl, hw1⟩; subst w1; clear hN)
      | fail)
    go_ret3
    refine ⟨?_, Kept.refl _ _⟩
    rw [HX.out]
    rfl
  | true =>
    rw [h0] at hA
    have hR := readText_any w s i hs T
    have hl := (textP_next s hi).2.2
    cases h1 : (textP s i).2.2 with
    | false =>
      have HX : Hid (valP s i = ([], (textP s i).2.1, false)) := by
        show valP s i = _
        unfold valP
        rw [if_pos h0, if_neg (by rw [h1]; decide)]
      unfold txtV at hR
      rw [h1] at hR
      clear h0 h1 hl
      generalize (textP s i).2.1 = nx at *
      generalize (textP s i).1 = t at *
      go_enter Tryz.func47, Tryz.ntmps47
      go_wp2_with (first
        | (go_at_call 44; refine (hA _).mono ?_; rintro e w1 ⟨rfl, hw1⟩; subst w1; clear hA)
        | (go_at_call 45; refine hR.mono ?_; rintro e w1 ⟨rfl, K1⟩; clear hR)
        | fail)
      go_ret3
      refine ⟨?_, K1⟩
      rw [HX.out]
      rfl
    | true =>
      have HX : Hid (valP s i = (34 :: (textP s i).1, (textP s i).2.1, true)) := by
        show valP s i = _
        unfold valP
        rw [if_pos h0, if_pos h1]
      unfold txtV at hR
      rw [h1] at hR
      clear h0 h1
      generalize (textP s i).2.1 = nx at *
      generalize (textP s i).1 = t at *
      have hz : (mkB t).size ≤ 4 * s.size := by rw [mkB_size]; exact hl
      have HT : Hid (∃ q, q = mkB t) := ⟨_, rfl⟩
      generalize hq : mkB t = q at *
      have HQ : Hid (mkB t = q) := hq
      clear hq HT hl
      go_enter Tryz.func47, Tryz.ntmps47
      go_wp2_with (first
        | (go_at_call 44; refine (hA _).mono ?_; rintro e w1 ⟨rfl, hw1⟩; subst w1; clear hA)
        | (go_at_call 45; refine hR.mono ?_; rintro e w1 ⟨rfl, K1⟩; clear hR)
        | fail)
      go_ret3
      refine ⟨?_, K1⟩
      rw [HX.out]
      unfold txtV
      rw [show mkB (34 :: t) = (⟨#[34]⟩ : ByteArray) ++ q by rw [← HQ.out]; apply ByteArray.ext; rw [ByteArray.data_append]; show (34 :: t).toArray = #[34] ++ t.toArray; simp]
      rfl

end Go.Proofs.YtfiaaaflpjpnjaaGreatDoor
