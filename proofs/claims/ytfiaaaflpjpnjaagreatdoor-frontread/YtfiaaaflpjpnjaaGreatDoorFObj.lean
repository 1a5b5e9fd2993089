/-
  Object.
-/
import Derived.Test.YtfiaaaflpjpnjaaGreatDoorFObjK
namespace Go.Proofs.YtfiaaaflpjpnjaaGreatDoor
open Go.RowKit

section
variable (s : ByteArray)

theorem skip1_any (hs : s.size ≤ 1000000000000) (W : World) (i : Nat) (hi : i < s.size) :
    Calls Tryz.prog 43 #[.string s, .int .i64 ((i : Int) + 1)] W fun e w' => e = .returned (.int .i64 (skipP s (i + 1) : Nat)) ∧ w' = W := by
  have h := pastBlanks_any W s (i + 1) (by omega) (by omega)
  rwa [show (((i + 1 : Nat) : Int)) = (i : Int) + 1 by omega] at h

end

theorem LSt.push {w W w3 : World} {a a3 : Option Addr} {c c3 : Nat} {ps : List Pr} {p : Pr} {o : Obj} (K : Kept (fun _ => False) w W) (hr : W.ownsRow w.heap.size 72 2 (.slice a ps.length c) ps.length (prF ps)) (ho : w3.ownsRow w.heap.size 72 2 (.slice a3 (ps.length + 1) c3) (ps.length + 1) (prF ps ++ prC p)) (hg : (W.alloc o).grownBy w3 (Value.slice a ps.length c).ownBlock) : LSt w w3 (.slice a3 (ps.length + 1) c3) (ps ++ [p]) := by
  have KG : Kept (fun g => w.heap.size ≤ g) (W.alloc o) w3 := Kept.grown hg (fun g e => (hr.lt g e).1)
  refine ⟨a3, c3, by rw [List.length_append]; rfl, ?_, (K.and (Kept.alloc _ _ _)).trans KG (fun i h => .inr h)⟩
  rw [prF_snoc, List.length_append]
  exact ho

set_option maxRecDepth 100000 in
set_option maxHeartbeats 2000000 in
theorem object_any (w : World) (s : ByteArray) (hs : s.size ≤ 1000000000000) (T : Utf8At w) :
    Calls Tryz.prog 24 #[.string s] w (ObjPost w (objP s)) := by
  obtain ⟨goal, hgoal⟩ : ∃ g, objP s = g := ⟨_, rfl⟩
  have HT : Hid (Utf8At w) := T
  have hStn : ∀ W (i : Nat) (c : UInt8), Calls Tryz.prog 44 #[.string s, .int .i64 (i : Int), .int .u8 (c.toNat : Int)] W fun e w' => e = .returned (.bool (standsP s i c)) ∧ w' = W := fun W i c => stands_any W s i c
  have HL0 : Hid (LSt w w (.slice none 0 0) []) := LSt.nil w w (Kept.refl _ _)
  rw [hgoal]
  go_enter Tryz.func24, Tryz.ntmps24
  go_wp2
  refine wp_scope6 (objJ w s goal) objJ_lt rfl rfl rfl rfl rfl rfl ?_ ?_ ?_ ?_ ?_ ?_ ?_
  · -- the beginning
    have hP := pastBlanks_any w s 0 (by omega) (Nat.zero_le _)
    have hle := skipP_le s (Nat.zero_le s.size)
    have hS := hStn w (skipP s 0) 123
    have HG : Hid (standsP s (skipP s 0) 123 = false → (([], skipP s 0, 2) : List Pr × Nat × Int) = goal) := fun h => by rw [← hgoal, objP_eq, h]; rfl
    have HO : Hid (standsP s (skipP s 0) 123 = true → skipP s 0 < s.size ∧ opnR s (skipP s 0) = goal) := fun h => ⟨standsP_some s h, by rw [← hgoal, objP_eq, h]; rfl⟩
    clear hgoal hStn
    generalize standsP s (skipP s 0) 123 = b at *
    generalize skipP s 0 = p at *
    cases b with
    | false =>
      go_wp2_with (first
        | (go_at_call 43; refine hP.mono ?_; rintro e w1 ⟨rfl, hw1⟩; subst w1; clear hP)
        | (go_at_call 44; refine hS.mono ?_; rintro e w1 ⟨rfl, hw1⟩; subst w1; clear hS)
        | fail)
      go_step3
      exact ⟨1, objJ1 (nm := []) (k := 0) (ps := []) rfl HL0.out (by simp) hle (Nat.le_refl _) (HG.out trivial)⟩
    | true =>
      go_wp2_with (first
        | (go_at_call 43; refine hP.mono ?_; rintro e w1 ⟨rfl, hw1⟩; subst w1; clear hP)
        | (go_at_call 44; refine hS.mono ?_; rintro e w1 ⟨rfl, hw1⟩; subst w1; clear hS)
        | fail)
      go_step3
      exact ⟨142, objJ0 (nm := []) (k := 0) rfl HL0.out (HO.out trivial).1 (HO.out trivial).2⟩
  · -- wrong
    rintro f a1 w1 ⟨ps, nm, n, i, k, v5, u, rfl, S, hp, hi, hc⟩
    have hg : (([], i, 2) : List Pr × Nat × Int) = goal := by
      rcases hc with h | h | h | h | h | h
      · omega
      · exact h.2.2
      · omega
      · omega
      · omega
      · omega
    subst hg
    unfold objA
    go_wp2
    simp only [jumps]
    go_ret3
    exact ⟨_, rfl, LSt.nil _ _ S.choose_spec.choose_spec.2.2⟩
  · -- closed
    rintro wrongH f a1 w1 ⟨ps, nm, n, i, k, v5, u, rfl, S, hp, hi, hc⟩
    have hc' : 2 ≤ f ∧ i < s.size ∧ closeP s ps i = goal := by
      rcases hc with h | h | h | h | h | h
      · omega
      · omega
      · exact h.2
      · omega
      · omega
      · omega
    clear hc
    obtain ⟨hf, hlt, hg⟩ := hc'
    have hP := skip1_any s hs w1 i hlt
    have hle := skipP_le s (show i + 1 ≤ s.size by omega)
    have HS : Hid (LSt w w1 v5 ps) := S
    unfold closeP at hg
    clear S hStn
    by_cases hq : skipP s (i + 1) = s.size
    · rw [if_pos hq] at hg
      subst hg
      have e1 : (((skipP s (i + 1) : Nat) : Int) == (s.size : Int)) = true := by rw [beq_iff_eq]; omega
      generalize skipP s (i + 1) = q at *
      clear hq hgoal
      unfold objA
      go_wp2_with (first
        | (go_at_call 43; refine hP.mono ?_; rintro e w2 ⟨rfl, hw2⟩; subst w2; clear hP)
        | fail)
      simp only [jumps]
      go_ret3
      exact ⟨_, rfl, HS.out⟩
    · rw [if_neg hq] at hg
      have e1 : (((skipP s (i + 1) : Nat) : Int) == (s.size : Int)) = false := by rw [beq_eq_false_iff_ne]; omega
      have HG : Hid (([], skipP s (i + 1), 2) = goal) := hg
      generalize skipP s (i + 1) = q at *
      clear hq hg hgoal
      unfold objA
      go_wp2_with (first
        | (go_at_call 43; refine hP.mono ?_; rintro e w2 ⟨rfl, hw2⟩; subst w2; clear hP)
        | fail)
      go_step3
      refine (‹∀ (a : Act) (w : World), Code.wp _ _ _ a w → _›) _ _ ?_
      exact wrongH f _ _ (objJ1 rfl HS.out hp hle (by omega) HG.out)
  · -- field
    rintro f a1 w1 ⟨ps, nm, n, i, k, v5, u, rfl, S, hp, hi, hc⟩
    have hc' : 8 * n + 4 ≤ f ∧ ps.length + n = 17 ∧ objF s n ps i = goal := by
      rcases hc with h | h | h | h | h | h
      · omega
      · omega
      · omega
      · exact h.2
      · omega
      · omega
    clear hc
    obtain ⟨hf, hn, hg⟩ := hc'
    obtain ⟨m, rfl⟩ : ∃ m, n = m + 1 := ⟨n - 1, by omega⟩
    rw [objF_next] at hg
    have HS : Hid (LSt w w1 v5 ps) := S
    have hR := readText_any w1 s i hs (HT.out.kept S.choose_spec.choose_spec.2.2)
    have htn := textP_next s hi
    unfold txtV at hR
    clear S hStn hgoal
    cases hb : (textP s i).2.2 with
    | false =>
      rw [hb] at hg hR
      have HG : Hid (([], (textP s i).2.1, 2) = goal) := hg
      clear hb hg
      obtain ⟨ht1, ht2, ht3⟩ := htn
      generalize (textP s i).2.1 = q at *
      generalize (textP s i).1 = t at *
      unfold objA
      go_wp2_with (first
        | (go_at_call 45; refine hR.mono ?_; rintro e w2 ⟨rfl, K2⟩; clear hR)
        | fail)
      go_step3
      exact ⟨1, by omega, objJ1 rfl (HS.out.kept K2) hp ht2 (Nat.le_refl _) HG.out⟩
    | true =>
      rw [hb] at hg hR
      have HG : Hid (namR s m ps (textP s i).1 i (textP s i).2.1 = goal) := hg
      clear hb hg
      obtain ⟨ht1, ht2, ht3⟩ := htn
      generalize (textP s i).2.1 = q at *
      generalize (textP s i).1 = t at *
      unfold objA
      go_wp2_with (first
        | (go_at_call 45; refine hR.mono ?_; rintro e w2 ⟨rfl, K2⟩; clear hR)
        | fail)
      go_step3
      exact ⟨8 * m + 11, by omega, objJ4 rfl (HS.out.kept K2) (by omega) ht2 HG.out⟩
  · -- opened
    rintro fieldH f a1 w1 ⟨ps, nm, n, i, k, v5, u, rfl, S, hp, hi, hc⟩
    have hc' : 142 ≤ f ∧ ps = [] ∧ i < s.size ∧ opnR s i = goal := by
      rcases hc with h | h | h | h | h | h
      · exact h.2
      · omega
      · omega
      · omega
      · omega
      · omega
    clear hc
    obtain ⟨hf, rfl, hlt, hg⟩ := hc'
    have hP := skip1_any s hs w1 i hlt
    have hle := skipP_le s (show i + 1 ≤ s.size by omega)
    have hS : Calls Tryz.prog 44 #[.string s, .int .i64 ((skipP s (i + 1) : Nat) : Int), .int .u8 125] w1 fun e w' => e = .returned (.bool (standsP s (skipP s (i + 1)) 125)) ∧ w' = w1 := hStn w1 (skipP s (i + 1)) 125
    have HS : Hid (LSt w w1 v5 []) := S
    unfold opnR at hg
    clear S hStn hgoal
    cases hb : standsP s (skipP s (i + 1)) 125 with
    | true =>
      rw [hb] at hg hS
      have HG : Hid (skipP s (i + 1) < s.size ∧ closeP s [] (skipP s (i + 1)) = goal) := ⟨standsP_some s hb, hg⟩
      clear hb hg
      generalize skipP s (i + 1) = q at *
      unfold objA
      go_wp2_with (first
        | (go_at_call 43; refine hP.mono ?_; rintro e w2 ⟨rfl, hw2⟩; subst w2; clear hP)
        | (go_at_call 44; refine hS.mono ?_; rintro e w2 ⟨rfl, hw2⟩; subst w2; clear hS)
        | fail)
      go_step3
      exact ⟨2, by omega, objJ2 rfl HS.out (by simp) HG.out.1 HG.out.2⟩
    | false =>
      rw [hb] at hg hS
      have HG : Hid (objF s 17 [] (skipP s (i + 1)) = goal) := hg
      clear hb hg
      generalize skipP s (i + 1) = q at *
      unfold objA
      go_wp2_with (first
        | (go_at_call 43; refine hP.mono ?_; rintro e w2 ⟨rfl, hw2⟩; subst w2; clear hP)
        | (go_at_call 44; refine hS.mono ?_; rintro e w2 ⟨rfl, hw2⟩; subst w2; clear hS)
        | fail)
      go_step3
      refine (‹∀ (a : Act) (w : World), Code.wp _ _ _ a w → _›) _ _ ?_
      exact fieldH f _ _ (objJ3 rfl HS.out rfl (by decide) hle (by omega) HG.out)
  · -- named
    rintro f a1 w1 ⟨ps, nm, n, i, k, v5, u, rfl, S, hp, hi, hc⟩
    have hc' : 8 * n + 11 ≤ f ∧ ps.length + n = 16 ∧ namR s n ps nm k i = goal := by
      rcases hc with h | h | h | h | h | h
      · omega
      · omega
      · omega
      · omega
      · exact h.2
      · omega
    clear hc
    obtain ⟨hf, hn, hg⟩ := hc'
    have HS : Hid (LSt w w1 v5 ps) := S
    obtain ⟨av, cv, rfl, ho, K⟩ := S
    have hF := field_any w1 av cv ps nm (PairsAt.of_row ho) (by omega)
    unfold fldV at hF
    unfold namR at hg
    clear ho hgoal
    have HK : Hid (Kept (fun _ => False) w w1) := K
    cases hb : (fieldP ps nm).isSome with
    | true =>
      rw [hb] at hg hF
      have HG : Hid (([], k, 16) = goal) := hg
      clear hb hg K
      generalize mkB ((fieldP ps nm).getD []) = q at *
      unfold objA
      go_wp2_with (first
        | (go_at_call 46; refine hF.mono ?_; rintro e w2 ⟨rfl, K2⟩; clear hF)
        | fail)
      simp only [jumps]
      go_ret3
      rw [← HG.out]
      exact ⟨_, rfl, LSt.nil _ _ (HK.out.and K2)⟩
    | false =>
      rw [hb] at hg hF
      rw [if_neg (by decide)] at hg
      by_cases h16 : ps.length = 16
      · rw [if_pos h16] at hg
        have HG : Hid (([], k, 10) = goal) := hg
        have e1 : ((ps.length : Int) == 16) = true := by rw [beq_iff_eq]; omega
        clear hb hg K h16
        generalize mkB ((fieldP ps nm).getD []) = q at *
        unfold objA
        go_wp2_with (first
          | (go_at_call 46; refine hF.mono ?_; rintro e w2 ⟨rfl, K2⟩; clear hF)
          | fail)
        simp only [jumps]
        go_ret3
        rw [← HG.out]
        exact ⟨_, rfl, LSt.nil _ _ (HK.out.and K2)⟩
      · rw [if_neg h16] at hg
        have e1 : ((ps.length : Int) == 16) = false := by rw [beq_eq_false_iff_ne]; omega
        have hP := fun W => pastBlanks_any W s i (by omega) hi
        have hle := skipP_le s hi
        have hS : ∀ W, Calls Tryz.prog 44 #[.string s, .int .i64 ((skipP s i : Nat) : Int), .int .u8 58] W fun e w' => e = .returned (.bool (standsP s (skipP s i) 58)) ∧ w' = W := fun W => hStn W (skipP s i) 58
        have hlt16 : ps.length < 16 := by omega
        clear hStn h16
        cases h58 : standsP s (skipP s i) 58 with
        | false =>
          rw [h58] at hg hS
          have HG : Hid (([], skipP s i, 2) = goal) := hg
          clear hb hg K h58
          generalize mkB ((fieldP ps nm).getD []) = q at *
          generalize skipP s i = p at *
          unfold objA
          go_wp2_with (first
            | (go_at_call 46; refine hF.mono ?_; rintro e w2 ⟨rfl, K2⟩; clear hF)
            | (go_at_call 43; refine (hP _).mono ?_; rintro e w3 ⟨rfl, hw3⟩; subst w3; clear hP)
            | (go_at_call 44; refine (hS _).mono ?_; rintro e w3 ⟨rfl, hw3⟩; subst w3; clear hS)
            | fail)
          go_step3
          exact ⟨1, by omega, objJ1 rfl (HS.out.kept K2) hp hle (Nat.le_refl _) HG.out⟩
        | true =>
          rw [h58] at hg hS
          have HG : Hid (skipP s i < s.size ∧ colR s n ps nm (skipP s i) = goal) := ⟨standsP_some s h58, hg⟩
          clear hb hg K h58
          generalize mkB ((fieldP ps nm).getD []) = q at *
          generalize skipP s i = p at *
          unfold objA
          go_wp2_with (first
            | (go_at_call 46; refine hF.mono ?_; rintro e w2 ⟨rfl, K2⟩; clear hF)
            | (go_at_call 43; refine (hP _).mono ?_; rintro e w3 ⟨rfl, hw3⟩; subst w3; clear hP)
            | (go_at_call 44; refine (hS _).mono ?_; rintro e w3 ⟨rfl, hw3⟩; subst w3; clear hS)
            | fail)
          go_step3
          exact ⟨8 * n + 10, by omega, objJ5 rfl (HS.out.kept K2) hn hlt16 HG.out.1 HG.out.2⟩
  · -- colon
    rintro f a1 w1 ⟨ps, nm, n, i, k, v5, u, rfl, S, hp, hi, hc⟩
    have hc' : 8 * n + 10 ≤ f ∧ ps.length + n = 16 ∧ ps.length < 16 ∧ i < s.size ∧ colR s n ps nm i = goal := by
      rcases hc with h | h | h | h | h | h
      · omega
      · omega
      · omega
      · omega
      · omega
      · exact h.2
    clear hc
    obtain ⟨hf, hn, hlt16, hlt, hg⟩ := hc'
    have HS : Hid (LSt w w1 v5 ps) := S
    obtain ⟨av, cv, rfl, ho, K⟩ := S
    have HR : Hid (w1.ownsRow w.heap.size 72 2 (.slice av ps.length cv) ps.length (prF ps)) := ho
    have HK : Hid (Kept (fun _ => False) w w1) := K
    have hP0 := fun W => skip1_any s hs W i hlt
    have hle := skipP_le s (show i + 1 ≤ s.size by omega)
    have hV := readValue_any w1 s (skipP s (i + 1)) hs hle (HT.out.kept K)
    have hvn := valP_next s hle
    unfold txtV at hV
    unfold colR at hg
    clear ho hgoal K
    generalize skipP s (i + 1) = p0 at *
    cases hb : (valP s p0).2.2 with
    | false =>
      rw [hb] at hg hV
      have HG : Hid (([], (valP s p0).2.1, 2) = goal) := hg
      clear hb hg
      obtain ⟨hv1, hv2, hv3⟩ := hvn
      generalize (valP s p0).2.1 = q at *
      generalize (valP s p0).1 = t at *
      unfold objA
      go_wp2_with (first
        | (go_at_call 43; refine (hP0 _).mono ?_; rintro e w2 ⟨rfl, hw2⟩; subst w2; clear hP0)
        | (go_at_call 47; refine hV.mono ?_; rintro e w2 ⟨rfl, K2⟩; clear hV)
        | fail)
      go_step3
      exact ⟨1, by omega, objJ1 rfl (HS.out.kept K2) hp hv2 (Nat.le_refl _) HG.out⟩
    | true =>
      rw [hb] at hg hV
      rw [if_neg (by decide)] at hg
      obtain ⟨hv1, hv2, hv3⟩ := hvn
      clear hb
      generalize (valP s p0).2.1 = q at *
      generalize (valP s p0).1 = t at *
      obtain ⟨i0, hi0, hz0, hz1, hz2⟩ := info_parts Tryz.info72
      have hP1 := fun W => pastBlanks_any W s q (by omega) hv2
      have hle1 := skipP_le s hv2
      have hS1 : ∀ W, Calls Tryz.prog 44 #[.string s, .int .i64 ((skipP s q : Nat) : Int), .int .u8 44] W fun e w' => e = .returned (.bool (standsP s (skipP s q) 44)) ∧ w' = W := fun W => hStn W (skipP s q) 44
      have hS2 : ∀ W, Calls Tryz.prog 44 #[.string s, .int .i64 ((skipP s q : Nat) : Int), .int .u8 125] W fun e w' => e = .returned (.bool (standsP s (skipP s q) 125)) ∧ w' = W := fun W => hStn W (skipP s q) 125
      have HP2 : Hid (skipP s q < s.size → ∀ W, Calls Tryz.prog 43 #[.string s, .int .i64 (((skipP s q : Nat) : Int) + 1)] W fun e w' => e = .returned (.int .i64 (skipP s (skipP s q + 1) : Nat)) ∧ w' = W) := fun h W => skip1_any s hs W (skipP s q) h
      clear hStn
      cases h44 : standsP s (skipP s q) 44 with
      | true =>
        rw [h44] at hg hS1
        have hq := standsP_some s h44
        have hP2 := HP2.out hq
        have HG : Hid (skipP s (skipP s q + 1) ≤ s.size ∧ objF s n (ps ++ [(nm, t)]) (skipP s (skipP s q + 1)) = goal) := ⟨skipP_le s (by omega), hg⟩
        clear h44 hg hS2 HP2
        generalize skipP s (skipP s q + 1) = p2 at *
        generalize skipP s q = p1 at *
        unfold objA
        go_wp2_with (first
          | (go_at_call 43; refine (hP0 _).mono ?_; rintro e w2 ⟨rfl, hw2⟩; subst w2; clear hP0)
          | (go_at_call 47; refine hV.mono ?_; rintro e w2 ⟨rfl, K2⟩; clear hV; have hrow := ownsRow_keep HR.out (fun g hg => K2.block g (ownsRow_blk HR.out hg) (fun h => h)); have HSZ : Hid (w.heap.size ≤ w2.heap.size) := Nat.le_trans HK.out.size K2.size; have HK2 : Hid (Kept (fun _ => False) w w2) := HK.out.and K2)
          | (at_builtin; refine wpList_append_src _ rfl _ _ 47 rfl w.heap.size 72 i0 _ 2 32 Tryz.underlying47 hi0 hz0 hz1 hz2 rfl (by decide) (.slice av ps.length cv) ps.length _ rfl (hrow.alloc _) _ rfl 1 (prC (nm, t)) (.inl ⟨_, 1, rfl, rfl, World.news_of_block (heap_alloc_new _ _)⟩) (prC_one _) (by unfold maxLen; omega) (by omega) (by rw [World.size_alloc]; exact Nat.le_trans HSZ.out (by omega)) ?_; intro a3 c3 w3 ho3 hg3 _ hl3; have HS3 : Hid (LSt w w3 (.slice a3 (ps.length + 1) c3) (ps ++ [(nm, t)])) := LSt.push HK2.out hrow ho3 hg3; clear ho3 hg3 hrow)
          | (go_at_call 43; refine (hP1 _).mono ?_; rintro e w4 ⟨rfl, hw4⟩; subst w4; clear hP1)
          | (go_at_call 44; refine (hS1 _).mono ?_; rintro e w4 ⟨rfl, hw4⟩; subst w4; clear hS1)
          | (go_at_call 43; refine (hP2 _).mono ?_; rintro e w4 ⟨rfl, hw4⟩; subst w4; clear hP2)
          | fail)
        go_step3
        exact ⟨8 * n + 4, by omega, objJ3 rfl HS3.out (by rw [List.length_append]; simp; omega) (by omega) HG.out.1 (Nat.le_refl _) HG.out.2⟩
      | false =>
        rw [h44] at hg hS1
        rw [if_neg (by decide)] at hg
        cases h125 : standsP s (skipP s q) 125 with
        | true =>
          rw [h125] at hg hS2
          have HG : Hid (skipP s q < s.size ∧ closeP s (ps ++ [(nm, t)]) (skipP s q) = goal) := ⟨standsP_some s h125, hg⟩
          clear h44 h125 hg HP2
          generalize skipP s q = p1 at *
          unfold objA
          go_wp2_with (first
            | (go_at_call 43; refine (hP0 _).mono ?_; rintro e w2 ⟨rfl, hw2⟩; subst w2; clear hP0)
            | (go_at_call 47; refine hV.mono ?_; rintro e w2 ⟨rfl, K2⟩; clear hV; have hrow := ownsRow_keep HR.out (fun g hg => K2.block g (ownsRow_blk HR.out hg) (fun h => h)); have HSZ : Hid (w.heap.size ≤ w2.heap.size) := Nat.le_trans HK.out.size K2.size; have HK2 : Hid (Kept (fun _ => False) w w2) := HK.out.and K2)
            | (at_builtin; refine wpList_append_src _ rfl _ _ 47 rfl w.heap.size 72 i0 _ 2 32 Tryz.underlying47 hi0 hz0 hz1 hz2 rfl (by decide) (.slice av ps.length cv) ps.length _ rfl (hrow.alloc _) _ rfl 1 (prC (nm, t)) (.inl ⟨_, 1, rfl, rfl, World.news_of_block (heap_alloc_new _ _)⟩) (prC_one _) (by unfold maxLen; omega) (by omega) (by rw [World.size_alloc]; exact Nat.le_trans HSZ.out (by omega)) ?_; intro a3 c3 w3 ho3 hg3 _ hl3; have HS3 : Hid (LSt w w3 (.slice a3 (ps.length + 1) c3) (ps ++ [(nm, t)])) := LSt.push HK2.out hrow ho3 hg3; clear ho3 hg3 hrow)
            | (go_at_call 43; refine (hP1 _).mono ?_; rintro e w4 ⟨rfl, hw4⟩; subst w4; clear hP1)
            | (go_at_call_of 44 (Value.int .u8 44); refine (hS1 _).mono ?_; rintro e w4 ⟨rfl, hw4⟩; subst w4; clear hS1)
            | (go_at_call 44; refine (hS2 _).mono ?_; rintro e w4 ⟨rfl, hw4⟩; subst w4; clear hS2)
            | fail)
          go_step3
          exact ⟨2, by omega, objJ2 rfl HS3.out (by rw [List.length_append]; simp; omega) HG.out.1 HG.out.2⟩
        | false =>
          rw [h125] at hg hS2
          have HG : Hid (([], skipP s q, 2) = goal) := hg
          clear h44 h125 hg HP2
          generalize skipP s q = p1 at *
          unfold objA
          go_wp2_with (first
            | (go_at_call 43; refine (hP0 _).mono ?_; rintro e w2 ⟨rfl, hw2⟩; subst w2; clear hP0)
            | (go_at_call 47; refine hV.mono ?_; rintro e w2 ⟨rfl, K2⟩; clear hV; have hrow := ownsRow_keep HR.out (fun g hg => K2.block g (ownsRow_blk HR.out hg) (fun h => h)); have HSZ : Hid (w.heap.size ≤ w2.heap.size) := Nat.le_trans HK.out.size K2.size; have HK2 : Hid (Kept (fun _ => False) w w2) := HK.out.and K2)
            | (at_builtin; refine wpList_append_src _ rfl _ _ 47 rfl w.heap.size 72 i0 _ 2 32 Tryz.underlying47 hi0 hz0 hz1 hz2 rfl (by decide) (.slice av ps.length cv) ps.length _ rfl (hrow.alloc _) _ rfl 1 (prC (nm, t)) (.inl ⟨_, 1, rfl, rfl, World.news_of_block (heap_alloc_new _ _)⟩) (prC_one _) (by unfold maxLen; omega) (by omega) (by rw [World.size_alloc]; exact Nat.le_trans HSZ.out (by omega)) ?_; intro a3 c3 w3 ho3 hg3 _ hl3; have HS3 : Hid (LSt w w3 (.slice a3 (ps.length + 1) c3) (ps ++ [(nm, t)])) := LSt.push HK2.out hrow ho3 hg3; clear ho3 hg3 hrow)
            | (go_at_call 43; refine (hP1 _).mono ?_; rintro e w4 ⟨rfl, hw4⟩; subst w4; clear hP1)
            | (go_at_call_of 44 (Value.int .u8 44); refine (hS1 _).mono ?_; rintro e w4 ⟨rfl, hw4⟩; subst w4; clear hS1)
            | (go_at_call 44; refine (hS2 _).mono ?_; rintro e w4 ⟨rfl, hw4⟩; subst w4; clear hS2)
            | fail)
          go_step3
          exact ⟨1, by omega, objJ1 rfl HS3.out (by rw [List.length_append]; simp; omega) hle1 (Nat.le_refl _) HG.out⟩

end Go.Proofs.YtfiaaaflpjpnjaaGreatDoor
