/-
  The document's Unframe.
-/
import Derived.Test.YtchdmlckicipcaaCRefFr
import Derived.Lib.Bytes
namespace Go.Proofs.Ytchdmlckicipcaa
open Go.RowKit

theorem val4 {x0 x1 x2 x3 : Int} {n : Nat} (h : valB [x0, x1, x2, x3] = (n : Int)) : x0 * 16777216 + x1 * 65536 + x2 * 256 + x3 = (n : Int) := by
  simp [valB] at h
  omega

theorem strNums_inj {a b : List Int} (ha : Bs a) (hb : Bs b) (h : (strOfNums a).toList = (strOfNums b).toList) : a = b := by
  rw [Lib.strOfNums_toList, Lib.strOfNums_toList] at h
  unfold Lib.bytesOf at h
  refine List.ext_getElem? (fun i => ?_)
  have e := congrArg (fun l => l[i]?) h
  simp only [List.getElem?_map] at e
  cases h1 : a[i]? with
  | none => rw [h1] at e; cases h2 : b[i]? with
    | none => rfl
    | some y => rw [h2] at e; cases e
  | some x => rw [h1] at e; cases h2 : b[i]? with
    | none => rw [h2] at e; cases e
    | some y =>
      rw [h2] at e
      simp only [Option.map_some, Option.some.injEq] at e
      have e2 := congrArg UInt8.toNat e
      have bx := ha x (List.mem_of_getElem? h1)
      have bY := hb y (List.mem_of_getElem? h2)
      simp only [UInt8.toNat_ofNat'] at e2
      rw [Nat.mod_eq_of_lt (by omega), Nat.mod_eq_of_lt (by omega)] at e2
      congr 1
      omega

theorem strNums_ne {a b : List Int} (ha : Bs a) (hb : Bs b) (h : a ≠ b) : ((strOfNums a).toList == (strOfNums b).toList) = false := by
  rw [beq_eq_false_iff_ne]
  exact fun e => h (strNums_inj ha hb e)

theorem low4_val {b : List Int} (hb : Bs b) (hl : b.length = 4) {x : Nat} (h : (x : Int) = valB b) : low 4 x = b := by
  have := low_val b hb
  rw [hl, ← h, Int.toNat_natCast] at this
  exact this

set_option maxRecDepth 100000 in
set_option maxHeartbeats 400000 in
theorem xunfr_short (w : World) (a : Option Addr) (m c : Nat) (h : m < 8) :
    Calls Try.prog 19 #[.slice a m c] w fun e w' => e = .returned (.tuple #[.slice none 0 0, .int .i64 0, .int .i64 2]) ∧ w' = w := by
  have h1 : (m : Int) < 8 := by omega
  go_enter Try.func19, Try.ntmps19
  go_wp2
  go_ret3
  exact ⟨rfl, rfl⟩

theorem BytesAt.of4 {w : World} {base : Nat} {a : Option Addr} {c : Nat} {x : Nat} (h : w.ownsRow base 5 1 (.slice a 4 c) 4 ((low 4 x).map (Value.int .u8))) (hb : Bs (low 4 x)) : BytesAt w a 4 c (low 4 x) := by
  have h2 := h
  have hl := low_length 4 x
  generalize low 4 x = l at *
  rw [← hl] at h2
  have := BytesAt.ofRow h2 hb
  rwa [hl] at this

set_option maxRecDepth 100000 in
set_option maxHeartbeats 400000 in
theorem xunfr_long (w : World) (a : Option Addr) (m c : Nat) (raw : List Int) (B : BytesAt w a m c raw) (hm8 : 8 ≤ m) (hm : m ≤ 70368744177664) (n : Nat) (hn : valB ((raw.drop 0).take 4) = (n : Int)) (hlong : 1048576 < n ∨ m < 8 + n) :
    Calls Try.prog 19 #[.slice a m c] w fun e w' => e = .returned (.tuple #[.slice none 0 0, .int .i64 0, .int .i64 2]) ∧ Kept (fun _ => False) w w' := by
  have hlen := B.len
  have hcap := B.cap
  obtain ⟨ba, oa, rfl, hc⟩ := B.at (j := 0) (by omega)
  have y0 := hc 0 (by omega)
  rw [Nat.add_zero] at y0
  have y1 := hc 1 (by omega)
  have y2 := hc 2 (by omega)
  have y3 := hc 3 (by omega)
  have d0 := Bs.getD B.byte 0
  have d1 := Bs.getD B.byte 1
  have d2 := Bs.getD B.byte 2
  have d3 := Bs.getD B.byte 3
  rw [take4 (by omega)] at hn
  simp only [Nat.zero_add] at hn
  generalize raw.getD 0 0 = x0 at *
  generalize raw.getD 1 0 = x1 at *
  generalize raw.getD 2 0 = x2 at *
  generalize raw.getD 3 0 = x3 at *
  have g0 : ¬ (m : Int) < 8 := by omega
  have g1 : (0 : Int) < (m : Int) := by omega
  have g2 : (1 : Int) < (m : Int) := by omega
  have g3 : (2 : Int) < (m : Int) := by omega
  have g4 : (3 : Int) < (m : Int) := by omega
  have k1 : 0 < m := by omega
  have k2 : 1 < m := by omega
  have k3 : 2 < m := by omega
  have k4 : 3 < m := by omega
  have HN : Hid _ := val4 hn
  clear hc B hlen hn
  by_cases h1 : 1048576 < n
  · have q2 : (1048576 : Int) < (n : Int) := by omega
    go_enter Try.func19, Try.ntmps19
    go_wp2_with fail
    go_quiet (fail)
    simp only [HN.out]
    have K0 : Kept (fun _ => False) w (w.drewN nq) := Kept.drewN _ _ _
    go_wp2
    go_ret3
    exact ⟨rfl, K0⟩
  · have q2 : (n : Int) ≤ 1048576 := by omega
    have q3 : (m : Int) - 8 < (n : Int) := by omega
    go_enter Try.func19, Try.ntmps19
    go_wp2_with fail
    go_quiet (fail)
    simp only [HN.out]
    have K0 : Kept (fun _ => False) w (w.drewN nq) := Kept.drewN _ _ _
    go_wp2
    go_ret3
    exact ⟨rfl, K0⟩

set_option maxRecDepth 100000 in
set_option maxHeartbeats 1000000 in
theorem xunfr_mid (w : World) (b o m c : Nat) (raw : List Int) (B : BytesAt w (some ⟨b, o, none⟩) m c raw) (hm8 : 8 ≤ m) (hm : m ≤ 70368744177664) (n : Nat) (hn : valB ((raw.drop 0).take 4) = (n : Int)) (hn1 : n ≤ 1048576) (hn2 : 8 + n ≤ m) (hc8 : c ≠ 8) :
    Calls Try.prog 19 #[.slice (some ⟨b, o, none⟩) m c] w fun e w' =>
      IfP ((crc ((raw.drop 8).take n) : Int) = valB ((raw.drop 4).take 4))
        ((∃ a' c', e = .returned (.tuple #[.slice a' n c', .int .i64 (8 + (n : Int)), .int .i64 0]) ∧ w'.ownsRow w.heap.size 5 1 (.slice a' n c') n (((raw.drop 8).take n).map (Value.int .u8))) ∧ Kept (fun _ => False) w w')
        (e = .returned (.tuple #[.slice none 0 0, .int .i64 0, .int .i64 2]) ∧ Kept (fun _ => False) w w') := by
  obtain ⟨i0, hi0, hz0, hz1, hz2⟩ := info_parts Try.info5
  have hlen := B.len
  have hcap := B.cap
  have hc : ∀ j, j < raw.length → w.cell? ⟨b, o + j, none⟩ = some (.int .u8 (raw.getD j 0)) := by
    obtain ⟨ba, oa, e, hc⟩ := B.at (j := 0) (by omega)
    cases e
    exact hc
  have y0 := hc 0 (by omega)
  rw [Nat.add_zero] at y0
  have y1 := hc 1 (by omega)
  have y2 := hc 2 (by omega)
  have y3 := hc 3 (by omega)
  have d0 := Bs.getD B.byte 0
  have d1 := Bs.getD B.byte 1
  have d2 := Bs.getD B.byte 2
  have d3 := Bs.getD B.byte 3
  rw [take4 (by omega)] at hn
  simp only [Nat.zero_add] at hn
  have hbp : Bs ((raw.drop 8).take n) := Bs.take (Bs.drop B.byte _) _
  have hlp : (((raw.drop 8).take n) : List Int).length = n := by rw [List.length_take, List.length_drop]; omega
  have HB : Hid (∀ w', Kept (fun _ => False) w w' → BytesAt w' (some ⟨b, o, none⟩) m c raw) := fun w' K => B.kept K (fun _ _ _ h => h)
  have HP : Hid (∀ w', Kept (fun _ => False) w w' → BytesAt w' (some ⟨b, o + 8, none⟩) n (c - 8) ((raw.drop 8).take n)) := fun w' K => (HB.out w' K).piece hn2 _ (.inl rfl) _ (by omega)
  have HQ : Hid (∀ w', Kept (fun _ => False) w w' → BytesAt w' (some ⟨b, o + 4, none⟩) 4 (c - 4) ((raw.drop 4).take 4)) := fun w' K => (HB.out w' K).piece (by omega) _ (.inl rfl) _ (by omega)
  have hb4 : Bs ((raw.drop 4).take 4) := (HQ.out w (Kept.refl _ _)).byte
  have hl4 : ((raw.drop 4).take 4).length = 4 := (HQ.out w (Kept.refl _ _)).len
  have hcl := crc_lt ((raw.drop 8).take n) hbp
  have HS : Hid (∀ w' a' c', BytesAt w' a' n c' ((raw.drop 8).take n) → _) := fun w' a' c' B => refSum_any w' a' n c' ((raw.drop 8).take n) B (by omega)
  generalize raw.getD 0 0 = x0 at *
  generalize raw.getD 1 0 = x1 at *
  generalize raw.getD 2 0 = x2 at *
  generalize raw.getD 3 0 = x3 at *
  have g0 : ¬ (m : Int) < 8 := by omega
  have g1 : (0 : Int) < (m : Int) := by omega
  have g2 : (1 : Int) < (m : Int) := by omega
  have g3 : (2 : Int) < (m : Int) := by omega
  have g4 : (3 : Int) < (m : Int) := by omega
  have k1 : 0 < m := by omega
  have k2 : 1 < m := by omega
  have k3 : 2 < m := by omega
  have k4 : 3 < m := by omega
  have HN : Hid _ := val4 hn
  clear hc B hlen hn
  have q2 : (n : Int) ≤ 1048576 := by omega
  have q3 : (n : Int) ≤ (m : Int) - 8 := by omega
  have q4 : (8 : Int) + n ≤ (c : Int) := by omega
  have q5 : 8 + n ≤ c := by omega
  have q6 : 8 ≤ 8 + n := by omega
  have q7 : ((8 : Int) + n).toNat = 8 + n := by omega
  have q8 : (8 : Int) ≤ (c : Int) := by omega
  have q9 : (4 : Int) ≤ (c : Int) := by omega
  have q10 : 8 ≤ c := by omega
  have q11 : c ≠ 4 := by omega
  generalize (raw.drop 4).take 4 = v4 at *
  generalize (raw.drop 8).take n = pl at *
  by_cases hcr : (crc pl : Int) = valB v4
  · have hlo := low4_val hb4 hl4 hcr
    have hne : ((strOfNums (low 4 (crc pl))).toList == (strOfNums v4).toList) = true := by rw [hlo]; exact beq_self_eq_true _
    have HC : Hid _ := hcr
    clear hcr hlo
    go_enter Try.func19, Try.ntmps19
    go_wp2_with fail
    go_quiet (fail)
    simp only [HN.out]
    have K0 : Kept (fun _ => False) w (w.drewN nq) := Kept.drewN _ _ _
    go_wp2_with (first
      | (at_builtin; refine wpList_append_src _ rfl _ _ 23 rfl w.heap.size 5 i0 (.int .u8 0) 1 1 Try.underlying23 hi0 hz0 hz1 hz2 rfl (by decide) (.slice (some ⟨(w.drewN nq).heap.size, 0, none⟩) 0 0) 0 [] rfl (ownsRow_empty (w.drewN nq) w.heap.size 5 1 (Nat.le_refl _)) _ rfl n _ ((HP.out _ (K0.and (Kept.alloc (fun _ => False) _ (.cells #[] 5)))).src) (oneCells _) (by unfold maxLen; omega) (by omega) (by simp; first | done | exact Nat.le_refl _ | omega) ?_; intro a1 c1 w1 ho1 hg1 _ _; simp only [Nat.zero_add, List.nil_append] at ho1 ⊢)
      | fail)
    have K1 : Kept (fun _ => False) w w1.drew := (K0.and (lend_k1' _ w1 hg1)).and (Kept.drew _ _)
    have HO1 : Hid (w1.drew.ownsRow w.heap.size 5 1 (.slice a1 n c1) n (pl.map (Value.int .u8))) := ho1
    have B1 : BytesAt w1.drew a1 n c1 pl := by
      have h := HO1.out
      rw [← hlp] at h
      have := BytesAt.ofRow h hbp
      rwa [hlp] at this
    have hS := HS.out w1.drew a1 c1 B1
    have s4 := (HQ.out w1.drew K1).str
    have h2 := refFour_any w1.drew (crc pl) hcl
    clear hg1 ho1
    go_region_with (first
      | (go_at_call 16; refine hS.mono ?_; rintro e ws ⟨rfl, hws⟩; subst ws; clear hS)
      | (go_at_call 15; refine h2.mono ?_; rintro e w2 ⟨a2, c2, rfl, ho2, K2⟩; have K12 := K1.and K2; have r1 := ownsRow_block' HO1.out (fun k hk => K2.block k (HO1.out.lt k hk).2 (fun h => h)); have s5 := (HQ.out w2 K12).str; have s6 := (BytesAt.of4 ho2 (low_bs 4 _)).str; have HR1 : Hid _ := r1; clear h2 ho2 r1)
      | fail)
    all_goals
      go_wp2
      go_ret3
      exact .yes HC.out ⟨⟨_, _, rfl, by first | exact HR1.out | exact ⟨rfl, by have h := HR1.out.2; simpa using h⟩⟩, K12⟩
  · have hne : ((strOfNums (low 4 (crc pl))).toList == (strOfNums v4).toList) = false := strNums_ne (low_bs 4 _) hb4 (fun e => hcr (by rw [← e, valB_low4 hcl]))
    have HC : Hid _ := hcr
    clear hcr
    go_enter Try.func19, Try.ntmps19
    go_wp2_with fail
    go_quiet (fail)
    simp only [HN.out]
    have K0 : Kept (fun _ => False) w (w.drewN nq) := Kept.drewN _ _ _
    go_wp2_with (first
      | (at_builtin; refine wpList_append_src _ rfl _ _ 23 rfl w.heap.size 5 i0 (.int .u8 0) 1 1 Try.underlying23 hi0 hz0 hz1 hz2 rfl (by decide) (.slice (some ⟨(w.drewN nq).heap.size, 0, none⟩) 0 0) 0 [] rfl (ownsRow_empty (w.drewN nq) w.heap.size 5 1 (Nat.le_refl _)) _ rfl n _ ((HP.out _ (K0.and (Kept.alloc (fun _ => False) _ (.cells #[] 5)))).src) (oneCells _) (by unfold maxLen; omega) (by omega) (by simp; first | done | exact Nat.le_refl _ | omega) ?_; intro a1 c1 w1 ho1 hg1 _ _; simp only [Nat.zero_add, List.nil_append] at ho1 ⊢)
      | fail)
    have K1 : Kept (fun _ => False) w w1.drew := (K0.and (lend_k1' _ w1 hg1)).and (Kept.drew _ _)
    have HO1 : Hid (w1.drew.ownsRow w.heap.size 5 1 (.slice a1 n c1) n (pl.map (Value.int .u8))) := ho1
    have B1 : BytesAt w1.drew a1 n c1 pl := by
      have h := HO1.out
      rw [← hlp] at h
      have := BytesAt.ofRow h hbp
      rwa [hlp] at this
    have hS := HS.out w1.drew a1 c1 B1
    have s4 := (HQ.out w1.drew K1).str
    have h2 := refFour_any w1.drew (crc pl) hcl
    clear hg1 ho1
    go_region_with (first
      | (go_at_call 16; refine hS.mono ?_; rintro e ws ⟨rfl, hws⟩; subst ws; clear hS)
      | (go_at_call 15; refine h2.mono ?_; rintro e w2 ⟨a2, c2, rfl, ho2, K2⟩; have K12 := K1.and K2; have r1 := ownsRow_block' HO1.out (fun k hk => K2.block k (HO1.out.lt k hk).2 (fun h => h)); have s5 := (HQ.out w2 K12).str; have s6 := (BytesAt.of4 ho2 (low_bs 4 _)).str; have HR1 : Hid _ := r1; clear h2 ho2 r1)
      | fail)
    all_goals
      go_wp2
      go_ret3
      exact .no HC.out ⟨rfl, K12⟩

set_option maxRecDepth 100000 in
set_option maxHeartbeats 1000000 in
theorem xunfr_eight (w : World) (b o : Nat) (raw : List Int) (B : BytesAt w (some ⟨b, o, none⟩) 8 8 raw) (hn : valB ((raw.drop 0).take 4) = ((0 : Nat) : Int)) :
    Calls Try.prog 19 #[.slice (some ⟨b, o, none⟩) 8 8] w fun e w' =>
      IfP ((crc [] : Int) = valB ((raw.drop 4).take 4))
        ((∃ a' c', e = .returned (.tuple #[.slice a' 0 c', .int .i64 8, .int .i64 0]) ∧ w'.ownsRow w.heap.size 5 1 (.slice a' 0 c') 0 []) ∧ Kept (fun _ => False) w w')
        (e = .returned (.tuple #[.slice none 0 0, .int .i64 0, .int .i64 2]) ∧ Kept (fun _ => False) w w') := by
  obtain ⟨i0, hi0, hz0, hz1, hz2⟩ := info_parts Try.info5
  have hlen := B.len
  have hcap := B.cap
  have hc : ∀ j, j < raw.length → w.cell? ⟨b, o + j, none⟩ = some (.int .u8 (raw.getD j 0)) := by
    obtain ⟨ba, oa, e, hc⟩ := B.at (j := 0) (by omega)
    cases e
    exact hc
  have y0 := hc 0 (by omega)
  rw [Nat.add_zero] at y0
  have y1 := hc 1 (by omega)
  have y2 := hc 2 (by omega)
  have y3 := hc 3 (by omega)
  have d0 := Bs.getD B.byte 0
  have d1 := Bs.getD B.byte 1
  have d2 := Bs.getD B.byte 2
  have d3 := Bs.getD B.byte 3
  rw [take4 (by omega)] at hn
  simp only [Nat.zero_add] at hn
  have hbp : Bs [] := fun y hy => (by cases hy)
  have hlp : ([] : List Int).length = 0 := rfl
  have HB : Hid (∀ w', Kept (fun _ => False) w w' → BytesAt w' (some ⟨b, o, none⟩) 8 8 raw) := fun w' K => B.kept K (fun _ _ _ h => h)
  have HP : Hid (∀ w', Kept (fun _ => False) w w' → BytesAt w' (some ⟨b, o, none⟩) 0 0 []) := fun w' K => ⟨rfl, Nat.le_refl _, fun h => (by cases h), fun ad _ j u hu => (by simp at hu), fun y hy => (by cases hy)⟩
  have HQ : Hid (∀ w', Kept (fun _ => False) w w' → BytesAt w' (some ⟨b, o + 4, none⟩) 4 (8 - 4) ((raw.drop 4).take 4)) := fun w' K => (HB.out w' K).piece (by omega) _ (.inl rfl) _ (by omega)
  have hb4 : Bs ((raw.drop 4).take 4) := (HQ.out w (Kept.refl _ _)).byte
  have hl4 : ((raw.drop 4).take 4).length = 4 := (HQ.out w (Kept.refl _ _)).len
  have hcl := crc_lt [] hbp
  have HS : Hid (∀ w' a' c', BytesAt w' a' 0 c' [] → _) := fun w' a' c' B => refSum_any w' a' 0 c' [] B (by omega)
  generalize raw.getD 0 0 = x0 at *
  generalize raw.getD 1 0 = x1 at *
  generalize raw.getD 2 0 = x2 at *
  generalize raw.getD 3 0 = x3 at *
  have HN : Hid _ := val4 hn
  clear hc B hlen hn
  generalize (raw.drop 4).take 4 = v4 at *
  by_cases hcr : (crc [] : Int) = valB v4
  · have hlo := low4_val hb4 hl4 hcr
    have hne : ((strOfNums (low 4 (crc []))).toList == (strOfNums v4).toList) = true := by rw [hlo]; exact beq_self_eq_true _
    have HC : Hid _ := hcr
    clear hcr hlo
    go_enter Try.func19, Try.ntmps19
    go_wp2_with fail
    go_quiet (fail)
    simp only [HN.out]
    have K0 : Kept (fun _ => False) w (w.drewN nq) := Kept.drewN _ _ _
    go_wp2_with (first
      | (at_builtin; refine wpList_append_src _ rfl _ _ 23 rfl w.heap.size 5 i0 (.int .u8 0) 1 1 Try.underlying23 hi0 hz0 hz1 hz2 rfl (by decide) (.slice (some ⟨(w.drewN nq).heap.size, 0, none⟩) 0 0) 0 [] rfl (ownsRow_empty (w.drewN nq) w.heap.size 5 1 (Nat.le_refl _)) _ rfl 0 _ ((HP.out _ (K0.and (Kept.alloc (fun _ => False) _ (.cells #[] 5)))).src) (oneCells _) (by unfold maxLen; omega) (by omega) (by simp; first | done | exact Nat.le_refl _ | omega) ?_; intro a1 c1 w1 ho1 hg1 _ _; simp only [Nat.zero_add, List.nil_append] at ho1 ⊢)
      | fail)
    have K1 : Kept (fun _ => False) w w1.drew := (K0.and (lend_k1' _ w1 hg1)).and (Kept.drew _ _)
    have HO1 : Hid (w1.drew.ownsRow w.heap.size 5 1 (.slice a1 0 c1) 0 (([] : List Int).map (Value.int .u8))) := ho1
    have B1 : BytesAt w1.drew a1 0 c1 [] := by
      have h := HO1.out
      rw [← hlp] at h
      have := BytesAt.ofRow h hbp
      rwa [hlp] at this
    have hS := HS.out w1.drew a1 c1 B1
    have s4 := (HQ.out w1.drew K1).str
    have h2 := refFour_any w1.drew (crc []) hcl
    clear hg1 ho1
    go_region_with (first
      | (go_at_call 16; refine hS.mono ?_; rintro e ws ⟨rfl, hws⟩; subst ws; clear hS)
      | (go_at_call 15; refine h2.mono ?_; rintro e w2 ⟨a2, c2, rfl, ho2, K2⟩; have K12 := K1.and K2; have r1 := ownsRow_block' HO1.out (fun k hk => K2.block k (HO1.out.lt k hk).2 (fun h => h)); have s5 := (HQ.out w2 K12).str; have s6 := (BytesAt.of4 ho2 (low_bs 4 _)).str; have HR1 : Hid _ := r1; clear h2 ho2 r1)
      | fail)
    all_goals
      go_wp2
      go_ret3
      exact .yes HC.out ⟨⟨_, _, rfl, by first | exact HR1.out | exact ⟨rfl, by have h := HR1.out.2; simpa using h⟩⟩, K12⟩
  · have hne : ((strOfNums (low 4 (crc []))).toList == (strOfNums v4).toList) = false := strNums_ne (low_bs 4 _) hb4 (fun e => hcr (by rw [← e, valB_low4 hcl]))
    have HC : Hid _ := hcr
    clear hcr
    go_enter Try.func19, Try.ntmps19
    go_wp2_with fail
    go_quiet (fail)
    simp only [HN.out]
    have K0 : Kept (fun _ => False) w (w.drewN nq) := Kept.drewN _ _ _
    go_wp2_with (first
      | (at_builtin; refine wpList_append_src _ rfl _ _ 23 rfl w.heap.size 5 i0 (.int .u8 0) 1 1 Try.underlying23 hi0 hz0 hz1 hz2 rfl (by decide) (.slice (some ⟨(w.drewN nq).heap.size, 0, none⟩) 0 0) 0 [] rfl (ownsRow_empty (w.drewN nq) w.heap.size 5 1 (Nat.le_refl _)) _ rfl 0 _ ((HP.out _ (K0.and (Kept.alloc (fun _ => False) _ (.cells #[] 5)))).src) (oneCells _) (by unfold maxLen; omega) (by omega) (by simp; first | done | exact Nat.le_refl _ | omega) ?_; intro a1 c1 w1 ho1 hg1 _ _; simp only [Nat.zero_add, List.nil_append] at ho1 ⊢)
      | fail)
    have K1 : Kept (fun _ => False) w w1.drew := (K0.and (lend_k1' _ w1 hg1)).and (Kept.drew _ _)
    have HO1 : Hid (w1.drew.ownsRow w.heap.size 5 1 (.slice a1 0 c1) 0 (([] : List Int).map (Value.int .u8))) := ho1
    have B1 : BytesAt w1.drew a1 0 c1 [] := by
      have h := HO1.out
      rw [← hlp] at h
      have := BytesAt.ofRow h hbp
      rwa [hlp] at this
    have hS := HS.out w1.drew a1 c1 B1
    have s4 := (HQ.out w1.drew K1).str
    have h2 := refFour_any w1.drew (crc []) hcl
    clear hg1 ho1
    go_region_with (first
      | (go_at_call 16; refine hS.mono ?_; rintro e ws ⟨rfl, hws⟩; subst ws; clear hS)
      | (go_at_call 15; refine h2.mono ?_; rintro e w2 ⟨a2, c2, rfl, ho2, K2⟩; have K12 := K1.and K2; have r1 := ownsRow_block' HO1.out (fun k hk => K2.block k (HO1.out.lt k hk).2 (fun h => h)); have s5 := (HQ.out w2 K12).str; have s6 := (BytesAt.of4 ho2 (low_bs 4 _)).str; have HR1 : Hid _ := r1; clear h2 ho2 r1)
      | fail)
    all_goals
      go_wp2
      go_ret3
      exact .no HC.out ⟨rfl, K12⟩

/-- The document's Unframe answers as codec's does. -/
theorem xunframe_any (w : World) (a : Option Addr) (m c : Nat) (raw : List Int) (B : BytesAt w a m c raw) (hm : m ≤ 70368744177664) :
    Calls Try.prog 19 #[.slice a m c] w fun e w' => UnfrPost w w' (unfr raw) e ∧ Kept (fun _ => False) w w' := by
  have hlen := B.len
  have hcap := B.cap
  unfold unfr
  by_cases h1 : raw.length < 8
  · rw [if_pos h1]
    refine (xunfr_short w a m c (by omega)).mono ?_
    rintro e w' ⟨rfl, rfl⟩
    exact ⟨rfl, Kept.refl _ _⟩
  rw [if_neg h1]
  have hv := valB_bd ((raw.drop 0).take 4) (Bs.take (Bs.drop B.byte _) _)
  have hn : valB ((raw.drop 0).take 4) = ((valB ((raw.drop 0).take 4)).toNat : Int) := by omega
  by_cases h2 : 1048576 < (valB ((raw.drop 0).take 4)).toNat ∨ raw.length < 8 + (valB ((raw.drop 0).take 4)).toNat
  · rw [if_pos h2]
    refine (xunfr_long w a m c raw B (by omega) hm _ hn (by omega)).mono ?_
    rintro e w' ⟨rfl, K⟩
    exact ⟨rfl, K⟩
  rw [if_neg h2]
  obtain ⟨b, o, rfl, _⟩ := B.at (j := 0) (by omega)
  by_cases hc8 : c = 8
  · have hm8 : m = 8 := by omega
    subst hc8
    subst hm8
    have hn0 : (valB ((raw.drop 0).take 4)).toNat = 0 := by omega
    rw [hn0] at hn ⊢
    refine (xunfr_eight w b o raw B hn).mono ?_
    intro e w' h
    by_cases h3 : (crc ((raw.drop 8).take 0) : Int) = valB ((raw.drop 4).take 4)
    · rw [if_pos h3]
      obtain ⟨⟨a', c', he, ho⟩, K⟩ := h.1 h3
      exact ⟨⟨a', c', he, ho⟩, K⟩
    · rw [if_neg h3]
      exact h.2 h3
  · refine (xunfr_mid w b o m c raw B (by omega) hm _ hn (by omega) (by omega) hc8).mono ?_
    intro e w' h
    have hl : ((raw.drop 8).take (valB ((raw.drop 0).take 4)).toNat).length = (valB ((raw.drop 0).take 4)).toNat := by rw [List.length_take, List.length_drop]; omega
    by_cases h3 : (crc ((raw.drop 8).take (valB ((raw.drop 0).take 4)).toNat) : Int) = valB ((raw.drop 4).take 4)
    · rw [if_pos h3]
      obtain ⟨⟨a', c', he, ho⟩, K⟩ := h.1 h3
      exact ⟨⟨a', c', by rw [hl]; exact he, by rw [hl]; exact ho⟩, K⟩
    · rw [if_neg h3]
      exact h.2 h3

end Go.Proofs.Ytchdmlckicipcaa
