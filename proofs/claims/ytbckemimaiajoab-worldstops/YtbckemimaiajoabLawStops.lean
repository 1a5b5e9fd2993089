/-
  WorldStops holds for every two numbers: the law's call returns true. No condition.
-/
import Derived.Test.YtbckemimaiajoabLow
namespace Go.Proofs.Ytbckemimaiajoab
open Go.ChangeShapes Go.WideShapes Go.ChangeAt Go.RowKit

theorem append_new {w : World} {lo d n L : Nat} {st : DSt} (D : DiskLow w lo d n L st) (x : Int) (hx : isI64 x) (v : Int) (hv : 0 ≤ v ∧ v ≤ 255) (fr : Nat × Nat) (hM : L + 1 ≤ 70368744177664) (hn : n < 4611686018427387904) (hops : st.ops < 4611686018427387904) :
    Calls Try.prog 8 #[.pointer (some ⟨d, 0, none⟩), .int .i64 x, .slice (some ⟨w.heap.size, 0, none⟩) 1 1] (w.alloc (.cells #[.int .u8 v] 5 fr)) fun e w' =>
      e = .returned (.int .i64 (st.err x)) ∧ DiskLow w' lo d (n + 1) (L + 1) (st.append x [v]) ∧ Below lo w w' := by
  obtain ⟨S, bf, bq, G, C, D, hS, hl⟩ := D
  have KA := Kept.alloc (fun _ => False) w (.cells #[.int .u8 v] 5 fr)
  have B : BytesAt (w.alloc (.cells #[.int .u8 v] 5 fr)) (some ⟨w.heap.size, 0, none⟩) 1 1 [v] :=
    ⟨rfl, Nat.le_refl _, fun h => (by cases h), fun ad h => (by cases h; exact World.news_of_block (heap_alloc_new w _)), fun y hy => (by simp at hy; subst hy; exact hv)⟩
  refine (append_any (D.kept KA (fun _ _ h => h)) x hx B (fun _ ad e hs => by cases e; have := D.bnd _ hs; simp at this) hM hn hops).mono ?_
  rintro e w' ⟨rfl, S', G', C', D', K', hS'⟩
  have hz : w.heap.size ≤ (w.alloc (.cells #[.int .u8 v] 5 fr)).heap.size := by simp
  exact ⟨rfl, ⟨S', bf, bq, G', C', D', fun k h => (hS' k h).elim (hS k) (fun h => Nat.le_trans hl (Nat.le_trans hz h)), Nat.le_trans hl (Nat.le_trans hz K'.size)⟩,
    (KA.none.mono hl).trans (K'.below (Nat.le_trans hl hz) hS)⟩

/-- A disk that is to stop at kk, behind p operations, no fault in wait. -/
structure Stp (st : DSt) (p kk : Int) : Prop where
  ops : st.ops = p
  stop : st.stop = kk
  faults : ∀ x, st.faults x = none

theorem Stp.err {st : DSt} {p kk : Int} (h : Stp st p kk) : st.err 2 = if kk ≤ p then 4 else 0 := by
  unfold DSt.err
  rw [h.ops, h.stop, h.faults]
  simp

theorem Stp.append {st : DSt} {p kk : Int} (h : Stp st p kk) (b : List Int) : Stp (st.append 2 b) (p + 1) kk := by
  obtain ⟨r1, r2, r3⟩ := append_rest st 2 b
  refine ⟨by rw [r1, h.ops], by rw [r2, h.stop], fun x => ?_⟩
  rw [r3]
  simp only [DSt.after]
  split
  · rfl
  · exact h.faults x

theorem Stp.sync {st : DSt} {p kk : Int} (h : Stp st p kk) : Stp (st.sync 2) (p + 1) kk := by
  have ha : Stp st.after (p + 1) kk := by
    refine ⟨by simp [DSt.after, h.ops], h.stop, fun x => ?_⟩
    simp only [DSt.after]
    split
    · rfl
    · exact h.faults x
  unfold DSt.sync
  split
  · split
    · exact ⟨ha.ops, ha.stop, ha.faults⟩
    · exact ha
  · exact ha

theorem loseAll_ops : ∀ (l cs : List Int) (st : DSt), (st.loseAll l cs).ops = st.ops
  | [], _, _ => rfl
  | x :: l, cs, st => by
    unfold DSt.loseAll
    rw [loseAll_ops l]
    exact (lose_ops st x _).1

theorem Stp.crash {st : DSt} {p kk : Int} (h : Stp st p kk) (l cs : List Int) : Stp (st.crash l cs) p 9223372036854775807 :=
  ⟨by unfold DSt.crash; rw [loseAll_ops, h.ops], rfl, fun _ => rfl⟩

theorem stp_start (kk : Int) (h0 : 0 ≤ kk) (h1 : kk ≤ 1000) : Stp (DSt.new.stopped kk) 0 kk := by
  have e : DSt.new.at kk = kk := by unfold DSt.at DSt.new; simp; omega
  exact ⟨rfl, e, fun _ => rfl⟩

set_option maxRecDepth 100000 in
set_option maxHeartbeats 2000000 in
theorem stops_walk (after many : Int) (w : World) :
    Calls Try.prog 3 #[.int .i64 after, .int .i64 many] w fun e w' => e = .returned (.bool true) ∧ Below w.heap.size w w' := by
  have k0 := Int.emod_nonneg after (by decide : (20 : Int) ≠ 0)
  have k1 := Int.emod_lt_of_pos after (by decide : (0 : Int) < 20)
  have n0 := Int.emod_nonneg many (by decide : (40 : Int) ≠ 0)
  have n1 := Int.emod_lt_of_pos many (by decide : (0 : Int) < 40)
  have hw1 : Calls Try.prog 5 #[.int .i64 after, .int .i64 20] w fun e w' => e = .returned (.int .i64 (after % 20)) ∧ w = w' := (within_any w after 20 (by decide) (by decide)).mono (fun e w' h => ⟨h.1, h.2.symm⟩)
  have hw2 : Calls Try.prog 5 #[.int .i64 many, .int .i64 40] w fun e w' => e = .returned (.int .i64 (many % 40)) ∧ w = w' := (within_any w many 40 (by decide) (by decide)).mono (fun e w' h => ⟨h.1, h.2.symm⟩)
  generalize after % 20 = kk at *
  generalize many % 40 = nn at *
  go_enter Try.func3, Try.ntmps3
  go_wp2_with (first
    | (go_at_call 5; have _t := hw1; refine hw1.mono ?_; rintro e _ ⟨rfl, rfl⟩; clear _t hw1)
    | (go_at_call 5; refine hw2.mono ?_; rintro e _ ⟨rfl, rfl⟩; clear hw2)
    | (go_at_call 6; refine (newDisk_low _).mono ?_; rintro e w1 ⟨rfl, D1, K1⟩)
    | (go_at_call 7; refine (stop_low D1 kk (by decide) (isI64_of (by omega) (by omega))).mono ?_; rintro e w2 ⟨rfl, D2, K2⟩; replace K2 := K1.trans K2; clear D1 K1)
    | fail)
  have hS := stp_start kk k0 (by omega)
  generalize DSt.new.stopped kk = st0 at hS D2
  go_loopw [8, 9] (fun dn i wr => ∃ (k : Nat) (done p : Int) (st : DSt), (k : Int) ≤ nn ∧ i = .int .i64 k ∧ dn = .int .i64 done ∧ 0 ≤ done ∧ done ≤ k ∧ 0 ≤ p ∧ p ≤ 2 * k ∧ Stp st p kk ∧ DiskLow wr w.heap.size (w.heap.size + 2) (2 * k) k st ∧ Below w.heap.size w wr)
    (fun _ i _ => 40 - (intOf i).toNat)
  case atStart => exact ⟨0, 0, 0, st0, by omega, rfl, rfl, by decide, by decide, by decide, by decide, hS, D2, K2⟩
  case round =>
    obtain ⟨k, done, p, st, hk, rfl, rfl, d0, d1, p0, p1, hst, D, K⟩ := hrel
    clear hS D2 K2
    by_cases hlt : (k : Int) < nn
    · have hA := fun fr => append_new D 2 (isI64_of (by decide) (by decide)) (k : Int) (by omega) fr (by omega) (by omega) (by rw [hst.ops]; omega)
      rw [hst.err] at hA
      have hs1 := hst.append [(k : Int)]
      have hSy : ∀ w3, DiskLow w3 w.heap.size (w.heap.size + 2) (2 * k + 1) (k + 1) (st.append 2 [(k : Int)]) → Calls Try.prog 9 #[.pointer (some ⟨w.heap.size + 2, 0, none⟩), .int .i64 2] w3 fun e w' =>
          e = .returned (.int .i64 (if kk ≤ p + 1 then 4 else 0)) ∧ DiskLow w' w.heap.size (w.heap.size + 2) (2 * k + 1 + 1) (k + 1) ((st.append 2 [(k : Int)]).sync 2) ∧ Below w.heap.size w3 w' := by
        intro w3 D3
        have h := sync_low D3 2 (isI64_of (by decide) (by decide)) (by omega) (by rw [hs1.ops]; omega)
        rw [hs1.err] at h
        exact h
      have hs2 := hs1.sync
      clear D
      by_cases h3 : (k : Int) % 3 = 2
      · have h3b : ((k : Int) % 3 == 2) = true := by simpa using h3
        clear hst hs1
        by_cases hb : kk ≤ p + 1
        · simp only [if_pos hb] at hSy
          have hb2 : ¬ (p + 1 + 1 ≤ kk) := by omega
          generalize (if kk ≤ p then (4 : Int) else 0) = e1 at hA
          go_wp2_with (first
            | (go_at_call 8; refine (hA _).mono ?_; rintro e w3 ⟨rfl, D3, K3⟩; clear hA; have hS3 := hSy w3 D3; clear hSy)
            | (go_at_call 9; refine hS3.mono ?_; rintro e w4 ⟨rfl, D4, K4⟩; clear hS3; have hO := ops_low D4; rw [hs2.ops] at hO)
            | (go_at_call 10; refine (hO.mono (R' := fun e w' => e = .returned (.int .i64 (p + 1 + 1)) ∧ w4 = w') (fun e w' h => ⟨h.1, h.2.symm⟩)).mono ?_; rintro e _ ⟨rfl, rfl⟩; clear hO)
            | fail)
          go_roundw
          case rel => exact ⟨k + 1, done, p + 1 + 1, _, by omega, by go_num, rfl, by omega, by omega, by omega, by omega, hs2, D4.mono (by omega) (by omega), (K.trans K3).trans K4⟩
          case measure => simp [intOf]; omega
        · simp only [if_neg hb] at hSy
          have hb2 : p + 1 + 1 ≤ kk := by omega
          generalize (if kk ≤ p then (4 : Int) else 0) = e1 at hA
          go_wp2_with (first
            | (go_at_call 8; refine (hA _).mono ?_; rintro e w3 ⟨rfl, D3, K3⟩; clear hA; have hS3 := hSy w3 D3; clear hSy)
            | (go_at_call 9; refine hS3.mono ?_; rintro e w4 ⟨rfl, D4, K4⟩; clear hS3; have hO := ops_low D4; rw [hs2.ops] at hO)
            | (go_at_call 10; refine (hO.mono (R' := fun e w' => e = .returned (.int .i64 (p + 1 + 1)) ∧ w4 = w') (fun e w' h => ⟨h.1, h.2.symm⟩)).mono ?_; rintro e _ ⟨rfl, rfl⟩; clear hO)
            | fail)
          go_roundw
          case rel => exact ⟨k + 1, done + 1, p + 1 + 1, _, by omega, by go_num, rfl, by omega, by omega, by omega, by omega, hs2, D4.mono (by omega) (by omega), (K.trans K3).trans K4⟩
          case measure => simp [intOf]; omega
      · have h3b : ((k : Int) % 3 == 2) = false := by simpa using h3
        clear hst hSy hs2
        by_cases hb : kk ≤ p
        · simp only [if_pos hb] at hA
          have hb2 : ¬ (p + 1 ≤ kk) := by omega
          go_wp2_with (first
            | (go_at_call 8; refine (hA _).mono ?_; rintro e w3 ⟨rfl, D3, K3⟩; clear hA; have hO := ops_low D3; rw [hs1.ops] at hO)
            | (go_at_call 10; refine (hO.mono (R' := fun e w' => e = .returned (.int .i64 (p + 1)) ∧ w3 = w') (fun e w' h => ⟨h.1, h.2.symm⟩)).mono ?_; rintro e _ ⟨rfl, rfl⟩; clear hO)
            | fail)
          go_roundw
          case rel => exact ⟨k + 1, done, p + 1, _, by omega, by go_num, rfl, d0, by omega, by omega, by omega, hs1, D3.mono (by omega) (by omega), K.trans K3⟩
          case measure => simp [intOf]; omega
        · simp only [if_neg hb] at hA
          have hb2 : p + 1 ≤ kk := by omega
          go_wp2_with (first
            | (go_at_call 8; refine (hA _).mono ?_; rintro e w3 ⟨rfl, D3, K3⟩; clear hA; have hO := ops_low D3; rw [hs1.ops] at hO)
            | (go_at_call 10; refine (hO.mono (R' := fun e w' => e = .returned (.int .i64 (p + 1)) ∧ w3 = w') (fun e w' h => ⟨h.1, h.2.symm⟩)).mono ?_; rintro e _ ⟨rfl, rfl⟩; clear hO)
            | fail)
          go_roundw
          case rel => exact ⟨k + 1, done, p + 1, _, by omega, by go_num, rfl, d0, by omega, by omega, by omega, hs1, D3.mono (by omega) (by omega), K.trans K3⟩
          case measure => simp [intOf]; omega
    · have hc : IntsAt wr (fun k => w.heap.size ≤ k) (.slice none 0 0) [] := ⟨none, 0, rfl, fun h => absurd rfl h⟩
      have hC := crash_low D (by omega) (by omega) _ [] hc
      have hdn : done ≤ nn := by omega
      have hX : ∀ w3 l, DiskLow w3 w.heap.size (w.heap.size + 2) (2 * (2 * k)) k (st.crash l []) → Calls Try.prog 8 #[.pointer (some ⟨w.heap.size + 2, 0, none⟩), .int .i64 2, .slice (some ⟨w3.heap.size, 0, none⟩) 1 1] (w3.alloc (.cells #[.int .u8 120] 5 (1, 2))) fun e w' =>
          e = .returned (.int .i64 0) ∧ Below w.heap.size w3 w' := by
        intro w3 l D3
        have h := append_new D3 2 (isI64_of (by decide) (by decide)) 120 (by decide) (1, 2) (by omega) (by omega) (by rw [(hst.crash l []).ops]; omega)
        rw [(hst.crash l []).err, if_neg (by omega)] at h
        exact h.mono fun e w' h => ⟨h.1, h.2.2⟩
      have hcv : ∀ W : World, (convert 28 28 (.slice (some ⟨W.heap.size, 0, none⟩) 1 1)).run Try.prog (W.alloc (.cells #[.int .u8 120] 5)) = .ok (.slice (some ⟨W.heap.size, 0, none⟩) 1 1) (W.alloc (.cells #[.int .u8 120] 5 (1, 2))) := fun W => Lib.run_convert_bytes_const W _ _ _ 1 1 Try.underlying28 Try.underlying5
      clear D hst hc
      go_wp2_with (first
        | (go_at_call 11; refine hC.mono ?_; rintro e w3 ⟨rfl, ⟨l, _, D3⟩, K3⟩; have hX3 := hX w3 l D3; clear hC hX D3)
        | (go_at_call 8; refine hX3.mono ?_; rintro e w4 ⟨rfl, K4⟩; clear hX3)
        | (go_at_call 12; refine (wakes_any _).mono ?_; rintro e w5 ⟨rfl, K5⟩)
        | fail)
      go_ret
      have K34 := (K.trans K3).trans K4
      exact ⟨rfl, K34.trans (K5.none.mono K34.size)⟩

end Go.Proofs.Ytbckemimaiajoab
