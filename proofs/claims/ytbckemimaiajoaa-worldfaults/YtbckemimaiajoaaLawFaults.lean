/-
  WorldFaults holds for every number of appends, every place and kind of the fault and every bytes: the law's call returns true and leaves its argument as it was. No condition.
-/
import Derived.Test.YtbckemimaiajoaaLift
namespace Go.Proofs.Ytbckemimaiajoaa
open Go.ChangeShapes Go.WideShapes Go.ChangeAt Go.RowKit

/-- The disk behind i appends of b to file 1, a fault of a kind at k. -/
structure Hit (st : DSt) (i k kind : Int) (size : Int) : Prop where
  ops : st.ops = i
  stop : st.stop = 9223372036854775807
  faults : ∀ x, st.faults x = if x = k ∧ i ≤ k then some kind else none
  size : ((st.bytesOf 1).length : Int) = size

theorem Hit.err {st : DSt} {i k kind size : Int} (h : Hit st i k kind size) (hi : i < 4611686018427387904) : st.err 1 = if i = k then 3 else 0 := by
  unfold DSt.err
  rw [h.ops, h.stop, h.faults]
  have h1 : ¬ (9223372036854775807 ≤ i) := by omega
  rw [if_neg h1]
  by_cases e : i = k
  · have h2 : (i = k ∧ i ≤ k) := ⟨e, by omega⟩
    rw [if_pos h2]; simp [e]
  · have h2 : ¬ (i = k ∧ i ≤ k) := fun h => e h.1
    rw [if_neg h2]; simp [e]

theorem Hit.kind {st : DSt} {i k kd size : Int} (h : Hit st i k kd size) (hi : i < 4611686018427387904) (e : i = k) : st.kind = kd := by
  unfold DSt.kind
  rw [h.ops, h.stop, h.faults]
  have h1 : ¬ (9223372036854775807 ≤ i) := by omega
  have h2 : (i = k ∧ i ≤ k) := ⟨e, by omega⟩
  rw [if_neg h1, if_pos h2]; rfl

theorem Hit.next {st : DSt} {i k kind size : Int} (h : Hit st i k kind size) (hi : i < 4611686018427387904) (b : List Int) : Hit (st.append 1 b) (i + 1) k kind (size + if i = k then (if kind = 2 then (b.length / 2 : Nat) else 0) else b.length) := by
  obtain ⟨r1, r2, r3⟩ := append_rest st 1 b
  refine ⟨by rw [r1, h.ops], by rw [r2, h.stop], ?_, ?_⟩
  · intro x
    rw [r3]
    simp only [DSt.after]
    rw [h.ops, h.faults]
    by_cases e : x = i
    · rw [if_pos e, if_neg (by omega)]
    · rw [if_neg e]
      by_cases e2 : x = k ∧ i ≤ k
      · rw [if_pos e2, if_pos (by omega)]
      · rw [if_neg e2, if_neg (by omega)]
  · unfold DSt.append
    rw [h.err hi]
    by_cases e : i = k
    · rw [if_pos e, if_pos e, if_neg (by decide)]
      rw [h.kind hi e]
      by_cases e2 : kind = 2
      · rw [if_pos ⟨rfl, e2, by decide⟩, if_pos e2, bytesOf_put, List.length_append, bytesOf_after, List.length_take, ← h.size]
        omega
      · rw [if_neg (by simp [e2]), if_neg e2, bytesOf_after, ← h.size]
        omega
    · rw [if_neg e, if_neg e, if_pos rfl, bytesOf_put, List.length_append, bytesOf_after, ← h.size]
      omega

theorem hit_start (k kind : Int) (hk0 : 0 ≤ k) (hk1 : k ≤ 1000) : Hit (DSt.new.failed k kind) 0 k kind 0 := by
  have e : DSt.new.at k = k := by unfold DSt.at DSt.new; simp; omega
  refine ⟨rfl, rfl, ?_, rfl⟩
  intro x
  simp only [DSt.failed, e]
  by_cases h : x = k
  · rw [if_pos h, if_pos ⟨h, hk0⟩]; rfl
  · rw [if_neg h, if_neg (fun h2 => h h2.1)]; rfl

set_option maxRecDepth 100000 in
set_option maxHeartbeats 2000000 in
theorem faults_walk (many at_ kind : Int) (a : Option Addr) (len cap : Nat) (zs : List Int) (w : World) (hb : IsRow .u8 w a len cap zs) (hk : isI64 kind) :
    Calls Try.prog 8 #[.agg #[.int .i64 many, .int .i64 at_, .int .i64 kind, .slice a len cap]] w fun e w' => e = .returned (.bool true) ∧ Below w.heap.size w w' := by
  have hB := (hb.bytes).take (h := min len 200) (by omega)
  have hcap := hb.bytes.cap
  have n0 := Int.emod_nonneg many (by decide : (30 : Int) ≠ 0)
  have n1 := Int.emod_lt_of_pos many (by decide : (0 : Int) < 30)
  have k0 := Int.emod_nonneg at_ (by decide : (40 : Int) ≠ 0)
  have k1 := Int.emod_lt_of_pos at_ (by decide : (0 : Int) < 40)
  have hw1 : ∀ W, Calls Try.prog 25 #[.int .i64 many, .int .i64 30] W fun e w' => e = .returned (.int .i64 (many % 30)) ∧ w' = W := fun W => within_any W many 30 (by decide) (by decide)
  have hw2 : ∀ W, Calls Try.prog 25 #[.int .i64 at_, .int .i64 40] W fun e w' => e = .returned (.int .i64 (at_ % 40)) ∧ w' = W := fun W => within_any W at_ 40 (by decide) (by decide)
  generalize many % 30 = nn at *
  generalize at_ % 40 = kk at *
  generalize zs.take len = ys at *
  clear hb
  go_enter Try.func8, Try.ntmps8
  go_wp2_with fail
  go_quiet ((go_at_call 25; exact Calls.quiet_of_same (hw1 _)))
  go_wp2_with (first
    | (go_at_call 25; refine (hw2 _).mono ?_; rintro e w1 ⟨rfl, rfl⟩)
    | (go_at_call 16; refine (clip_any _ _ _ _ hcap).mono ?_; rintro e w1 ⟨rfl, rfl⟩)
    | fail)
  have KW : Kept (fun _ => False) w ((w.alloc (.cells #[.int .i64 many, .int .i64 at_, .int .i64 kind, .slice a len cap] 76)).drewN nq) := (Kept.alloc _ _ _).and (Kept.drewN _ _ _)
  generalize ((w.alloc (.cells #[.int .i64 many, .int .i64 at_, .int .i64 kind, .slice a len cap] 76)).drewN nq) = W0 at *
  have hB0 := hB.kept KW (fun _ _ _ h => h)
  have hs0 := KW.size
  go_wp2_with (first
    | (go_at_call 9; refine (newDisk_any _).mono ?_; rintro e w1 ⟨rfl, D1, K1, hz1⟩; have HZ : Hid (w1.heap.size = W0.heap.size + 3) := hz1; clear hz1)
    | (go_at_call 45; refine (fail_any D1 kk kind (by decide) (isI64_of (by omega) (by omega)) hk (by decide)).mono ?_; rintro e w2 ⟨rfl, D2, K2⟩)
    | fail)
  clear hw1 hw2
  have hH := hit_start kk kind k0 (by omega)
  generalize DSt.new.failed kk kind = st0 at hH D2
  have K12 : Kept (fun _ => False) w w2 := (KW.and K1).trans K2 (fun k h => .inr (by omega))
  have hS0 : ∀ k, (W0.heap.size ≤ k ∧ k < W0.heap.size + 3) → w.heap.size ≤ k := fun k h => by omega
  go_loopw [8, 9] (fun sz i wr => ∃ (k : Nat) (size : Int) (st : DSt) (S : Nat → Prop) (G C : Int → Nat), (k : Int) ≤ 1 + nn ∧ i = .int .i64 k ∧ sz = .int .i64 size ∧ 0 ≤ size ∧ size ≤ 200 * k ∧ Hit st k kk kind size ∧
      DiskIn wr S (W0.heap.size + 2) (1 + k) (200 * k) st W0.heap.size (W0.heap.size + 1) G C ∧ (∀ k, S k → w.heap.size ≤ k) ∧ Kept (fun _ => False) w wr)
    (fun _ i _ => 40 - (intOf i).toNat)
  case atStart => exact ⟨0, 0, st0, _, _, _, by omega, rfl, rfl, by decide, by decide, hH, D2, hS0, K12⟩
  case round =>
    obtain ⟨k, size, st, S, G, C, hk1, rfl, rfl, z0, z1, hit, D, hS, K⟩ := hrel
    clear hH D1 D2 K2 K12 hB0 HZ
    have hops : st.ops < 4611686018427387904 := by rw [hit.ops]; omega
    have hBr := hB.kept K (fun _ _ _ h => h)
    by_cases hlt : (k : Int) < 1 + nn
    · have hA := append_any D 1 (isI64_of (by decide) (by decide)) hBr (fun hne ad e h => by have := hB.lt e hne; have := hS _ h; omega) (by omega) (by omega) hops
      have hnx := hit.next (by omega) (ys.take (min len 200))
      rw [hit.err (by omega)] at hA
      rw [hB.len] at hnx
      have hR : ∀ (w3 : World) (st' : DSt) S' G' C' (sz : Int), DiskIn w3 S' (W0.heap.size + 2) (1 + k + 1) (200 * k + min len 200) st' W0.heap.size (W0.heap.size + 1) G' C' → ((st'.bytesOf 1).length : Int) = sz → Calls Try.prog 12 #[.pointer (some ⟨W0.heap.size + 2, 0, none⟩), .int .i64 1] w3 fun e w' =>
          ∃ a c, ∃ m : Nat, (m : Int) = sz ∧ e = .returned (.slice a m c) ∧ Kept (fun _ => False) w3 w' := by
        intro w3 st' S' G' C' sz D3 hsz
        refine (read_any D3 (by omega) 1 (isI64_of (by decide) (by decide))).mono ?_
        rintro e w' ⟨a', c', rfl, _, K'⟩
        exact ⟨a', c', _, hsz, rfl, K'⟩
      have fin : ∀ (w3 w4 : World) S' G' C' (sz : Int), DiskIn w3 S' (W0.heap.size + 2) (1 + k + 1) (200 * k + min len 200) (st.append 1 (ys.take (min len 200))) W0.heap.size (W0.heap.size + 1) G' C' → Kept S wr w3 → (∀ k, S' k → S k ∨ wr.heap.size ≤ k) → Kept (fun _ => False) w3 w4 → Hit (st.append 1 (ys.take (min len 200))) (k + 1) kk kind sz → 0 ≤ sz → sz ≤ 200 * (k + 1) →
          ∃ (k' : Nat) (size : Int) (st : DSt) (S : Nat → Prop) (G C : Int → Nat), (k' : Int) ≤ 1 + nn ∧ Value.int .i64 ((k : Int) + 1) = .int .i64 k' ∧ Value.int .i64 sz = .int .i64 size ∧ 0 ≤ size ∧ size ≤ 200 * k' ∧ Hit st k' kk kind size ∧
            DiskIn w4 S (W0.heap.size + 2) (1 + k') (200 * k') st W0.heap.size (W0.heap.size + 1) G C ∧ (∀ k, S k → w.heap.size ≤ k) ∧ Kept (fun _ => False) w w4 := by
        intro w3 w4 S' G' C' sz D3 K3 hS3 K4 hh s0 s1
        refine ⟨k + 1, sz, _, S', G', C', by omega, by go_num, rfl, s0, by omega, by simpa using hh, ((D3.kept K4 (fun _ _ h => h)).mono (by omega) (by omega)), fun k h => (hS3 k h).elim (hS k) (fun h => Nat.le_trans K.size h), (K.trans K3 (fun k h => .inr (hS k h))).and K4⟩
      have hm : min len 200 ≤ 200 := Nat.min_le_right _ _
      generalize ys.take (min len 200) = bs at *
      generalize min len 200 = m at *
      clear D hBr hB hcap
      by_cases hke : (k : Int) = kk
      · have hkb : ((k : Int) == kk) = true := by simpa using hke
        rw [if_pos hke] at hA hnx
        by_cases hk2 : kind = 2
        · subst hk2
          rw [if_pos rfl] at hnx
          have hsz : size + (m : Int) / 2 ≤ 200 * (k + 1) := by omega
          have hnx2 : Hit (st.append 1 bs) (k + 1) kk 2 (size + (m : Int) / 2) := by simpa using hnx
          have HK : Hid ((k : Int) = kk) := hke
          clear hke hnx hit
          go_wp2_with (first
            | (go_at_call 17; refine hA.mono ?_; rintro e w3 ⟨rfl, S3, G3, C3, D3, K3, hS3⟩; have hR3 := hR w3 _ S3 G3 C3 _ D3 hnx2.size; have F3 := fun w4 K4 => fin w3 w4 S3 G3 C3 _ D3 K3 hS3 K4 hnx2 (by omega) hsz; clear hA hR fin D3 K3)
            | (go_at_call 12; refine hR3.mono ?_; rintro e w4 ⟨a4, c4, m4, hm4, rfl, K4⟩; have F4 := F3 w4 K4; have hm5 : ((m4 : Int) == size + (m : Int) / 2) = true := (by simpa using hm4); have HM : Hid ((m4 : Int) = size + (m : Int) / 2) := hm4; clear hm4 hR3 F3 K4)
            | fail)
          go_roundw
          case rel => exact F4
          case measure => simp [intOf]; omega
        · rw [if_neg hk2] at hnx
          have hk3 : (kind == 2) = false := by simpa using hk2
          have hsz : size ≤ 200 * (k + 1) := by omega
          have hnx2 : Hit (st.append 1 bs) (k + 1) kk kind size := by simpa using hnx
          have HK : Hid ((k : Int) = kk) := hke
          clear hke hnx hit
          go_wp2_with (first
            | (go_at_call 17; refine hA.mono ?_; rintro e w3 ⟨rfl, S3, G3, C3, D3, K3, hS3⟩; have hR3 := hR w3 _ S3 G3 C3 _ D3 hnx2.size; have F3 := fun w4 K4 => fin w3 w4 S3 G3 C3 _ D3 K3 hS3 K4 hnx2 (by omega) hsz; clear hA hR fin D3 K3)
            | (go_at_call 12; refine hR3.mono ?_; rintro e w4 ⟨a4, c4, m4, hm4, rfl, K4⟩; have F4 := F3 w4 K4; have hm5 : ((m4 : Int) == size) = true := (by simpa using hm4); have HM : Hid ((m4 : Int) = size) := hm4; clear hm4 hR3 F3 K4)
            | fail)
          go_roundw
          case rel => exact F4
          case measure => simp [intOf]; omega
      · have hkb : ((k : Int) == kk) = false := by simpa using hke
        rw [if_neg hke] at hA hnx
        have hsz : size + (m : Int) ≤ 200 * (k + 1) := by omega
        have hnx2 : Hit (st.append 1 bs) (k + 1) kk kind (size + (m : Int)) := by simpa using hnx
        clear hke hnx hit
        go_wp2_with (first
          | (go_at_call 17; refine hA.mono ?_; rintro e w3 ⟨rfl, S3, G3, C3, D3, K3, hS3⟩; have hR3 := hR w3 _ S3 G3 C3 _ D3 hnx2.size; have F3 := fun w4 K4 => fin w3 w4 S3 G3 C3 _ D3 K3 hS3 K4 hnx2 (by omega) hsz; clear hA hR fin D3 K3)
          | (go_at_call 12; refine hR3.mono ?_; rintro e w4 ⟨a4, c4, m4, hm4, rfl, K4⟩; have F4 := F3 w4 K4; have hm5 : ((m4 : Int) == size + (m : Int)) = true := (by simpa using hm4); have HM : Hid ((m4 : Int) = size + (m : Int)) := hm4; clear hm4 hR3 F3 K4)
          | fail)
        go_roundw
        case rel => exact F4
        case measure => simp [intOf]; omega
    · have hO := ops_any D
      rw [hit.ops] at hO
      have hkn : (k : Int) = 1 + nn := by omega
      have hkb : ((k : Int) == 1 + nn) = true := by simpa using hkn
      go_wp2_with (first
        | (go_at_call 46; refine hO.mono ?_; rintro e w3 ⟨rfl, rfl⟩)
        | (go_at_call 15; refine (wakes_any _).mono ?_; rintro e w3 ⟨rfl, K3⟩)
        | fail)
      go_ret
      exact ⟨rfl, (K.and K3).none⟩

set_option maxRecDepth 100000 in
theorem faults_lifted (os : Os) (started : os.Started) (H : Type) (enc : TypeId × Value → H) :
    ReturnsInHanded {} Try.checked os 8 .any (Rows.worldFaultsSpec.pre6 enc Try.prog Try.f8 Rows.worldFaultsRow.domain false) (Rows.worldFaultsSpec.post enc Try.prog Try.f8 false true false false) := by
  refine returnsInHanded_of_change (C := Try.checked) Try.own started (by kernel_rfl) Try.func8
    (ChangeSpec.witness6 (enc := enc) (C := Try.checked) false ⟨#[], #[.agg #[.int .i64 0, .int .i64 0, .int .i64 0, .slice none 0 0]], []⟩ 8 (by kernel_rfl) (by kernel_rfl) (by kernel_rfl) (by kernel_rfl)) ?_
  intro W base args ds gs before hval0 hW _ _
  have hval : ∀ (j : Nat) t v, Try.f8.params[j]? = some t → args[j]? = some v → Value.okWide Try.prog W .any base t v := hval0
  have hW' := hW
  obtain ⟨p, q, hA0, hV, rfl, _, _⟩ := hW
  have hA : DataW.TrodAll enc Try.prog W 0 (fun _ => true) true Try.f8.params.toList args.toList ds p := hA0
  rw [Try.params8] at hA hval
  obtain ⟨v0, vs0, d0, ds0, p0, q0, hargs, rfl, rfl, h0, r0⟩ := trodAll_cons hA
  obtain ⟨rfl, rfl, rfl⟩ := trodAll_nil r0
  obtain rfl : args = #[v0] := by cases args; simp_all
  obtain ⟨rfl, rfl⟩ := trodVars_none hV
  have k0 := h0
  have lt0 : ∀ x ∈ p0, x.block < W.heap.size := by obtain ⟨m, hm⟩ := k0; exact DataW.trod_lt m _ _ _ hm
  obtain ⟨c0, c1, c2, c3, y0, y1, y2, y3, m, rfl, _, _, t0, t1, t2, t3⟩ := Joins.open_agg4 Try.underlying76 (by kernel_rfl) (by kernel_rfl) (hval 0 76 v0 rfl rfl) h0
  obtain ⟨x0, e0, _, _⟩ := DataW.trod_int Try.underlying3 t0
  obtain ⟨x1, e1, _, _⟩ := DataW.trod_int Try.underlying3 t1
  obtain ⟨x2, e2, _, wf2⟩ := DataW.trod_int Try.underlying3 t2
  obtain ⟨a, len, cap, zs, e3, hrow⟩ := isRow_open Try.underlying28 Try.underlying5 (by kernel_rfl) t3
  simp only [List.cons.injEq, and_true] at e0 e1 e2
  subst e0 e1 e2 e3
  clear hA0 hval0
  refine (faults_walk x0 x1 x2 a len cap zs W hrow wf2).mono fun e W' ⟨he, bel⟩ => ?_
  subst he
  exact ⟨_, rfl, _, _, _, [], _, [], hW', trodAll_mk1 (shut_bool Try.underlying4 _), (trodAll_cons_mk (Below.trod Try.laidOut (by kernel_rfl) (of_decide_eq_true (by kernel_rfl)) k0 bel lt0) trodAll_mk0), rfl, bel.frame _, fun h => by cases h⟩

theorem worldFaults_holds : Rows.WorldFaultsSaid :=
  OpenClaim.holds_of_wide 8 Try.f8 rfl rfl rfl rfl rfl rfl rfl ⟨rfl, rfl, rfl, rfl, rfl⟩ rfl rfl rfl rfl rfl (by kernel_rfl) Try.func8 (by kernel_rfl)
    (of_decide_eq_true (by kernel_rfl)) (by unfold Func.isWrapper; first | (rw [if_pos (by decide +kernel)]; kernel_rfl) | (rw [if_neg (by decide +kernel)]; exact ⟨rfl, rfl⟩))
    (fun os started H enc _ => faults_lifted os started H enc)

end Go.Proofs.Ytbckemimaiajoaa
