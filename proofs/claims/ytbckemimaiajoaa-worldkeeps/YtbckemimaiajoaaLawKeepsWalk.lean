/-
  WorldKeeps: the walk.
-/
import Derived.Test.YtbckemimaiajoaaLawKeeps
namespace Go.Proofs.Ytbckemimaiajoaa
open Go.ChangeShapes Go.WideShapes Go.ChangeAt Go.RowKit

theorem IsRow.ints {w : World} {a : Option Addr} {len cap : Nat} {zs : List Int} (h : IsRow .i64 w a len cap zs) (S : Nat → Prop) (hS : ∀ k, S k → w.heap.size ≤ k) : IntsAt w S (.slice a len cap) (zs.take len) := by
  rcases h with ⟨rfl, rfl, rfl, rfl⟩ | ⟨x, rfl, h1, h2, h3, hc, hw⟩
  · exact ⟨none, 0, rfl, fun h => absurd rfl h⟩
  · have hl : (zs.take len).length = len := by rw [List.length_take]; omega
    refine ⟨some x, cap, by rw [hl], fun hne => ?_⟩
    have hpos : 0 < len := by
      rcases Nat.eq_zero_or_pos len with e | e
      · rw [e] at hne; simp at hne
      · exact e
    obtain ⟨b, off, rfl⟩ := addr_form (hc 0 (by omega))
    have hb : b < w.heap.size := World.block_lt_of_cell? w _ (by have := hc 0 (by omega); simpa [Addr.add_lit] using this)
    refine ⟨b, off, rfl, by rw [hl]; exact h1, fun h => by have := hS b h; omega, fun j y hj => ?_⟩
    rw [List.getElem?_take] at hj
    split at hj
    · rename_i hjl
      have hz : j < zs.length := by omega
      have := hc j hz
      rw [Addr.add_lit, List.getD_eq_getElem?_getD, hj] at this
      exact this
    · cases hj

/-- Bytes that lie somewhere, turned into a string. -/
theorem BytesAt.str {w : World} {a : Option Addr} {m c : Nat} {b : List Int} (B : BytesAt w a m c b) : (convert 28 9 (.slice a m c)).run Try.prog w = .ok (.string (strOfNums b)) w := by
  cases a with
  | none =>
    have hm := B.nil rfl
    have hb : b = [] := List.eq_nil_of_length_eq_zero (by rw [B.len, hm])
    subst hb
    exact run_convert_bytes_nil w 28 5 Try.underlying28 Try.underlying5 m c 9 Try.underlying9
  | some ad =>
    cases hb : b with
    | nil =>
      subst hb
      have hm : m = 0 := B.len.symm
      subst hm
      rw [run_convert_bytes_string w _ _ 5 _ 0 c Try.underlying28 Try.underlying5 Try.underlying9]
      simp [Conv.bytesToString, loadCells]
      all_goals rfl
    | cons x r =>
      have h0 := B.cells ad rfl 0 (.int .u8 x) (by rw [hb]; rfl)
      obtain ⟨bk, off, rfl⟩ := addr_form h0
      rw [← hb]
      refine run_convert_bytes_arg w 28 5 Try.underlying28 Try.underlying5 bk off m c b B.len (fun i hi => ?_) 9 Try.underlying9
      have hil : i < b.length := by rw [B.len]; exact hi
      have := B.cells _ rfl i (.int .u8 (b.getD i 0)) (by rw [List.getElem?_map, List.getD_eq_getElem?_getD, List.getElem?_eq_getElem hil]; rfl)
      rw [Addr.add_lit] at this
      exact this

theorem BytesAt.at {w : World} {a : Option Addr} {m c : Nat} {b : List Int} (B : BytesAt w a m c b) {j : Nat} (hj : j < b.length) : ∃ ba oa, a = some ⟨ba, oa, none⟩ ∧ ∀ j, j < b.length → w.cell? ⟨ba, oa + j, none⟩ = some (.int .u8 (b.getD j 0)) := by
  have hlen := B.len
  cases a with
  | none => have := B.nil rfl; omega
  | some ad =>
    have hall : ∀ j, j < b.length → w.cell? (ad.add j) = some (.int .u8 (b.getD j 0)) := fun j hj => B.cells ad rfl j _ (by rw [List.getElem?_map, List.getD_eq_getElem?_getD, List.getElem?_eq_getElem hj]; rfl)
    obtain ⟨ba, oa, rfl⟩ := addr_form (hall 0 (by omega))
    exact ⟨ba, oa, rfl, fun j hj => by have := hall j hj; rw [Addr.add_lit] at this; exact this⟩

theorem BytesAt.ofRow {w : World} {base : Nat} {a : Option Addr} {c : Nat} {b : List Int} (h : w.ownsRow base 5 1 (.slice a b.length c) b.length (b.map (Value.int .u8))) (hb : ∀ x ∈ b, 0 ≤ x ∧ x ≤ 255) : BytesAt w a b.length c b := by
  rcases h.2 with ⟨e, h0⟩ | ⟨g, cap, cur, e, _, _, h1, _⟩
  · simp only [Value.slice.injEq] at e
    obtain ⟨rfl, _, rfl⟩ := e
    exact ⟨rfl, by omega, fun _ => h0, fun ad h => (by cases h), hb⟩
  · have h' := h
    simp only [Value.slice.injEq] at e
    obtain ⟨rfl, _, rfl⟩ := e
    exact ⟨rfl, h1, fun h => (by cases h), fun ad e => (by cases e; exact h'.cells rfl), hb⟩

theorem kk1 {w : World} {lo d : Nat} (D : DiskLow w lo d 0 0 DSt.new) {a : Option Addr} {m c : Nat} {K : List Int} (B : BytesAt w a m c K) (hB : K ≠ [] → ∀ ad, a = some ad → ad.block < lo) (hm : m ≤ 200) :
    Calls Try.prog 17 #[.pointer (some ⟨d, 0, none⟩), .int .i64 3, .slice a m c] w fun e w' => e = .returned (.int .i64 0) ∧ DiskLow w' lo d 1 200 (kp1 K) ∧ Below lo w w' := by
  have h := append_low D 3 (isI64_of (by decide) (by decide)) B hB (by omega) (by decide) (by decide)
  rw [kp1e] at h
  exact h.mono fun e w' ⟨h1, h2, h3⟩ => ⟨h1, h2.mono (by decide) (by omega), h3⟩

theorem kk2 {w : World} {lo d : Nat} {K : List Int} (D : DiskLow w lo d 1 200 (kp1 K)) :
    Calls Try.prog 18 #[.pointer (some ⟨d, 0, none⟩), .int .i64 3] w fun e w' => e = .returned (.int .i64 0) ∧ DiskLow w' lo d 2 200 (kp2 K) ∧ Below lo w w' := by
  have h := sync_low D 3 (isI64_of (by decide) (by decide)) (by decide) (by rw [(kp1_rest K).1]; decide)
  rw [kp2e] at h
  exact h

theorem kk3 {w : World} {lo d : Nat} {K : List Int} (D : DiskLow w lo d 2 200 (kp2 K)) {a : Option Addr} {m c : Nat} {M : List Int} (B : BytesAt w a m c M) (hB : M ≠ [] → ∀ ad, a = some ad → ad.block < lo) (hm : m ≤ 200) :
    Calls Try.prog 17 #[.pointer (some ⟨d, 0, none⟩), .int .i64 3, .slice a m c] w fun e w' => e = .returned (.int .i64 0) ∧ DiskLow w' lo d 3 400 (kp3 K M) ∧ Below lo w w' := by
  have h := append_low D 3 (isI64_of (by decide) (by decide)) B hB (by omega) (by decide) (by rw [(kp2_rest K).1]; decide)
  rw [kp3e] at h
  exact h.mono fun e w' ⟨h1, h2, h3⟩ => ⟨h1, h2.mono (by decide) (by omega), h3⟩

theorem kk4 {w : World} {lo d : Nat} {K M : List Int} (D : DiskLow w lo d 3 400 (kp3 K M)) (hK : ∀ x ∈ K, 0 ≤ x ∧ x ≤ 255) (hM : ∀ x ∈ M, 0 ≤ x ∧ x ≤ 255) {v : Value} {cs : List Int} (hc : IntsAt w (fun k => lo ≤ k) v cs) :
    Calls Try.prog 19 #[.pointer (some ⟨d, 0, none⟩), v] w fun e w' => e = .returned (.tuple #[]) ∧ (∃ st, DiskLow w' lo d 6 400 st ∧ Left K M (st.bytesOf 3) (st.keptOf 3)) ∧ Below lo w w' := by
  refine (crash_low D (by decide) (by decide) v cs hc).mono ?_
  rintro e w' ⟨rfl, ⟨l, hl, D'⟩, K'⟩
  exact ⟨rfl, ⟨_, D', kp_left K M cs l hl hK hM⟩, K'⟩

/-- Read and Kept behind the crash. -/
theorem kk5 {w : World} {lo d : Nat} {st : DSt} (D : DiskLow w lo d 6 400 st) {K M : List Int} (hl : Left K M (st.bytesOf 3) (st.keptOf 3)) :
    Calls Try.prog 12 #[.pointer (some ⟨d, 0, none⟩), .int .i64 3] w fun e w' => ∃ a c b, e = .returned (.slice a b.length c) ∧ BytesAt w' a b.length c b ∧ Left K M b b.length ∧
      (∀ W, Kept (fun _ => False) w' W → Calls Try.prog 20 #[.pointer (some ⟨d, 0, none⟩), .int .i64 3] W fun e w'' => e = .returned (.int .i64 b.length) ∧ w'' = W) ∧ Below w.heap.size w w' := by
  refine (read_low D (by decide) 3 (isI64_of (by decide) (by decide))).mono ?_
  rintro e w' ⟨a, c, rfl, hr, K'⟩
  refine ⟨a, c, st.bytesOf 3, rfl, BytesAt.ofRow hr hl.byte, by rw [← hl.kept]; exact hl, fun W KW => ?_, K'.none⟩
  have := kept_low (D.kept (K'.and KW)) 3 (isI64_of (by decide) (by decide))
  rw [hl.kept] at this
  exact this

set_option maxRecDepth 100000 in
set_option maxHeartbeats 2000000 in
theorem keeps_walk (a0 : Option Addr) (len0 cap0 : Nat) (z0 : List Int) (a1 : Option Addr) (len1 cap1 : Nat) (z1 : List Int) (a2 : Option Addr) (len2 cap2 : Nat) (z2 : List Int) (w : World)
    (r0 : IsRow .u8 w a0 len0 cap0 z0) (r1 : IsRow .u8 w a1 len1 cap1 z1) (r2 : IsRow .i64 w a2 len2 cap2 z2) :
    Calls Try.prog 4 #[.slice a0 len0 cap0, .slice a1 len1 cap1, .slice a2 len2 cap2] w fun e w' => e = .returned (.bool true) ∧ Below w.heap.size w w' := by
  have B0 := (r0.bytes).take (h := min len0 200) (by omega)
  have B1 := (r1.bytes).take (h := min len1 200) (by omega)
  have hc0 := r0.bytes.cap
  have hc1 := r1.bytes.cap
  have l0 : min len0 200 ≤ 200 := Nat.min_le_right _ _
  have l1 : min len1 200 ≤ 200 := Nat.min_le_right _ _
  generalize (z0.take len0).take (min len0 200) = K at *
  generalize (z1.take len1).take (min len1 200) = M at *
  have hcl0 := clip_any w a0 len0 cap0 hc0
  have hcl1 := clip_any w a1 len1 cap1 hc1
  generalize min len0 200 = m0 at *
  generalize min len1 200 = m1 at *
  have I2 := r2.ints (fun k => w.heap.size ≤ k) (fun k h => h)
  generalize z2.take len2 = cs at *
  clear r0 r1 r2 hc0 hc1
  have lt0 : K ≠ [] → ∀ ad, a0 = some ad → ad.block < w.heap.size := fun h ad e => B0.lt e h
  have lt1 : M ≠ [] → ∀ ad, a1 = some ad → ad.block < w.heap.size := fun h ad e => B1.lt e h
  replace hcl0 := hcl0.mono (R' := fun e w' => e = .returned (.slice a0 m0 cap0) ∧ w = w') (fun e w' h => ⟨h.1, h.2.symm⟩)
  replace hcl1 := hcl1.mono (R' := fun e w' => e = .returned (.slice a1 m1 cap1) ∧ w = w') (fun e w' h => ⟨h.1, h.2.symm⟩)
  have bK := B0.byte
  have bM := B1.byte
  go_enter Try.func4, Try.ntmps4
  go_wp2_with (first
    | (go_at_call 16; have _t := hcl0; refine hcl0.mono ?_; rintro e _ ⟨rfl, rfl⟩; clear _t hcl0)
    | (go_at_call 16; refine hcl1.mono ?_; rintro e _ ⟨rfl, rfl⟩; clear hcl1)
    | (go_at_call 9; refine (newDisk_low _).mono ?_; rintro e w1 ⟨rfl, D1, K1⟩)
    | (go_at_call 17; have _t := D1; refine (kk1 D1 (B0.below K1 lt0) lt0 l0).mono ?_; rintro e w2 ⟨rfl, D2, K2⟩; replace K2 := K1.trans K2; clear _t D1 K1)
    | (go_at_call 18; refine (kk2 D2).mono ?_; rintro e w3 ⟨rfl, D3, K3⟩; replace K3 := K2.trans K3; clear D2 K2)
    | (go_at_call 17; have _t := D3; refine (kk3 D3 (B1.below K3 lt1) lt1 l1).mono ?_; rintro e w4 ⟨rfl, D4, K4⟩; replace K4 := K3.trans K4; clear _t D3 K3)
    | (go_at_call 19; refine (kk4 D4 bK bM (I2.below K4)).mono ?_; rintro e w5 ⟨rfl, ⟨st5, D5, L5⟩, K5⟩; replace K5 := K4.trans K5; clear D4 K4)
    | (go_at_call 12; refine (kk5 D5 L5).mono ?_; rintro e w6 ⟨a6, c6, b6, rfl, B6, L6, hKept, K6⟩; replace K6 := K5.trans (K6.mono K5.size); clear D5 L5 K5)
    | fail)
  have B06 := B0.below K6 lt0
  have B16 := B1.below K6 lt1
  have hK : K.length = m0 := B0.len
  have hM : M.length = m1 := B1.len
  have q1 := L6.lo
  have q2 := L6.hi
  rw [hK] at q1 q2
  rw [hM] at q2
  have d1 : decide (b6.length < m0) = false := by simp; omega
  have d2 : decide ((m0 : Int) + (m1 : Int) < (b6.length : Int)) = false := by simp; omega
  have d2' : decide (m0 + m1 < b6.length) = false := by simp; omega
  have c6l := B6.cap
  have d3 : (m0 : Int) ≤ (c6 : Int) := by omega
  have s1 : ∀ nq, (convert 28 9 (.slice a6 m0 c6)).run Try.prog (w6.drewN nq) = .ok (.string (strOfNums K)) (w6.drewN nq) := by
    intro nq
    have h := (B6.take (h := m0) (by omega)).kept (Kept.drewN (fun _ => False) w6 nq) (fun _ _ _ h => h)
    have e : b6.take m0 = K := by rw [← hK]; exact L6.head
    rw [e] at h
    exact h.str
  have s2 : ∀ nq, (convert 28 9 (.slice a0 m0 cap0)).run Try.prog (w6.drewN nq) = .ok (.string (strOfNums K)) (w6.drewN nq) := fun nq => (B06.kept (Kept.drewN (fun _ => False) w6 nq) (fun _ _ _ h => h)).str
  have hk6 : ∀ nq, Calls Try.prog 20 #[.pointer (some ⟨w.heap.size + 2, 0, none⟩), .int .i64 3] (w6.drewN nq) fun e w'' => e = .returned (.int .i64 b6.length) ∧ w'' = w6.drewN nq := fun nq => hKept _ (Kept.drewN _ _ _)
  go_quiet ((go_at_call 20; exact Calls.quiet_of_same (hk6 _)))
  go_wp2_with fail
  clear s1 s2 hk6 hKept d1 d2 d2' d3 I2 B0 B1 B06 lt0 lt1
  have hcell6 : ∀ j, j < b6.length → ∃ ba oa, a6 = some ⟨ba, oa, none⟩ ∧ ∀ j, j < b6.length → w6.cell? ⟨ba, oa + j, none⟩ = some (.int .u8 (b6.getD j 0)) := fun j hj => B6.at hj
  have hcell1 : ∀ j, j < m1 → ∃ ba oa, a1 = some ⟨ba, oa, none⟩ ∧ ∀ j, j < M.length → w6.cell? ⟨ba, oa + j, none⟩ = some (.int .u8 (M.getD j 0)) := fun j hj => B16.at (j := j) (by omega)
  have more := L6.more
  have H6 : Hid (K.length = m0 ∧ M.length = m1) := ⟨hK, hM⟩
  have hm1c := B16.cap
  clear hK hM B6 B16 L6
  go_loopw [9] (fun i wr => ∃ (j n : Nat), m0 + j ≤ b6.length ∧ i = .int .i64 ((m0 : Int) + (j : Int)) ∧ wr = w6.drewN n) (fun i _ => b6.length - (intOf i).toNat)
  case atStart => exact ⟨0, nq, by omega, by simp, rfl⟩
  case round =>
    obtain ⟨j, n, hj, rfl, rfl⟩ := hrel
    by_cases hlt : m0 + j < b6.length
    · obtain ⟨ba, oa, rfl, ca⟩ := hcell6 (m0 + j) hlt
      obtain ⟨bb, ob, rfl, cb⟩ := hcell1 j (by omega)
      have hx := ca (m0 + j) hlt
      have hy := cb j (by rw [H6.out.2]; omega)
      have hm := more (m0 + j) (by rw [H6.out.1]; omega) hlt
      rw [H6.out.1, show m0 + j - m0 = j by omega] at hm
      have hby : 0 ≤ M.getD j 0 ∧ M.getD j 0 ≤ 255 := by
        have hjl : j < M.length := by rw [H6.out.2]; omega
        rw [List.getD_eq_getElem?_getD, List.getElem?_eq_getElem hjl]
        exact bM _ (List.getElem_mem hjl)
      generalize b6.getD (m0 + j) 0 = x at *
      generalize M.getD j 0 = y at *
      clear hcell6 hcell1 more ca cb
      have e1 : ((m0 : Int) + (j : Int)) < (b6.length : Int) := by omega
      have e2 : (0 : Int) ≤ (m0 : Int) + (j : Int) := by omega
      have e3 : (m0 : Int) + (j : Int) - (m0 : Int) = (j : Int) := by omega
      have e4 : ((m0 : Int) + (j : Int)).toNat = m0 + j := by omega
      by_cases hxy : x = y
      · subst hxy
        go_wp2_with fail
        go_quiet (fail)
        go_wp2
        go_roundw
        case rel => exact ⟨j + 1, n + nq, by omega, by go_num, rfl⟩
        case measure => simp [intOf]; omega
      · obtain ⟨hi, hx2⟩ : m0 + j = b6.length - 1 ∧ x = 255 - y := by
          rcases hm with h | h
          · exact absurd h hxy
          · exact h
        have f1 : (x != y) = true := by simpa using hxy
        have f2 : ((m0 : Int) + (j : Int) != (b6.length : Int) - 1) = false := by simp; omega
        have HX : Hid (x = 255 - y) := hx2
        have f3 : (x != 255 - y) = false := by simpa using hx2
        have HI : Hid (m0 + j = b6.length - 1) := hi
        clear hxy hx2 hm hi
        go_wp2_with fail
        go_quiet (fail)
        go_wp2
        go_roundw
        case rel => exact ⟨j + 1, n + nq, by omega, by go_num, rfl⟩
        case measure => simp [intOf]; omega
    · go_wp2_with (first
        | (go_at_call 15; refine (wakes_any _).mono ?_; rintro e w7 ⟨rfl, K7⟩)
        | fail)
      go_ret
      exact ⟨rfl, (K6.trans (Kept.drewN (fun _ => False) w6 n |>.none.mono K6.size)).trans (K7.none.mono K6.size)⟩

end Go.Proofs.Ytbckemimaiajoaa
