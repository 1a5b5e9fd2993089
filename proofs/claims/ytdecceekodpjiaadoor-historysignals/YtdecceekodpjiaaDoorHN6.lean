/-
  The laws' own comparing: events and states that are the same; inputs that are clipped; the document's Count.
-/
import Derived.Test.YtdecceekodpjiaaDoorHCount
import Derived.Test.YtdecceekodpjiaaDoorHM3
import Derived.Test.YtdecceekodpjiaaDoorHN5
import Derived.Laws.StructEq
import Derived.Deep.QuietTactic
import Derived.BigQuiet
namespace Go.Proofs.YtdecceekodpjiaaDoor
open Go.RowKit

theorem evF_at {l : List Ev} {i : Nat} (hi : i < l.length) (j : Nat) (hj : j < 4) : (evF l)[i * 4 + j]? = (evC l[i])[j]? := flatMap_at evC_len (List.getElem?_eq_getElem hi) j hj

/-- A row of events at k. -/
theorem flat_ev {w : World} {a : Option Addr} {c : Nat} {l : List Ev} (h : FlatAt w 4 (.slice a l.length c) l.length (evF l)) {k : Nat} (hk : k < l.length) : l.length ≤ c ∧ ∃ b o, a = some ⟨b, o, none⟩ ∧ w.cell? ⟨b, o + k * 4, none⟩ = some (.int .i64 (l[k]).kind) ∧ w.cell? ⟨b, o + k * 4 + 1, none⟩ = some (.string (l[k]).node) ∧ w.cell? ⟨b, o + k * 4 + 2, none⟩ = some (.string (l[k]).text) ∧ w.cell? ⟨b, o + k * 4 + 3, none⟩ = some (.int .i64 (l[k]).num) := by
  obtain ⟨_, a', c', e, hc, _, hr⟩ := h
  obtain ⟨rfl, rfl⟩ : a = a' ∧ c = c' := by simpa using e
  rcases hr with h0 | ⟨b, o, rfl, hcell⟩
  · omega
  · have at_ : ∀ j, j < 4 → ∀ u, (evC l[k])[j]? = some u → w.cell? ⟨b, o + k * 4 + j, none⟩ = some u := fun j hj u hu => by
      rw [Nat.add_assoc]
      exact hcell _ u (by rw [evF_at hk j hj]; exact hu)
    exact ⟨hc, b, o, rfl, at_ 0 (by decide) _ rfl, at_ 1 (by decide) _ rfl, at_ 2 (by decide) _ rfl, at_ 3 (by decide) _ rfl⟩

set_option maxRecDepth 100000 in
set_option maxHeartbeats 4000000 in
theorem eventsSame_any (w : World) (a1 a2 : Option Addr) (c1 c2 : Nat) (l : List Ev) (h1 : FlatAt w 4 (.slice a1 l.length c1) l.length (evF l)) (h2 : FlatAt w 4 (.slice a2 l.length c2) l.length (evF l)) :
    Calls Tryd.prog 13 #[.slice a1 l.length c1, .slice a2 l.length c2] w fun e w' => e = .returned (.bool true) ∧ Kept (fun _ => False) w w' := by
  have H1 := hid h1
  have H2 := hid h2
  have hm : l.length ≤ 9223372036854775807 := by
    obtain ⟨_, a', c', e, hc, hm, _⟩ := h1
    have : maxLen = 9223372036854775807 := rfl
    omega
  clear h1 h2
  have e0 : ((l.length : Int) != (l.length : Int)) = false := by simp
  go_enter Tryd.func13, Tryd.ntmps13
  go_wp2_with fail
  go_loopw [5] (fun q wr => ∃ (k : Nat), k ≤ l.length ∧ q = .int .i64 k ∧ Kept (fun _ => False) w wr) (fun q _ => l.length - (intOf q).toNat)
  case atStart => exact ⟨0, Nat.zero_le _, rfl, Kept.refl _ _⟩
  case round =>
    obtain ⟨k, hk, rfl, K⟩ := hrel
    by_cases hlk : k < l.length
    · have e1 : (k : Int) < (l.length : Int) := by omega
      obtain ⟨z1, b1, o1, rfl, x0, x1, x2, x3⟩ := flat_ev (H1.out.new K) hlk
      obtain ⟨z2, b2, o2, rfl, y0, y1, y2, y3⟩ := flat_ev (H2.out.new K) hlk
      have w1 : IntKind.i64.wrap (k : Int) = (k : Int) := by rw [IntKind.wrap_i64]; omega
      have HK := hid K
      clear K
      generalize l[k] = x at *
      go_wp2_with (first | go_quiet (fail) | fail)
      go_roundw
      case rel => exact ⟨k + 1, by omega, by go_num, HK.out.and (Kept.drewN _ _ _)⟩
      case measure => simp [intOf]; omega
    · obtain rfl : k = l.length := by omega
      have e1 : ¬ (l.length : Int) < (l.length : Int) := by omega
      go_wp2_with fail
      go_ret
      exact ⟨rfl, K⟩

set_option maxRecDepth 100000 in
set_option maxHeartbeats 1000000 in
theorem eventsNil_any (w : World) (a1 a2 : Option Addr) (c1 c2 : Nat) :
    Calls Tryd.prog 13 #[.slice a1 0 c1, .slice a2 0 c2] w fun e w' => e = .returned (.bool true) ∧ Kept (fun _ => False) w w' := by
  go_enter Tryd.func13, Tryd.ntmps13
  go_wp2_with fail
  go_loopw [5] (fun q wr => q = .int .i64 0 ∧ wr = w) (fun _ _ => 0)
  case atStart => exact ⟨rfl, rfl⟩
  case round =>
    obtain ⟨rfl, rfl⟩ := hrel
    go_wp2_with fail
    go_ret
    exact ⟨rfl, Kept.refl _ _⟩

theorem flat_ns {w : World} {a : Option Addr} {c : Nat} {l : List Ns} (h : FlatAt w 3 (.slice a l.length c) l.length (nsF l)) {k : Nat} (hk : k < l.length) : l.length ≤ c ∧ ∃ b o, a = some ⟨b, o, none⟩ ∧ w.cell? ⟨b, o + k * 3, none⟩ = some (.int .i64 (l[k]).status) ∧ w.cell? ⟨b, o + k * 3 + 1, none⟩ = some (.int .i64 (l[k]).tr) ∧ w.cell? ⟨b, o + k * 3 + 2, none⟩ = some (.string (l[k]).text) := by
  obtain ⟨_, a', c', e, hc, _, hr⟩ := h
  obtain ⟨rfl, rfl⟩ : a = a' ∧ c = c' := by simpa using e
  rcases hr with h0 | ⟨b, o, rfl, hcell⟩
  · omega
  · have at_ : ∀ j, j < 3 → ∀ u, (nsC l[k])[j]? = some u → w.cell? ⟨b, o + k * 3 + j, none⟩ = some u := fun j hj u hu => by
      rw [Nat.add_assoc]
      exact hcell _ u (by rw [show (nsF l)[k * 3 + j]? = (nsC l[k])[j]? from flatMap_at nsC_len (List.getElem?_eq_getElem hk) j hj]; exact hu)
    exact ⟨hc, b, o, rfl, at_ 0 (by decide) _ rfl, at_ 1 (by decide) _ rfl, at_ 2 (by decide) _ rfl⟩

theorem flat_sg {w : World} {a : Option Addr} {c : Nat} {l : List Sg} (h : FlatAt w 2 (.slice a l.length c) l.length (sgF l)) {k : Nat} (hk : k < l.length) : l.length ≤ c ∧ ∃ b o, a = some ⟨b, o, none⟩ ∧ w.cell? ⟨b, o + k * 2, none⟩ = some (.string (l[k]).name) ∧ w.cell? ⟨b, o + k * 2 + 1, none⟩ = some (.string (l[k]).text) := by
  obtain ⟨_, a', c', e, hc, _, hr⟩ := h
  obtain ⟨rfl, rfl⟩ : a = a' ∧ c = c' := by simpa using e
  rcases hr with h0 | ⟨b, o, rfl, hcell⟩
  · omega
  · have at_ : ∀ j, j < 2 → ∀ u, (sgC l[k])[j]? = some u → w.cell? ⟨b, o + k * 2 + j, none⟩ = some u := fun j hj u hu => by
      rw [Nat.add_assoc]
      exact hcell _ u (by rw [show (sgF l)[k * 2 + j]? = (sgC l[k])[j]? from flatMap_at sgC_len (List.getElem?_eq_getElem hk) j hj]; exact hu)
    exact ⟨hc, b, o, rfl, at_ 0 (by decide) _ rfl, at_ 1 (by decide) _ rfl⟩

set_option maxRecDepth 100000 in
set_option maxHeartbeats 4000000 in
theorem stateSame_any (w : World) (s : St) (a6 : Option Addr) (c6 : Nat) (a7 : Option Addr) (c7 : Nat) (b6 : Option Addr) (d6 : Nat) (b7 : Option Addr) (d7 : Nat) (R1 : StRd w s (.slice a6 s.nodes.length c6) (.slice a7 s.sigs.length c7)) (R2 : StRd w s (.slice b6 s.nodes.length d6) (.slice b7 s.sigs.length d7)) :
    Calls Tryd.prog 14 #[.agg #[.string s.dfn, .string s.id, .string s.par, .string s.pnode, .int .i64 s.status, .string s.text, .slice a6 s.nodes.length c6, .slice a7 s.sigs.length c7, .int .i64 s.events], .agg #[.string s.dfn, .string s.id, .string s.par, .string s.pnode, .int .i64 s.status, .string s.text, .slice b6 s.nodes.length d6, .slice b7 s.sigs.length d7, .int .i64 s.events]] w fun e w' => e = .returned (.bool true) ∧ Kept (fun _ => False) w w' := by
  have h6 := R1.few6
  have h7 := R1.few7
  have K2 : Kept (fun _ => False) w ((w.alloc (.cells #[.string s.dfn, .string s.id, .string s.par, .string s.pnode, .int .i64 s.status, .string s.text, .slice a6 s.nodes.length c6, .slice a7 s.sigs.length c7, .int .i64 s.events] 39)).alloc (.cells #[.string s.dfn, .string s.id, .string s.par, .string s.pnode, .int .i64 s.status, .string s.text, .slice b6 s.nodes.length d6, .slice b7 s.sigs.length d7, .int .i64 s.events] 39)) := (Kept.alloc _ _ _).and (Kept.alloc _ _ _)
  have b1 := ((Kept.alloc (fun _ => False) (w.alloc (.cells #[.string s.dfn, .string s.id, .string s.par, .string s.pnode, .int .i64 s.status, .string s.text, .slice a6 s.nodes.length c6, .slice a7 s.sigs.length c7, .int .i64 s.events] 39)) (.cells #[.string s.dfn, .string s.id, .string s.par, .string s.pnode, .int .i64 s.status, .string s.text, .slice b6 s.nodes.length d6, .slice b7 s.sigs.length d7, .int .i64 s.events] 39)).block w.heap.size (by simp) (fun h => h)).trans (heap_alloc_new _ _)
  have b2 := heap_alloc_new (w.alloc (.cells #[.string s.dfn, .string s.id, .string s.par, .string s.pnode, .int .i64 s.status, .string s.text, .slice a6 s.nodes.length c6, .slice a7 s.sigs.length c7, .int .i64 s.events] 39)) (.cells #[.string s.dfn, .string s.id, .string s.par, .string s.pnode, .int .i64 s.status, .string s.text, .slice b6 s.nodes.length d6, .slice b7 s.sigs.length d7, .int .i64 s.events] 39)
  rw [World.size_alloc] at b2
  obtain ⟨⟨_, _, _, _, _, _, p6, p7, _⟩, _⟩ := nine b1
  obtain ⟨⟨_, _, _, _, _, _, q6, q7, _⟩, _⟩ := nine b2
  have H1 := hid (R1.new K2)
  have H2 := hid (R2.new K2)
  have HP := hid p6
  have HP7 := hid p7
  have HQ := hid q6
  have HQ7 := hid q7
  have HK2 := hid K2
  clear R1 R2 b1 b2 p6 p7 q6 q7 K2
  go_enter Tryd.func14, Tryd.ntmps14
  go_wp2_with fail
  generalize ((w.alloc (.cells #[.string s.dfn, .string s.id, .string s.par, .string s.pnode, .int .i64 s.status, .string s.text, .slice a6 s.nodes.length c6, .slice a7 s.sigs.length c7, .int .i64 s.events] 39)).alloc (.cells #[.string s.dfn, .string s.id, .string s.par, .string s.pnode, .int .i64 s.status, .string s.text, .slice b6 s.nodes.length d6, .slice b7 s.sigs.length d7, .int .i64 s.events] 39)) = W2 at *
  go_loopw [5] (fun q wr => ∃ (k : Nat), k ≤ s.nodes.length ∧ q = .int .i64 k ∧ Kept (fun _ => False) W2 wr) (fun q _ => s.nodes.length - (intOf q).toNat)
  case atStart => exact ⟨0, Nat.zero_le _, rfl, Kept.refl _ _⟩
  case round =>
    obtain ⟨k, hk, rfl, K⟩ := hrel
    have m1 := keepC K HP.out (fun _ _ h => h)
    have m2 := keepC K HQ.out (fun _ _ h => h)
    by_cases hlk : k < s.nodes.length
    · have e1 : (k : Int) < (s.nodes.length : Int) := by omega
      obtain ⟨z1, g1, o1, rfl, x0, x1, x2⟩ := flat_ns (H1.out.nodes.new K) hlk
      obtain ⟨z2, g2, o2, rfl, y0, y1, y2⟩ := flat_ns (H2.out.nodes.new K) hlk
      have w1 : IntKind.i64.wrap (k : Int) = (k : Int) := by rw [IntKind.wrap_i64]; omega
      have HK := hid K
      clear K
      generalize s.nodes[k] = x at *
      go_wp2_with (first | go_quiet (fail) | fail)
      go_roundw
      case rel => exact ⟨k + 1, by omega, by go_num, HK.out.and (Kept.drewN _ _ _)⟩
      case measure => simp [intOf]; omega
    · obtain rfl : k = s.nodes.length := by omega
      have e1 : ¬ (s.nodes.length : Int) < (s.nodes.length : Int) := by omega
      have HK := hid K
      clear K
      obtain ⟨W3, hW3⟩ : ∃ W3, W3 = wr := ⟨_, rfl⟩
      subst hW3
      go_wp2_with fail
      go_loopw [6] (fun q wr => ∃ (k : Nat), k ≤ s.sigs.length ∧ q = .int .i64 k ∧ Kept (fun _ => False) W2 wr) (fun q _ => s.sigs.length - (intOf q).toNat)
      case atStart => exact ⟨0, Nat.zero_le _, rfl, HK.out⟩
      case round =>
        obtain ⟨k, hk, rfl, K⟩ := hrel
        have m3 := keepC K HP7.out (fun _ _ h => h)
        have m4 := keepC K HQ7.out (fun _ _ h => h)
        by_cases hlk : k < s.sigs.length
        · have e1 : (k : Int) < (s.sigs.length : Int) := by omega
          obtain ⟨z1, g1, o1, rfl, x0, x1⟩ := flat_sg (H1.out.sigs.new K) hlk
          obtain ⟨z2, g2, o2, rfl, y0, y1⟩ := flat_sg (H2.out.sigs.new K) hlk
          have w1 : IntKind.i64.wrap (k : Int) = (k : Int) := by rw [IntKind.wrap_i64]; omega
          have HK' := hid K
          clear K
          generalize s.sigs[k] = x at *
          go_wp2_with (first | go_quiet (fail) | fail)
          go_roundw
          case rel => exact ⟨k + 1, by omega, by go_num, HK'.out.and (Kept.drewN _ _ _)⟩
          case measure => simp [intOf]; omega
        · obtain rfl : k = s.sigs.length := by omega
          have e1 : ¬ (s.sigs.length : Int) < (s.sigs.length : Int) := by omega
          have HK' := hid K
          clear K
          go_wp2_with fail
          go_ret
          exact ⟨rfl, HK2.out.and HK'.out⟩

/-- An input, clipped. -/
def clipQ (q : Inp) : Inp := { q with text := if 300 < q.text.size then q.text.extract 0 300 else q.text, name := if 300 < q.name.size then q.name.extract 0 300 else q.name, now := q.now % 1125899906842625 }

theorem clipQ_text (q : Inp) : (clipQ q).text.size ≤ 300 := by
  unfold clipQ
  dsimp only
  split
  · rw [ByteArray.size_extract]; omega
  · omega

theorem clipQ_name (q : Inp) : (clipQ q).name.size ≤ 300 := by
  unfold clipQ
  dsimp only
  split
  · rw [ByteArray.size_extract]; omega
  · omega

set_option maxRecDepth 100000 in
set_option maxHeartbeats 4000000 in
theorem clip_any (w : World) (q : Inp) (hWi : ∀ V, Calls Tryd.prog 7 #[.int .i64 q.now, .int .i64 1125899906842625] V fun e w' => e = .returned (.int .i64 (q.now % 1125899906842625)) ∧ w' = V) :
    Calls Tryd.prog 12 #[.agg #[.int .i64 q.kind, .string q.node, .string q.name, .string q.text, .int .i64 q.tr, .int .i64 q.status, .int .i64 q.now, .string q.par, .string q.pnode]] w fun e w' => e = .returned (.agg #[.int .i64 q.kind, .string q.node, .string (clipQ q).name, .string (clipQ q).text, .int .i64 q.tr, .int .i64 q.status, .int .i64 (clipQ q).now, .string q.par, .string q.pnode]) ∧ Kept (fun _ => False) w w' := by
  unfold clipQ
  dsimp only
  generalize q.now % 1125899906842625 = now' at *
  by_cases h1 : 300 < q.text.size
  · have e1 : (300 : Int) < (q.text.size : Int) := by omega
    rw [if_pos h1]
    by_cases h2 : 300 < q.name.size
    · have e2 : (300 : Int) < (q.name.size : Int) := by omega
      rw [if_pos h2]
      go_enter Tryd.func12, Tryd.ntmps12
      go_wp2_with (first
        | (go_at_call 7; refine (hWi _).mono ?_; rintro e w1 ⟨rfl, rfl⟩; clear hWi)
        | fail)
      refine bodyPost_ret (by simp [results, Tryd.results12, go_sem]; try rfl) rfl ?_
      exact ⟨rfl, (Kept.alloc _ _ _).and (Kept.alloc _ _ _)⟩
    · have e2 : ¬ (300 : Int) < (q.name.size : Int) := by omega
      rw [if_neg h2]
      go_enter Tryd.func12, Tryd.ntmps12
      go_wp2_with (first
        | (go_at_call 7; refine (hWi _).mono ?_; rintro e w1 ⟨rfl, rfl⟩; clear hWi)
        | fail)
      refine bodyPost_ret (by simp [results, Tryd.results12, go_sem]; try rfl) rfl ?_
      exact ⟨rfl, (Kept.alloc _ _ _).and (Kept.alloc _ _ _)⟩
  · have e1 : ¬ (300 : Int) < (q.text.size : Int) := by omega
    rw [if_neg h1]
    by_cases h2 : 300 < q.name.size
    · have e2 : (300 : Int) < (q.name.size : Int) := by omega
      rw [if_pos h2]
      go_enter Tryd.func12, Tryd.ntmps12
      go_wp2_with (first
        | (go_at_call 7; refine (hWi _).mono ?_; rintro e w1 ⟨rfl, rfl⟩; clear hWi)
        | fail)
      refine bodyPost_ret (by simp [results, Tryd.results12, go_sem]; try rfl) rfl ?_
      exact ⟨rfl, (Kept.alloc _ _ _).and (Kept.alloc _ _ _)⟩
    · have e2 : ¬ (300 : Int) < (q.name.size : Int) := by omega
      rw [if_neg h2]
      go_enter Tryd.func12, Tryd.ntmps12
      go_wp2_with (first
        | (go_at_call 7; refine (hWi _).mono ?_; rintro e w1 ⟨rfl, rfl⟩; clear hWi)
        | fail)
      refine bodyPost_ret (by simp [results, Tryd.results12, go_sem]; try rfl) rfl ?_
      exact ⟨rfl, (Kept.alloc _ _ _).and (Kept.alloc _ _ _)⟩

set_option maxRecDepth 100000 in
set_option maxHeartbeats 4000000 in
theorem refCount_any (w : World) (s : St) (a6 : Option Addr) (c6 : Nat) (v7 : Value) (R : StRd w s (.slice a6 s.nodes.length c6) v7) :
    Calls Tryd.prog 15 #[.agg #[.string s.dfn, .string s.id, .string s.par, .string s.pnode, .int .i64 s.status, .string s.text, .slice a6 s.nodes.length c6, v7, .int .i64 s.events]] w fun e w' => e = .returned (.tuple #[.int .i64 (overC s.nodes : Nat), .int .i64 (restC s.nodes : Nat)]) ∧ Kept (fun _ => False) w w' := by
  have h6 := R.few6
  have K0 := Kept.alloc (fun _ => False) w (.cells #[.string s.dfn, .string s.id, .string s.par, .string s.pnode, .int .i64 s.status, .string s.text, .slice a6 s.nodes.length c6, v7, .int .i64 s.events] 39)
  obtain ⟨⟨_, _, _, _, _, _, p6, _, _⟩, _⟩ := nine (heap_alloc_new w (.cells #[.string s.dfn, .string s.id, .string s.par, .string s.pnode, .int .i64 s.status, .string s.text, .slice a6 s.nodes.length c6, v7, .int .i64 s.events] 39))
  have H1 := hid (R.nodes.new K0)
  have HP := hid p6
  have HK0 := hid K0
  have Hsum : Hid (overC s.nodes + restC s.nodes = s.nodes.length) := by
    show _ = _
    unfold overC restC
    have h := List.length_eq_countP_add_countP (l := s.nodes) (fun x : Ns => x.status == 3)
    rw [h]
    congr 1
    apply List.countP_congr
    intro y _
    cases (y.status == 3) <;> simp
  clear R K0 p6
  go_enter Tryd.func15, Tryd.ntmps15
  go_wp2_with fail
  generalize (w.alloc (.cells #[.string s.dfn, .string s.id, .string s.par, .string s.pnode, .int .i64 s.status, .string s.text, .slice a6 s.nodes.length c6, v7, .int .i64 s.events] 39)) = W2 at *
  go_loopw [4, 5] (fun n q wr => ∃ (k : Nat), k ≤ s.nodes.length ∧ q = .int .i64 k ∧ n = .int .i64 (overC (s.nodes.take k) : Nat) ∧ Kept (fun _ => False) W2 wr) (fun _ q _ => s.nodes.length - (intOf q).toNat)
  case atStart => exact ⟨0, Nat.zero_le _, rfl, rfl, Kept.refl _ _⟩
  case round =>
    obtain ⟨k, hk, rfl, rfl, K⟩ := hrel
    have m1 := keepC K HP.out (fun _ _ h => h)
    by_cases hlk : k < s.nodes.length
    · have e1 : (k : Int) < (s.nodes.length : Int) := by omega
      obtain ⟨z1, g1, o1, rfl, x0, x1, x2⟩ := flat_ns (H1.out.new K) hlk
      have bo : overC (s.nodes.take k) ≤ k := Nat.le_trans List.countP_le_length (by rw [List.length_take]; omega)
      have n1 : overC (s.nodes.take (k + 1)) = overC (s.nodes.take k) + if ((s.nodes[k]).status == 3) = true then 1 else 0 := by
        unfold overC
        rw [List.take_succ_eq_append_getElem hlk, List.countP_append, List.countP_cons, List.countP_nil, Nat.zero_add]
      have HN1 := hid n1
      have HK := hid K
      clear K n1
      generalize overC (s.nodes.take k) = p at *
      cases hs : ((s.nodes[k]).status == 3) with
      | true =>
        have HX : Hid (overC (s.nodes.take (k + 1)) = p + 1) := by show _ = _; rw [HN1.out, hs]; rfl
        generalize s.nodes[k] = x at *
        go_wp2_with (first | go_quiet (fail) | fail)
        go_roundw
        case rel => exact ⟨k + 1, by omega, by go_num, by rw [HX.out]; go_num, HK.out⟩
        case measure => simp [intOf]; omega
      | false =>
        have HX : Hid (overC (s.nodes.take (k + 1)) = p) := by show _ = _; rw [HN1.out, hs]; rfl
        generalize s.nodes[k] = x at *
        go_wp2_with (first | go_quiet (fail) | fail)
        go_roundw
        case rel => exact ⟨k + 1, by omega, by go_num, by rw [HX.out], HK.out⟩
        case measure => simp [intOf]; omega
    · obtain rfl : k = s.nodes.length := by omega
      have e1 : ¬ (s.nodes.length : Int) < (s.nodes.length : Int) := by omega
      have HK := hid K
      have hs := Hsum.out
      rw [List.take_length]
      clear K
      have hw : IntKind.i64.wrap ((s.nodes.length : Int) - (overC s.nodes : Int)) = (restC s.nodes : Int) := by rw [IntKind.wrap_i64]; omega
      have Hw := hid hw
      generalize hp : overC s.nodes = p at *
      generalize hr : restC s.nodes = r at *
      have Hp := hid hp
      have Hr := hid hr
      have Hs : Hid ((s.nodes.length : Int) - (p : Int) = (r : Int)) := by show _ = _; omega
      clear hw hp hr
      go_wp2_with (first | go_quiet (fail) | fail)
      go_ret2
      refine ⟨?_, (HK0.out.and HK.out).and (Kept.drewN _ _ _)⟩
      rw [Hp.out, Hr.out, ← Hs.out]
      rfl

end Go.Proofs.YtdecceekodpjiaaDoor

/-
  HistorySignals as data: a row of waits, signals of two names; what each step comes to.
-/
namespace Go.Proofs.YtdecceekodpjiaaDoor
open Go.RowKit

def sgName (i : Nat) : ByteArray := ⟨#[UInt8.ofNat (97 + i)]⟩
def sgN (i : Nat) : Nd := ⟨sgName i, 4, ⟨#[115]⟩, ⟨#[]⟩, 0, 0, if i = 0 then [] else [sgName (i - 1)]⟩
def sgNs (n : Nat) : List Nd := (List.range n).map sgN
def sgNode (g i : Nat) : Ns := if i < g then ⟨3, 0, sgName i⟩ else if i = g then ⟨2, 0, ⟨#[]⟩⟩ else ⟨0, 0, ⟨#[]⟩⟩
def otherB : ByteArray := ⟨#[111, 116, 104, 101, 114]⟩

/-- The state of n waits of which g are over, with t signals kept. -/
def sgSt (n g t : Nat) : St := ⟨⟨#[119]⟩, ⟨#[102]⟩, ⟨#[]⟩, ⟨#[]⟩, if g = n then 2 else 1, if g = n then sgName (n - 1) else ⟨#[]⟩, (List.range n).map (sgNode g), List.replicate t ⟨⟨#[116]⟩, otherB⟩, ((2 + 2 * g + t : Nat) : Int)⟩

def sgQ0 : Inp := ⟨1, ⟨#[]⟩, ⟨#[102]⟩, ⟨#[]⟩, 0, 0, 0, ⟨#[]⟩, ⟨#[]⟩⟩
def sgQ (g : Nat) : Inp := ⟨2, ⟨#[]⟩, ⟨#[115]⟩, sgName g, 0, 0, 0, ⟨#[]⟩, ⟨#[]⟩⟩
def sgQt : Inp := ⟨2, ⟨#[]⟩, ⟨#[116]⟩, otherB, 0, 0, 0, ⟨#[]⟩, ⟨#[]⟩⟩

def nsE (a b : Ns) : Bool := decide (a.status = b.status) && decide (a.tr = b.tr) && decide (a.text = b.text)
def sgE (a b : Sg) : Bool := decide (a.name = b.name) && decide (a.text = b.text)
def listE {α : Type} (f : α → α → Bool) : List α → List α → Bool
  | [], [] => true
  | x :: l, y :: m => f x y && listE f l m
  | _, _ => false
def stE (a b : St) : Bool := decide (a.dfn = b.dfn) && decide (a.id = b.id) && decide (a.par = b.par) && decide (a.pnode = b.pnode) && decide (a.status = b.status) && decide (a.text = b.text) && listE nsE a.nodes b.nodes && listE sgE a.sigs b.sigs && decide (a.events = b.events)

theorem listE_eq {α : Type} {f : α → α → Bool} (hf : ∀ x y, f x y = true → x = y) : ∀ {l m : List α}, listE f l m = true → l = m
  | [], [], _ => rfl
  | x :: l, y :: m, h => by
    unfold listE at h
    rw [Bool.and_eq_true] at h
    rw [hf x y h.1, listE_eq hf h.2]
  | [], _ :: _, h => by cases h
  | _ :: _, [], h => by cases h

theorem nsE_eq (x y : Ns) (h : nsE x y = true) : x = y := by
  unfold nsE at h
  simp only [Bool.and_eq_true, decide_eq_true_eq] at h
  obtain ⟨⟨h1, h2⟩, h3⟩ := h
  cases x; cases y
  simp_all

theorem sgE_eq (x y : Sg) (h : sgE x y = true) : x = y := by
  unfold sgE at h
  simp only [Bool.and_eq_true, decide_eq_true_eq] at h
  obtain ⟨h1, h2⟩ := h
  cases x; cases y
  simp_all

theorem stE_eq {a b : St} (h : stE a b = true) : a = b := by
  unfold stE at h
  simp only [Bool.and_eq_true, decide_eq_true_eq] at h
  obtain ⟨⟨⟨⟨⟨⟨⟨⟨h1, h2⟩, h3⟩, h4⟩, h5⟩, h6⟩, h7⟩, h8⟩, h9⟩ := h
  have h7 := listE_eq nsE_eq h7
  have h8 := listE_eq sgE_eq h8
  cases a; cases b
  simp_all

def chk0 (n : Nat) : Bool := decide ((stepP ⟨#[119]⟩ (sgNs n) zeroSt sgQ0).2 = 0) && stE (stepP ⟨#[119]⟩ (sgNs n) zeroSt sgQ0).1.st (sgSt n 0 0)
def chk1 (n g t : Nat) : Bool := decide ((stepP ⟨#[119]⟩ (sgNs n) (sgSt n g t) (sgQ g)).2 = 0) && stE (stepP ⟨#[119]⟩ (sgNs n) (sgSt n g t) (sgQ g)).1.st (sgSt n (g + 1) t)
def chk2 (n g t : Nat) : Bool := if t < 32 then decide ((stepP ⟨#[119]⟩ (sgNs n) (sgSt n g t) sgQt).2 = 0) && stE (stepP ⟨#[119]⟩ (sgNs n) (sgSt n g t) sgQt).1.st (sgSt n g (t + 1)) else decide ((stepP ⟨#[119]⟩ (sgNs n) (sgSt n g t) sgQt).2 = 8)

set_option maxRecDepth 100000 in
theorem chk0_all : ∀ n : Fin 10, chk0 (n.1 + 1) = true := by decide +kernel

set_option maxRecDepth 100000 in
theorem chk1_all : ∀ n : Fin 10, ∀ g : Fin (n.1 + 1), ∀ t : Fin 33, chk1 (n.1 + 1) g.1 t.1 = true := by decide +kernel

set_option maxRecDepth 100000 in
theorem chk2_all : ∀ n : Fin 10, ∀ g : Fin (n.1 + 1), ∀ t : Fin 33, chk2 (n.1 + 1) g.1 t.1 = true := by decide +kernel

theorem sig_start {n : Nat} (h1 : 1 ≤ n) (h2 : n ≤ 10) : ∃ r, stepP ⟨#[119]⟩ (sgNs n) zeroSt sgQ0 = (r, 0) ∧ r.st = sgSt n 0 0 := by
  have h := chk0_all ⟨n - 1, by omega⟩
  dsimp only at h
  rw [show n - 1 + 1 = n by omega] at h
  unfold chk0 at h
  rw [Bool.and_eq_true, decide_eq_true_eq] at h
  exact ⟨_, Prod.ext rfl h.1, stE_eq h.2⟩

theorem sig_got {n g t : Nat} (h2 : n ≤ 10) (hg : g < n) (ht : t ≤ 32) : ∃ r, stepP ⟨#[119]⟩ (sgNs n) (sgSt n g t) (sgQ g) = (r, 0) ∧ r.st = sgSt n (g + 1) t := by
  have h := chk1_all ⟨n - 1, by omega⟩ ⟨g, by show g < n - 1 + 1; omega⟩ ⟨t, by omega⟩
  dsimp only at h
  rw [show n - 1 + 1 = n by omega] at h
  unfold chk1 at h
  rw [Bool.and_eq_true, decide_eq_true_eq] at h
  exact ⟨_, Prod.ext rfl h.1, stE_eq h.2⟩

theorem sig_kept {n g t : Nat} (h2 : n ≤ 10) (hg : g < n) (ht : t < 32) : ∃ r, stepP ⟨#[119]⟩ (sgNs n) (sgSt n g t) sgQt = (r, 0) ∧ r.st = sgSt n g (t + 1) := by
  have h := chk2_all ⟨n - 1, by omega⟩ ⟨g, by show g < n - 1 + 1; omega⟩ ⟨t, by omega⟩
  dsimp only at h
  rw [show n - 1 + 1 = n by omega] at h
  unfold chk2 at h
  rw [if_pos ht, Bool.and_eq_true, decide_eq_true_eq] at h
  exact ⟨_, Prod.ext rfl h.1, stE_eq h.2⟩

theorem sig_full {n g : Nat} (h2 : n ≤ 10) (hg : g < n) : ∃ r, stepP ⟨#[119]⟩ (sgNs n) (sgSt n g 32) sgQt = (r, 8) := by
  have h := chk2_all ⟨n - 1, by omega⟩ ⟨g, by show g < n - 1 + 1; omega⟩ ⟨32, by omega⟩
  dsimp only at h
  rw [show n - 1 + 1 = n by omega] at h
  unfold chk2 at h
  rw [if_neg (by decide), decide_eq_true_eq] at h
  exact ⟨_, Prod.ext rfl h⟩

end Go.Proofs.YtdecceekodpjiaaDoor

/-
  A definition that a law builds, node by node.
-/
namespace Go.Proofs.YtdecceekodpjiaaDoor
open Go.RowKit

theorem byte_s1 (w : World) (x : Int) (hx : 0 ≤ x ∧ x ≤ 255) : (convert 29 9 (.slice (some ⟨w.heap.size, 0, none⟩) 1 1)).run Tryd.prog (w.alloc (.cells #[.int .u8 x] 5)) = .ok (.string (strOfNums [x])) (w.alloc (.cells #[.int .u8 x] 5)) :=
  BytesAt.str (b := [x]) ⟨rfl, Nat.le_refl _, fun h => (by cases h), fun ad h => (by cases h; exact World.news_of_block (heap_alloc_new w _)), fun y hy => by simp at hy; omega⟩

theorem sgName_str : ∀ k : Nat, k < 20 → strOfNums [97 + (k : Int)] = sgName k := by
  have h : ∀ k : Fin 20, strOfNums [97 + ((k.1 : Nat) : Int)] = sgName k.1 := by decide +kernel
  exact fun k hk => h ⟨k, hk⟩

theorem ndC_one (n : Nd) (a : Option Addr) (m c : Nat) : ∀ u ∈ ndC n (.slice a m c), u.oneCell' = true := by
  intro u hu
  simp only [ndC, List.mem_cons, List.not_mem_nil, or_false] at hu
  rcases hu with rfl | rfl | rfl | rfl | rfl | rfl | rfl <;> rfl

/-- Nodes as a flat row. -/
def flatB (ns : List Nd) (vs : List Value) : List Value := (ns.zip vs).flatMap (fun p => ndC p.1 p.2)

theorem flatB_snoc {ns : List Nd} {vs : List Value} (h : vs.length = ns.length) (n : Nd) (v : Value) : flatB (ns ++ [n]) (vs ++ [v]) = flatB ns vs ++ ndC n v := by
  unfold flatB
  rw [List.zip_append h.symm, List.flatMap_append]
  simp

theorem flatB_at {ns : List Nd} {vs : List Value} {i : Nat} (h1 : i < ns.length) (h2 : i < vs.length) (j : Nat) (hj : j < 7) : (flatB ns vs)[i * 7 + j]? = (ndC ns[i] vs[i])[j]? := by
  have hz : (ns.zip vs)[i]? = some (ns[i], vs[i]) := by
    rw [List.getElem?_zip_eq_some]
    exact ⟨List.getElem?_eq_getElem h1, List.getElem?_eq_getElem h2⟩
  exact flatMap_at (f := fun p : Nd × Value => ndC p.1 p.2) (k := 7) (fun _ => rfl) hz j hj

/-- Nodes that stand in a row of their own; each After is none, or one text in a block of its own. -/
structure Bld (w : World) (B : Nat) (a : Option Addr) (c : Nat) (ns : List Nd) (vs : List Value) : Prop where
  len : vs.length = ns.length
  row : w.ownsRow B 32 7 (.slice a ns.length c) ns.length (flatB ns vs)
  txt : ∀ j (h1 : j < ns.length) (h2 : j < vs.length), (ns[j].after = [] ∧ vs[j] = .slice none 0 0) ∨ ∃ b s, ns[j].after = [s] ∧ s.size ≤ 100 ∧ vs[j] = .slice (some ⟨b, 0, none⟩) 1 1 ∧ w.heap[b]? = some (.cells #[.string s] 9 (0, 0))

section
variable {w w' : World} {B : Nat} {a : Option Addr} {c : Nat} {ns : List Nd} {vs : List Value}

theorem Bld.nil (w : World) (B : Nat) : Bld w B none 0 [] [] := ⟨rfl, World.ownsRow_nil _ _ _ _, fun j h => by simp at h⟩

theorem Bld.new (X : Bld w B a c ns vs) (K : Kept (fun _ => False) w w') : Bld w' B a c ns vs := by
  refine ⟨X.len, ownsRow_keep X.row (fun g hg => K.block g (ownsRow_blk X.row hg) (fun h => h)), fun j h1 h2 => ?_⟩
  rcases X.txt j h1 h2 with h | ⟨b, s, h, hs, hv, hb⟩
  · exact .inl h
  · exact .inr ⟨b, s, h, hs, hv, (K.block b (Array.getElem?_eq_some_iff.1 hb).1 (fun h => h)).trans hb⟩

theorem Bld.nodes (X : Bld w B a c ns vs) (ok : ∀ n ∈ ns, NdOk n) : NodesAt w a ns := by
  refine ⟨ok, ?_⟩
  by_cases h0 : ns = []
  · exact .inl h0
  · have hp : 0 < ns.length := List.length_pos_iff.2 h0
    obtain ⟨g, cg, hv, _, _, hrow⟩ := row_at X.row hp
    simp only [Value.slice.injEq, true_and] at hv
    obtain ⟨rfl, rfl⟩ := hv
    refine .inr ⟨g, 0, rfl, fun i hi => ?_⟩
    have h2 : i < vs.length := by rw [X.len]; exact hi
    refine ⟨vs[i], ?_, fun j u hu => ?_⟩
    · rcases X.txt i hi h2 with ⟨h, hv⟩ | ⟨b, s, h, hs, hv, hb⟩
      · rw [h, hv]
        exact ⟨none, 0, rfl, Nat.le_refl _, Nat.zero_le _, .inl rfl, fun s hs => by cases hs⟩
      · rw [h, hv]
        refine ⟨some ⟨b, 0, none⟩, 1, rfl, Nat.le_refl _, by decide, .inr ⟨b, 0, rfl, fun j u hu => ?_⟩, fun t ht => by rw [List.mem_singleton] at ht; subst ht; unfold maxLen; omega⟩
        simp only [World.cell?, hb, Nat.zero_add]
        simpa using hu
    · have hj : j < 7 := (List.getElem?_eq_some_iff.1 hu).1
      rw [Nat.zero_add]
      exact (hrow (i * 7 + j) u (by rw [flatB_at hi h2 j hj]; exact hu)).1

/-- A cell of a node that stands there. -/
theorem Bld.cell (X : Bld w B a c ns vs) {i : Nat} (hi : i < ns.length) : ns.length ≤ c ∧ ∃ g, a = some ⟨g, 0, none⟩ ∧ w.cell? ⟨g, i * 7, none⟩ = some (.string ns[i].name) := by
  obtain ⟨g, cg, hv, _, hc, hrow⟩ := row_at X.row (by omega)
  simp only [Value.slice.injEq, true_and] at hv
  obtain ⟨rfl, rfl⟩ := hv
  exact ⟨hc, g, rfl, (hrow (i * 7) _ (by have := flatB_at hi (show i < vs.length by rw [X.len]; exact hi) 0 (by decide); rw [Nat.add_zero] at this; rw [this]; rfl)).1⟩

/-- One more. -/
theorem Bld.push {w3 : World} {a3 : Option Addr} {c3 : Nat} {n : Nd} {v : Value} (X : Bld w B a c ns vs) (ho : w3.ownsRow B 32 7 (.slice a3 (ns.length + 1) c3) (ns.length + 1) (flatB ns vs ++ ndC n v)) (hg : w.grownBy w3 (Value.slice a ns.length c).ownBlock)
    (hv : (n.after = [] ∧ v = .slice none 0 0) ∨ ∃ b s, n.after = [s] ∧ s.size ≤ 100 ∧ v = .slice (some ⟨b, 0, none⟩) 1 1 ∧ w.heap[b]? = some (.cells #[.string s] 9 (0, 0))) : Bld w3 B a3 c3 (ns ++ [n]) (vs ++ [v]) := by
  have KG : Kept (fun j => (Value.slice a ns.length c).ownBlock = some j) w w3 := Kept.grown hg (fun _ e => e)
  have keep : ∀ {b : Nat} {s : ByteArray}, w.heap[b]? = some (.cells #[.string s] 9 (0, 0)) → w3.heap[b]? = some (.cells #[.string s] 9 (0, 0)) := fun {b s} hb => by
    refine (KG.block b (Array.getElem?_eq_some_iff.1 hb).1 (fun e => ?_)).trans hb
    rcases X.row.2 with ⟨h0, _⟩ | ⟨g, cap, cur, hs, _, hg', _⟩
    · rw [h0] at e; cases e
    · rw [hs] at e
      obtain rfl : g = b := Option.some.inj e
      rw [hb] at hg'
      simp at hg'
  refine ⟨by simp [X.len], ?_, fun j h1 h2 => ?_⟩
  · rw [flatB_snoc X.len, List.length_append, List.length_singleton]
    exact ho
  · by_cases e : j < ns.length
    · have e2 : j < vs.length := by rw [X.len]; exact e
      rw [List.getElem_append_left e, List.getElem_append_left e2]
      rcases X.txt j e e2 with h | ⟨b, s, h, hs, hv', hb⟩
      · exact .inl h
      · exact .inr ⟨b, s, h, hs, hv', keep hb⟩
    · have hj : j = ns.length := by simp at h1; omega
      subst hj
      rw [List.getElem_append_right (Nat.le_refl _), List.getElem_append_right (by rw [X.len]; exact Nat.le_refl _)]
      simp only [Nat.sub_self, X.len, List.getElem_cons_zero]
      rcases hv with h | ⟨b, s, h, hs, hv', hb⟩
      · exact .inl h
      · exact .inr ⟨b, s, h, hs, hv', keep hb⟩

end

theorem sgNs_snoc (k : Nat) : sgNs (k + 1) = sgNs k ++ [sgN k] := by
  unfold sgNs
  rw [List.range_succ, List.map_append]
  rfl

theorem sgNs_len (k : Nat) : (sgNs k).length = k := by unfold sgNs; simp

theorem sgNs_at (n : Nat) {i : Nat} (h : i < (sgNs n).length) : (sgNs n)[i] = sgN i := by
  have h' : i < n := by rw [sgNs_len] at h; exact h
  have e : (sgNs n)[i]? = some (sgN i) := by
    unfold sgNs
    rw [List.getElem?_map, List.getElem?_range h']
    rfl
  rw [List.getElem?_eq_getElem h] at e
  exact Option.some.inj e

theorem sgN_ok (i : Nat) : NdOk (sgN i) := ⟨by show (1 : Nat) ≤ maxLen; decide, by show (1 : Nat) ≤ maxLen; decide, by show (0 : Nat) ≤ maxLen; decide, by show isI64 4; unfold isI64; decide, by show isI64 0; unfold isI64; decide, by show isI64 0; unfold isI64; decide, by unfold sgN; dsimp only; split <;> simp⟩

theorem sgNs_ok (n : Nat) : ∀ x ∈ sgNs n, NdOk x := fun x hx => by
  unfold sgNs at hx
  obtain ⟨i, _, rfl⟩ := List.mem_map.1 hx
  exact sgN_ok i

theorem sgNs_names (n : Nat) : ∀ x ∈ sgNs n, x.name.size ≤ 100000000 := fun x hx => by
  unfold sgNs at hx
  obtain ⟨i, _, rfl⟩ := List.mem_map.1 hx
  show (1 : Nat) ≤ _
  decide

end Go.Proofs.YtdecceekodpjiaaDoor

/-
  A state's box that is filled anew, again and again; a definition's box while it is built.
-/
namespace Go.Proofs.YtdecceekodpjiaaDoor
open Go.RowKit

theorem Tryd.info32 : (Tryd.prog.info? 32).map (fun i => (i.zero, i.size, i.bytes)) = some (some (.agg #[.string ⟨#[]⟩, .int .i64 0, .string ⟨#[]⟩, .string ⟨#[]⟩, .int .i64 0, .int .i64 0, .slice none 0 0]), 7, 96) := by kernel_rfl

theorem pairFz {w : World} {b : Nat} {T : TypeId} {u0 u1 : Value} (h : w.heap[b]? = some (.cells #[u0, u1] T (0, 0))) : (w.cell? ⟨b, 0, none⟩ = some u0 ∧ w.cell? ⟨b, 1, none⟩ = some u1) ∧ w.frozen? ⟨b, 0, none⟩ = false ∧ w.frozen? ⟨b, 1, none⟩ = false := by
  simp [World.cell?, World.frozen?, h]

theorem pairSet {w : World} {b : Nat} {T : TypeId} {u0 u1 : Value} (h : w.heap[b]? = some (.cells #[u0, u1] T (0, 0))) (v : Value) : (w.setCell ⟨b, 1, none⟩ v).heap[b]? = some (.cells #[u0, v] T (0, 0)) := by
  simp [World.setCell, Array.getElem?_modify, h]

/-- A state's box at g; its rows do not lie in sb. -/
structure SBox (w : World) (sb g : Nat) (s : St) (a6 : Option Addr) (c6 : Nat) (a7 : Option Addr) (c7 : Nat) : Prop where
  blk : w.heap[g]? = some (.cells #[.string s.dfn, .string s.id, .string s.par, .string s.pnode, .int .i64 s.status, .string s.text, .slice a6 s.nodes.length c6, .slice a7 s.sigs.length c7, .int .i64 s.events] 39 (0, 0))
  nodes : w.ownsRow 0 54 3 (.slice a6 s.nodes.length c6) s.nodes.length (nsF s.nodes)
  sigs : w.ownsRow 0 78 2 (.slice a7 s.sigs.length c7) s.sigs.length (sgF s.sigs)
  ap6 : ∀ g, (Value.slice a6 s.nodes.length c6).ownBlock = some g → g ≠ sb
  ap7 : ∀ g, (Value.slice a7 s.sigs.length c7).ownBlock = some g → g ≠ sb

section
variable {w w' : World} {sb g : Nat} {s : St} {a6 : Option Addr} {c6 : Nat} {a7 : Option Addr} {c7 : Nat}

theorem SBox.rd (X : SBox w sb g s a6 c6 a7 c7) (Z : Small s) : StRd w s (.slice a6 s.nodes.length c6) (.slice a7 s.sigs.length c7) := ⟨flat_of_owns X.nodes, flat_of_owns X.sigs, by have := Z.nodes; omega, by have := Z.sigs; omega⟩

theorem SBox.new (X : SBox w sb g s a6 c6 a7 c7) (K : Kept (fun _ => False) w w') : SBox w' sb g s a6 c6 a7 c7 :=
  ⟨(K.block _ (Array.getElem?_eq_some_iff.1 X.blk).1 (fun h => h)).trans X.blk, ownsRow_keep X.nodes (fun g hg => K.block g (ownsRow_blk X.nodes hg) (fun h => h)), ownsRow_keep X.sigs (fun g hg => K.block g (ownsRow_blk X.sigs hg) (fun h => h)), X.ap6, X.ap7⟩

/-- What an answer's box holds is put into the box. -/
theorem SBox.put {u0 u1 u2 u3 u4 u5 u6 u7 u8 : Value} (X : SBox w sb g s a6 c6 a7 c7) (hb : w.heap[sb]? = some (.cells #[u0, u1, u2, u3, u4, u5, u6, u7, u8] 39 (0, 0))) :
    SBox (((((((((w.setCell ⟨sb, 0, none⟩ (.string s.dfn)).setCell ⟨sb, 1, none⟩ (.string s.id)).setCell ⟨sb, 2, none⟩ (.string s.par)).setCell ⟨sb, 3, none⟩ (.string s.pnode)).setCell ⟨sb, 4, none⟩ (.int .i64 s.status)).setCell ⟨sb, 5, none⟩ (.string s.text)).setCell ⟨sb, 6, none⟩ (.slice a6 s.nodes.length c6)).setCell ⟨sb, 7, none⟩ (.slice a7 s.sigs.length c7)).setCell ⟨sb, 8, none⟩ (.int .i64 s.events)) sb sb s a6 c6 a7 c7 ∧
    Kept (fun j => j = sb) w (((((((((w.setCell ⟨sb, 0, none⟩ (.string s.dfn)).setCell ⟨sb, 1, none⟩ (.string s.id)).setCell ⟨sb, 2, none⟩ (.string s.par)).setCell ⟨sb, 3, none⟩ (.string s.pnode)).setCell ⟨sb, 4, none⟩ (.int .i64 s.status)).setCell ⟨sb, 5, none⟩ (.string s.text)).setCell ⟨sb, 6, none⟩ (.slice a6 s.nodes.length c6)).setCell ⟨sb, 7, none⟩ (.slice a7 s.sigs.length c7)).setCell ⟨sb, 8, none⟩ (.int .i64 s.events)) := by
  have K := kept9 (S := fun j => j = sb) w rfl (.string s.dfn) (.string s.id) (.string s.par) (.string s.pnode) (.int .i64 s.status) (.string s.text) (.slice a6 s.nodes.length c6) (.slice a7 s.sigs.length c7) (.int .i64 s.events)
  exact ⟨⟨put9 hb _ _ _ _ _ _ _ _ _, ownsRow_keep X.nodes (fun g hg => K.block g (ownsRow_blk X.nodes hg) (X.ap6 g hg)), ownsRow_keep X.sigs (fun g hg => K.block g (ownsRow_blk X.sigs hg) (X.ap7 g hg)), X.ap6, X.ap7⟩, K⟩

end

theorem ans_sbox {w2 : World} {B sb : Nat} {r : Rn} {ve vt : Value} {a6 : Option Addr} {c6 : Nat} {a7 : Option Addr} {c7 : Nat} (A : AnsAt w2 B r ve (.slice a6 r.st.nodes.length c6) (.slice a7 r.st.sigs.length c7) vt) (hap : ∀ g, B ≤ g → g < w2.heap.size → g ≠ sb) :
    SBox (w2.alloc (.cells #[.string r.st.dfn, .string r.st.id, .string r.st.par, .string r.st.pnode, .int .i64 r.st.status, .string r.st.text, .slice a6 r.st.nodes.length c6, .slice a7 r.st.sigs.length c7, .int .i64 r.st.events] 39)) sb w2.heap.size r.st a6 c6 a7 c7 := by
  have K := Kept.alloc (fun _ => False) w2 (.cells #[.string r.st.dfn, .string r.st.id, .string r.st.par, .string r.st.pnode, .int .i64 r.st.status, .string r.st.text, .slice a6 r.st.nodes.length c6, .slice a7 r.st.sigs.length c7, .int .i64 r.st.events] 39)
  exact ⟨heap_alloc_new _ _, ownsRow_low (ownsRow_keep A.nodes (fun g hg => K.block g (ownsRow_blk A.nodes hg) (fun h => h))) (Nat.zero_le _), ownsRow_low (ownsRow_keep A.sigs (fun g hg => K.block g (ownsRow_blk A.sigs hg) (fun h => h))) (Nat.zero_le _), fun g hg => hap g (A.nodes.lt g hg).1 (ownsRow_blk A.nodes hg), fun g hg => hap g (A.sigs.lt g hg).1 (ownsRow_blk A.sigs hg)⟩

/-- A definition on its way: its box at db, its nodes. -/
structure BJ (w0 w : World) (db : Nat) (a : Option Addr) (c : Nat) (ns : List Nd) (vs : List Value) : Prop where
  box : w.heap[db]? = some (.cells #[.string ⟨#[119]⟩, .slice a ns.length c] 28 (0, 0))
  bld : Bld w (db + 1) a c ns vs
  kept : Kept (fun _ => False) w0 w
  new : w0.heap.size ≤ db

section
variable {w0 w w' : World} {db : Nat} {a : Option Addr} {c : Nat} {ns : List Nd} {vs : List Value}

theorem BJ.new' (J : BJ w0 w db a c ns vs) (K : Kept (fun _ => False) w w') : BJ w0 w' db a c ns vs := ⟨(K.block _ (Array.getElem?_eq_some_iff.1 J.box).1 (fun h => h)).trans J.box, J.bld.new K, J.kept.and K, J.new⟩

/-- Behind an append its box still holds what it held. -/
theorem BJ.grown {w3 : World} (J : BJ w0 w db a c ns vs) (hg : w.grownBy w3 (Value.slice a ns.length c).ownBlock) : w3.heap[db]? = some (.cells #[.string ⟨#[119]⟩, .slice a ns.length c] 28 (0, 0)) :=
  ((Kept.grown (S := fun j => (Value.slice a ns.length c).ownBlock = some j) hg (fun _ e => e)).block db (Array.getElem?_eq_some_iff.1 J.box).1 (fun e => by have := (J.bld.row.lt db e).1; omega)).trans J.box

theorem BJ.push {w3 : World} {a3 : Option Addr} {c3 : Nat} {n : Nd} {v : Value} (J : BJ w0 w db a c ns vs) (ho : w3.ownsRow (db + 1) 32 7 (.slice a3 (ns.length + 1) c3) (ns.length + 1) (flatB ns vs ++ ndC n v)) (hg : w.grownBy w3 (Value.slice a ns.length c).ownBlock)
    (hv : (n.after = [] ∧ v = .slice none 0 0) ∨ ∃ b s, n.after = [s] ∧ s.size ≤ 100 ∧ v = .slice (some ⟨b, 0, none⟩) 1 1 ∧ w.heap[b]? = some (.cells #[.string s] 9 (0, 0))) : BJ w0 (w3.setCell ⟨db, 1, none⟩ (.slice a3 (ns.length + 1) c3)) db a3 c3 (ns ++ [n]) (vs ++ [v]) := by
  have X := J.bld.push ho hg hv
  have hb := J.grown hg
  have KG : Kept (fun j => (Value.slice a ns.length c).ownBlock = some j) w w3 := Kept.grown hg (fun _ e => e)
  have K := Kept.setCell (S := fun j => j = db) w3 ⟨db, 1, none⟩ (.slice a3 (ns.length + 1) c3) rfl
  refine ⟨?_, ⟨X.len, ownsRow_keep X.row (fun g hg => K.block g (ownsRow_blk X.row hg) (fun e => by have := (X.row.lt g hg).1; omega)), fun j h1 h2 => ?_⟩, ?_, J.new⟩
  · rw [List.length_append, List.length_singleton]
    exact pairSet hb _
  · rcases X.txt j h1 h2 with h | ⟨b, s, h, hs, hv', hb'⟩
    · exact .inl h
    · refine .inr ⟨b, s, h, hs, hv', (K.block b (Array.getElem?_eq_some_iff.1 hb').1 (fun e => ?_)).trans hb'⟩
      subst e
      rw [hb] at hb'
      simp at hb'
  · have h1 := J.new
    exact (J.kept.trans KG (fun g e => .inr (by have := (J.bld.row.lt g e).1; omega))).trans K (fun g e => .inr (by omega))

end

theorem sgSt_small {n g t : Nat} (hn : n ≤ 10) (hg : g ≤ n) (ht : t ≤ 32) : Small (sgSt n g t) := ⟨by show ((List.range n).map (sgNode g)).length ≤ 64; simp; omega, by show (List.replicate t _).length ≤ 100000; simp; omega, by show (0 : Int) ≤ ((2 + 2 * g + t : Nat) : Int); omega, by show ((2 + 2 * g + t : Nat) : Int) ≤ 100000; omega, by show (1 : Nat) ≤ 100000000; decide⟩

end Go.Proofs.YtdecceekodpjiaaDoor
