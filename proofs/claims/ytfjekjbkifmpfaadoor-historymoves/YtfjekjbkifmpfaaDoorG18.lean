/-
  The laws' own comparing: events and states that are the same; inputs that are clipped; the document's Count.
-/
import Derived.Test.YtfjekjbkifmpfaaDoorG12
import Derived.Laws.StructEq
import Derived.Deep.QuietTactic
import Derived.BigQuiet
namespace Go.Proofs.YtfjekjbkifmpfaaDoor
open Go.RowKit

theorem evF_at {l : List Ev} {i : Nat} (hi : i < l.length) (j : Nat) (hj : j < 4) : (evF l)[i * 4 + j]? = (evC l[i])[j]? := flatMap_at evC_len (List.getElem?_eq_getElem hi) j hj

/-- A row of events at k. -/
theorem flat_ev {w : World} {a : Option Addr} {c : Nat} {l : List Ev} (h : FlatAt w 4 (.slice a l.length c) l.length (evF l)) {k : Nat} (hk : k < l.length) : l.length ≤ c ∧ ∃ b o, a = some ⟨b, o, none⟩ ∧ w.cell? ⟨b, o + k * 4, none⟩ = some (.int .i64 (l[k]).kind) ∧ w.cell? ⟨b, o + k * 4 + 1, none⟩ = some (.string (l[k]).node) ∧ w.cell? ⟨b, o + k * 4 + 2, none⟩ = some (.string (l[k]).text) ∧ w.cell? ⟨b, o + k * 4 + 3, none⟩ = some (.int .i64 (l[k]).num) := by
  obtain ⟨_, a', c', e, hc, _, hr⟩ := h
  obtain ⟨rfl, rfl⟩ : a = a' ∧ c = c' := by simpa using e
  rcases hr with h0 | ⟨b, o, rfl, hcell⟩
  · omega
  · have at_ : ∀ j, j < 4 → ∀ u, (evC l[k])[j]? = some u → w.cell? ⟨b, o + k * 4 + j, none⟩ = some u := fun j hj u hu => by
      rw [Nat.add_assoc]
      exact hcell _ u (by rw [evF_at hk j hj]; exact hu)
    exact ⟨hc, b, o, rfl, at_ 0 (by decide) _ rfl, at_ 1 (by decide) _ rfl, at_ 2 (by decide) _ rfl, at_ 3 (by decide) _ rfl⟩

set_option maxRecDepth 100000 in
set_option maxHeartbeats 4000000 in
theorem eventsSame_any (w : World) (a1 a2 : Option Addr) (c1 c2 : Nat) (l : List Ev) (h1 : FlatAt w 4 (.slice a1 l.length c1) l.length (evF l)) (h2 : FlatAt w 4 (.slice a2 l.length c2) l.length (evF l)) :
    Calls Tryd.prog 32 #[.slice a1 l.length c1, .slice a2 l.length c2] w fun e w' => e = .returned (.bool true) ∧ Kept (fun _ => False) w w' := by
  have H1 := hid h1
  have H2 := hid h2
  have hm : l.length ≤ 9223372036854775807 := by
    obtain ⟨_, a', c', e, hc, hm, _⟩ := h1
    have : maxLen = 9223372036854775807 := rfl
    omega
  clear h1 h2
  have e0 : ((l.length : Int) != (l.length : Int)) = false := by simp
  go_enter Tryd.func32, Tryd.ntmps32
  go_wp2_with fail
  go_loopw [5] (fun q wr => ∃ (k : Nat), k ≤ l.length ∧ q = .int .i64 k ∧ Kept (fun _ => False) w wr) (fun q _ => l.length - (intOf q).toNat)
  case atStart => exact ⟨0, Nat.zero_le _, rfl, Kept.refl _ _⟩
  case round =>
    obtain ⟨k, hk, rfl, K⟩ := hrel
    by_cases hlk : k < l.length
    · have e1 : (k : Int) < (l.length : Int) := by omega
      obtain ⟨z1, b1, o1, rfl, x0, x1, x2, x3⟩ := flat_ev (H1.out.new K) hlk
      obtain ⟨z2, b2, o2, rfl, y0, y1, y2, y3⟩ := flat_ev (H2.out.new K) hlk
      have w1 : IntKind.i64.wrap (k : Int) = (k : Int) := by rw [IntKind.wrap_i64]; omega
      have HK := hid K
      clear K
      generalize l[k] = x at *
      go_wp2_with (first | go_quiet (fail) | fail)
      go_roundw
      case rel => exact ⟨k + 1, by omega, by go_num, HK.out.and (Kept.drewN _ _ _)⟩
      case measure => simp [intOf]; omega
    · obtain rfl : k = l.length := by omega
      have e1 : ¬ (l.length : Int) < (l.length : Int) := by omega
      go_wp2_with fail
      go_ret
      exact ⟨rfl, K⟩

set_option maxRecDepth 100000 in
set_option maxHeartbeats 1000000 in
theorem eventsNil_any (w : World) (a1 a2 : Option Addr) (c1 c2 : Nat) :
    Calls Tryd.prog 32 #[.slice a1 0 c1, .slice a2 0 c2] w fun e w' => e = .returned (.bool true) ∧ Kept (fun _ => False) w w' := by
  go_enter Tryd.func32, Tryd.ntmps32
  go_wp2_with fail
  go_loopw [5] (fun q wr => q = .int .i64 0 ∧ wr = w) (fun _ _ => 0)
  case atStart => exact ⟨rfl, rfl⟩
  case round =>
    obtain ⟨rfl, rfl⟩ := hrel
    go_wp2_with fail
    go_ret
    exact ⟨rfl, Kept.refl _ _⟩

theorem flat_ns {w : World} {a : Option Addr} {c : Nat} {l : List Ns} (h : FlatAt w 3 (.slice a l.length c) l.length (nsF l)) {k : Nat} (hk : k < l.length) : l.length ≤ c ∧ ∃ b o, a = some ⟨b, o, none⟩ ∧ w.cell? ⟨b, o + k * 3, none⟩ = some (.int .i64 (l[k]).status) ∧ w.cell? ⟨b, o + k * 3 + 1, none⟩ = some (.int .i64 (l[k]).tr) ∧ w.cell? ⟨b, o + k * 3 + 2, none⟩ = some (.string (l[k]).text) := by
  obtain ⟨_, a', c', e, hc, _, hr⟩ := h
  obtain ⟨rfl, rfl⟩ : a = a' ∧ c = c' := by simpa using e
  rcases hr with h0 | ⟨b, o, rfl, hcell⟩
  · omega
  · have at_ : ∀ j, j < 3 → ∀ u, (nsC l[k])[j]? = some u → w.cell? ⟨b, o + k * 3 + j, none⟩ = some u := fun j hj u hu => by
      rw [Nat.add_assoc]
      exact hcell _ u (by rw [show (nsF l)[k * 3 + j]? = (nsC l[k])[j]? from flatMap_at nsC_len (List.getElem?_eq_getElem hk) j hj]; exact hu)
    exact ⟨hc, b, o, rfl, at_ 0 (by decide) _ rfl, at_ 1 (by decide) _ rfl, at_ 2 (by decide) _ rfl⟩

theorem flat_sg {w : World} {a : Option Addr} {c : Nat} {l : List Sg} (h : FlatAt w 2 (.slice a l.length c) l.length (sgF l)) {k : Nat} (hk : k < l.length) : l.length ≤ c ∧ ∃ b o, a = some ⟨b, o, none⟩ ∧ w.cell? ⟨b, o + k * 2, none⟩ = some (.string (l[k]).name) ∧ w.cell? ⟨b, o + k * 2 + 1, none⟩ = some (.string (l[k]).text) := by
  obtain ⟨_, a', c', e, hc, _, hr⟩ := h
  obtain ⟨rfl, rfl⟩ : a = a' ∧ c = c' := by simpa using e
  rcases hr with h0 | ⟨b, o, rfl, hcell⟩
  · omega
  · have at_ : ∀ j, j < 2 → ∀ u, (sgC l[k])[j]? = some u → w.cell? ⟨b, o + k * 2 + j, none⟩ = some u := fun j hj u hu => by
      rw [Nat.add_assoc]
      exact hcell _ u (by rw [show (sgF l)[k * 2 + j]? = (sgC l[k])[j]? from flatMap_at sgC_len (List.getElem?_eq_getElem hk) j hj]; exact hu)
    exact ⟨hc, b, o, rfl, at_ 0 (by decide) _ rfl, at_ 1 (by decide) _ rfl⟩

set_option maxRecDepth 100000 in
set_option maxHeartbeats 4000000 in
theorem stateSame_any (w : World) (s : St) (a6 : Option Addr) (c6 : Nat) (a7 : Option Addr) (c7 : Nat) (b6 : Option Addr) (d6 : Nat) (b7 : Option Addr) (d7 : Nat) (R1 : StRd w s (.slice a6 s.nodes.length c6) (.slice a7 s.sigs.length c7)) (R2 : StRd w s (.slice b6 s.nodes.length d6) (.slice b7 s.sigs.length d7)) :
    Calls Tryd.prog 15 #[.agg #[.string s.dfn, .string s.id, .string s.par, .string s.pnode, .int .i64 s.status, .string s.text, .slice a6 s.nodes.length c6, .slice a7 s.sigs.length c7, .int .i64 s.events], .agg #[.string s.dfn, .string s.id, .string s.par, .string s.pnode, .int .i64 s.status, .string s.text, .slice b6 s.nodes.length d6, .slice b7 s.sigs.length d7, .int .i64 s.events]] w fun e w' => e = .returned (.bool true) ∧ Kept (fun _ => False) w w' := by
  have h6 := R1.few6
  have h7 := R1.few7
  have K2 : Kept (fun _ => False) w ((w.alloc (.cells #[.string s.dfn, .string s.id, .string s.par, .string s.pnode, .int .i64 s.status, .string s.text, .slice a6 s.nodes.length c6, .slice a7 s.sigs.length c7, .int .i64 s.events] 33)).alloc (.cells #[.string s.dfn, .string s.id, .string s.par, .string s.pnode, .int .i64 s.status, .string s.text, .slice b6 s.nodes.length d6, .slice b7 s.sigs.length d7, .int .i64 s.events] 33)) := (Kept.alloc _ _ _).and (Kept.alloc _ _ _)
  have b1 := ((Kept.alloc (fun _ => False) (w.alloc (.cells #[.string s.dfn, .string s.id, .string s.par, .string s.pnode, .int .i64 s.status, .string s.text, .slice a6 s.nodes.length c6, .slice a7 s.sigs.length c7, .int .i64 s.events] 33)) (.cells #[.string s.dfn, .string s.id, .string s.par, .string s.pnode, .int .i64 s.status, .string s.text, .slice b6 s.nodes.length d6, .slice b7 s.sigs.length d7, .int .i64 s.events] 33)).block w.heap.size (by simp) (fun h => h)).trans (heap_alloc_new _ _)
  have b2 := heap_alloc_new (w.alloc (.cells #[.string s.dfn, .string s.id, .string s.par, .string s.pnode, .int .i64 s.status, .string s.text, .slice a6 s.nodes.length c6, .slice a7 s.sigs.length c7, .int .i64 s.events] 33)) (.cells #[.string s.dfn, .string s.id, .string s.par, .string s.pnode, .int .i64 s.status, .string s.text, .slice b6 s.nodes.length d6, .slice b7 s.sigs.length d7, .int .i64 s.events] 33)
  rw [World.size_alloc] at b2
  obtain ⟨⟨_, _, _, _, _, _, p6, p7, _⟩, _⟩ := nine b1
  obtain ⟨⟨_, _, _, _, _, _, q6, q7, _⟩, _⟩ := nine b2
  have H1 := hid (R1.new K2)
  have H2 := hid (R2.new K2)
  have HP := hid p6
  have HP7 := hid p7
  have HQ := hid q6
  have HQ7 := hid q7
  have HK2 := hid K2
  clear R1 R2 b1 b2 p6 p7 q6 q7 K2
  go_enter Tryd.func15, Tryd.ntmps15
  go_wp2_with fail
  generalize ((w.alloc (.cells #[.string s.dfn, .string s.id, .string s.par, .string s.pnode, .int .i64 s.status, .string s.text, .slice a6 s.nodes.length c6, .slice a7 s.sigs.length c7, .int .i64 s.events] 33)).alloc (.cells #[.string s.dfn, .string s.id, .string s.par, .string s.pnode, .int .i64 s.status, .string s.text, .slice b6 s.nodes.length d6, .slice b7 s.sigs.length d7, .int .i64 s.events] 33)) = W2 at *
  go_loopw [5] (fun q wr => ∃ (k : Nat), k ≤ s.nodes.length ∧ q = .int .i64 k ∧ Kept (fun _ => False) W2 wr) (fun q _ => s.nodes.length - (intOf q).toNat)
  case atStart => exact ⟨0, Nat.zero_le _, rfl, Kept.refl _ _⟩
  case round =>
    obtain ⟨k, hk, rfl, K⟩ := hrel
    have m1 := keepC K HP.out (fun _ _ h => h)
    have m2 := keepC K HQ.out (fun _ _ h => h)
    by_cases hlk : k < s.nodes.length
    · have e1 : (k : Int) < (s.nodes.length : Int) := by omega
      obtain ⟨z1, g1, o1, rfl, x0, x1, x2⟩ := flat_ns (H1.out.nodes.new K) hlk
      obtain ⟨z2, g2, o2, rfl, y0, y1, y2⟩ := flat_ns (H2.out.nodes.new K) hlk
      have w1 : IntKind.i64.wrap (k : Int) = (k : Int) := by rw [IntKind.wrap_i64]; omega
      have HK := hid K
      clear K
      generalize s.nodes[k] = x at *
      go_wp2_with (first | go_quiet (fail) | fail)
      go_roundw
      case rel => exact ⟨k + 1, by omega, by go_num, HK.out.and (Kept.drewN _ _ _)⟩
      case measure => simp [intOf]; omega
    · obtain rfl : k = s.nodes.length := by omega
      have e1 : ¬ (s.nodes.length : Int) < (s.nodes.length : Int) := by omega
      have HK := hid K
      clear K
      obtain ⟨W3, hW3⟩ : ∃ W3, W3 = wr := ⟨_, rfl⟩
      subst hW3
      go_wp2_with fail
      go_loopw [6] (fun q wr => ∃ (k : Nat), k ≤ s.sigs.length ∧ q = .int .i64 k ∧ Kept (fun _ => False) W2 wr) (fun q _ => s.sigs.length - (intOf q).toNat)
      case atStart => exact ⟨0, Nat.zero_le _, rfl, HK.out⟩
      case round =>
        obtain ⟨k, hk, rfl, K⟩ := hrel
        have m3 := keepC K HP7.out (fun _ _ h => h)
        have m4 := keepC K HQ7.out (fun _ _ h => h)
        by_cases hlk : k < s.sigs.length
        · have e1 : (k : Int) < (s.sigs.length : Int) := by omega
          obtain ⟨z1, g1, o1, rfl, x0, x1⟩ := flat_sg (H1.out.sigs.new K) hlk
          obtain ⟨z2, g2, o2, rfl, y0, y1⟩ := flat_sg (H2.out.sigs.new K) hlk
          have w1 : IntKind.i64.wrap (k : Int) = (k : Int) := by rw [IntKind.wrap_i64]; omega
          have HK' := hid K
          clear K
          generalize s.sigs[k] = x at *
          go_wp2_with (first | go_quiet (fail) | fail)
          go_roundw
          case rel => exact ⟨k + 1, by omega, by go_num, HK'.out.and (Kept.drewN _ _ _)⟩
          case measure => simp [intOf]; omega
        · obtain rfl : k = s.sigs.length := by omega
          have e1 : ¬ (s.sigs.length : Int) < (s.sigs.length : Int) := by omega
          have HK' := hid K
          clear K
          go_wp2_with fail
          go_ret
          exact ⟨rfl, HK2.out.and HK'.out⟩

/-- An input, clipped. -/
def clipQ (q : Inp) : Inp := { q with text := if 300 < q.text.size then q.text.extract 0 300 else q.text, name := if 300 < q.name.size then q.name.extract 0 300 else q.name, now := q.now % 1125899906842625 }

theorem clipQ_text (q : Inp) : (clipQ q).text.size ≤ 300 := by
  unfold clipQ
  dsimp only
  split
  · rw [ByteArray.size_extract]; omega
  · omega

theorem clipQ_name (q : Inp) : (clipQ q).name.size ≤ 300 := by
  unfold clipQ
  dsimp only
  split
  · rw [ByteArray.size_extract]; omega
  · omega

set_option maxRecDepth 100000 in
set_option maxHeartbeats 4000000 in
theorem clip_any (w : World) (q : Inp) (hWi : ∀ V, Calls Tryd.prog 18 #[.int .i64 q.now, .int .i64 1125899906842625] V fun e w' => e = .returned (.int .i64 (q.now % 1125899906842625)) ∧ w' = V) :
    Calls Tryd.prog 13 #[.agg #[.int .i64 q.kind, .string q.node, .string q.name, .string q.text, .int .i64 q.tr, .int .i64 q.status, .int .i64 q.now, .string q.par, .string q.pnode]] w fun e w' => e = .returned (.agg #[.int .i64 q.kind, .string q.node, .string (clipQ q).name, .string (clipQ q).text, .int .i64 q.tr, .int .i64 q.status, .int .i64 (clipQ q).now, .string q.par, .string q.pnode]) ∧ Kept (fun _ => False) w w' := by
  unfold clipQ
  dsimp only
  generalize q.now % 1125899906842625 = now' at *
  by_cases h1 : 300 < q.text.size
  · have e1 : (300 : Int) < (q.text.size : Int) := by omega
    rw [if_pos h1]
    by_cases h2 : 300 < q.name.size
    · have e2 : (300 : Int) < (q.name.size : Int) := by omega
      rw [if_pos h2]
      go_enter Tryd.func13, Tryd.ntmps13
      go_wp2_with (first
        | (go_at_call 18; refine (hWi _).mono ?_; rintro e w1 ⟨rfl, rfl⟩; clear hWi)
        | fail)
      refine bodyPost_ret (by simp [results, Tryd.results13, go_sem]; try rfl) rfl ?_
      exact ⟨rfl, (Kept.alloc _ _ _).and (Kept.alloc _ _ _)⟩
    · have e2 : ¬ (300 : Int) < (q.name.size : Int) := by omega
      rw [if_neg h2]
      go_enter Tryd.func13, Tryd.ntmps13
      go_wp2_with (first
        | (go_at_call 18; refine (hWi _).mono ?_; rintro e w1 ⟨rfl, rfl⟩; clear hWi)
        | fail)
      refine bodyPost_ret (by simp [results, Tryd.results13, go_sem]; try rfl) rfl ?_
      exact ⟨rfl, (Kept.alloc _ _ _).and (Kept.alloc _ _ _)⟩
  · have e1 : ¬ (300 : Int) < (q.text.size : Int) := by omega
    rw [if_neg h1]
    by_cases h2 : 300 < q.name.size
    · have e2 : (300 : Int) < (q.name.size : Int) := by omega
      rw [if_pos h2]
      go_enter Tryd.func13, Tryd.ntmps13
      go_wp2_with (first
        | (go_at_call 18; refine (hWi _).mono ?_; rintro e w1 ⟨rfl, rfl⟩; clear hWi)
        | fail)
      refine bodyPost_ret (by simp [results, Tryd.results13, go_sem]; try rfl) rfl ?_
      exact ⟨rfl, (Kept.alloc _ _ _).and (Kept.alloc _ _ _)⟩
    · have e2 : ¬ (300 : Int) < (q.name.size : Int) := by omega
      rw [if_neg h2]
      go_enter Tryd.func13, Tryd.ntmps13
      go_wp2_with (first
        | (go_at_call 18; refine (hWi _).mono ?_; rintro e w1 ⟨rfl, rfl⟩; clear hWi)
        | fail)
      refine bodyPost_ret (by simp [results, Tryd.results13, go_sem]; try rfl) rfl ?_
      exact ⟨rfl, (Kept.alloc _ _ _).and (Kept.alloc _ _ _)⟩

set_option maxRecDepth 100000 in
set_option maxHeartbeats 4000000 in
theorem refCount_any (w : World) (s : St) (a6 : Option Addr) (c6 : Nat) (v7 : Value) (R : StRd w s (.slice a6 s.nodes.length c6) v7) :
    Calls Tryd.prog 24 #[.agg #[.string s.dfn, .string s.id, .string s.par, .string s.pnode, .int .i64 s.status, .string s.text, .slice a6 s.nodes.length c6, v7, .int .i64 s.events]] w fun e w' => e = .returned (.tuple #[.int .i64 (overC s.nodes : Nat), .int .i64 (restC s.nodes : Nat)]) ∧ Kept (fun _ => False) w w' := by
  have h6 := R.few6
  have K0 := Kept.alloc (fun _ => False) w (.cells #[.string s.dfn, .string s.id, .string s.par, .string s.pnode, .int .i64 s.status, .string s.text, .slice a6 s.nodes.length c6, v7, .int .i64 s.events] 33)
  obtain ⟨⟨_, _, _, _, _, _, p6, _, _⟩, _⟩ := nine (heap_alloc_new w (.cells #[.string s.dfn, .string s.id, .string s.par, .string s.pnode, .int .i64 s.status, .string s.text, .slice a6 s.nodes.length c6, v7, .int .i64 s.events] 33))
  have H1 := hid (R.nodes.new K0)
  have HP := hid p6
  have HK0 := hid K0
  have Hsum : Hid (overC s.nodes + restC s.nodes = s.nodes.length) := by
    show _ = _
    unfold overC restC
    have h := List.length_eq_countP_add_countP (l := s.nodes) (fun x : Ns => x.status == 3)
    rw [h]
    congr 1
    apply List.countP_congr
    intro y _
    cases (y.status == 3) <;> simp
  clear R K0 p6
  go_enter Tryd.func24, Tryd.ntmps24
  go_wp2_with fail
  generalize (w.alloc (.cells #[.string s.dfn, .string s.id, .string s.par, .string s.pnode, .int .i64 s.status, .string s.text, .slice a6 s.nodes.length c6, v7, .int .i64 s.events] 33)) = W2 at *
  go_loopw [4, 5] (fun n q wr => ∃ (k : Nat), k ≤ s.nodes.length ∧ q = .int .i64 k ∧ n = .int .i64 (overC (s.nodes.take k) : Nat) ∧ Kept (fun _ => False) W2 wr) (fun _ q _ => s.nodes.length - (intOf q).toNat)
  case atStart => exact ⟨0, Nat.zero_le _, rfl, rfl, Kept.refl _ _⟩
  case round =>
    obtain ⟨k, hk, rfl, rfl, K⟩ := hrel
    have m1 := keepC K HP.out (fun _ _ h => h)
    by_cases hlk : k < s.nodes.length
    · have e1 : (k : Int) < (s.nodes.length : Int) := by omega
      obtain ⟨z1, g1, o1, rfl, x0, x1, x2⟩ := flat_ns (H1.out.new K) hlk
      have bo : overC (s.nodes.take k) ≤ k := Nat.le_trans List.countP_le_length (by rw [List.length_take]; omega)
      have n1 : overC (s.nodes.take (k + 1)) = overC (s.nodes.take k) + if ((s.nodes[k]).status == 3) = true then 1 else 0 := by
        unfold overC
        rw [List.take_succ_eq_append_getElem hlk, List.countP_append, List.countP_cons, List.countP_nil, Nat.zero_add]
      have HN1 := hid n1
      have HK := hid K
      clear K n1
      generalize overC (s.nodes.take k) = p at *
      cases hs : ((s.nodes[k]).status == 3) with
      | true =>
        have HX : Hid (overC (s.nodes.take (k + 1)) = p + 1) := by show _ = _; rw [HN1.out, hs]; rfl
        generalize s.nodes[k] = x at *
        go_wp2_with (first | go_quiet (fail) | fail)
        go_roundw
        case rel => exact ⟨k + 1, by omega, by go_num, by rw [HX.out]; go_num, HK.out⟩
        case measure => simp [intOf]; omega
      | false =>
        have HX : Hid (overC (s.nodes.take (k + 1)) = p) := by show _ = _; rw [HN1.out, hs]; rfl
        generalize s.nodes[k] = x at *
        go_wp2_with (first | go_quiet (fail) | fail)
        go_roundw
        case rel => exact ⟨k + 1, by omega, by go_num, by rw [HX.out], HK.out⟩
        case measure => simp [intOf]; omega
    · obtain rfl : k = s.nodes.length := by omega
      have e1 : ¬ (s.nodes.length : Int) < (s.nodes.length : Int) := by omega
      have HK := hid K
      have hs := Hsum.out
      rw [List.take_length]
      clear K
      have hw : IntKind.i64.wrap ((s.nodes.length : Int) - (overC s.nodes : Int)) = (restC s.nodes : Int) := by rw [IntKind.wrap_i64]; omega
      have Hw := hid hw
      generalize hp : overC s.nodes = p at *
      generalize hr : restC s.nodes = r at *
      have Hp := hid hp
      have Hr := hid hr
      have Hs : Hid ((s.nodes.length : Int) - (p : Int) = (r : Int)) := by show _ = _; omega
      clear hw hp hr
      go_wp2_with (first | go_quiet (fail) | fail)
      go_ret2
      refine ⟨?_, (HK0.out.and HK.out).and (Kept.drewN _ _ _)⟩
      rw [Hp.out, Hr.out, ← Hs.out]
      rfl

end Go.Proofs.YtfjekjbkifmpfaaDoor
