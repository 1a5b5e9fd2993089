/-
  Views: Right and Newer, and the document's Right.
-/
import Derived.Test.YtnhmdeglaoilcaaDoorRKeep
namespace Go.Proofs.YtnhmdeglaoilcaaDoor
open Go.RowKit Go.Sort

/-- A view by value. -/
def vw (v : Int) (a : Option Addr) (n c : Nat) : Value := .agg #[.int .i64 v, .slice a n c]

/-- The i-th host stands right. -/
def okAt (l : List Int) (i : Nat) : Prop := (0 ≤ l.getD i 0 ∧ l.getD i 0 < 16) ∧ (0 < i → l.getD (i - 1) 0 < l.getD i 0)
def okView (v : Int) (l : List Int) : Prop := (0 ≤ v ∧ v ≤ 4503599627370496) ∧ ∀ i, i < l.length → okAt l i
open Classical in
/-- Is it a view? -/
noncomputable def rightB (v : Int) (l : List Int) : Bool := decide (okView v l)

theorem rightB_no {v : Int} {l : List Int} (h : ¬ okView v l) : rightB v l = false := by unfold rightB; simp [h]
theorem rightB_yes {v : Int} {l : List Int} (h : okView v l) : rightB v l = true := by unfold rightB; simp [h]

theorem ret_bool {a b : Bool} (h : a = b) : Ending.returned (.bool a) = .returned (.bool b) := by rw [h]

theorem getD_get {l : List Int} {k : Nat} (h : k < l.length) : l.getD k 0 = l[k] := by
  rw [List.getD_eq_getElem?_getD, List.getElem?_eq_getElem h]; rfl

set_option maxRecDepth 100000 in
set_option maxHeartbeats 1000000 in
theorem right_any (w : World) (v : Int) (a : Option Addr) (n c : Nat) (l : List Int) (I : IntsAt w a n c l) (hn : n ≤ 1000) :
    Calls Tryd.prog 32 #[vw v a n c] w fun e w' => e = .returned (.bool (rightB v l)) ∧ Kept (fun _ => False) w w' := by
  have HL : Hid (l.length = n) := I.len
  unfold vw
  by_cases h0 : v < 0
  · rw [rightB_no (fun h => by have := h.1; omega)]
    go_enter Tryd.func32, Tryd.ntmps32
    go_wp2
    go_ret
    exact ⟨rfl, Kept.alloc _ _ _⟩
  by_cases h1 : 4503599627370496 < v
  · rw [rightB_no (fun h => by have := h.1; omega)]
    go_enter Tryd.func32, Tryd.ntmps32
    go_wp2
    go_ret
    exact ⟨rfl, Kept.alloc _ _ _⟩
  have KA := Kept.alloc (fun _ => False) w (.cells #[.int .i64 v, .slice a n c] 68)
  have IA := I.kept KA (fun _ _ _ h => h)
  clear I
  go_enter Tryd.func32, Tryd.ntmps32
  go_wp2
  go_loopw [3, 17] (fun t i wr => ∃ (k : Nat), k ≤ n ∧ i = .int .i64 k ∧ t = .int .i64 (if k = 0 then -1 else l.getD (k - 1) 0) ∧ (∀ i, i < k → okAt l i) ∧ wr = w.alloc (.cells #[.int .i64 v, .slice a n c] 68)) (fun _ i _ => n - (intOf i).toNat)
  case atStart => exact ⟨0, Nat.zero_le _, rfl, rfl, fun i hi => by omega, rfl⟩
  case round =>
    obtain ⟨k, hk, rfl, rfl, hall, hwr⟩ := hrel
    subst hwr
    by_cases hlt : k < n
    · have hkl : k < l.length := by rw [HL.out]; exact hlt
      have e0 : (k : Int) < (n : Int) := by omega
      obtain ⟨b, o, rfl, hc⟩ := IA.at hkl
      have x1 := hc k hkl
      have T := fun V => there_any V l[k]
      have hg := getD_get hkl
      by_cases hok : okAt l k
      · have hok' := hok
        unfold okAt at hok'
        rw [hg] at hok'
        have hT : (decide (0 ≤ l[k]) && decide (l[k] < 16)) = true := by simp; exact hok'.1
        rw [hT] at T
        have hle : ¬ l[k] ≤ (if k = 0 then -1 else l.getD (k - 1) 0) := by
          split
          · have := hok'.1.1; omega
          · have := hok'.2 (by omega); omega
        have HN : Hid ((if k + 1 = 0 then -1 else l.getD (k + 1 - 1) 0) = l[k]) := by
          show _ = _
          rw [if_neg (by omega), Nat.add_sub_cancel, hg]
        generalize (if k = 0 then -1 else l.getD (k - 1) 0) = last at *
        generalize l[k] = y at *
        have HA : Hid (∀ i, i < k + 1 → okAt l i) := fun i hi => by
          rcases Nat.lt_or_ge i k with h | h
          · exact hall i h
          · have : i = k := by omega
            rw [this]; exact hok
        clear hok hok' hT hc hall hg
        go_wp2_with (first
          | (go_at_call 36; refine (T _).mono ?_; rintro e w1 ⟨rfl, hw1⟩; subst w1)
          | fail)
        go_roundw
        case rel => exact ⟨k + 1, by omega, by go_num, by rw [HN.out], HA.out, trivial⟩
        case measure => simp [intOf]; omega
      · have HQ : Hid (rightB v l = false) := rightB_no (fun h => hok (h.2 k hkl))
        by_cases hle : l[k] ≤ (if k = 0 then -1 else l.getD (k - 1) 0)
        · generalize (if k = 0 then -1 else l.getD (k - 1) 0) = last at *
          generalize l[k] = y at *
          clear hok hc hall T hg
          go_wp2
          go_ret
          exact ⟨ret_bool HQ.out.symm, KA⟩
        · have hT : (decide (0 ≤ l[k]) && decide (l[k] < 16)) = false := by
            cases hd : (decide (0 ≤ l[k]) && decide (l[k] < 16))
            · rfl
            · exfalso
              simp at hd
              refine hok ⟨by rw [hg]; exact hd, fun h => ?_⟩
              rw [if_neg (by omega)] at hle
              rw [hg]; omega
          rw [hT] at T
          generalize (if k = 0 then -1 else l.getD (k - 1) 0) = last at *
          generalize l[k] = y at *
          clear hok hc hall hT hg
          go_wp2_with (first
            | (go_at_call 36; refine (T _).mono ?_; rintro e w1 ⟨rfl, hw1⟩; subst w1)
            | fail)
          go_ret
          exact ⟨ret_bool HQ.out.symm, KA⟩
    · have e0 : ¬ (k : Int) < (n : Int) := by omega
      have HQ : Hid (rightB v l = true) := rightB_yes ⟨by omega, fun i hi => hall i (by rw [HL.out] at hi; omega)⟩
      generalize (if k = 0 then -1 else l.getD (k - 1) 0) = last at *
      clear hall
      go_wp2
      go_ret
      exact ⟨ret_bool HQ.out.symm, KA⟩

theorem kept_drawn (w : World) (m n : Nat) : Kept (fun _ => False) w ((w.drewN m).drewN n) := (Kept.drewN _ _ _).and (Kept.drewN _ _ _)

set_option maxRecDepth 100000 in
set_option maxHeartbeats 2000000 in
theorem refRight_any (w : World) (v : Int) (a : Option Addr) (n c : Nat) (l : List Int) (I : IntsAt w a n c l) (hn : n ≤ 1000) :
    Calls Tryd.prog 33 #[vw v a n c] w fun e w' => e = .returned (.bool (rightB v l)) ∧ Kept (fun _ => False) w w' := by
  have HL : Hid (l.length = n) := I.len
  unfold vw
  have KA := Kept.alloc (fun _ => False) w (.cells #[.int .i64 v, .slice a n c] 68)
  have IA := I.kept KA (fun _ _ _ h => h)
  have hB := heap_alloc_new w (.cells #[.int .i64 v, .slice a n c] 68)
  generalize hW : w.alloc (.cells #[.int .i64 v, .slice a n c] 68) = W at *
  have y0 : W.cell? ⟨w.heap.size, 0, none⟩ = some (.int .i64 v) := by unfold World.cell?; rw [hB]; rfl
  have y1 : W.cell? ⟨w.heap.size, 1, none⟩ = some (.slice a n c) := by unfold World.cell?; rw [hB]; rfl
  have HW : Hid (w.alloc (.cells #[.int .i64 v, .slice a n c] 68) = W) := hW
  clear I hB hW
  go_enter Tryd.func33, Tryd.ntmps33
  go_wp2
  rw [HW.out]
  go_loopw [3] (fun i wr => ∃ (k m : Nat), k ≤ n ∧ i = .int .i64 k ∧ (∀ i, i < k → okAt l i) ∧ wr = W.drewN m) (fun i _ => n - (intOf i).toNat)
  case atStart => exact ⟨0, 0, Nat.zero_le _, rfl, fun i hi => by omega, rfl⟩
  case round =>
    obtain ⟨k, m, hk, rfl, hall, rfl⟩ := hrel
    by_cases hlt : k < n
    · have hkl : k < l.length := by rw [HL.out]; exact hlt
      have e0 : (k : Int) < (n : Int) := by omega
      have e00 : (0 : Int) ≤ (k : Int) := by omega
      obtain ⟨b, o, rfl, hc⟩ := IA.at hkl
      have x1 := hc k hkl
      have hg := getD_get hkl
      by_cases h0 : l[k] < 0
      · have HQ : Hid (rightB v l = false) := rightB_no (fun h => by have := (h.2 k hkl).1.1; rw [hg] at this; omega)
        generalize l[k] = y at *
        clear hc hall hg
        go_wp2_with fail
        go_quiet (fail)
        go_wp2
        go_ret
        exact ⟨ret_bool HQ.out.symm, KA.and (kept_drawn _ _ _)⟩
      by_cases h16 : 16 ≤ l[k]
      · have HQ : Hid (rightB v l = false) := rightB_no (fun h => by have := (h.2 k hkl).1.2; rw [hg] at this; omega)
        have g0 : decide (l[k] < 0) = false := by simp; omega
        generalize l[k] = y at *
        clear hc hall hg
        go_wp2_with fail
        go_quiet (fail)
        go_wp2
        go_ret
        exact ⟨ret_bool HQ.out.symm, KA.and (kept_drawn _ _ _)⟩
      have g0 : decide (l[k] < 0) = false := by simp; omega
      have g1 : decide (16 ≤ l[k]) = false := by simp; omega
      by_cases hk0 : k = 0
      · have HA : Hid (∀ i, i < k + 1 → okAt l i) := fun i hi => by
          have : i = k := by omega
          rw [this]
          exact ⟨by rw [hg]; omega, fun h => by omega⟩
        subst hk0
        rw [Nat.add_zero] at x1
        generalize l[0] = y at *
        clear hc hall hg
        go_wp2_with fail
        go_quiet (fail)
        go_wp2
        go_roundw
        case rel => exact ⟨0 + 1, m + nq, by omega, by go_num, HA.out, rfl⟩
        case measure => simp [intOf]; omega
      · have x2 := hc (k - 1) (by omega)
        have hg2 := getD_get (l := l) (k := k - 1) (by omega)
        have g2 : (0 : Int) < (k : Int) := by omega
        have g2n : decide (0 < k) = true := by simp; omega
        have g3 : (k : Int) - 1 < (n : Int) := by omega
        have g4 : (0 : Int) ≤ (k : Int) - 1 := by omega
        have g5 : ((k : Int) - 1).toNat = k - 1 := by omega
        have g6 : IntKind.i64.wrap ((k : Int) - 1) = (k : Int) - 1 := by rw [IntKind.wrap_i64]; omega
        by_cases hp : l[k] ≤ l[k - 1]
        · have HQ : Hid (rightB v l = false) := rightB_no (fun h => by have := (h.2 k hkl).2 (by omega); rw [hg, hg2] at this; omega)
          generalize l[k] = y at *
          generalize l[k - 1] = z at *
          clear hc hall hg hg2
          go_wp2_with fail
          go_quiet (fail)
          go_wp2
          go_ret
          exact ⟨ret_bool HQ.out.symm, KA.and (kept_drawn _ _ _)⟩
        · have HA : Hid (∀ i, i < k + 1 → okAt l i) := fun i hi => by
            rcases Nat.lt_or_ge i k with h | h
            · exact hall i h
            · have : i = k := by omega
              rw [this]
              exact ⟨by rw [hg]; omega, fun _ => by rw [hg, hg2]; omega⟩
          generalize l[k] = y at *
          generalize l[k - 1] = z at *
          clear hc hall hg hg2
          go_wp2_with fail
          go_quiet (fail)
          go_wp2
          go_roundw
          case rel => exact ⟨k + 1, m + nq, by omega, by go_num, HA.out, rfl⟩
          case measure => simp [intOf]; omega
    · have e0 : ¬ (k : Int) < (n : Int) := by omega
      have hall' : ∀ i, i < l.length → okAt l i := fun i hi => hall i (by rw [HL.out] at hi; omega)
      by_cases h0 : v < 0
      · have HQ : Hid (rightB v l = false) := rightB_no (fun h => by have := h.1; omega)
        clear hall hall'
        go_wp2
        go_ret
        exact ⟨ret_bool HQ.out.symm, KA.and (Kept.drewN _ _ _)⟩
      by_cases h1 : 4503599627370496 < v
      · have HQ : Hid (rightB v l = false) := rightB_no (fun h => by have := h.1; omega)
        clear hall hall'
        go_wp2
        go_ret
        exact ⟨ret_bool (by rw [HQ.out]; simp; omega), KA.and (Kept.drewN _ _ _)⟩
      have HQ : Hid (rightB v l = true) := rightB_yes ⟨by omega, hall'⟩
      clear hall hall'
      go_wp2
      go_ret
      exact ⟨ret_bool HQ.out.symm, KA.and (Kept.drewN _ _ _)⟩

theorem viewCells {w : World} {b : Nat} {v : Int} {a : Option Addr} {n c : Nat} {T : TypeId} (h : w.heap[b]? = some (.cells #[.int .i64 v, .slice a n c] T (0, 0))) :
    w.cell? ⟨b, 0, none⟩ = some (.int .i64 v) ∧ w.cell? ⟨b, 1, none⟩ = some (.slice a n c) ∧ w.frozen? ⟨b, 0, none⟩ = false ∧ w.frozen? ⟨b, 1, none⟩ = false := by
  refine ⟨?_, ?_, ?_, ?_⟩
  · unfold World.cell?; rw [h]; rfl
  · unfold World.cell?; rw [h]; rfl
  · unfold World.frozen?; rw [h]; rfl
  · unfold World.frozen?; rw [h]; rfl

end Go.Proofs.YtnhmdeglaoilcaaDoor
