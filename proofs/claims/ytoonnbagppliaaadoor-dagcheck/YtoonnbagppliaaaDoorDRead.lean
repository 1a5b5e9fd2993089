/-
  The reader of a line's words: its state, and what each of its calls does.
-/
import Derived.Test.YtoonnbagppliaaaDoorDFirst
namespace Go.Proofs.YtoonnbagppliaaaDoor
open Go.RowKit

/-- The words that are left, and whether the line is bad. -/
abbrev RS := List ByteArray × Bool

def rTake (s : ByteArray) (r : RS) : Bool × RS := match r.1 with
  | [] => (false, r)
  | x :: t => if x = s then (true, (t, r.2)) else (false, r)
def rWord (r : RS) : ByteArray × RS := match r.1 with
  | [] => (ByteArray.empty, ([], true))
  | x :: t => (x, (t, r.2))
def rName (r : RS) : ByteArray × RS := ((rWord r).1, ((rWord r).2.1, (rWord r).2.2 || !nameP (rWord r).1))
def rFlow (r : RS) : ByteArray × RS := ((rWord r).1, ((rWord r).2.1, (rWord r).2.2 || !flowP (rWord r).1))
def rEnd (r : RS) : RS := (r.1, r.2 || !r.1.isEmpty)

/-- A reader in memory. -/
structure RdAt (w : World) (B rb : Nat) (r : RS) : Prop where
  ok : ∃ a c, w.heap[rb]? = some (.cells #[.slice a r.1.length c, .bool r.2] 69 (0, 0)) ∧ r.1.length ≤ c ∧ c ≤ maxLen ∧ (r.1 = [] ∨ ∃ b o, a = some ⟨b, o, none⟩ ∧ b ≠ rb ∧ b < B ∧ ∀ i (h : i < r.1.length), w.cell? ⟨b, o + i, none⟩ = some (.string (r.1[i]'h)))
  low : rb < B
  top : B ≤ w.heap.size
  small : ∀ s ∈ r.1, s.size ≤ 1000000

theorem RdAt.lt {w : World} {B rb : Nat} {r : RS} (R : RdAt w B rb r) : rb < w.heap.size := Nat.lt_of_lt_of_le R.low R.top

theorem RdAt.kept {S : Nat → Prop} {w w' : World} {B rb : Nat} {r : RS} (R : RdAt w B rb r) (K : Kept S w w') (hS : ∀ k, k < B → ¬ S k) : RdAt w' B rb r := by
  obtain ⟨a, c, h, h1, h2, h3⟩ := R.ok
  refine ⟨⟨a, c, (K.block _ R.lt (hS _ R.low)).trans h, h1, h2, ?_⟩, R.low, Nat.le_trans R.top K.size, R.small⟩
  rcases h3 with h | ⟨b, o, e, hn, hb, hc⟩
  · exact .inl h
  · exact .inr ⟨b, o, e, hn, hb, fun i hi => by
      rw [World.cell?_of_block (w := w) (K.block _ (Nat.lt_of_lt_of_le hb R.top) (hS _ hb))]
      exact hc i hi⟩

/-- What a call sees of the reader. -/
theorem RdAt.cells {w : World} {B rb : Nat} {r : RS} (R : RdAt w B rb r) : ∃ a c, w.cell? ⟨rb, 0, none⟩ = some (.slice a r.1.length c) ∧ w.cell? ⟨rb, 1, none⟩ = some (.bool r.2) ∧ w.frozen? ⟨rb, 0, none⟩ = false ∧ w.frozen? ⟨rb, 1, none⟩ = false ∧ r.1.length ≤ c ∧
    (r.1 ≠ [] → ∃ b o, a = some ⟨b, o, none⟩ ∧ ∀ i (h : i < r.1.length), w.cell? ⟨b, o + i, none⟩ = some (.string (r.1[i]'h))) := by
  obtain ⟨a, c, h, h1, h2, h3⟩ := R.ok
  refine ⟨a, c, by simp [World.cell?, h], by simp [World.cell?, h], by simp [World.frozen?, h], by simp [World.frozen?, h], h1, fun hne => ?_⟩
  rcases h3 with h | ⟨b, o, e, hn, hb, hc⟩
  · exact absurd h hne
  · exact ⟨b, o, e, hc⟩

/-- The mark is set. -/
theorem RdAt.mark {w : World} {B rb : Nat} {ws : List ByteArray} {b : Bool} (R : RdAt w B rb (ws, b)) (b' : Bool) : RdAt (w.setCell ⟨rb, 1, none⟩ (.bool b')) B rb (ws, b') := by
  obtain ⟨a, c, h, h1, h2, h3⟩ := R.ok
  refine ⟨⟨a, c, by simp [World.setCell, Array.getElem?_modify, h], h1, h2, ?_⟩, R.low, by simpa [World.setCell] using R.top, R.small⟩
  rcases h3 with h | ⟨b, o, e, hn, hb, hc⟩
  · exact .inl h
  · refine .inr ⟨b, o, e, hn, hb, fun i hi => ?_⟩
    rw [World.cell?_setCell_other _ _ _ _ (fun h => hn (congrArg Addr.block h).symm)]
    exact hc i hi

/-- One word less. -/
theorem RdAt.next {w : World} {B rb : Nat} {x : ByteArray} {t : List ByteArray} {b : Bool} (R : RdAt w B rb (x :: t, b)) : ∃ ba oa c, w.cell? ⟨rb, 0, none⟩ = some (.slice (some ⟨ba, oa, none⟩) (t.length + 1) c) ∧ t.length + 1 ≤ c ∧ w.cell? ⟨ba, oa, none⟩ = some (.string x) ∧
    RdAt (w.setCell ⟨rb, 0, none⟩ (.slice (some ⟨ba, oa + 1, none⟩) t.length (c - 1))) B rb (t, b) ∧ (c = 1 → ∀ ad, RdAt (w.setCell ⟨rb, 0, none⟩ (.slice ad t.length 0)) B rb (t, b)) := by
  obtain ⟨a, c, h, h1, h2, h3⟩ := R.ok
  simp only [List.length_cons] at h h1
  rcases h3 with h' | ⟨ba, oa, e, hn, hb, hc⟩
  · cases h'
  · subst e
    refine ⟨ba, oa, c, by simp [World.cell?, h], h1, hc 0 (by simp), ?_, fun hz ad => ?_⟩
    · refine ⟨⟨some ⟨ba, oa + 1, none⟩, c - 1, by simp [World.setCell, Array.getElem?_modify, h], by show t.length ≤ _; omega, by omega, .inr ⟨ba, oa + 1, rfl, hn, hb, fun i hi => ?_⟩⟩, R.low, by simpa [World.setCell] using R.top, fun s hs => R.small s (List.mem_cons_of_mem _ hs)⟩
      rw [World.cell?_setCell_other _ _ _ _ (fun h => hn (congrArg Addr.block h).symm), show oa + 1 + i = oa + (i + 1) by omega]
      exact hc (i + 1) (by simp at hi ⊢; omega)
    · refine ⟨⟨ad, 0, by simp [World.setCell, Array.getElem?_modify, h], by show t.length ≤ _; omega, by omega, .inl (List.eq_nil_of_length_eq_zero (by show t.length = 0; omega))⟩, R.low, by simpa [World.setCell] using R.top, fun s hs => R.small s (List.mem_cons_of_mem _ hs)⟩

set_option maxRecDepth 100000 in
set_option maxHeartbeats 1000000 in
theorem must_any (w : World) (B rb : Nat) (ws : List ByteArray) (b x : Bool) (R : RdAt w B rb (ws, b)) :
    Calls Tryd.prog 45 #[.pointer (some ⟨rb, 0, none⟩), .bool x] w fun e w' => e = .returned (.tuple #[]) ∧ RdAt w' B rb (ws, b || !x) ∧ Kept (fun j => j = rb) w w' := by
  obtain ⟨a, c, c0, c1, z0, z1, _, _⟩ := R.cells
  have HM : Hid (∀ b', RdAt (w.setCell ⟨rb, 1, none⟩ (.bool b')) B rb (ws, b')) := fun b' => R.mark b'
  clear R
  cases b <;> cases x <;>
  · go_enter Tryd.func45, Tryd.ntmps45
    go_wp2
    go_end0
    exact ⟨rfl, HM.out _, Kept.setCell _ _ _ rfl⟩

theorem nil_beq (l : List ByteArray) : ((l.length : Int) == 0) = l.isEmpty := by
  cases l <;> simp
  omega

set_option maxRecDepth 100000 in
set_option maxHeartbeats 1000000 in
theorem end_any (w : World) (B rb : Nat) (r : RS) (R : RdAt w B rb r) :
    Calls Tryd.prog 48 #[.pointer (some ⟨rb, 0, none⟩)] w fun e w' => e = .returned (.tuple #[]) ∧ RdAt w' B rb (rEnd r) ∧ Kept (fun j => j = rb) w w' := by
  obtain ⟨ws, b⟩ := r
  obtain ⟨a, c, c0, c1, z0, z1, _, _⟩ := R.cells
  have h := must_any w B rb ws b ws.isEmpty R
  have hq := nil_beq ws
  unfold rEnd
  simp only [] at c0 c1 ⊢
  generalize ws.isEmpty = q at *
  go_enter Tryd.func48, Tryd.ntmps48
  go_wp2_with (first
    | (go_at_call 45; refine h.mono ?_; rintro e w1 ⟨rfl, R1, K1⟩; clear h)
    | fail)
  go_end0
  exact ⟨rfl, R1, K1⟩

set_option maxRecDepth 100000 in
set_option maxHeartbeats 1000000 in
theorem word_any (w : World) (B rb : Nat) (r : RS) (R : RdAt w B rb r) :
    Calls Tryd.prog 49 #[.pointer (some ⟨rb, 0, none⟩)] w fun e w' => e = .returned (.string (rWord r).1) ∧ RdAt w' B rb (rWord r).2 ∧ Kept (fun j => j = rb) w w' := by
  obtain ⟨ws, b⟩ := r
  cases ws with
  | nil =>
    obtain ⟨a, c, c0, c1, z0, z1, _, _⟩ := R.cells
    have HM : Hid (RdAt (w.setCell ⟨rb, 1, none⟩ (.bool true)) B rb ([], true)) := R.mark true
    unfold rWord
    simp only [List.length_nil] at c0 c1 ⊢
    clear R
    go_enter Tryd.func49, Tryd.ntmps49
    go_wp2
    go_ret
    exact ⟨rfl, HM.out, Kept.setCell _ _ _ rfl⟩
  | cons x t =>
    have z0 : w.frozen? ⟨rb, 0, none⟩ = false := by obtain ⟨_, _, _, _, z, _⟩ := R.cells; exact z
    obtain ⟨ba, oa, c, c0, hc, cx, N1, N2⟩ := R.next
    have HN1 : Hid _ := N1
    have HN2 : Hid _ := N2
    unfold rWord
    simp only []
    have e1 : (1 : Int) ≤ (t.length : Int) + 1 := by omega
    have e2 : ((t.length : Int) + 1) ≤ (c : Int) := by omega
    have e3 : ((t.length : Int) + 1 == 0) = false := by simp; omega
    clear R N1 N2
    go_enter Tryd.func49, Tryd.ntmps49
    go_wp2
    all_goals go_ret
    · exact ⟨rfl, HN2.out (by assumption) _, Kept.setCell _ _ _ rfl⟩
    · exact ⟨rfl, HN1.out, Kept.setCell _ _ _ rfl⟩

set_option maxRecDepth 100000 in
set_option maxHeartbeats 1000000 in
theorem take_any (w : World) (B rb : Nat) (r : RS) (R : RdAt w B rb r) (s : ByteArray) :
    Calls Tryd.prog 46 #[.pointer (some ⟨rb, 0, none⟩), .string s] w fun e w' => e = .returned (.bool (rTake s r).1) ∧ RdAt w' B rb (rTake s r).2 ∧ Kept (fun j => j = rb) w w' := by
  obtain ⟨ws, b⟩ := r
  cases ws with
  | nil =>
    obtain ⟨a, c, c0, c1, z0, z1, _, _⟩ := R.cells
    have HM : Hid (RdAt w B rb ([], b)) := R
    unfold rTake
    simp only [List.length_nil] at c0 c1 ⊢
    clear R
    go_enter Tryd.func46, Tryd.ntmps46
    go_wp2
    go_ret
    exact ⟨rfl, HM.out, Kept.refl _ _⟩
  | cons x t =>
    have z0 : w.frozen? ⟨rb, 0, none⟩ = false := by obtain ⟨_, _, _, _, z, _⟩ := R.cells; exact z
    obtain ⟨ba, oa, c, c0, hc, cx, N1, N2⟩ := R.next
    have HN0 : Hid (RdAt w B rb (x :: t, b)) := R
    have HN1 : Hid _ := N1
    have HN2 : Hid _ := N2
    unfold rTake
    simp only []
    have e1 : (1 : Int) ≤ (t.length : Int) + 1 := by omega
    have e2 : ((t.length : Int) + 1) ≤ (c : Int) := by omega
    have e3 : ((t.length : Int) + 1 == 0) = false := by simp; omega
    have hse := str_eq x s
    clear R N1 N2
    by_cases hx : x = s
    · simp only [hx, decide_true, if_true] at hse ⊢
      subst hx
      go_enter Tryd.func46, Tryd.ntmps46
      go_wp2
      all_goals go_ret
      · exact ⟨rfl, HN2.out (by assumption) _, Kept.setCell _ _ _ rfl⟩
      · exact ⟨rfl, HN1.out, Kept.setCell _ _ _ rfl⟩
    · simp only [hx, decide_false, if_false] at hse ⊢
      go_enter Tryd.func46, Tryd.ntmps46
      go_wp2
      go_ret
      exact ⟨rfl, HN0.out, Kept.refl _ _⟩

set_option maxRecDepth 100000 in
set_option maxHeartbeats 1000000 in
theorem rname_any (w : World) (B rb : Nat) (r : RS) (R : RdAt w B rb r) :
    Calls Tryd.prog 47 #[.pointer (some ⟨rb, 0, none⟩)] w fun e w' => e = .returned (.string (rName r).1) ∧ RdAt w' B rb (rName r).2 ∧ Kept (fun j => j = rb) w w' := by
  have h1 := word_any w B rb r R
  have h2 := fun W (R : RdAt W B rb ((rWord r).2.1, (rWord r).2.2)) => must_any W B rb (rWord r).2.1 (rWord r).2.2 (nameP (rWord r).1) R
  have h3 := fun W => name_any W (rWord r).1
  unfold rName
  simp only []
  clear R
  generalize (rWord r).1 = x at *
  generalize (rWord r).2 = q at *
  obtain ⟨ws, b⟩ := q
  simp only [] at h2 ⊢
  generalize nameP x = y at *
  go_enter Tryd.func47, Tryd.ntmps47
  go_wp2_with (first
    | (go_at_call 49; refine h1.mono ?_; rintro e w1 ⟨rfl, R1, K1⟩; have HR1 : Hid _ := R1; clear h1 R1)
    | (go_at_call 8; refine (h3 _).mono ?_; rintro e w2 ⟨rfl, rfl⟩; clear h3)
    | (go_at_call 45; refine (h2 _ HR1.out).mono ?_; rintro e w3 ⟨rfl, R3, K3⟩; clear h2)
    | fail)
  go_ret
  exact ⟨rfl, R3, K1.and K3⟩

set_option maxRecDepth 100000 in
set_option maxHeartbeats 1000000 in
theorem rflow_any (w : World) (B rb : Nat) (r : RS) (R : RdAt w B rb r) :
    Calls Tryd.prog 51 #[.pointer (some ⟨rb, 0, none⟩)] w fun e w' => e = .returned (.string (rFlow r).1) ∧ RdAt w' B rb (rFlow r).2 ∧ Kept (fun j => j = rb) w w' := by
  have h1 := word_any w B rb r R
  have h2 := fun W (R : RdAt W B rb ((rWord r).2.1, (rWord r).2.2)) => must_any W B rb (rWord r).2.1 (rWord r).2.2 (flowP (rWord r).1) R
  have h3 := fun W => flow_any W (rWord r).1
  unfold rFlow
  simp only []
  clear R
  generalize (rWord r).1 = x at *
  generalize (rWord r).2 = q at *
  obtain ⟨ws, b⟩ := q
  simp only [] at h2 ⊢
  generalize flowP x = y at *
  go_enter Tryd.func51, Tryd.ntmps51
  go_wp2_with (first
    | (go_at_call 49; refine h1.mono ?_; rintro e w1 ⟨rfl, R1, K1⟩; have HR1 : Hid _ := R1; clear h1 R1)
    | (go_at_call 31; refine (h3 _).mono ?_; rintro e w2 ⟨rfl, rfl⟩; clear h3)
    | (go_at_call 45; refine (h2 _ HR1.out).mono ?_; rintro e w3 ⟨rfl, R3, K3⟩; clear h2)
    | fail)
  go_ret
  exact ⟨rfl, R3, K1.and K3⟩

end Go.Proofs.YtoonnbagppliaaaDoor
