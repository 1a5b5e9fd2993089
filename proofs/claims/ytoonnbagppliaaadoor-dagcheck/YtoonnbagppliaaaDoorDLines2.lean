/-
  readLines: what a text's lines are read as.
-/
import Derived.Test.YtoonnbagppliaaaDoorDLines
namespace Go.Proofs.YtoonnbagppliaaaDoor
open Go.RowKit

/-- What readLines answers: name, nodes, lines of the nodes; or none, and the line that is in no form. -/
def rlK : Nat → ByteArray → Nat → Bool → ByteArray → List Nd → List Nat → Option (ByteArray × List Nd × List Nat) × Nat
  | 0, _, line, _, _, _, _ => (none, line)
  | f + 1, t, line, b, nm, ns, ls =>
    if t.size = 0 then (if b then (some (nm, ns, ls), 0) else (none, line))
    else if rSilent (wordsP (cutA t), false) then rlK f (cutB t) (line + 1) b nm ns ls
    else if b = false then
      (if (rHead (wordsP (cutA t), false)).2.2 then (none, line) else rlK f (cutB t) (line + 1) true (rHead (wordsP (cutA t), false)).1 ns ls)
    else
      (if (rNode (wordsP (cutA t), false)).2.2 then (none, line) else rlK f (cutB t) (line + 1) true nm (ns ++ [(rNode (wordsP (cutA t), false)).1]) (ls ++ [line]))

def rlP (t : ByteArray) : Option (ByteArray × List Nd × List Nat) × Nat := rlK (t.size + 1) t 1 false ⟨#[]⟩ [] []

theorem cutB_size {t : ByteArray} (h : 0 < t.size) : (cutB t).size < t.size := by
  unfold cutB
  split
  · rw [ByteArray.size_extract]; omega
  · exact h

theorem cutA_size (t : ByteArray) : (cutA t).size ≤ t.size := by
  unfold cutA
  split
  · rw [ByteArray.size_extract]; omega
  · exact Nat.le_refl _

def strLen : Value → Nat
  | .string s => s.size
  | _ => 0

theorem spans_ok (p : Nat → Bool) (s : ByteArray) : ∀ (f pos : Nat) (st : Option Nat) (acc : List (Nat × Nat)), (∀ x ∈ acc, x.1 < x.2 ∧ x.2 ≤ s.size) → acc.length + (if st.isSome then 1 else 0) ≤ pos → acc.length + (if st.isSome then 1 else 0) ≤ s.size → (∀ a, st = some a → a < pos ∧ a < s.size) →
    (∀ x ∈ (Lib.spansFromP p s f pos st acc).1, x.1 < x.2 ∧ x.2 ≤ s.size) ∧ (Lib.spansFromP p s f pos st acc).1.length + (if (Lib.spansFromP p s f pos st acc).2.isSome then 1 else 0) ≤ s.size ∧ (∀ a, (Lib.spansFromP p s f pos st acc).2 = some a → a < s.size)
  | 0, pos, st, acc, h1, h2, h3, h4 => ⟨h1, h3, fun a h => (h4 a h).2⟩
  | f + 1, pos, st, acc, h1, h2, h3, h4 => by
    unfold Lib.spansFromP
    have hw := Lib.width_pos s pos
    split
    · rename_i hp
      split
      · cases st with
        | some a =>
          have ha := h4 a rfl
          refine spans_ok p s f _ none (acc ++ [(a, pos)]) (fun x hx => ?_) (by simp at h2 ⊢; omega) (by simp at h3 ⊢; omega) (fun a h => by cases h)
          rcases List.mem_append.1 hx with h | h
          · exact h1 x h
          · simp at h; subst h; exact ⟨ha.1, by show pos ≤ _; omega⟩
        | none => exact spans_ok p s f _ none acc h1 (by simp at h2 ⊢; omega) h3 (fun a h => by cases h)
      · cases st with
        | some a => exact spans_ok p s f _ (some a) acc h1 (by simp at h2 ⊢; omega) h3 (fun b h => by cases h; exact ⟨by have := (h4 a rfl).1; omega, (h4 a rfl).2⟩)
        | none => exact spans_ok p s f _ (some pos) acc h1 (by simp at h2 ⊢; omega) (by simp at h2 ⊢; omega) (fun b h => by cases h; exact ⟨by omega, hp⟩)
    · exact ⟨h1, h3, fun a h => (h4 a h).2⟩

theorem words_ok (s : ByteArray) : (wordsP s).length ≤ s.size ∧ ∀ x ∈ wordsP s, 0 < x.size ∧ x.size ≤ s.size := by
  have h := spans_ok (fun r => r == 32) s s.size 0 none [] (fun x hx => by simp at hx) (by simp) (by simp) (fun a h => by cases h)
  unfold wordsP Lib.goFieldsP Lib.spansOfP
  generalize Lib.spansFromP (fun r => r == 32) s s.size 0 none [] = y at *
  obtain ⟨acc, st⟩ := y
  have hall : ∀ x ∈ Lib.closeSpans s (acc, st), x.1 < x.2 ∧ x.2 ≤ s.size := by
    intro x hx
    unfold Lib.closeSpans at hx
    cases st with
    | none => exact h.1 x hx
    | some a =>
      rcases List.mem_append.1 hx with hx | hx
      · exact h.1 x hx
      · simp at hx; subst hx; exact ⟨h.2.2 a rfl, Nat.le_refl _⟩
  constructor
  · rw [List.length_map]
    have := h.2.1
    unfold Lib.closeSpans
    cases st with
    | none => simpa using this
    | some a => simpa using this
  · intro x hx
    obtain ⟨y, hy, rfl⟩ := List.mem_map.1 hx
    have := hall y hy
    rw [ByteArray.size_extract]
    omega

theorem rlK_more : ∀ (n : Nat) (s : ByteArray), s.size ≤ n → ∀ (f line : Nat) (b : Bool) (nm : ByteArray) (ns : List Nd) (ls : List Nat), s.size < f → rlK f s line b nm ns ls = rlK (s.size + 1) s line b nm ns ls
  | n, s, hn, f, line, b, nm, ns, ls, hf => by
    obtain ⟨g, rfl⟩ : ∃ g, f = g + 1 := ⟨f - 1, by omega⟩
    by_cases h0 : s.size = 0
    · simp only [rlK, h0, if_true]
    · have hc := cutB_size (t := s) (by omega)
      cases n with
      | zero => omega
      | succ n =>
        have ih := fun f line b nm ns ls hf => rlK_more n (cutB s) (by omega) f line b nm ns ls hf
        have e1 := fun line b nm ns ls => ih g line b nm ns ls (by omega)
        have e2 := fun line b nm ns ls => ih s.size line b nm ns ls (by omega)
        simp only [rlK, h0, if_false, e1, e2]

/-- One line more. -/
theorem rl_step {s : ByteArray} (h0 : 0 < s.size) (line : Nat) (b : Bool) (nm : ByteArray) (ns : List Nd) (ls : List Nat) : rlK (s.size + 1) s line b nm ns ls =
    if rSilent (wordsP (cutA s), false) then rlK ((cutB s).size + 1) (cutB s) (line + 1) b nm ns ls
    else if b = false then
      (if (rHead (wordsP (cutA s), false)).2.2 then (none, line) else rlK ((cutB s).size + 1) (cutB s) (line + 1) true (rHead (wordsP (cutA s), false)).1 ns ls)
    else
      (if (rNode (wordsP (cutA s), false)).2.2 then (none, line) else rlK ((cutB s).size + 1) (cutB s) (line + 1) true nm (ns ++ [(rNode (wordsP (cutA s), false)).1]) (ls ++ [line])) := by
  have hc := cutB_size h0
  have e := fun line b nm ns ls => rlK_more (cutB s).size (cutB s) (Nat.le_refl _) s.size line b nm ns ls hc
  have hne : ¬ s.size = 0 := by omega
  rw [rlK, if_neg hne]
  simp only [e]

/-- Between two lines. -/
structure RLSt (w wr : World) (nm : ByteArray) (ns : List Nd) (ls : List Nat) (a : Option Addr) (c : Nat) (v3 : Value) : Prop where
  d : wr.heap[w.heap.size]? = some (.cells #[.string nm, .slice a ns.length c] 25 (0, 0))
  rows : NodesRow wr (w.heap.size + 1) (.slice a ns.length c) ns
  lines : wr.ownsRow (w.heap.size + 1) 3 1 v3 ls.length (natsV ls)
  kept : Kept (fun _ => False) w wr

theorem RLSt.lt {w wr : World} {nm : ByteArray} {ns : List Nd} {ls : List Nat} {a : Option Addr} {c : Nat} {v3 : Value} (T : RLSt w wr nm ns ls a c v3) : w.heap.size < wr.heap.size := (Array.getElem?_eq_some_iff.1 T.d).1

theorem RLSt.later {S : Nat → Prop} {w wr w' : World} {nm : ByteArray} {ns : List Nd} {ls : List Nat} {a : Option Addr} {c : Nat} {v3 : Value} (T : RLSt w wr nm ns ls a c v3) (K : Kept S wr w') (hS : ∀ j, j < wr.heap.size → ¬ S j) : RLSt w w' nm ns ls a c v3 :=
  ⟨(K.block _ T.lt (hS _ T.lt)).trans T.d, T.rows.kept K (fun k _ h => hS k h), ownsRow_keep T.lines (fun g hg => K.block g (ownsRow_blk T.lines hg) (hS g (ownsRow_blk T.lines hg))), T.kept.trans (S' := S) K (fun i h => .inr (by
    apply Nat.le_of_not_lt
    intro hl
    exact hS i (Nat.lt_of_lt_of_le hl T.kept.size) h))⟩

theorem rlstart (w : World) : RLSt w (w.alloc (.cells #[.string ⟨#[]⟩, .slice none 0 0] 25)) ⟨#[]⟩ [] [] none 0 (.slice none 0 0) :=
  ⟨heap_alloc_new _ _, ⟨[], rfl, World.ownsRow_nil _ _ _ _, fun i h => by simp at h⟩, World.ownsRow_nil _ _ _ _, Kept.alloc _ _ _⟩

theorem twoC {w : World} {b : Nat} {T : TypeId} {u0 u1 : Value} (h : w.heap[b]? = some (.cells #[u0, u1] T (0, 0))) : (w.cell? ⟨b, 0, none⟩ = some u0 ∧ w.cell? ⟨b, 1, none⟩ = some u1) ∧ w.frozen? ⟨b, 0, none⟩ = false ∧ w.frozen? ⟨b, 1, none⟩ = false := by
  simp [World.cell?, World.frozen?, h]

/-- The name is set. -/
theorem RLSt.name {w wr : World} {nm : ByteArray} {ns : List Nd} {ls : List Nat} {a : Option Addr} {c : Nat} {v3 : Value} (T : RLSt w wr nm ns ls a c v3) (x : ByteArray) : RLSt w (wr.setCell ⟨w.heap.size, 0, none⟩ (.string x)) x ns ls a c v3 := by
  have K : Kept (fun j => j = w.heap.size) wr (wr.setCell ⟨w.heap.size, 0, none⟩ (.string x)) := Kept.setCell _ _ _ rfl
  refine ⟨by simp [World.setCell, Array.getElem?_modify, T.d], T.rows.kept K (fun k h _ => by omega), ownsRow_keep T.lines (fun g hg => K.block g (ownsRow_blk T.lines hg) (by have := (T.lines.lt g hg).1; omega)), T.kept.trans (S' := fun j => j = w.heap.size) K (fun i h => .inr (by omega))⟩

end Go.Proofs.YtoonnbagppliaaaDoor
