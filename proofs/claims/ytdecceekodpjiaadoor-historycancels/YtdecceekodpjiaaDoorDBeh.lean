/-
  Rows of numbers in an array, each in a block of its own.
-/
import Derived.Test.YtdecceekodpjiaaDoorDFirst
import Derived.Deep.OwnRows
namespace Go.Proofs.YtdecceekodpjiaaDoor
open Go.RowKit

theorem Tryd.info3 : (Tryd.prog.info? 3).map (fun i => (i.zero, i.size, i.bytes)) = some (some (.int .i64 0), 1, 8) := by kernel_rfl
theorem Tryd.info85 : (Tryd.prog.info? 85).map (fun i => (i.zero, i.size, i.bytes)) = some (some (.slice none 0 0), 1, 24) := by kernel_rfl

def natsV (l : List Nat) : List Value := l.map (fun x => Value.int .i64 (x : Nat))

theorem natsV_one (l : List Nat) : ∀ u ∈ natsV l, u.oneCell' = true := by
  intro u hu
  obtain ⟨x, _, rfl⟩ := List.mem_map.1 hu
  rfl

theorem natsV_len (l : List Nat) : (natsV l).length = l.length := by simp [natsV]

/-- An array of n rows at bb: row j has the numbers f j; the rows' blocks are of S, and apart. -/
structure BehAt (w : World) (B : Nat) (S : Nat → Prop) (bb n : Nat) (f : Nat → List Nat) (vs : Nat → Value) : Prop where
  row : w.rowIs bb 85 n vs
  own : ∀ j, j < n → w.ownsRow B 3 1 (vs j) (f j).length (natsV (f j))
  inS : ∀ j, j < n → ∀ g, (vs j).ownBlock = some g → S g
  apart : ∀ j k, j < n → k < n → j ≠ k → ∀ g, (vs j).ownBlock = some g → (vs k).ownBlock ≠ some g
  noB : ∀ g, S g → g ≠ bb

theorem ownsRow_keep {w w' : World} {B e size : Nat} {v : Value} {n : Nat} {xs : List Value} (h : w.ownsRow B e size v n xs) (hk : ∀ g, v.ownBlock = some g → w'.heap[g]? = w.heap[g]?) : w'.ownsRow B e size v n xs := by
  refine ⟨h.1, ?_⟩
  rcases h.2 with h0 | ⟨g, cap, cur, hv, hb, hg, r⟩
  · exact .inl h0
  · exact .inr ⟨g, cap, cur, hv, hb, (hk g (by rw [hv]; rfl)).trans hg, r⟩

theorem ownsRow_low {w : World} {B B' e size : Nat} {v : Value} {n : Nat} {xs : List Value} (h : w.ownsRow B e size v n xs) (hB : B' ≤ B) : w.ownsRow B' e size v n xs := by
  refine ⟨h.1, ?_⟩
  rcases h.2 with h0 | ⟨g, cap, cur, hv, hb, r⟩
  · exact .inl h0
  · exact .inr ⟨g, cap, cur, hv, Nat.le_trans hB hb, r⟩

theorem ownsRow_blk {w : World} {B e size : Nat} {v : Value} {n : Nat} {xs : List Value} (h : w.ownsRow B e size v n xs) {g : Nat} (hg : v.ownBlock = some g) : g < w.heap.size := (h.lt g hg).2

section
variable {w w' : World} {B bb n : Nat} {S : Nat → Prop} {f : Nat → List Nat} {vs : Nat → Value}

theorem BehAt.kept {S' : Nat → Prop} (H : BehAt w B S bb n f vs) (K : Kept S' w w') (h1 : ¬ S' bb) (h2 : ∀ g, S g → ¬ S' g) : BehAt w' B S bb n f vs :=
  ⟨H.row.of_block (K.block bb H.row.lt h1), fun j hj => ownsRow_keep (H.own j hj) (fun g hg => K.block g (ownsRow_blk (H.own j hj) hg) (h2 g (H.inS j hj g hg))), H.inS, H.apart, H.noB⟩

theorem BehAt.widen {S' : Nat → Prop} (H : BehAt w B S bb n f vs) (h : ∀ j, j < n → ∀ g, (vs j).ownBlock = some g → S' g) (hb : ∀ g, S' g → g ≠ bb) : BehAt w B S' bb n f vs :=
  ⟨H.row, H.own, h, H.apart, hb⟩

theorem BehAt.is {f' : Nat → List Nat} (H : BehAt w B S bb n f vs) (h : ∀ j, j < n → f j = f' j) : BehAt w B S bb n f' vs :=
  ⟨H.row, fun j hj => by rw [← h j hj]; exact H.own j hj, H.inS, H.apart, H.noB⟩

/-- One more number in row j. -/
theorem BehAt.push {w3 : World} {a3 : Option Addr} {m c3 : Nat} {x : Nat} (H : BehAt w B S bb n f vs) {j : Nat} (hj : j < n) (ho : w3.ownsRow B 3 1 (.slice a3 m c3) m (natsV (f j) ++ natsV [x])) (hg : w.grownBy w3 (vs j).ownBlock)
    (hb : (Value.slice a3 m c3).ownBlock = (vs j).ownBlock ∨ (Value.slice a3 m c3).ownBlock = some w.heap.size) (hS : S w.heap.size) :
    BehAt (w3.setCell ⟨bb, j, none⟩ (.slice a3 m c3)) B S bb n (fun k => if k = j then f j ++ [x] else f k) (fun k => if k = j then .slice a3 m c3 else vs k) ∧ Kept (fun g => S g ∨ g = bb) w (w3.setCell ⟨bb, j, none⟩ (.slice a3 m c3)) := by
  have K3 : Kept (fun g => (vs j).ownBlock = some g) w w3 := Kept.grown hg (fun k e => e)
  have hbb : ¬ (vs j).ownBlock = some bb := fun e => H.noB bb (H.inS j hj bb e) rfl
  have r3 := H.row.of_block (K3.block bb H.row.lt hbb)
  have hm : m = (f j).length + 1 := by have := ho.1; rw [List.length_append, natsV_len, natsV_len] at this; simpa using this.symm
  have new_in : ∀ g, (Value.slice a3 m c3).ownBlock = some g → S g := fun g e => by
    rcases hb with h | h
    · exact H.inS j hj g (by rw [← h]; exact e)
    · rw [h] at e; cases e; exact hS
  have keepS : ∀ g, g ≠ bb → (w3.setCell ⟨bb, j, none⟩ (.slice a3 m c3)).heap[g]? = w3.heap[g]? := fun g e => Below.heap_setCell _ _ _ _ (fun h => e h)
  refine ⟨⟨?_, ?_, ?_, ?_, H.noB⟩, ?_⟩
  · exact r3.set j _
  · intro k hk
    by_cases e : k = j
    · subst e
      simp only [if_true]
      rw [show (f k ++ [x]).length = m by simp [hm], show natsV (f k ++ [x]) = natsV (f k) ++ natsV [x] by simp [natsV]]
      exact ownsRow_keep ho (fun g hg => keepS g (H.noB g (new_in g hg)))
    · simp only [e, if_false]
      refine ownsRow_keep (H.own k hk) (fun g hg => ?_)
      rw [keepS g (H.noB g (H.inS k hk g hg))]
      exact K3.block g (ownsRow_blk (H.own k hk) hg) (fun h => H.apart j k hj hk (fun h => e h.symm) g h hg)
  · intro k hk g
    by_cases e : k = j
    · subst e; simp only [if_true]; exact new_in g
    · simp only [e, if_false]; exact H.inS k hk g
  · intro k l hk hl hne g
    have hnew : ∀ l, l < n → l ≠ j → ∀ g, (Value.slice a3 m c3).ownBlock = some g → (vs l).ownBlock ≠ some g := fun l hl hne g e1 e2 => by
      rcases hb with h | h
      · rw [h] at e1; exact H.apart j l hj hl (fun h => hne h.symm) g e1 e2
      · rw [h] at e1; cases e1
        have := ownsRow_blk (H.own l hl) e2
        omega
    by_cases e : k = j
    · subst e
      have : ¬ l = k := fun h => hne h.symm
      simp only [if_true, this, if_false]
      exact hnew l hl (fun h => hne h.symm) g
    · by_cases e2 : l = j
      · subst e2
        simp only [e, if_false, if_true]
        exact fun h1 h2 => hnew k hk hne g h2 h1
      · simp only [e, e2, if_false]
        exact H.apart k l hk hl hne g
  · exact (K3.mono (fun g h => .inl (H.inS j hj g h))).and (Kept.setCell _ _ _ (.inr rfl))

end

theorem behNew (w : World) (B n : Nat) (S : Nat → Prop) (hS : ∀ g, S g → g ≠ w.heap.size) : BehAt (w.alloc (.cells (madeCells #[.slice none 0 0] n) 85)) B S w.heap.size n (fun _ => []) (fun _ => .slice none 0 0) :=
  ⟨World.rowIs_made _ _ _ _, fun j hj => World.ownsRow_nil _ _ _ _, fun j hj g h => (by cases h), fun j k _ _ _ g h => (by cases h), hS⟩

/-- How often the first k names of a node's After mean the node j. -/
def asksK (ns : List Nd) (x : Nd) (k j : Nat) : Nat := (x.after.take k).countP (fun s => decide (aheadP ns x s = some j))

theorem asksK_all (ns : List Nd) (x : Nd) (j : Nat) : asksK ns x x.after.length j = asks ns x j := by unfold asksK asks; rw [List.take_length]

theorem asksK_next {ns : List Nd} {x : Nd} {k : Nat} (hk : k < x.after.length) (j : Nat) : asksK ns x (k + 1) j = asksK ns x k j + if aheadP ns x (x.after[k]) = some j then 1 else 0 := by
  unfold asksK
  rw [List.take_add_one, List.getElem?_eq_getElem hk, Option.toList_some, List.countP_append, List.countP_singleton]
  simp

/-- Who waits for j while node i's first k names are gone through. -/
def bhK (ns : List Nd) (i k j : Nat) (x : Nd) : List Nat := bhL ns j i ++ List.replicate (asksK ns x k j) i

theorem bhK_zero (ns : List Nd) (i j : Nat) (x : Nd) : bhK ns i 0 j x = bhL ns j i := by unfold bhK asksK; simp

theorem bhK_all {ns : List Nd} {i : Nat} (j : Nat) {x : Nd} (h : ns[i]? = some x) : bhK ns i x.after.length j x = bhL ns j (i + 1) := by
  unfold bhK
  rw [asksK_all, bhL, h]

theorem bhK_hit {ns : List Nd} {i k j : Nat} {x : Nd} (hk : k < x.after.length) (h : aheadP ns x (x.after[k]) = some j) (q : Nat) : (if q = j then bhK ns i k j x ++ [i] else bhK ns i k q x) = bhK ns i (k + 1) q x := by
  unfold bhK
  rw [asksK_next hk, h]
  by_cases e : q = j
  · subst e
    rw [if_pos rfl, if_pos rfl, List.append_assoc, List.replicate_succ']
  · have : ¬ (some j = some q) := fun h => e (Option.some.inj h).symm
    rw [if_neg e, if_neg this, Nat.add_zero]

theorem bhK_miss {ns : List Nd} {i k : Nat} {x : Nd} (hk : k < x.after.length) (h : aheadP ns x (x.after[k]) = none) (q : Nat) : bhK ns i k q x = bhK ns i (k + 1) q x := by
  unfold bhK
  rw [asksK_next hk, h]
  simp

theorem bhL_len {ns : List Nd} (h : ∀ n ∈ ns, n.after.length ≤ 1000000) (j : Nat) : ∀ i, (bhL ns j i).length ≤ i * 1000000
  | 0 => by simp [bhL]
  | i + 1 => by
    have ih := bhL_len h j i
    rw [bhL, List.length_append, List.length_replicate, Nat.succ_mul]
    generalize i * 1000000 = z at *
    generalize bhL ns j i = l at *
    cases hn : ns[i]? with
    | none => exact Nat.le_trans ih (Nat.le_add_right _ _)
    | some n =>
      have : asks ns n j ≤ 1000000 := Nat.le_trans List.countP_le_length (h n (List.mem_of_getElem? hn))
      exact Nat.add_le_add ih this

theorem bhK_len {ns : List Nd} (h : ∀ n ∈ ns, n.after.length ≤ 1000000) (i k j : Nat) {x : Nd} (hx : x.after.length ≤ 1000000) : (bhK ns i k j x).length ≤ (i + 1) * 1000000 := by
  have h1 := bhL_len h j i
  unfold bhK
  rw [List.length_append, List.length_replicate]
  have : asksK ns x k j ≤ 1000000 := Nat.le_trans List.countP_le_length (by rw [List.length_take]; omega)
  omega

theorem bhL_len2 {ns : List Nd} (h : ∀ n ∈ ns, n.after.length ≤ 1000000) (hn : ns.length ≤ 1000000) (j : Nat) : (bhL ns j ns.length).length ≤ 1000000000000 := by
  have := bhL_len h j ns.length
  omega

end Go.Proofs.YtdecceekodpjiaaDoor
