/-
  A cell of a row that is one's own is set; a node's three cells.
-/
import Derived.Test.YtdecceekodpjiaaDoorHStIn
import Derived.Test.YtdecceekodpjiaaDoorHReg2
namespace Go.Proofs.YtdecceekodpjiaaDoor
open Go.RowKit

theorem ownsRow_put {w : World} {B T sz n g c : Nat} {xs : List Value} (h : w.ownsRow B T sz (.slice (some ⟨g, 0, none⟩) n c) n xs) (j : Nat) (u : Value) : (w.setCell ⟨g, j, none⟩ u).ownsRow B T sz (.slice (some ⟨g, 0, none⟩) n c) n (xs.set j u) := by
  refine ⟨by rw [List.length_set]; exact h.1, ?_⟩
  rcases h.2 with ⟨h0, _⟩ | ⟨g', cap, cur, hv, hb, hg, h1, h2, h3, h4⟩
  · cases h0
  · obtain ⟨rfl, rfl⟩ : g = g' ∧ c = cap := by simpa using hv
    refine .inr ⟨g, c, cur.setIfInBounds j u, rfl, hb, ?_, h1, h2, by simpa using h3, ?_⟩
    · simp [World.setCell, Array.getElem?_modify, hg]
    · rw [Array.toList_setIfInBounds, ← h4, List.take_set]

theorem row_at {w : World} {B T sz n : Nat} {v : Value} {xs : List Value} (h : w.ownsRow B T sz v n xs) (hn : 0 < n) : ∃ g c, v = .slice (some ⟨g, 0, none⟩) n c ∧ v.ownBlock = some g ∧ n ≤ c ∧ ∀ j u, xs[j]? = some u → w.cell? ⟨g, j, none⟩ = some u ∧ w.frozen? ⟨g, j, none⟩ = false := by
  rcases h.2 with ⟨_, h0⟩ | ⟨g, cap, cur, rfl, hb, hg, h1, h2, h3, h4⟩
  · omega
  · refine ⟨g, cap, rfl, rfl, h1, fun j u hu => ?_⟩
    have := h.cells (g := g) rfl j u hu
    rw [Addr.add_lit, Nat.zero_add] at this
    exact ⟨this, by simp [World.frozen?, hg]⟩

theorem nsF_get {l : List Ns} {i : Nat} (hi : i < l.length) : (nsF l)[i * 3]? = some (.int .i64 (l[i]).status) ∧ (nsF l)[i * 3 + 1]? = some (.int .i64 (l[i]).tr) ∧ (nsF l)[i * 3 + 2]? = some (.string (l[i]).text) :=
  ⟨by have := flatMap_at nsC_len (List.getElem?_eq_getElem hi) 0 (by decide); rw [Nat.add_zero] at this; exact this, flatMap_at nsC_len (List.getElem?_eq_getElem hi) 1 (by decide), flatMap_at nsC_len (List.getElem?_eq_getElem hi) 2 (by decide)⟩

theorem nsF_set : ∀ (l : List Ns) (i : Nat), i < l.length → ∀ (y : Ns), nsF (l.set i y) = (((nsF l).set (i * 3) (.int .i64 y.status)).set (i * 3 + 1) (.int .i64 y.tr)).set (i * 3 + 2) (.string y.text)
  | [], i, h, _ => by simp at h
  | x :: t, 0, _, y => rfl
  | x :: t, i + 1, h, y => by
    have ih := nsF_set t i (by simpa using h) y
    have e : ∀ z : Ns, ∀ r : List Ns, nsF (z :: r) = .int .i64 z.status :: .int .i64 z.tr :: .string z.text :: nsF r := fun _ _ => rfl
    rw [List.set_cons_succ, e, e, ih, show (i + 1) * 3 = i * 3 + 1 + 1 + 1 by omega]
    rfl

theorem set_same {l : List Value} {i : Nat} {u : Value} (h : l[i]? = some u) : l.set i u = l := by
  obtain ⟨hi, rfl⟩ := List.getElem?_eq_some_iff.1 h
  exact List.set_getElem_self hi

theorem setNode_set {l : List Ns} {i : Nat} (hi : i < l.length) (m : Mv) (e : Ev) : setNode l i m e = l.set i ⟨m.dst, if e.kind = 3 then e.num else (l[i]).tr, if m.txt then e.text else (l[i]).text⟩ := by
  unfold setNode
  apply List.ext_getElem?
  intro j
  rw [List.getElem?_modify, List.getElem?_set]
  by_cases h : i = j
  · subst h
    simp [hi]
  · simp [h]

theorem nl_ff {l : List Ns} {i : Nat} (hi : i < l.length) (m : Mv) (e : Ev) (ht : m.txt = false) (hk : e.kind ≠ 3) : nsF (setNode l i m e) = (nsF l).set (i * 3) (.int .i64 m.dst) := by
  obtain ⟨_, q1, q2⟩ := nsF_get hi
  rw [setNode_set hi, nsF_set l i hi, if_neg hk, if_neg (by rw [ht]; simp)]
  rw [set_same (l := (nsF l).set (i * 3) _) (by rw [List.getElem?_set_ne (by omega)]; exact q1), set_same (by rw [List.getElem?_set_ne (by omega)]; exact q2)]

theorem nl_tf {l : List Ns} {i : Nat} (hi : i < l.length) (m : Mv) (e : Ev) (ht : m.txt = true) (hk : e.kind ≠ 3) : nsF (setNode l i m e) = ((nsF l).set (i * 3) (.int .i64 m.dst)).set (i * 3 + 2) (.string e.text) := by
  obtain ⟨_, q1, q2⟩ := nsF_get hi
  rw [setNode_set hi, nsF_set l i hi, if_neg hk, if_pos ht]
  rw [set_same (l := (nsF l).set (i * 3) _) (by rw [List.getElem?_set_ne (by omega)]; exact q1)]

theorem nl_ft {l : List Ns} {i : Nat} (hi : i < l.length) (m : Mv) (e : Ev) (ht : m.txt = false) (hk : e.kind = 3) : nsF (setNode l i m e) = ((nsF l).set (i * 3) (.int .i64 m.dst)).set (i * 3 + 1) (.int .i64 e.num) := by
  obtain ⟨_, q1, q2⟩ := nsF_get hi
  rw [setNode_set hi, nsF_set l i hi, if_pos hk, if_neg (by rw [ht]; simp)]
  exact set_same (by rw [List.getElem?_set_ne (by omega), List.getElem?_set_ne (by omega)]; exact q2)

theorem nl_tt {l : List Ns} {i : Nat} (hi : i < l.length) (m : Mv) (e : Ev) (ht : m.txt = true) (hk : e.kind = 3) : nsF (setNode l i m e) = (((nsF l).set (i * 3) (.int .i64 m.dst)).set (i * 3 + 2) (.string e.text)).set (i * 3 + 1) (.int .i64 e.num) := by
  rw [setNode_set hi, nsF_set l i hi, if_pos hk, if_pos ht]
  exact List.set_comm _ _ (by omega)

theorem setNode_len (l : List Ns) (i : Nat) (m : Mv) (e : Ev) : (setNode l i m e).length = l.length := by unfold setNode; simp

end Go.Proofs.YtdecceekodpjiaaDoor
