/-
  What stands between the inputs of a workflow: who began may begin, who runs moves; and what each task is made for.
-/
import Derived.Test.YtfjekjbkifmpfaaDoorG34
import Derived.Test.YtfjekjbkifmpfaaDoorG05
import Derived.Test.YtfjekjbkifmpfaaDoorG18
import Derived.Test.YtfjekjbkifmpfaaDoorG12
import Derived.Test.YtfjekjbkifmpfaaDoorG04
import Derived.Test.YtfjekjbkifmpfaaDoorG02
import Derived.Test.YtfjekjbkifmpfaaDoorG53
import Derived.Deep.QuietTactic
import Derived.BigQuiet
namespace Go.Proofs.YtfjekjbkifmpfaaDoor
open Go.RowKit

section
variable {nm : ByteArray} {ns : List Nd}

theorem move_fits {e k s : Int} {m : Mv} (h : moveP e k s = some m) : m ∈ movesL ∧ m.event = e ∧ m.src = s ∧ (m.kind = k ∨ m.kind = 0) := by
  unfold moveP at h
  have h1 := List.mem_of_find?_eq_some h
  have h2 := List.find?_some h
  unfold Mv.fits at h2
  simp only [Bool.and_eq_true, Bool.or_eq_true, beq_iff_eq] at h2
  exact ⟨h1, h2.1, h2.2.1, h2.2.2⟩

/-- What a task is made for. -/
def TkFor (ns : List Nd) (now : Int) (s : St) (t : Tk) : Prop :=
  t.flow = s.id ∧ ((t.kind = 1 ∧ ∃ (i : Nat) (x : Nd) (y : Ns), findP ns t.node = some i ∧ ns[i]? = some x ∧ s.nodes[i]? = some y ∧ (s.status = 1 → y.status = 1) ∧ IntKind.i64.wrap (y.tr + 1) = t.tr ∧ x.kind = 1)
    ∨ (t.kind = 2 ∧ ∃ (i : Nat) (x : Nd) (y : Ns), findP ns t.node = some i ∧ ns[i]? = some x ∧ s.nodes[i]? = some y ∧ (s.status = 1 → y.status = 2) ∧ t.tm = IntKind.i64.wrap (now + x.delay))
    ∨ (t.kind = 3 ∧ t.mail.src = s.id ∧ 1 ≤ t.mail.kind ∧ t.mail.kind ≤ 4))

structure Neat (ns : List Nd) (now : Int) (r : Rn) : Prop where
  tick : r.now = now
  idle : ∀ y ∈ r.st.nodes, y.status = 0 → y.tr = 0
  free : ∀ (i : Nat) (x : Nd) (y : Ns), ns[i]? = some x → r.st.nodes[i]? = some y → y.status ≠ 0 → overP ns x (overL r.st.nodes) = true
  tks : ∀ t ∈ r.tks, TkFor ns now r.st t

/-- No node of what runs is broken. -/
def Live (s : St) : Prop := s.status = 1 → ∀ y ∈ s.nodes, 0 ≤ y.status ∧ y.status ≤ 3

theorem change_cases {s s' : St} {e : Ev} (h : changeP nm ns s e = some s') (hk : e.kind ≠ 1) : s.status = 1 ∧ s'.id = s.id ∧
    (((e.kind = 13 ∨ e.kind = 15) ∧ s'.nodes = s.nodes) ∨ (e.kind ≠ 13 ∧ e.kind ≠ 15 ∧ s'.status = 1 ∧ ∃ (i : Nat) (x : Nd) (y : Ns) (m : Mv), findP ns e.node = some i ∧ ns[i]? = some x ∧ s.nodes[i]? = some y ∧ moveP e.kind x.kind y.status = some m ∧ s'.nodes = setNode s.nodes i m e)) := by
  unfold changeP at h
  by_cases hst : s.status ≠ (if e.kind = 1 then 0 else 1)
  · rw [if_pos hst] at h
    cases h
  rw [if_neg hst, if_neg hk] at h
  have hs : s.status = 1 := by
    have := Decidable.not_not.1 hst
    rwa [if_neg hk] at this
  refine ⟨hs, ?_⟩
  split at h
  · rename_i h13
    cases h
    exact ⟨rfl, .inl ⟨.inl h13, rfl⟩⟩
  rename_i h13
  split at h
  · rename_i h15
    split at h
    · cases h
      exact ⟨rfl, .inl ⟨.inr h15, rfl⟩⟩
    · cases h
  · rename_i h15
    cases hc : changeNodeP ns s e with
    | none => rw [hc] at h; cases h
    | some t =>
      rw [hc] at h
      cases h
      unfold changeNodeP at hc
      split at hc
      · cases hc
      rename_i i hfi
      split at hc
      · cases hc
      rename_i m hm
      split at hc
      · cases hc
      cases hc
      refine ⟨rfl, .inr ⟨h13, h15, hs, i, ?_⟩⟩
      unfold nodeMove at hm
      split at hm
      · rename_i x y hx hy
        exact ⟨x, y, m, hfi, hx, hy, hm, rfl⟩
      · cases hm

theorem set_at {l : List Ns} {i j : Nat} {m : Mv} {e : Ev} {z : Ns} (h : (setNode l i m e)[j]? = some z) : (j = i ∧ ∃ y, l[i]? = some y ∧ z = ⟨m.dst, if e.kind = 3 then e.num else y.tr, if m.txt then e.text else y.text⟩) ∨ (j ≠ i ∧ l[j]? = some z) := by
  unfold setNode at h
  rw [List.getElem?_modify] at h
  by_cases hij : i = j
  · subst hij
    cases hy : l[i]? with
    | none => rw [hy] at h; simp at h
    | some y =>
      rw [hy] at h
      simp at h
      exact .inl ⟨rfl, y, rfl, h.symm⟩
  · simp [hij] at h
    exact .inr ⟨fun h => hij h.symm, h⟩

theorem set_here {l : List Ns} {i : Nat} {m : Mv} {e : Ev} {y : Ns} (h : l[i]? = some y) : (setNode l i m e)[i]? = some ⟨m.dst, if e.kind = 3 then e.num else y.tr, if m.txt then e.text else y.text⟩ := by
  unfold setNode
  rw [List.getElem?_modify, h]
  simp

theorem set_else {l : List Ns} {i j : Nat} {m : Mv} {e : Ev} {z : Ns} (hj : j ≠ i) (h : l[j]? = some z) : (setNode l i m e)[j]? = some z := by
  unfold setNode
  rw [List.getElem?_modify, h]
  have : ¬ i = j := fun h => hj h.symm
  simp [this]

theorem moves_dst : ∀ m ∈ movesL, 1 ≤ m.dst ∧ m.dst ≤ 4 ∧ (m.dst = 4 → m.event = 6) := by
  intro m hm
  simp only [movesL, List.mem_cons, List.not_mem_nil, or_false] at hm
  rcases hm with rfl | rfl | rfl | rfl | rfl | rfl | rfl | rfl | rfl | rfl | rfl | rfl | rfl | rfl <;> decide

theorem moves_to {e d : Int} (h : movesL.all (fun m => !(m.event == e) || (m.dst == d)) = true) {m : Mv} (m1 : m ∈ movesL) (m2 : m.event = e) : m.dst = d := by
  have := List.all_eq_true.1 h m m1
  simpa [m2] using this

/-- Telling an event that is no start. -/
theorem Neat.tell {now : Int} {r : Rn} {e : Ev} {ts : List Tk} (R : Neat ns now r) (hk : e.kind ≠ 1)
    (hat : e.kind ≠ 13 → e.kind ≠ 15 → ∀ (i : Nat) (x : Nd) (y : Ns), findP ns e.node = some i → ns[i]? = some x → r.st.nodes[i]? = some y → (r.tks = [] ∨ y.status = 0) ∧ (y.status ≠ 0 ∨ overP ns x (overL r.st.nodes) = true))
    (hts : ∀ s', changeP nm ns r.st e = some s' → ∀ t ∈ ts, TkFor ns now s' (flowT s'.id t)) : Neat ns now (tellP nm ns r e ts) := by
  unfold tellP
  cases hc : changeP nm ns r.st e with
  | none => exact R
  | some s' =>
    have hg := changeP_grow hc hk
    obtain ⟨hs, hid, hn⟩ := change_cases hc hk
    have old : (∀ (i : Nat) (y : Ns), r.st.nodes[i]? = some y → y.status ≠ 0 → r.tks ≠ [] → s'.nodes[i]? = some y) → ∀ t ∈ r.tks, TkFor ns now s' t := fun keep t ht => by
      have hne : r.tks ≠ [] := fun h => by rw [h] at ht; cases ht
      obtain ⟨hf, h⟩ := R.tks t ht
      refine ⟨hf.trans hid.symm, ?_⟩
      rcases h with ⟨k1, i, x, y, a, b, c, d, f, g⟩ | ⟨k2, i, x, y, a, b, c, d, f⟩ | ⟨k3, a, b⟩
      · have := d hs
        exact .inl ⟨k1, i, x, y, a, b, keep i y c (by omega) hne, fun _ => this, f, g⟩
      · have := d hs
        exact .inr (.inl ⟨k2, i, x, y, a, b, keep i y c (by omega) hne, fun _ => this, f⟩)
      · exact .inr (.inr ⟨k3, a.trans hid.symm, b⟩)
    have both : (∀ t ∈ r.tks, TkFor ns now s' t) → ∀ t ∈ r.tks ++ ts.map (flowT s'.id), TkFor ns now s' t := fun h t ht => by
      rw [List.mem_append] at ht
      rcases ht with ht | ht
      · exact h t ht
      · obtain ⟨u, hu, rfl⟩ := List.mem_map.1 ht
        exact hts s' hc u hu
    rcases hn with ⟨_, hn⟩ | ⟨h13, h15, _, i, x, y, m, hf, hx, hy, hm, hn⟩
    · refine ⟨R.tick, fun z hz h0 => R.idle z (by rw [← hn]; exact hz) h0, fun j z q hz hq h0 => ?_, both (old fun j z hz _ _ => by rw [hn]; exact hz)⟩
      show overP ns z (overL s'.nodes) = true
      rw [hn]
      exact R.free j z q hz (by rw [← hn]; exact hq) h0
    · have hd := moves_dst m (move_fits hm).1
      obtain ⟨ht, ho⟩ := hat h13 h15 i x y hf hx hy
      refine ⟨R.tick, fun z hz h0 => ?_, fun j z q hz hq h0 => ?_, both (old fun j z hz h0 hne => ?_)⟩
      · obtain ⟨j, hj⟩ := List.mem_iff_getElem?.1 hz
        have hj : s'.nodes[j]? = some z := hj
        rw [hn] at hj
        rcases set_at hj with ⟨rfl, y', hy', rfl⟩ | ⟨_, h⟩
        · have h0 : m.dst = 0 := h0
          omega
        · exact R.idle z (List.mem_of_getElem? h) h0
      · have hq : s'.nodes[j]? = some q := hq
        show overP ns z (overL s'.nodes) = true
        rw [hn] at hq
        rcases set_at hq with ⟨rfl, y', hy', rfl⟩ | ⟨_, h⟩
        · rw [hx] at hz
          cases hz
          rcases ho with ho | ho
          · exact over_mono hg.over (R.free j x y hx hy ho)
          · exact over_mono hg.over ho
        · exact over_mono hg.over (R.free j z q hz h h0)
      · rw [hn]
        refine set_else (fun hji => ?_) hz
        subst hji
        rw [hy] at hz
        cases hz
        rcases ht with ht | ht
        · exact hne ht
        · exact h0 ht

theorem Live.tell {r : Rn} {e : Ev} {ts : List Tk} (L : Live r.st) (hk : e.kind ≠ 1) (h6 : e.kind ≠ 6) : Live (tellP nm ns r e ts).st := by
  unfold tellP
  cases hc : changeP nm ns r.st e with
  | none => exact L
  | some s' =>
    obtain ⟨hs, hid, hn⟩ := change_cases hc hk
    intro _ z hz
    have hz : z ∈ s'.nodes := hz
    rcases hn with ⟨_, hn⟩ | ⟨h13, h15, _, i, x, y, m, hf, hx, hy, hm, hn⟩
    · rw [hn] at hz
      exact L hs z hz
    · obtain ⟨j, hj⟩ := List.mem_iff_getElem?.1 hz
      rw [hn] at hj
      rcases set_at hj with ⟨rfl, y', hy', rfl⟩ | ⟨_, h⟩
      · obtain ⟨m1, m2, m3, _⟩ := move_fits hm
        obtain ⟨d1, d2, d3⟩ := moves_dst m m1
        show 0 ≤ m.dst ∧ m.dst ≤ 3
        have : m.dst ≠ 4 := fun h => h6 (m2.symm.trans (d3 h))
        omega
      · exact L hs z (List.mem_of_getElem? h)

theorem endP_shut {r : Rn} {st : Int} {tx : ByteArray} (h : st = 2 ∨ st = 3 ∨ st = 4) : (endP nm ns r st tx).st.status ≠ 1 := by
  unfold endP tellP
  cases hc : changeP nm ns r.st ⟨15, ⟨#[]⟩, tx, st⟩ with
  | none =>
    intro h1
    have h1 : r.st.status = 1 := h1
    rw [changeP_close h1 st tx h] at hc
    cases hc
  | some s' =>
    show s'.status ≠ 1
    have h1 := (change_cases hc (by show (15 : Int) ≠ 1; decide)).1
    rw [changeP_close h1 st tx h] at hc
    cases hc
    show st ≠ 1
    omega

theorem breakP_shut {r : Rn} {x tx : ByteArray} : (breakP nm ns r x tx).st.status ≠ 1 := endP_shut (.inr (.inl rfl))

theorem mails_ok {now : Int} {s s' : St} {st : Int} {tx : ByteArray} (hid : s'.id = s.id) : ∀ t ∈ mailsP ns s st tx, TkFor ns now s' (flowT s'.id t) := fun t ht => by
  unfold mailsP cancelL at ht
  rw [List.mem_append] at ht
  rcases ht with ht | ht
  · obtain ⟨i, _, rfl⟩ := List.mem_map.1 ht
    exact ⟨rfl, .inr (.inr ⟨rfl, hid.symm, by show (1 : Int) ≤ 4; decide, by show (4 : Int) ≤ 4; decide⟩)⟩
  · split at ht
    · cases ht
    · rw [List.mem_singleton] at ht
      subst ht
      exact ⟨rfl, .inr (.inr ⟨rfl, hid.symm, by show (1 : Int) ≤ 2; decide, by show (2 : Int) ≤ 4; decide⟩)⟩

theorem Neat.close {now : Int} {r : Rn} (R : Neat ns now r) (st : Int) (tx : ByteArray) : Neat ns now (endP nm ns r st tx) :=
  R.tell (by show (15 : Int) ≠ 1; decide) (fun _ h => absurd rfl h) (fun s' hc => mails_ok (change_cases hc (by show (15 : Int) ≠ 1; decide)).2.1)

theorem Neat.fall {now : Int} {r : Rn} (R : Neat ns now r) (x tx : ByteArray)
    (hat : ∀ (i : Nat) (z : Nd) (y : Ns), findP ns x = some i → ns[i]? = some z → r.st.nodes[i]? = some y → (r.tks = [] ∨ y.status = 0) ∧ (y.status ≠ 0 ∨ overP ns z (overL r.st.nodes) = true)) : Neat ns now (breakP nm ns r x tx) :=
  (R.tell (e := ⟨6, x, tx, 0⟩) (by show (6 : Int) ≠ 1; decide) (fun _ _ => hat) (fun _ _ _ h => by cases h)).close 3 tx

theorem live_shut {s : St} (h : s.status ≠ 1) : Live s := fun h1 => absurd h1 h

theorem ready_over {r : Rn} {i : Nat} {x : Nd} (hi : i ∈ goReady ns r) (hx : ns[i]? = some x) : overP ns x (overL r.st.nodes) = true := by
  unfold goReady rdyL at hi
  rw [List.mem_filter] at hi
  have h2 := hi.2
  unfold rdyB at h2
  rw [Bool.and_eq_true, hx] at h2
  exact h2.2

/-- A node that may begin begins. -/
theorem Neat.begin (S : Sound ns) {now : Int} {r : Rn} (R : Neat ns now r) (L : Live r.st) {i : Nat} {x : Nd} (hi : i ∈ goReady ns r) (hx : ns[i]? = some x) : Neat ns now (beginP nm ns r x) ∧ Live (beginP nm ns r x).st := by
  obtain ⟨hin, y, hy, hy0⟩ := goReady_idle hi
  have hf := S.find i x hx
  have hov := ready_over hi hx
  have hat : ∀ (j : Nat) (z : Nd) (q : Ns), findP ns x.name = some j → ns[j]? = some z → r.st.nodes[j]? = some q → (r.tks = [] ∨ q.status = 0) ∧ (q.status ≠ 0 ∨ overP ns z (overL r.st.nodes) = true) := fun j z q h1 h2 h3 => by
    rw [hf] at h1
    cases h1
    rw [hx] at h2
    cases h2
    rw [hy] at h3
    cases h3
    exact ⟨.inr hy0, .inr hov⟩
  have one : ∀ {e : Ev} {ts : List Tk}, e.node = x.name → e.kind ≠ 1 → e.kind ≠ 6 → (∀ s', changeP nm ns r.st e = some s' → ∀ t ∈ ts, TkFor ns now s' (flowT s'.id t)) → Neat ns now (tellP nm ns r e ts) ∧ Live (tellP nm ns r e ts).st := fun he h1 h6 hts =>
    ⟨R.tell h1 (fun _ _ => by rw [he]; exact hat) hts, L.tell h1 h6⟩
  have here : ∀ {e : Ev} {s' : St}, e.node = x.name → e.kind ≠ 1 → e.kind ≠ 3 → e.kind ≠ 13 → e.kind ≠ 15 → changeP nm ns r.st e = some s' → ∃ m z, m ∈ movesL ∧ m.event = e.kind ∧ (m.kind = x.kind ∨ m.kind = 0) ∧ s'.nodes[i]? = some z ∧ z.status = m.dst ∧ z.tr = 0 := fun {e s'} he h1 h3 h13 h15 hc => by
    obtain ⟨_, _, hn⟩ := change_cases hc h1
    rcases hn with ⟨h, _⟩ | ⟨_, _, _, j, x', y', m, hf', hx', hy', hm, hn⟩
    · exact absurd h (by omega)
    · rw [he, hf] at hf'
      cases hf'
      rw [hx] at hx'
      cases hx'
      rw [hy] at hy'
      cases hy'
      obtain ⟨m1, m2, _, m4⟩ := move_fits hm
      refine ⟨m, _, m1, m2, m4, by rw [hn]; exact set_here hy, rfl, ?_⟩
      show (if e.kind = 3 then e.num else y.tr) = 0
      rw [if_neg h3]
      exact R.idle y (List.mem_of_getElem? hy) hy0
  unfold beginP
  split
  · refine one rfl (by show (2 : Int) ≠ 1; decide) (by show (2 : Int) ≠ 6; decide) (fun s' hc t ht => ?_)
    rename_i h1
    rw [List.mem_singleton] at ht
    subst ht
    obtain ⟨m, z, m1, m2, m4, hz, hz1, hz0⟩ := here rfl (by show (2 : Int) ≠ 1; decide) (by show (2 : Int) ≠ 3; decide) (by show (2 : Int) ≠ 13; decide) (by show (2 : Int) ≠ 15; decide) hc
    refine ⟨rfl, .inl ⟨rfl, i, x, z, hf, hx, hz, fun _ => ?_, ?_, h1⟩⟩
    · rw [hz1]
      exact moves_to (e := 2) (by decide) m1 m2
    · rw [hz0]
      rfl
  split
  · refine one rfl (by show (7 : Int) ≠ 1; decide) (by show (7 : Int) ≠ 6; decide) (fun s' hc t ht => ?_)
    rw [List.mem_singleton] at ht
    subst ht
    obtain ⟨m, z, m1, m2, m4, hz, hz1, hz0⟩ := here rfl (by show (7 : Int) ≠ 1; decide) (by show (7 : Int) ≠ 3; decide) (by show (7 : Int) ≠ 13; decide) (by show (7 : Int) ≠ 15; decide) hc
    refine ⟨rfl, .inr (.inl ⟨rfl, i, x, z, hf, hx, hz, fun _ => ?_, by show IntKind.i64.wrap (r.now + x.delay) = _; rw [R.tick]⟩)⟩
    rw [hz1]
    exact moves_to (e := 7) (by decide) m1 m2
  split
  · unfold askP
    split
    · exact ⟨R.fall _ _ hat, live_shut breakP_shut⟩
    · refine one rfl (by show (9 : Int) ≠ 1; decide) (by show (9 : Int) ≠ 6; decide) (fun s' hc t ht => ?_)
      rw [List.mem_singleton] at ht
      subst ht
      have hid := (change_cases hc (by show (9 : Int) ≠ 1; decide)).2.1
      exact ⟨rfl, .inr (.inr ⟨rfl, hid.symm, by show (1 : Int) ≤ 1; decide, by show (1 : Int) ≤ 4; decide⟩)⟩
  split
  · unfold waitP
    split
    · exact one rfl (by show (11 : Int) ≠ 1; decide) (by show (11 : Int) ≠ 6; decide) (fun _ _ _ h => by cases h)
    · exact one rfl (by show (12 : Int) ≠ 1; decide) (by show (12 : Int) ≠ 6; decide) (fun _ _ _ h => by cases h)
  split
  · refine one rfl (by show (14 : Int) ≠ 1; decide) (by show (14 : Int) ≠ 6; decide) (fun s' hc t ht => ?_)
    rw [List.mem_singleton] at ht
    subst ht
    have hid := (change_cases hc (by show (14 : Int) ≠ 1; decide)).2.1
    exact ⟨rfl, .inr (.inr ⟨rfl, hid.symm, by show (1 : Int) ≤ 3; decide, by show (3 : Int) ≤ 4; decide⟩)⟩
  · exact ⟨R, L⟩

theorem neat_on (S : Sound ns) {now : Int} {r r' : Rn} (h : On nm ns r r') : Fine ns r.st → Neat ns now r → Live r.st → Neat ns now r' ∧ Live r'.st ∧ (r'.st.status = 1 → goReady ns r' = [] ∧ restC r'.st.nodes ≠ 0) := by
  induction h with
  | stop hs => exact fun _ R L => ⟨R, L, fun h => absurd h hs⟩
  | @step r r' i x hs hh hx hon ih =>
    intro F R L
    have hi : i ∈ goReady ns r := List.mem_of_mem_head? (by rw [hh]; rfl)
    obtain ⟨hin, y, hy, hy0⟩ := goReady_idle hi
    have hk := S.kind x (List.mem_of_getElem? hx)
    have hf := S.find i x hx
    have hb := begin_same (nm := nm) F.bare hs hf hx hy hy0 hk.1 hk.2
    rw [hb] at ih
    obtain ⟨R', L'⟩ := R.begin (nm := nm) S L hi hx
    exact ih (begin_fine F hs hf hx hy hy0 hk.1 hk.2) R' L'
  | @done r hs hz hc =>
    intro F R L
    rw [closed_same F.bare hs (.inl rfl)]
    exact ⟨R.close _ _, live_shut (endP_shut (.inl rfl)), fun h => absurd h (endP_shut (.inl rfl))⟩
  | rest hs hz hc => exact fun _ R L => ⟨R, L, fun _ => ⟨hz, hc⟩⟩

/-- Some node is ready or busy. -/
def Moving (s : St) : Prop := s.status = 1 → ∃ y ∈ s.nodes, y.status = 1 ∨ y.status = 2

theorem oneP_over {l : List Ns} {x : Nd} {s : ByteArray} {j : Nat} {y : Ns} (hj : aheadP ns x s = some j) (hy : l[j]? = some y) (h3 : y.status = 3) : oneP ns x (overL l) s = true := by
  unfold oneP
  rw [hj]
  show (overL l).getD j false = true
  unfold overL
  rw [List.getD_eq_getElem?_getD, List.getElem?_map, hy]
  simp [h3]

/-- Where nothing may begin and not all is over, somebody moves. -/
theorem moving (T : Taken nm ns) {r : Rn} (F : Fine ns r.st) (L : Live r.st) (hs : r.st.status = 1) (hz : goReady ns r = []) (hc : restC r.st.nodes ≠ 0) : ∃ y ∈ r.st.nodes, y.status = 1 ∨ y.status = 2 := by
  refine Classical.byContradiction fun hno => hc ?_
  have h03 : ∀ y ∈ r.st.nodes, y.status = 0 ∨ y.status = 3 := fun y hy => by
    have h1 := L hs y hy
    have h2 : ¬ (y.status = 1 ∨ y.status = 2) := fun h => hno ⟨y, hy, h⟩
    omega
  have all : ∀ (n i : Nat) (x : Nd) (y : Ns), rowP ns i = n → ns[i]? = some x → r.st.nodes[i]? = some y → y.status = 3 := by
    intro n
    induction n using Nat.strongRecOn with
    | _ n ih =>
      intro i x y hn hx hy
      rcases h03 y (List.mem_of_getElem? hy) with h0 | h3
      · exfalso
        have hil : i < ns.length := (List.getElem?_eq_some_iff.1 hx).1
        have hov : overP ns x (overL r.st.nodes) = true := by
          unfold overP
          rw [List.all_eq_true]
          intro s hsm
          obtain ⟨j, hj, hjm, hlt⟩ := (lev_ord ns).aft i (ord_all T.ord i hil) x hx s hsm
          have hjl : j < ns.length := aheadP_lt hj
          have hjr : j < r.st.nodes.length := by rw [F.len]; exact hjl
          exact oneP_over hj (List.getElem?_eq_getElem hjr) (ih (rowP ns j) (by rw [← hn]; exact hlt) j (ns[j]) _ rfl (List.getElem?_eq_getElem hjl) (List.getElem?_eq_getElem hjr))
        have : i ∈ goReady ns r := by
          unfold goReady rdyL
          rw [List.mem_filter]
          refine ⟨List.mem_range.2 hil, ?_⟩
          unfold rdyB begunL
          rw [List.getD_eq_getElem?_getD, List.getElem?_map, List.getElem?_range hil, hx]
          simp [begunB, hy, h0, hov]
        rw [hz] at this
        cases this
      · exact h3
  unfold restC
  rw [List.countP_eq_zero]
  intro y hy
  obtain ⟨i, hi⟩ := List.mem_iff_getElem?.1 hy
  have hil : i < ns.length := by rw [← F.len]; exact (List.getElem?_eq_some_iff.1 hi).1
  have := all _ i (ns[i]) y rfl (List.getElem?_eq_getElem hil) hi
  simp [this]

/-- Behind going on. -/
theorem Neat.goOn (S : Sound ns) (T : Taken nm ns) {now : Int} {r : Rn} (R : Neat ns now r) (L : Live r.st) (F : Fine ns r.st) : Neat ns now (goOnP nm ns r) ∧ Live (goOnP nm ns r).st ∧ Moving (goOnP nm ns r).st := by
  rcases goOn_on (nm := nm) S F with h | h
  · obtain ⟨R', L', H⟩ := neat_on S h F R L
    have K := goP_keeps (nm := nm) (ns := ns) (restC r.st.nodes + 1) r F.bare
    have F' : Fine ns (goOnP nm ns r).st := ⟨K.2.len.trans F.len, K.1⟩
    exact ⟨R', L', fun hs => moving T F' L' hs (H hs).1 (H hs).2⟩
  · have e : goOnP nm ns r = r := told_closed goOnP_told h
    rw [e]
    exact ⟨R, L, fun h1 => absurd h1 h⟩

/-- What stands between the inputs. -/
structure Good (ns : List Nd) (s : St) : Prop where
  idle : ∀ y ∈ s.nodes, y.status = 0 → y.tr = 0
  free : ∀ (i : Nat) (x : Nd) (y : Ns), ns[i]? = some x → s.nodes[i]? = some y → y.status ≠ 0 → overP ns x (overL s.nodes) = true
  live : Live s
  moving : Moving s

theorem Good.zero (ns : List Nd) : Good ns zeroSt := ⟨fun y hy => (by cases hy), fun i x y _ hy => (by cases hy), fun h => (by cases h), fun h => (by cases h)⟩

theorem Good.neat {s : St} (G : Good ns s) (now : Int) : Neat ns now ⟨s, now, [], []⟩ := ⟨rfl, G.idle, G.free, fun t ht => by cases ht⟩

theorem Neat.good {now : Int} {r : Rn} (R : Neat ns now r) (L : Live r.st) (M : Moving r.st) : Good ns r.st := ⟨R.idle, R.free, L, M⟩

theorem busy_at {s : St} {q : Inp} {ks : List Int} {i : Nat} {e : Int} (h : busyP ns s q ks = (i, e)) (he : ¬ e ≠ 0) : findP ns q.node = some i ∧ ∃ x y, ns[i]? = some x ∧ s.nodes[i]? = some y ∧ y.status = 2 ∧ ks.contains x.kind = true := by
  have he : e = 0 := Decidable.not_not.1 he
  subst he
  obtain ⟨h1, h2⟩ := busyP_ok h
  obtain ⟨a, b, c, d⟩ := findK_some h1
  refine ⟨c, ns[i], s.nodes[i], List.getElem?_eq_getElem a, List.getElem?_eq_getElem b, ?_, d⟩
  unfold busyB at h2
  rw [List.getElem?_eq_getElem a, List.getElem?_eq_getElem b] at h2
  simp only [Bool.and_eq_true, beq_iff_eq] at h2
  exact h2.1

theorem wait_at {s : St} {x : ByteArray} {i : Nat} (h : busyWaitP ns s x = some i) : ∃ n y, ns[i]? = some n ∧ s.nodes[i]? = some y ∧ y.status = 2 := by
  unfold busyWaitP at h
  have h2 := List.find?_some h
  unfold waitB at h2
  split at h2
  · rename_i n y hn hy
    simp only [Bool.and_eq_true, beq_iff_eq, decide_eq_true_eq] at h2
    exact ⟨n, y, hn, hy, h2.2.2⟩
  · cases h2

/-- An input. -/
theorem Good.does (T : Taken nm ns) {s : St} (M : Met ns s) (G : Good ns s) (q : Inp) : Neat ns q.now (stepP nm ns s q).1 ∧ Live (stepP nm ns s q).1.st ∧ Moving (stepP nm ns s q).1.st := by
  have S := T.sound
  obtain ⟨r, hr⟩ : ∃ r : Rn, r = ⟨s, q.now, [], []⟩ := ⟨_, rfl⟩
  have R : Neat ns q.now r := by rw [hr]; exact G.neat q.now
  have L : Live r.st := by rw [hr]; exact G.live
  have Mv : Moving r.st := by rw [hr]; exact G.moving
  have M : Met ns r.st := by rw [hr]; exact M
  have h0 : r.tks = [] := by rw [hr]
  unfold stepP
  rw [← hr]
  clear hr
  have stay : Neat ns q.now r ∧ Live r.st ∧ Moving r.st := ⟨R, L, Mv⟩
  unfold doP
  split
  · unfold startP
    split
    · exact stay
    rename_i hs
    have hs : r.st.status = 0 := Decidable.not_not.1 hs
    have hc : changeP nm ns { r.st with id := q.name } ⟨1, q.pnode, q.par, 0⟩ = some { r.st with id := q.name, status := 1, dfn := nm, par := q.par, pnode := q.pnode, nodes := List.replicate ns.length ⟨0, 0, ⟨#[]⟩⟩, events := r.st.events + 1 } := by
      unfold changeP
      dsimp only
      rw [if_neg (c := r.st.status ≠ (if (1 : Int) = 1 then 0 else 1)) (by rw [hs]; decide), if_pos (c := (1 : Int) = 1) rfl]
    have hrep : ∀ y ∈ List.replicate ns.length (⟨0, 0, ⟨#[]⟩⟩ : Ns), y = ⟨0, 0, ⟨#[]⟩⟩ := fun y hy => (List.mem_replicate.1 hy).2
    have R1 : Neat ns q.now (tellP nm ns { r with st := { r.st with id := q.name } } ⟨1, q.pnode, q.par, 0⟩ []) := by
      unfold tellP
      rw [hc]
      refine ⟨R.tick, fun y hy _ => ?_, fun i x y _ hy h => ?_, fun t ht => ?_⟩
      · rw [hrep y hy]
      · rw [hrep y (List.mem_of_getElem? hy)] at h
        exact absurd rfl h
      · have ht : t ∈ r.tks ++ [] := ht
        rw [h0] at ht
        cases ht
    have L1 : Live (tellP nm ns { r with st := { r.st with id := q.name } } ⟨1, q.pnode, q.par, 0⟩ []).st := by
      unfold tellP
      rw [hc]
      intro _ y hy
      rw [hrep y hy]
      exact ⟨by show (0 : Int) ≤ 0; decide, by show (0 : Int) ≤ 3; decide⟩
    have F1 : Fine ns (tellP nm ns { r with st := { r.st with id := q.name } } ⟨1, q.pnode, q.par, 0⟩ []).st := by
      unfold tellP
      rw [hc]
      exact ⟨List.length_replicate, fun y hy _ => by rw [hrep y hy]⟩
    exact R1.goOn S T L1 F1
  split
  · exact stay
  rename_i hs0
  split
  · exact stay
  rename_i hs1
  have F : Fine ns r.st := ⟨M.2 hs0, M.1⟩
  have told : ∀ {e : Ev} {ts : List Tk}, e.kind ≠ 1 → e.kind ≠ 6 → (∀ (i : Nat) (y : Ns), findP ns e.node = some i → r.st.nodes[i]? = some y → y.status ≠ 0) → (∀ s', changeP nm ns r.st e = some s' → ∀ t ∈ ts, TkFor ns q.now s' (flowT s'.id t)) → Neat ns q.now (tellP nm ns r e ts) ∧ Live (tellP nm ns r e ts).st ∧ Fine ns (tellP nm ns r e ts).st := fun h1 h6 hn hts =>
    ⟨R.tell h1 (fun _ _ i x y hf hx hy => ⟨.inl h0, .inl (hn i y hf hy)⟩) hts, L.tell h1 h6, ⟨(tellP_grow h1).len.trans F.len, tellP_bare F.bare⟩⟩
  have toldGo : ∀ {e : Ev}, e.kind ≠ 1 → e.kind ≠ 6 → (∀ (i : Nat) (y : Ns), findP ns e.node = some i → r.st.nodes[i]? = some y → y.status ≠ 0) → Neat ns q.now (goOnP nm ns (tellP nm ns r e [])) ∧ Live (goOnP nm ns (tellP nm ns r e [])).st ∧ Moving (goOnP nm ns (tellP nm ns r e [])).st := fun h1 h6 hn => by
    obtain ⟨a, b, c⟩ := told (ts := []) h1 h6 hn (fun _ _ _ h => by cases h)
    exact a.goOn S T b c
  have fell : ∀ {x tx : ByteArray}, (∀ (i : Nat) (y : Ns), findP ns x = some i → r.st.nodes[i]? = some y → y.status ≠ 0) → Neat ns q.now (breakP nm ns r x tx) ∧ Live (breakP nm ns r x tx).st ∧ Moving (breakP nm ns r x tx).st := fun hn =>
    ⟨R.fall _ _ (fun i x y hf hx hy => ⟨.inl h0, .inl (hn i y hf hy)⟩), live_shut breakP_shut, fun h => absurd h breakP_shut⟩
  have here : ∀ {e : Ev} {s' : St} {i : Nat} {x : Nd} {y : Ns}, findP ns e.node = some i → ns[i]? = some x → r.st.nodes[i]? = some y → e.kind ≠ 1 → e.kind ≠ 13 → e.kind ≠ 15 → changeP nm ns r.st e = some s' → ∃ m, m ∈ movesL ∧ m.event = e.kind ∧ (m.kind = x.kind ∨ m.kind = 0) ∧ s'.nodes[i]? = some ⟨m.dst, if e.kind = 3 then e.num else y.tr, if m.txt then e.text else y.text⟩ := fun {e s' i x y} hf hx hy h1 h13 h15 hc => by
    obtain ⟨_, _, hn⟩ := change_cases hc h1
    rcases hn with ⟨h, _⟩ | ⟨_, _, _, j, x', y', m, hf', hx', hy', hm, hn⟩
    · exact absurd h (by omega)
    · rw [hf] at hf'
      cases hf'
      rw [hx] at hx'
      cases hx'
      rw [hy] at hy'
      cases hy'
      obtain ⟨m1, m2, _, m4⟩ := move_fits hm
      exact ⟨m, m1, m2, m4, by rw [hn]; exact set_here hy⟩
  have moved : ∀ {e : Ev} {ts : List Tk} {d : Int}, d = 1 ∨ d = 2 → e.kind ≠ 1 → e.kind ≠ 13 → e.kind ≠ 15 → (∀ m ∈ movesL, m.event = e.kind → m.dst = d) → Moving (tellP nm ns r e ts).st := fun {e ts d} hd h1 h13 h15 hm => by
    unfold tellP
    cases hc : changeP nm ns r.st e with
    | none => exact Mv
    | some s' =>
      obtain ⟨_, _, hn⟩ := change_cases hc h1
      rcases hn with ⟨h, _⟩ | ⟨_, _, _, j, x', y', m, hf', hx', hy', hmv, hn⟩
      · exact absurd h (by omega)
      · obtain ⟨m1, m2, _, m4⟩ := move_fits hmv
        intro _
        have hat := set_here (m := m) (e := e) hy'
        rw [← hn] at hat
        refine ⟨_, List.mem_of_getElem? hat, ?_⟩
        show m.dst = 1 ∨ m.dst = 2
        rw [hm m m1 m2]
        exact hd
  have failed : ∀ {i : Nat} {x : Nd} {y : Ns} {tx : ByteArray}, ns[i]? = some x → r.st.nodes[i]? = some y → y.status = 2 → x.kind = 1 → Neat ns q.now (failTryP nm ns r i tx) ∧ Live (failTryP nm ns r i tx).st ∧ Moving (failTryP nm ns r i tx).st := fun {i x y tx} hx hy h2 hk => by
    have hf := S.find i x hx
    have hn : ∀ (j : Nat) (z : Ns), findP ns x.name = some j → r.st.nodes[j]? = some z → z.status ≠ 0 := fun j z h1 h3 => by
      rw [hf] at h1
      cases h1
      rw [hy] at h3
      cases h3
      omega
    unfold failTryP
    rw [hx, hy]
    dsimp only
    split
    · exact fell hn
    · obtain ⟨a, b, _⟩ := told (e := ⟨5, x.name, tx, y.tr⟩) (ts := [⟨1, ⟨#[]⟩, x.name, IntKind.i64.wrap (y.tr + 1), 0, zeroMl⟩]) (by show (5 : Int) ≠ 1; decide) (by show (5 : Int) ≠ 6; decide) hn (fun s' hc t ht => by
        rw [List.mem_singleton] at ht
        subst ht
        obtain ⟨m, m1, m2, m4, hz⟩ := here (e := ⟨5, x.name, tx, y.tr⟩) hf hx hy (by show (5 : Int) ≠ 1; decide) (by show (5 : Int) ≠ 13; decide) (by show (5 : Int) ≠ 15; decide) hc
        refine ⟨rfl, .inl ⟨rfl, i, x, _, hf, hx, hz, fun _ => ?_, rfl, hk⟩⟩
        exact moves_to (e := 5) (by decide) m1 m2)
      refine ⟨a, b, moved (d := 1) (.inl rfl) (by show (5 : Int) ≠ 1; decide) (by show (5 : Int) ≠ 13; decide) (by show (5 : Int) ≠ 15; decide) (fun m m1 m2 => ?_)⟩
      exact moves_to (e := 5) (by decide) m1 m2
  have atN : ∀ {i : Nat} {y : Ns} {x : ByteArray}, findP ns x = some i → r.st.nodes[i]? = some y → y.status ≠ 0 → ∀ (j : Nat) (z : Ns), findP ns x = some j → r.st.nodes[j]? = some z → z.status ≠ 0 := fun hf hy h2 j z h1 h3 => by
    rw [hf] at h1
    cases h1
    rw [hy] at h3
    cases h3
    exact h2
  split
  · unfold signalP
    split
    · exact stay
    split
    · exact stay
    split
    · rename_i i hw
      obtain ⟨n, y, hn, hy, h2⟩ := wait_at hw
      refine toldGo (by show (12 : Int) ≠ 1; decide) (by show (12 : Int) ≠ 6; decide) ?_
      have e : nmAt ns i = n.name := by unfold nmAt; rw [hn]
      show ∀ (j : Nat) (z : Ns), findP ns (nmAt ns i) = some j → _
      rw [e]
      exact atN (S.find i n hn) hy (by omega)
    · split
      · exact stay
      · refine ⟨R.tell (e := ⟨13, q.name, q.text, 0⟩) (by show (13 : Int) ≠ 1; decide) (fun h => absurd rfl h) (fun _ _ _ h => by cases h), L.tell (by show (13 : Int) ≠ 1; decide) (by show (13 : Int) ≠ 6; decide), ?_⟩
        unfold tellP
        cases hc : changeP nm ns r.st ⟨13, q.name, q.text, 0⟩ with
        | none => exact Mv
        | some s' =>
          obtain ⟨h1, _, hn⟩ := change_cases hc (by show (13 : Int) ≠ 1; decide)
          rcases hn with ⟨_, hn⟩ | ⟨h, _⟩
          · intro _
            obtain ⟨y, hy, h⟩ := Mv h1
            exact ⟨y, by show y ∈ s'.nodes; rw [hn]; exact hy, h⟩
          · exact absurd rfl h
  split
  · unfold takeP
    split
    · exact stay
    · rename_i i hk
      obtain ⟨a, b, hf, hc1⟩ := findK_some hk
      rw [List.getElem?_eq_getElem a, List.getElem?_eq_getElem b]
      dsimp only
      split
      · rename_i h1
        obtain ⟨x, hx⟩ : ∃ x, x = ns[i] := ⟨_, rfl⟩
        obtain ⟨y, hy⟩ : ∃ y, y = r.st.nodes[i] := ⟨_, rfl⟩
        have hxi : ns[i]? = some x := by rw [hx]; exact List.getElem?_eq_getElem a
        have hyi : r.st.nodes[i]? = some y := by rw [hy]; exact List.getElem?_eq_getElem b
        rw [← hx, ← hy]
        rw [← hy] at h1
        obtain ⟨k1, k2, _⟩ := told (e := ⟨3, q.node, ⟨#[]⟩, IntKind.i64.wrap (y.tr + 1)⟩) (ts := alarmL r q x (IntKind.i64.wrap (y.tr + 1))) (by show (3 : Int) ≠ 1; decide) (by show (3 : Int) ≠ 6; decide) (atN hf hyi (by omega)) (fun s' hc t ht => by
          unfold alarmL at ht
          split at ht
          · rw [List.mem_singleton] at ht
            subst ht
            obtain ⟨m, m1, m2, m4, hz⟩ := here (e := ⟨3, q.node, ⟨#[]⟩, IntKind.i64.wrap (y.tr + 1)⟩) hf hxi hyi (by show (3 : Int) ≠ 1; decide) (by show (3 : Int) ≠ 13; decide) (by show (3 : Int) ≠ 15; decide) hc
            refine ⟨rfl, .inr (.inl ⟨rfl, i, x, _, hf, hxi, hz, fun _ => ?_, by show IntKind.i64.wrap (r.now + x.delay) = _; rw [R.tick]⟩)⟩
            exact moves_to (e := 3) (by decide) m1 m2
          · cases ht)
        refine ⟨k1, k2, moved (d := 2) (.inr rfl) (by show (3 : Int) ≠ 1; decide) (by show (3 : Int) ≠ 13; decide) (by show (3 : Int) ≠ 15; decide) (fun m m1 m2 => ?_)⟩
        exact moves_to (e := 3) (by decide) m1 m2
      · exact stay
  split
  · unfold completeP
    split
    rename_i i e hb
    split
    · exact stay
    rename_i he
    split
    · exact stay
    · obtain ⟨hf, x, y, hx, hy, h2, _⟩ := busy_at hb he
      exact toldGo (by show (4 : Int) ≠ 1; decide) (by show (4 : Int) ≠ 6; decide) (atN hf hy (by omega))
  split
  · unfold failP
    split
    rename_i i e hb
    split
    · exact stay
    rename_i he
    split
    · exact stay
    · obtain ⟨hf, x, y, hx, hy, h2, hk⟩ := busy_at hb he
      exact failed hx hy h2 (by simpa using hk)
  split
  · unfold fireP
    split
    rename_i i e hb
    split
    · exact stay
    rename_i he
    obtain ⟨hf, x, y, hx, hy, h2, hk⟩ := busy_at hb he
    split
    · rename_i hk1
      refine failed hx hy h2 ?_
      unfold kindAt at hk1
      rw [hx] at hk1
      exact hk1
    · exact toldGo (by show (8 : Int) ≠ 1; decide) (by show (8 : Int) ≠ 6; decide) (atN hf hy (by omega))
  split
  · unfold kidP
    split
    rename_i i e hb
    split
    · exact stay
    rename_i he
    obtain ⟨hf, x, y, hx, hy, h2, hk⟩ := busy_at hb he
    split
    · exact fell (atN hf hy (by omega))
    · exact toldGo (by show (10 : Int) ≠ 1; decide) (by show (10 : Int) ≠ 6; decide) (atN hf hy (by omega))
  split
  · unfold cancelP
    split
    · exact stay
    · exact ⟨R.close _ _, live_shut (endP_shut (.inr (.inr rfl))), fun h => absurd h (endP_shut (.inr (.inr rfl)))⟩
  · exact stay

theorem Good.step (T : Taken nm ns) {s : St} (M : Met ns s) (G : Good ns s) (q : Inp) : Good ns (stepP nm ns s q).1.st := by
  obtain ⟨a, b, c⟩ := G.does T M q
  exact a.good b c

theorem Good.tasks (T : Taken nm ns) {s : St} (M : Met ns s) (G : Good ns s) (q : Inp) : ∀ t ∈ (stepP nm ns s q).1.tks, TkFor ns q.now (stepP nm ns s q).1.st t := (G.does T M q).1.tks

end

end Go.Proofs.YtfjekjbkifmpfaaDoor

/-
  Open and Words, the program's and the document's: both answer alike.
-/
namespace Go.Proofs.YtfjekjbkifmpfaaDoor.Rf
open Go.RowKit

/-- A node that waits for time or a signal. -/
def openAt (ns : List Nd) (s : St) (i : Nat) : Bool := match ns[i]?, s.nodes[i]? with
  | some x, some y => (y.status == 2) && ((x.kind == 2) || (x.kind == 4))
  | _, _ => false

def openP (ns : List Nd) (s : St) : Bool := (s.status == 1) && (List.range (min ns.length s.nodes.length)).any (openAt ns s)

theorem openAt_at {ns : List Nd} {s : St} {i : Nat} (h1 : i < ns.length) (h2 : i < s.nodes.length) : openAt ns s i = (((s.nodes[i]).status == 2) && (((ns[i]).kind == 2) || ((ns[i]).kind == 4))) := by
  unfold openAt
  rw [List.getElem?_eq_getElem h1, List.getElem?_eq_getElem h2]

theorem any_next {p : Nat → Bool} {k : Nat} (h : (List.range k).any p = false) (hk : p k = false) : (List.range (k + 1)).any p = false := by
  rw [List.range_succ, List.any_append, h]
  simp [hk]

theorem any_hit {p : Nat → Bool} {k n : Nat} (hk : k < n) (h : p k = true) : (List.range n).any p = true := by
  rw [List.any_eq_true]
  exact ⟨k, List.mem_range.2 hk, h⟩

theorem duo {w : World} {b : Nat} {T : TypeId} {u0 u1 : Value} (h : w.heap[b]? = some (.cells #[u0, u1] T (0, 0))) : w.cell? ⟨b, 0, none⟩ = some u0 ∧ w.cell? ⟨b, 1, none⟩ = some u1 := by
  simp [World.cell?, h]

set_option maxRecDepth 100000 in
set_option maxHeartbeats 4000000 in
theorem hOpen_any (w : World) (nm : ByteArray) (a : Option Addr) (c : Nat) (ns : List Nd) (hN : NodesAt w a ns) (hn : ns.length ≤ 64) (s : St) (a6 : Option Addr) (c6 : Nat) (v7 : Value) (R : StRd w s (.slice a6 s.nodes.length c6) v7) :
    Calls Tryd.prog 26 #[.agg #[.string nm, .slice a ns.length c], .agg #[.string s.dfn, .string s.id, .string s.par, .string s.pnode, .int .i64 s.status, .string s.text, .slice a6 s.nodes.length c6, v7, .int .i64 s.events]] w fun e w' => e = .returned (.bool (openP ns s)) ∧ Kept (fun _ => False) w w' := by
  have h6 := R.few6
  have KA := Kept.alloc (fun _ => False) w (.cells #[.string nm, .slice a ns.length c] 24)
  have bA := heap_alloc_new w (.cells #[.string nm, .slice a ns.length c] 24)
  have KB := Kept.alloc (fun _ => False) (w.alloc (.cells #[.string nm, .slice a ns.length c] 24)) (.cells #[.string s.dfn, .string s.id, .string s.par, .string s.pnode, .int .i64 s.status, .string s.text, .slice a6 s.nodes.length c6, v7, .int .i64 s.events] 33)
  have bB := heap_alloc_new (w.alloc (.cells #[.string nm, .slice a ns.length c] 24)) (.cells #[.string s.dfn, .string s.id, .string s.par, .string s.pnode, .int .i64 s.status, .string s.text, .slice a6 s.nodes.length c6, v7, .int .i64 s.events] 33)
  rw [World.size_alloc] at bB
  have bD := (KB.block _ (Array.getElem?_eq_some_iff.1 bA).1 (fun h => h)).trans bA
  have HK := hid (KA.and KB)
  have HN := hid (keptNew (KA.and KB) hN)
  have HR := hid (R.nodes.new (KA.and KB))
  have HBB := hid bB
  have HBD := hid bD
  obtain ⟨⟨p0, p1, p2, p3, p4, p5, p6, p7, p8⟩, _⟩ := nine bB
  obtain ⟨d0, d1⟩ := duo bD
  have hB := fun V => both_any V nm a ns.length c s a6 s.nodes.length c6 v7
  clear KA bA KB bB bD hN R
  by_cases hs : s.status = 1
  · have hP : Hid (openP ns s = (List.range (min ns.length s.nodes.length)).any (openAt ns s)) := by show _ = _; unfold openP; rw [hs]; rfl
    have hs' : (s.status != 1) = false := by simp [hs]
    clear hs
    go_enter Tryd.func26, Tryd.ntmps26
    go_upto_region 4 with (first
      | (go_at_call 44; refine (hB _).mono ?_; rintro e w5 ⟨rfl, K5⟩)
      | fail)
    have HK5 := hid (HK.out.and K5)
    have HBB5 := hid ((K5.block _ (Array.getElem?_eq_some_iff.1 HBB.out).1 (fun h => h)).trans HBB.out)
    have HBD5 := hid ((K5.block _ (Array.getElem?_eq_some_iff.1 HBD.out).1 (fun h => h)).trans HBD.out)
    have HN5 := hid (keptNew K5 HN.out)
    have HR5 := hid (HR.out.new K5)
    clear hB K5 p0 p1 p2 p3 p4 p5 p6 p7 p8 d0 d1 HK HN HR HBB HBD
    go_loopw [13] (fun q wr => ∃ (k : Nat), k ≤ min ns.length s.nodes.length ∧ q = .int .i64 k ∧ (List.range k).any (openAt ns s) = false ∧ Kept (fun _ => False) w5 wr) (fun q _ => min ns.length s.nodes.length - (intOf q).toNat)
    case atStart => exact ⟨0, Nat.zero_le _, rfl, rfl, Kept.refl _ _⟩
    case round =>
      obtain ⟨k, hk, rfl, hno, K⟩ := hrel
      by_cases hlk : k < min ns.length s.nodes.length
      · have e1 : (k : Int) < ((min ns.length s.nodes.length : Nat) : Int) := by omega
        have h1 : k < ns.length := by omega
        have h2 : k < s.nodes.length := by omega
        obtain ⟨_, g1, o1, rfl, x0, x1, x2⟩ := flat_ns (HR5.out.new K) h2
        obtain ⟨bn, on, av0, cv0, rfl, hT0, q0, q1, q2, q3, q4, q5, q6⟩ := (keptNew K HN5.out).at h1
        obtain ⟨⟨p0, p1, p2, p3, p4, p5, p6, p7, p8⟩, _⟩ := nine ((K.block _ (Array.getElem?_eq_some_iff.1 HBB5.out).1 (fun h => h)).trans HBB5.out)
        obtain ⟨d0, d1⟩ := duo ((K.block _ (Array.getElem?_eq_some_iff.1 HBD5.out).1 (fun h => h)).trans HBD5.out)
        have e2 : (k : Int) < (ns.length : Int) := by omega
        have e3 : (k : Int) < (s.nodes.length : Int) := by omega
        have hat := openAt_at h1 h2
        have HK' := hid K
        have Hno := hid hno
        clear K hno
        generalize (s.nodes[k]).status = ys at *
        generalize (ns[k]).kind = xk at *
        cases hb1 : (ys == 2) with
        | true =>
          cases hb2 : ((xk == 2) || (xk == 4)) with
          | true =>
            have HP' : Hid (openP ns s = true) := by show _ = _; rw [hP.out]; exact any_hit hlk (by rw [hat, hb1, hb2]; rfl)
            clear hat
            have hc : xk = 2 ∨ (xk == 2) = false ∧ xk = 4 := by
              rw [Bool.or_eq_true] at hb2
              by_cases h : xk = 2
              · exact .inl h
              · exact .inr ⟨by simpa using h, by simpa [h] using hb2⟩
            clear hb2
            rcases hc with rfl | ⟨h3, rfl⟩
            all_goals
              go_wp2_with fail
              refine bodyPost_ret (by simp [results, Tryd.results26, go_sem]; try rfl) rfl ?_
              exact ⟨by rw [HP'.out], HK5.out.and HK'.out⟩
          | false =>
            have Hn : Hid ((List.range (k + 1)).any (openAt ns s) = false) := any_next Hno.out (by rw [hat, hb1, hb2]; rfl)
            clear hat
            obtain ⟨h3, h4⟩ := Bool.or_eq_false_iff.1 hb2
            clear hb2
            go_wp2_with fail
            go_roundw
            case rel => exact ⟨k + 1, by omega, by go_num, Hn.out, HK'.out⟩
            case measure => simp [intOf]; omega
        | false =>
          have Hn : Hid ((List.range (k + 1)).any (openAt ns s) = false) := any_next Hno.out (by rw [hat, hb1]; rfl)
          clear hat
          go_wp2_with fail
          go_roundw
          case rel => exact ⟨k + 1, by omega, by go_num, Hn.out, HK'.out⟩
          case measure => simp [intOf]; omega
      · obtain rfl : k = min ns.length s.nodes.length := by omega
        have e1 : ¬ ((min ns.length s.nodes.length : Nat) : Int) < ((min ns.length s.nodes.length : Nat) : Int) := by omega
        have HK' := hid K
        have Hno := hid hno
        clear K hno
        go_wp2_with fail
        go_ret
        exact ⟨by rw [hP.out, Hno.out]; rfl, HK5.out.and HK'.out⟩
  · have hs' : (s.status != 1) = true := by simpa using hs
    have hP : openP ns s = false := by unfold openP; simp [hs]
    rw [hP]
    clear hP hs hB
    go_enter Tryd.func26, Tryd.ntmps26
    go_wp2_with fail
    go_ret
    exact ⟨rfl, HK.out⟩

set_option maxRecDepth 100000 in
set_option maxHeartbeats 4000000 in
theorem refOpen_any (w : World) (nm : ByteArray) (a : Option Addr) (c : Nat) (ns : List Nd) (hN : NodesAt w a ns) (hn : ns.length ≤ 64) (s : St) (a6 : Option Addr) (c6 : Nat) (v7 : Value) (R : StRd w s (.slice a6 s.nodes.length c6) v7) :
    Calls Tryd.prog 27 #[.agg #[.string nm, .slice a ns.length c], .agg #[.string s.dfn, .string s.id, .string s.par, .string s.pnode, .int .i64 s.status, .string s.text, .slice a6 s.nodes.length c6, v7, .int .i64 s.events]] w fun e w' => e = .returned (.bool (openP ns s)) ∧ Kept (fun _ => False) w w' := by
  have h6 := R.few6
  have KA := Kept.alloc (fun _ => False) w (.cells #[.string nm, .slice a ns.length c] 24)
  have bA := heap_alloc_new w (.cells #[.string nm, .slice a ns.length c] 24)
  have KB := Kept.alloc (fun _ => False) (w.alloc (.cells #[.string nm, .slice a ns.length c] 24)) (.cells #[.string s.dfn, .string s.id, .string s.par, .string s.pnode, .int .i64 s.status, .string s.text, .slice a6 s.nodes.length c6, v7, .int .i64 s.events] 33)
  have bB := heap_alloc_new (w.alloc (.cells #[.string nm, .slice a ns.length c] 24)) (.cells #[.string s.dfn, .string s.id, .string s.par, .string s.pnode, .int .i64 s.status, .string s.text, .slice a6 s.nodes.length c6, v7, .int .i64 s.events] 33)
  rw [World.size_alloc] at bB
  have bD := (KB.block _ (Array.getElem?_eq_some_iff.1 bA).1 (fun h => h)).trans bA
  have HK := hid (KA.and KB)
  have HN := hid (keptNew (KA.and KB) hN)
  have HR := hid (R.nodes.new (KA.and KB))
  have HBB := hid bB
  have HBD := hid bD
  obtain ⟨⟨p0, p1, p2, p3, p4, p5, p6, p7, p8⟩, _⟩ := nine bB
  obtain ⟨d0, d1⟩ := duo bD
  clear KA bA KB bB bD hN R p0 p1 p2 p3 p4 p5 p6 p7 p8 d0 d1
  go_enter Tryd.func27, Tryd.ntmps27
  go_upto_region 2 with fail
  generalize ((w.alloc (.cells #[.string nm, .slice a ns.length c] 24)).alloc (.cells #[.string s.dfn, .string s.id, .string s.par, .string s.pnode, .int .i64 s.status, .string s.text, .slice a6 s.nodes.length c6, v7, .int .i64 s.events] 33)) = W2 at *
  go_loopw [5] (fun q wr => ∃ (k : Nat), k ≤ min ns.length s.nodes.length ∧ q = .int .i64 k ∧ (0 < k → s.status = 1) ∧ (List.range k).any (openAt ns s) = false ∧ Kept (fun _ => False) W2 wr) (fun q _ => min ns.length s.nodes.length - (intOf q).toNat)
  case atStart => exact ⟨0, Nat.zero_le _, rfl, fun h => absurd h (by omega), rfl, Kept.refl _ _⟩
  case round =>
    obtain ⟨k, hk, rfl, hpos, hno, K⟩ := hrel
    obtain ⟨⟨p0, p1, p2, p3, p4, p5, p6, p7, p8⟩, _⟩ := nine ((K.block _ (Array.getElem?_eq_some_iff.1 HBB.out).1 (fun h => h)).trans HBB.out)
    obtain ⟨d0, d1⟩ := duo ((K.block _ (Array.getElem?_eq_some_iff.1 HBD.out).1 (fun h => h)).trans HBD.out)
    have HK' := hid K
    have Hno := hid hno
    by_cases hlk : k < min ns.length s.nodes.length ∧ s.status = 1
    · obtain ⟨hlk, hs⟩ := hlk
      have h1 : k < ns.length := by omega
      have h2 : k < s.nodes.length := by omega
      obtain ⟨_, g1, o1, rfl, x0, x1, x2⟩ := flat_ns (HR.out.new K) h2
      obtain ⟨bn, on, av0, cv0, rfl, hT0, q0, q1, q2, q3, q4, q5, q6⟩ := (keptNew K HN.out).at h1
      have e2 : (k : Int) < (ns.length : Int) := by omega
      have e3 : (k : Int) < (s.nodes.length : Int) := by omega
      have hat := openAt_at h1 h2
      have hP : Hid (openP ns s = (List.range (min ns.length s.nodes.length)).any (openAt ns s)) := by show _ = _; unfold openP; rw [hs]; rfl
      have hs' : (s.status == 1) = true := by simp [hs]
      have Hs := hid hs
      clear K hno hpos hs
      generalize (s.nodes[k]).status = ys at *
      generalize (ns[k]).kind = xk at *
      cases hb2 : ((xk == 2) || (xk == 4)) with
      | true =>
        have hc : xk = 2 ∨ (xk == 2) = false ∧ xk = 4 := by
          rw [Bool.or_eq_true] at hb2
          by_cases h : xk = 2
          · exact .inl h
          · exact .inr ⟨by simpa using h, by simpa [h] using hb2⟩
        cases hb1 : (ys == 2) with
        | true =>
          have HP' : Hid (openP ns s = true) := by show _ = _; rw [hP.out]; exact any_hit hlk (by rw [hat, hb1, hb2]; rfl)
          clear hat hb2
          rcases hc with rfl | ⟨h3, rfl⟩
          all_goals
            go_wp2_with fail
            refine bodyPost_ret (by simp [results, Tryd.results27, go_sem]; try rfl) rfl ?_
            exact ⟨by rw [HP'.out], HK.out.and HK'.out⟩
        | false =>
          have Hn : Hid ((List.range (k + 1)).any (openAt ns s) = false) := any_next Hno.out (by rw [hat, hb1, hb2]; rfl)
          clear hat hb2
          rcases hc with rfl | ⟨h3, rfl⟩
          all_goals
            go_wp2_with fail
            go_roundw
            case rel => exact ⟨k + 1, by omega, by go_num, fun _ => Hs.out, Hn.out, HK'.out⟩
            case measure => simp [intOf]; omega
      | false =>
        have Hn : Hid ((List.range (k + 1)).any (openAt ns s) = false) := any_next Hno.out (by rw [hat, hb2]; simp)
        clear hat
        obtain ⟨h3, h4⟩ := Bool.or_eq_false_iff.1 hb2
        clear hb2
        go_wp2_with fail
        go_roundw
        case rel => exact ⟨k + 1, by omega, by go_num, fun _ => Hs.out, Hn.out, HK'.out⟩
        case measure => simp [intOf]; omega
    · have hP : Hid (openP ns s = false) := by
        show _ = _
        unfold openP
        by_cases hs : s.status = 1
        · have : k = min ns.length s.nodes.length := by omega
          subst this
          rw [hno]
          simp
        · simp [hs]
      have hcs : (¬ (k : Int) < (ns.length : Int)) ∨ ((k : Int) < (ns.length : Int) ∧ ¬ (k : Int) < (s.nodes.length : Int)) ∨ ((k : Int) < (ns.length : Int) ∧ (k : Int) < (s.nodes.length : Int) ∧ (s.status == 1) = false) := by
        by_cases a1 : k < ns.length
        · by_cases a2 : k < s.nodes.length
          · exact .inr (.inr ⟨by omega, by omega, by simpa using fun h => hlk ⟨by omega, h⟩⟩)
          · exact .inr (.inl ⟨by omega, by omega⟩)
        · exact .inl (by omega)
      clear K hno hpos hlk
      rcases hcs with e1 | ⟨e1, e2⟩ | ⟨e1, e2, e3⟩
      all_goals
        go_wp2_with fail
        go_ret
        exact ⟨by rw [hP.out]; rfl, HK.out.and HK'.out⟩

def wordsP (x : Int) : ByteArray := if x = 1 then ⟨#[114, 117, 110, 110, 105, 110, 103]⟩ else if x = 2 then ⟨#[100, 111, 110, 101]⟩ else if x = 3 then ⟨#[98, 114, 111, 107, 101, 110]⟩ else if x = 4 then ⟨#[99, 97, 110, 99, 101, 108, 101, 100]⟩ else ⟨#[110, 111, 110, 101]⟩

set_option maxRecDepth 100000 in
theorem hWords_any (w : World) (x : Int) : Calls Tryd.prog 28 #[.int .i64 x] w fun e w' => e = .returned (.string (wordsP x)) ∧ Kept (fun _ => False) w w' := by
  by_cases h1 : x = 1
  · subst h1
    go_enter Tryd.func28, Tryd.ntmps28
    go_wp2_with fail
    refine bodyPost_ret (by simp [results, Tryd.results28, go_sem]; try rfl) rfl ?_
    exact ⟨rfl, Kept.refl _ _⟩
  by_cases h2 : x = 2
  · subst h2
    go_enter Tryd.func28, Tryd.ntmps28
    go_wp2_with fail
    refine bodyPost_ret (by simp [results, Tryd.results28, go_sem]; try rfl) rfl ?_
    exact ⟨rfl, Kept.refl _ _⟩
  by_cases h3 : x = 3
  · subst h3
    go_enter Tryd.func28, Tryd.ntmps28
    go_wp2_with fail
    refine bodyPost_ret (by simp [results, Tryd.results28, go_sem]; try rfl) rfl ?_
    exact ⟨rfl, Kept.refl _ _⟩
  by_cases h4 : x = 4
  · subst h4
    go_enter Tryd.func28, Tryd.ntmps28
    go_wp2_with fail
    refine bodyPost_ret (by simp [results, Tryd.results28, go_sem]; try rfl) rfl ?_
    exact ⟨rfl, Kept.refl _ _⟩
  have hP : wordsP x = ⟨#[110, 111, 110, 101]⟩ := by unfold wordsP; simp [h1, h2, h3, h4]
  rw [hP]
  have g1 : (x == 1) = false := by simpa using h1
  have g2 : (x == 2) = false := by simpa using h2
  have g3 : (x == 3) = false := by simpa using h3
  have g4 : (x == 4) = false := by simpa using h4
  clear hP h1 h2 h3 h4
  go_enter Tryd.func28, Tryd.ntmps28
  go_wp2_with fail
  go_ret
  exact ⟨rfl, Kept.refl _ _⟩

set_option maxRecDepth 100000 in
theorem refWords_any (w : World) (x : Int) : Calls Tryd.prog 29 #[.int .i64 x] w fun e w' => e = .returned (.string (wordsP x)) ∧ Kept (fun _ => False) w w' := by
  by_cases h1 : x = 1
  · subst h1
    go_enter Tryd.func29, Tryd.ntmps29
    go_wp2_with fail
    refine bodyPost_ret (by simp [results, Tryd.results29, go_sem]; try rfl) rfl ?_
    exact ⟨rfl, Kept.refl _ _⟩
  by_cases h2 : x = 2
  · subst h2
    go_enter Tryd.func29, Tryd.ntmps29
    go_wp2_with fail
    refine bodyPost_ret (by simp [results, Tryd.results29, go_sem]; try rfl) rfl ?_
    exact ⟨rfl, Kept.refl _ _⟩
  by_cases h3 : x = 3
  · subst h3
    go_enter Tryd.func29, Tryd.ntmps29
    go_wp2_with fail
    refine bodyPost_ret (by simp [results, Tryd.results29, go_sem]; try rfl) rfl ?_
    exact ⟨rfl, Kept.refl _ _⟩
  by_cases h4 : x = 4
  · subst h4
    go_enter Tryd.func29, Tryd.ntmps29
    go_wp2_with fail
    refine bodyPost_ret (by simp [results, Tryd.results29, go_sem]; try rfl) rfl ?_
    exact ⟨rfl, Kept.refl _ _⟩
  have hP : wordsP x = ⟨#[110, 111, 110, 101]⟩ := by unfold wordsP; simp [h1, h2, h3, h4]
  rw [hP]
  have g1 : (x == 1) = false := by simpa using h1
  have g2 : (x == 2) = false := by simpa using h2
  have g3 : (x == 3) = false := by simpa using h3
  have g4 : (x == 4) = false := by simpa using h4
  clear hP h1 h2 h3 h4
  go_enter Tryd.func29, Tryd.ntmps29
  go_wp2_with fail
  go_ret
  exact ⟨rfl, Kept.refl _ _⟩

end Go.Proofs.YtfjekjbkifmpfaaDoor.Rf

/-
  HistoryMoves: its regions that draw their order.
-/
namespace Go.Proofs.YtfjekjbkifmpfaaDoor.Rf
open Go.RowKit

set_option maxRecDepth 100000 in
set_option maxHeartbeats 8000000 in
theorem mv22 {W : World} {db b o n cn b2 o2 m cm k j : Nat} {d0 g0 : Value} {z : Int} {bb : Bool} {ds : List Deferred} {u0 u1 u3 u4 u5 u6 u7 u8 u10 u12 u13 u14 u15 u16 u17 u18 u19 u20 u21 u22 u23 u24 u25 u26 u27 u28 u29 u30 u31 u32 u33 u34 u35 u36 u37 u38 u39 u40 u41 u42 u43 u44 u45 u46 u47 u48 u49 u50 u51 u52 u53 u54 u55 u56 u57 u58 u59 u60 u61 u62 u63 u64 u65 u66 u67 u68 u69 u70 u71 u72 u73 u74 u75 u76 u77 u78 u79 u80 u81 u82 u83 u84 u85 u86 u87 u88 u89 u90 u91 u92 u93 u94 u95 u96 u97 u98 u99 u100 u101 u102 u103 u104 u105 u106 u107 u108 u109 u110 u111 u112 u113 u114 u115 u116 u117 u118 u119 u120 u121 u122 u123 u124 u125 u126 u127 u128 u129 u130 u131 u132 u133 u134 u135 u136 u137 u138 u139 u140 u141 u142 u143 u144 u145 u146 u147 u148 u149 u150 u151 u152 u153 u154 u155 u156 u157 u158 u159 u160 u161 u162 u163 u164 u165 u166 u167 u168 u169 u170 u171 u172 u173 u174 u175 u176 u177 u178 u179 u180 u181 u182 u183 u184 u185 u186 u187 u188 u189 u190 u191 u192 u193 u194 u195 u196 u197 u198 u199 u200 u201 u202 u203 u204 u205 u206 u207 u208 : Value} (K : Act → World → Prop)
    (x0 : W.cell? ⟨db, 0, none⟩ = some (d0)) (x1 : W.cell? ⟨db, 1, none⟩ = some (.slice (some ⟨b, o, none⟩) n cn)) (x2 : W.cell? ⟨b, o + k * 7 + 6, none⟩ = some (.slice (some ⟨b2, o2, none⟩) m cm)) (x3 : W.cell? ⟨b2, o2 + j, none⟩ = some (g0))
    (hk : k < n) (hj : j < m)
    (hC : ∀ V, Kept (fun _ => False) W.drew V → Calls Tryd.prog 23 #[.agg #[d0, .slice (some ⟨b, o, none⟩) n cn], g0] V fun e w' => e = .returned (.tuple #[.int .i64 z, .bool bb]) ∧ Kept (fun _ => False) V w')
    (h : ∀ (v114 v115 v116 v117 v118 v119 v120 v121 v122 v123 v124 v125 v126 v127 : Value) (w5 : World), Kept (fun _ => False) W w5 → K { tmps := #[u0, u1, .pointer (some ⟨db, 0, none⟩), u3, u4, u5, u6, u7, u8, .int .i64 (k : Nat), u10, .int .i64 (j : Nat), .int .i64 z, .bool bb, u14, u15, u16, u17, u18, u19, u20, u21, u22, u23, u24, u25, u26, u27, u28, u29, u30, u31, u32, u33, u34, u35, u36, u37, u38, u39, u40, u41, u42, u43, u44, u45, u46, u47, u48, u49, u50, u51, u52, u53, u54, u55, u56, u57, u58, u59, u60, u61, u62, u63, u64, u65, u66, u67, u68, u69, u70, u71, u72, u73, u74, u75, u76, u77, u78, u79, u80, u81, u82, u83, u84, u85, u86, u87, u88, u89, u90, u91, u92, u93, u94, u95, u96, u97, u98, u99, u100, u101, u102, u103, u104, u105, u106, u107, u108, u109, u110, u111, u112, u113, v114, v115, v116, v117, v118, v119, v120, v121, v122, v123, v124, v125, v126, v127, u128, u129, u130, u131, u132, u133, u134, u135, u136, u137, u138, u139, u140, u141, u142, u143, u144, u145, u146, u147, u148, u149, u150, u151, u152, u153, u154, u155, u156, u157, u158, u159, u160, u161, u162, u163, u164, u165, u166, u167, u168, u169, u170, u171, u172, u173, u174, u175, u176, u177, u178, u179, u180, u181, u182, u183, u184, u185, u186, u187, u188, u189, u190, u191, u192, u193, u194, u195, u196, u197, u198, u199, u200, u201, u202, u203, u204, u205, u206, u207, u208], defers := ds } w5) :
    (Code.region 22 #[{ dst := some 115, op := Op.load 24 (Operand.tmp 2), type := 24, pos := "law.go:203", after := #[], guard := none }, { dst := some 116, op := Op.fieldAddr 24 (Operand.tmp 2) 1, type := 0, pos := "law.go:203", after := #[], guard := none }, { dst := some 117, op := Op.load 22 (Operand.tmp 116), type := 22, pos := "law.go:203", after := #[{ on := 1, ground := Ground.data }], guard := none }, { dst := some 118, op := Op.move (Operand.tmp 9), type := 3, pos := "law.go:203", after := #[], guard := none }, { dst := some 119, op := Op.indexAddr 22 (Operand.tmp 117) (Operand.tmp 118), type := 0, pos := "law.go:203", after := #[{ on := 2, ground := Ground.data }, { on := 3, ground := Ground.data }], guard := none }, { dst := some 120, op := Op.fieldAddr 64 (Operand.tmp 119) 6, type := 0, pos := "law.go:203", after := #[{ on := 4, ground := Ground.data }], guard := none }, { dst := some 121, op := Op.load 62 (Operand.tmp 120), type := 62, pos := "law.go:203", after := #[{ on := 5, ground := Ground.data }], guard := none }, { dst := some 122, op := Op.move (Operand.tmp 11), type := 3, pos := "law.go:203", after := #[], guard := none }, { dst := some 123, op := Op.indexAddr 62 (Operand.tmp 121) (Operand.tmp 122), type := 0, pos := "law.go:203", after := #[{ on := 6, ground := Ground.data }, { on := 7, ground := Ground.data }], guard := none }, { dst := some 124, op := Op.load 9 (Operand.tmp 123), type := 9, pos := "law.go:203", after := #[{ on := 8, ground := Ground.data }], guard := none }, { dst := some 125, op := Op.call { callee := Callee.value (Operand.func 23), args := #[Operand.tmp 115, Operand.tmp 124], argTypes := #[24, 9] }, type := 65, pos := "law.go:203", after := #[{ on := 0, ground := Ground.data }, { on := 9, ground := Ground.data }], guard := none }, { dst := some 114, op := Op.move (Operand.tmp 125), type := 65, pos := "law.go:203", after := #[{ on := 10, ground := Ground.data }], guard := none }, { dst := some 126, op := Op.extract (Operand.tmp 114) 0, type := 3, pos := "law.go:203", after := #[{ on := 11, ground := Ground.data }], guard := none }, { dst := some 127, op := Op.extract (Operand.tmp 114) 1, type := 4, pos := "law.go:203", after := #[{ on := 11, ground := Ground.data }, { on := 14, ground := Ground.gcOnly Departure.lateStores }], guard := none }, { dst := some 12, op := Op.assign (Operand.tmp 126), type := 3, pos := "law.go:203", after := #[{ on := 12, ground := Ground.data }, { on := 10, ground := Ground.chain }, { on := 0, ground := Ground.phase }, { on := 1, ground := Ground.phase }, { on := 2, ground := Ground.phase }, { on := 3, ground := Ground.phase }, { on := 4, ground := Ground.phase }, { on := 5, ground := Ground.phase }, { on := 6, ground := Ground.phase }, { on := 7, ground := Ground.phase }, { on := 8, ground := Ground.phase }, { on := 9, ground := Ground.phase }, { on := 10, ground := Ground.phase }, { on := 11, ground := Ground.phase }, { on := 12, ground := Ground.phase }, { on := 13, ground := Ground.textOnly Departure.lateStores }], guard := none }, { dst := some 13, op := Op.assign (Operand.tmp 127), type := 4, pos := "law.go:203", after := #[{ on := 13, ground := Ground.data }, { on := 14, ground := Ground.chain }, { on := 0, ground := Ground.phase }, { on := 1, ground := Ground.phase }, { on := 2, ground := Ground.phase }, { on := 3, ground := Ground.phase }, { on := 4, ground := Ground.phase }, { on := 5, ground := Ground.phase }, { on := 6, ground := Ground.phase }, { on := 7, ground := Ground.phase }, { on := 8, ground := Ground.phase }, { on := 9, ground := Ground.phase }, { on := 10, ground := Ground.phase }, { on := 11, ground := Ground.phase }, { on := 12, ground := Ground.phase }, { on := 13, ground := Ground.phase }, { on := 14, ground := Ground.phase }], guard := none }] true).wp Tryd.prog (onlyN K) { tmps := #[u0, u1, .pointer (some ⟨db, 0, none⟩), u3, u4, u5, u6, u7, u8, .int .i64 (k : Nat), u10, .int .i64 (j : Nat), u12, u13, u14, u15, u16, u17, u18, u19, u20, u21, u22, u23, u24, u25, u26, u27, u28, u29, u30, u31, u32, u33, u34, u35, u36, u37, u38, u39, u40, u41, u42, u43, u44, u45, u46, u47, u48, u49, u50, u51, u52, u53, u54, u55, u56, u57, u58, u59, u60, u61, u62, u63, u64, u65, u66, u67, u68, u69, u70, u71, u72, u73, u74, u75, u76, u77, u78, u79, u80, u81, u82, u83, u84, u85, u86, u87, u88, u89, u90, u91, u92, u93, u94, u95, u96, u97, u98, u99, u100, u101, u102, u103, u104, u105, u106, u107, u108, u109, u110, u111, u112, u113, u114, u115, u116, u117, u118, u119, u120, u121, u122, u123, u124, u125, u126, u127, u128, u129, u130, u131, u132, u133, u134, u135, u136, u137, u138, u139, u140, u141, u142, u143, u144, u145, u146, u147, u148, u149, u150, u151, u152, u153, u154, u155, u156, u157, u158, u159, u160, u161, u162, u163, u164, u165, u166, u167, u168, u169, u170, u171, u172, u173, u174, u175, u176, u177, u178, u179, u180, u181, u182, u183, u184, u185, u186, u187, u188, u189, u190, u191, u192, u193, u194, u195, u196, u197, u198, u199, u200, u201, u202, u203, u204, u205, u206, u207, u208], defers := ds } W := by
  have e1 : (k : Int) < (n : Int) := by omega
  have e2 : (j : Int) < (m : Int) := by omega
  have HH : Hid _ := h
  have KD := Kept.drew (fun _ => False) W
  have HS : Hid (∀ V, Kept (fun _ => False) W.drew V → V.cell? ⟨db, 0, none⟩ = some (d0) ∧ V.cell? ⟨db, 1, none⟩ = some (.slice (some ⟨b, o, none⟩) n cn) ∧ V.cell? ⟨b, o + k * 7 + 6, none⟩ = some (.slice (some ⟨b2, o2, none⟩) m cm) ∧ V.cell? ⟨b2, o2 + j, none⟩ = some (g0)) := fun V KV => ⟨keepC (KD.and KV) x0 (fun _ _ h => h), keepC (KD.and KV) x1 (fun _ _ h => h), keepC (KD.and KV) x2 (fun _ _ h => h), keepC (KD.and KV) x3 (fun _ _ h => h)⟩
  have HKD : Hid (Kept (fun _ => False) W W.drew) := KD
  have hS0 := HS.out W.drew (Kept.refl _ _)
  clear h KD x0 x1 x2 x3
  refine wp_region_held_drew (S := fun V => V.cell? ⟨db, 0, none⟩ = some (d0) ∧ V.cell? ⟨db, 1, none⟩ = some (.slice (some ⟨b, o, none⟩) n cn) ∧ V.cell? ⟨b, o + k * 7 + 6, none⟩ = some (.slice (some ⟨b2, o2, none⟩) m cm) ∧ V.cell? ⟨b2, o2 + j, none⟩ = some (g0)) (by kernel_rfl) hS0 (fun _ => ?_)
  refine wpAnyH_take (i := 0) (oi := { dst := some 115, op := Op.load 24 (Operand.tmp 2), type := 24, pos := "law.go:203", after := #[], guard := none }) (v := ?vv1) rfl (by kernel_rfl) (by kernel_rfl) (by kernel_rfl) (fun _ _ _ h => h) (Or.inl ⟨by rfl, ?hy1⟩) hS0 ?rest1
  case hy1 =>
    intro V hV
    obtain ⟨y0, y1, y2, y3⟩ := hV
    go_simp
    all_goals rfl
  simp only [Act.put, List.setIfInBounds_toArray, List.set_cons_zero, List.set_cons_succ]
  refine wpAnyH_take (i := 1) (oi := { dst := some 116, op := Op.fieldAddr 24 (Operand.tmp 2) 1, type := 0, pos := "law.go:203", after := #[], guard := none }) (v := ?vv2) rfl (by kernel_rfl) (by kernel_rfl) (by kernel_rfl) (fun _ _ _ h => h) (Or.inl ⟨by rfl, ?hy2⟩) hS0 ?rest2
  case hy2 =>
    intro V hV
    obtain ⟨y0, y1, y2, y3⟩ := hV
    go_simp
    all_goals rfl
  simp only [Act.put, List.setIfInBounds_toArray, List.set_cons_zero, List.set_cons_succ]
  refine wpAnyH_take (i := 2) (oi := { dst := some 117, op := Op.load 22 (Operand.tmp 116), type := 22, pos := "law.go:203", after := #[{ on := 1, ground := Ground.data }], guard := none }) (v := ?vv3) rfl (by kernel_rfl) (by kernel_rfl) (by kernel_rfl) (fun _ _ _ h => h) (Or.inl ⟨by rfl, ?hy3⟩) hS0 ?rest3
  case hy3 =>
    intro V hV
    obtain ⟨y0, y1, y2, y3⟩ := hV
    go_simp
    all_goals rfl
  simp only [Act.put, List.setIfInBounds_toArray, List.set_cons_zero, List.set_cons_succ]
  refine wpAnyH_take (i := 3) (oi := { dst := some 118, op := Op.move (Operand.tmp 9), type := 3, pos := "law.go:203", after := #[], guard := none }) (v := ?vv4) rfl (by kernel_rfl) (by kernel_rfl) (by kernel_rfl) (fun _ _ _ h => h) (Or.inl ⟨by rfl, ?hy4⟩) hS0 ?rest4
  case hy4 =>
    intro V hV
    obtain ⟨y0, y1, y2, y3⟩ := hV
    go_simp
    all_goals rfl
  simp only [Act.put, List.setIfInBounds_toArray, List.set_cons_zero, List.set_cons_succ]
  refine wpAnyH_take (i := 4) (oi := { dst := some 119, op := Op.indexAddr 22 (Operand.tmp 117) (Operand.tmp 118), type := 0, pos := "law.go:203", after := #[{ on := 2, ground := Ground.data }, { on := 3, ground := Ground.data }], guard := none }) (v := ?vv5) rfl (by kernel_rfl) (by kernel_rfl) (by kernel_rfl) (fun _ _ _ h => h) (Or.inl ⟨by rfl, ?hy5⟩) hS0 ?rest5
  case hy5 =>
    intro V hV
    obtain ⟨y0, y1, y2, y3⟩ := hV
    go_simp
    all_goals rfl
  simp only [Act.put, List.setIfInBounds_toArray, List.set_cons_zero, List.set_cons_succ]
  refine wpAnyH_take (i := 5) (oi := { dst := some 120, op := Op.fieldAddr 64 (Operand.tmp 119) 6, type := 0, pos := "law.go:203", after := #[{ on := 4, ground := Ground.data }], guard := none }) (v := ?vv6) rfl (by kernel_rfl) (by kernel_rfl) (by kernel_rfl) (fun _ _ _ h => h) (Or.inl ⟨by rfl, ?hy6⟩) hS0 ?rest6
  case hy6 =>
    intro V hV
    obtain ⟨y0, y1, y2, y3⟩ := hV
    go_simp
    all_goals rfl
  simp only [Act.put, List.setIfInBounds_toArray, List.set_cons_zero, List.set_cons_succ]
  refine wpAnyH_take (i := 6) (oi := { dst := some 121, op := Op.load 62 (Operand.tmp 120), type := 62, pos := "law.go:203", after := #[{ on := 5, ground := Ground.data }], guard := none }) (v := ?vv7) rfl (by kernel_rfl) (by kernel_rfl) (by kernel_rfl) (fun _ _ _ h => h) (Or.inl ⟨by rfl, ?hy7⟩) hS0 ?rest7
  case hy7 =>
    intro V hV
    obtain ⟨y0, y1, y2, y3⟩ := hV
    go_simp
    all_goals rfl
  simp only [Act.put, List.setIfInBounds_toArray, List.set_cons_zero, List.set_cons_succ]
  refine wpAnyH_take (i := 7) (oi := { dst := some 122, op := Op.move (Operand.tmp 11), type := 3, pos := "law.go:203", after := #[], guard := none }) (v := ?vv8) rfl (by kernel_rfl) (by kernel_rfl) (by kernel_rfl) (fun _ _ _ h => h) (Or.inl ⟨by rfl, ?hy8⟩) hS0 ?rest8
  case hy8 =>
    intro V hV
    obtain ⟨y0, y1, y2, y3⟩ := hV
    go_simp
    all_goals rfl
  simp only [Act.put, List.setIfInBounds_toArray, List.set_cons_zero, List.set_cons_succ]
  refine wpAnyH_take (i := 8) (oi := { dst := some 123, op := Op.indexAddr 62 (Operand.tmp 121) (Operand.tmp 122), type := 0, pos := "law.go:203", after := #[{ on := 6, ground := Ground.data }, { on := 7, ground := Ground.data }], guard := none }) (v := ?vv9) rfl (by kernel_rfl) (by kernel_rfl) (by kernel_rfl) (fun _ _ _ h => h) (Or.inl ⟨by rfl, ?hy9⟩) hS0 ?rest9
  case hy9 =>
    intro V hV
    obtain ⟨y0, y1, y2, y3⟩ := hV
    go_simp
    all_goals rfl
  simp only [Act.put, List.setIfInBounds_toArray, List.set_cons_zero, List.set_cons_succ]
  refine wpAnyH_take (i := 9) (oi := { dst := some 124, op := Op.load 9 (Operand.tmp 123), type := 9, pos := "law.go:203", after := #[{ on := 8, ground := Ground.data }], guard := none }) (v := ?vv10) rfl (by kernel_rfl) (by kernel_rfl) (by kernel_rfl) (fun _ _ _ h => h) (Or.inl ⟨by rfl, ?hy10⟩) hS0 ?rest10
  case hy10 =>
    intro V hV
    obtain ⟨y0, y1, y2, y3⟩ := hV
    go_simp
    all_goals rfl
  simp only [Act.put, List.setIfInBounds_toArray, List.set_cons_zero, List.set_cons_succ]
  refine wpAnyH_ready (rs := [10]) (by kernel_rfl) (by simp) (AllReadyH.cons (o := { dst := some 125, op := Op.call { callee := Callee.value (Operand.func 23), args := #[Operand.tmp 115, Operand.tmp 124], argTypes := #[24, 9] }, type := 65, pos := "law.go:203", after := #[{ on := 0, ground := Ground.data }, { on := 9, ground := Ground.data }], guard := none }) rfl (fun K' hK => ?_) AllReadyH.nil)
  refine step_call2 _ (by rfl) 23 _ _ _ _ (by rfl) (enters_of Tryd.func23 (by kernel_rfl) rfl) _ _ (by rfl) (by rfl) (hC _ (Kept.refl (fun _ => False) W.drew)) ?_
  rintro e w5 ⟨rfl, K5⟩
  refine ⟨_, rfl, ?_⟩
  refine hK.out _ _ (HS.out _ K5) (fun _ => ?_)
  clear hK K'
  try (simp only [Act.put, List.setIfInBounds_toArray, List.set_cons_zero, List.set_cons_succ])
  refine wpAnyH_take (i := 11) (oi := { dst := some 114, op := Op.move (Operand.tmp 125), type := 65, pos := "law.go:203", after := #[{ on := 10, ground := Ground.data }], guard := none }) (v := ?vv11) rfl (by kernel_rfl) (by kernel_rfl) (by kernel_rfl) (fun _ _ _ h => h) (Or.inl ⟨by rfl, ?hy11⟩) (HS.out _ K5) ?rest11
  case hy11 =>
    intro V hV
    obtain ⟨y0, y1, y2, y3⟩ := hV
    go_simp
    all_goals rfl
  simp only [Act.put, List.setIfInBounds_toArray, List.set_cons_zero, List.set_cons_succ]
  refine wpAnyH_take (i := 12) (oi := { dst := some 126, op := Op.extract (Operand.tmp 114) 0, type := 3, pos := "law.go:203", after := #[{ on := 11, ground := Ground.data }], guard := none }) (v := ?vv12) rfl (by kernel_rfl) (by kernel_rfl) (by kernel_rfl) (fun _ _ _ h => h) (Or.inl ⟨by rfl, ?hy12⟩) (HS.out _ K5) ?rest12
  case hy12 =>
    intro V hV
    obtain ⟨y0, y1, y2, y3⟩ := hV
    go_simp
    all_goals rfl
  simp only [Act.put, List.setIfInBounds_toArray, List.set_cons_zero, List.set_cons_succ]
  refine wpAnyH_take (i := 13) (oi := { dst := some 127, op := Op.extract (Operand.tmp 114) 1, type := 4, pos := "law.go:203", after := #[{ on := 11, ground := Ground.data }, { on := 14, ground := Ground.gcOnly Departure.lateStores }], guard := none }) (v := ?vv13) rfl (by kernel_rfl) (by kernel_rfl) (by kernel_rfl) (fun _ _ _ h => h) (Or.inl ⟨by rfl, ?hy13⟩) (HS.out _ K5) ?rest13
  case hy13 =>
    intro V hV
    obtain ⟨y0, y1, y2, y3⟩ := hV
    go_simp
    all_goals rfl
  simp only [Act.put, List.setIfInBounds_toArray, List.set_cons_zero, List.set_cons_succ]
  refine wpAnyH_take (i := 14) (oi := { dst := some 12, op := Op.assign (Operand.tmp 126), type := 3, pos := "law.go:203", after := #[{ on := 12, ground := Ground.data }, { on := 10, ground := Ground.chain }, { on := 0, ground := Ground.phase }, { on := 1, ground := Ground.phase }, { on := 2, ground := Ground.phase }, { on := 3, ground := Ground.phase }, { on := 4, ground := Ground.phase }, { on := 5, ground := Ground.phase }, { on := 6, ground := Ground.phase }, { on := 7, ground := Ground.phase }, { on := 8, ground := Ground.phase }, { on := 9, ground := Ground.phase }, { on := 10, ground := Ground.phase }, { on := 11, ground := Ground.phase }, { on := 12, ground := Ground.phase }, { on := 13, ground := Ground.textOnly Departure.lateStores }], guard := none }) (v := ?vv14) rfl (by kernel_rfl) (by kernel_rfl) (by kernel_rfl) (fun _ _ _ h => h) (Or.inl ⟨by rfl, ?hy14⟩) (HS.out _ K5) ?rest14
  case hy14 =>
    intro V hV
    obtain ⟨y0, y1, y2, y3⟩ := hV
    go_simp
    all_goals rfl
  simp only [Act.put, List.setIfInBounds_toArray, List.set_cons_zero, List.set_cons_succ]
  refine wpAnyH_take (i := 15) (oi := { dst := some 13, op := Op.assign (Operand.tmp 127), type := 4, pos := "law.go:203", after := #[{ on := 13, ground := Ground.data }, { on := 14, ground := Ground.chain }, { on := 0, ground := Ground.phase }, { on := 1, ground := Ground.phase }, { on := 2, ground := Ground.phase }, { on := 3, ground := Ground.phase }, { on := 4, ground := Ground.phase }, { on := 5, ground := Ground.phase }, { on := 6, ground := Ground.phase }, { on := 7, ground := Ground.phase }, { on := 8, ground := Ground.phase }, { on := 9, ground := Ground.phase }, { on := 10, ground := Ground.phase }, { on := 11, ground := Ground.phase }, { on := 12, ground := Ground.phase }, { on := 13, ground := Ground.phase }, { on := 14, ground := Ground.phase }], guard := none }) (v := ?vv15) rfl (by kernel_rfl) (by kernel_rfl) (by kernel_rfl) (fun _ _ _ h => h) (Or.inl ⟨by rfl, ?hy15⟩) (HS.out _ K5) ?rest15
  case hy15 =>
    intro V hV
    obtain ⟨y0, y1, y2, y3⟩ := hV
    go_simp
    all_goals rfl
  simp only [Act.put, List.setIfInBounds_toArray, List.set_cons_zero, List.set_cons_succ]
  refine wpAnyH_done (by kernel_rfl) ?_ _
  exact HH.out _ _ _ _ _ _ _ _ _ _ _ _ _ _ w5 (HKD.out.and K5)

end Go.Proofs.YtfjekjbkifmpfaaDoor.Rf

/-
  HistoryMoves: its regions that draw their order.
-/
namespace Go.Proofs.YtfjekjbkifmpfaaDoor.Rf
open Go.RowKit

theorem step_call1g {P : Program} {ops : Array Oper} {o : Oper} {a : Act} (w : World) {K : Act → World → Prop} {Q : Exit → Act → World → Prop} {E : Prop}
    (hw : Region.wanted o (yielded ops a.tmps) = true) (f : Nat) (x : Operand) (t : TypeId) (hop : o.op = Op.call { callee := .value (.func f), args := #[x], argTypes := #[t] })
    (he : ∀ args w, (callFunc f args).run P w = .ok (.enter f args) w) (v : Value) (hx : a.eval x = v) {R : Ending → World → Prop} (hC : Calls P f #[v] w R)
    (hK : ∀ e w', R e w' → ∃ u, e = .returned u ∧ K (a.put o.dst u) w') :
    if Region.wanted o (yielded ops a.tmps) = true then Oper.wp P o a w K Q else E := by
  rw [if_pos hw]
  unfold Oper.wp
  have hf : a.eval (.func f) = .func (.func f) #[] #[] := rfl
  simp [execOp, hop, resolve, invoke, hf, hx, he, Deferred.ofValue]
  refine hC.mono ?_
  rintro e w' h
  obtain ⟨u, rfl, k⟩ := hK e w' h
  exact k

set_option maxRecDepth 100000 in
set_option maxHeartbeats 8000000 in
theorem mv30 {W : World} {db pb A B x y : Nat} {d0 d1 q0 q1 q2 q3 q5 q6 q7 q8 : Value} {q4 : Int} {ob : Bool} {wv : ByteArray} {ds : List Deferred} {u0 u1 u3 u4 u6 u7 u8 u9 u10 u11 u12 u13 u17 u18 u19 u20 u21 u22 u23 u24 u25 u26 u27 u28 u29 u30 u31 u32 u33 u34 u35 u36 u37 u38 u39 u40 u41 u42 u43 u44 u45 u46 u47 u48 u49 u50 u51 u52 u53 u54 u55 u56 u57 u58 u59 u60 u61 u62 u63 u64 u65 u66 u67 u68 u69 u70 u71 u72 u73 u74 u75 u76 u77 u78 u79 u80 u81 u82 u83 u84 u85 u86 u87 u88 u89 u90 u91 u92 u93 u94 u95 u96 u97 u98 u99 u100 u101 u102 u103 u104 u105 u106 u107 u108 u109 u110 u111 u112 u113 u114 u115 u116 u117 u118 u119 u120 u121 u122 u123 u124 u125 u126 u127 u128 u129 u130 u131 u132 u133 u134 u135 u136 u137 u138 u139 u140 u141 u142 u143 u144 u145 u146 u147 u148 u149 u150 u151 u152 u153 u154 u155 u156 u157 u158 u159 u160 u161 u162 u163 u164 u165 u166 u167 u168 u169 u170 u171 u172 u173 u174 u175 u176 u177 u178 u179 u180 u181 u182 u183 u184 u185 u186 u187 u188 u189 u190 u191 u192 u193 u194 u195 u196 u197 u198 u199 u200 u201 u202 u203 u204 u205 u206 u207 u208 : Value} (K : Act → World → Prop)
    (x0 : W.cell? ⟨db, 0, none⟩ = some (d0)) (x1 : W.cell? ⟨db, 1, none⟩ = some (d1)) (x2 : W.cell? ⟨pb, 2, none⟩ = some (q0)) (x3 : W.cell? ⟨pb, 3, none⟩ = some (q1)) (x4 : W.cell? ⟨pb, 4, none⟩ = some (q2)) (x5 : W.cell? ⟨pb, 5, none⟩ = some (q3)) (x6 : W.cell? ⟨pb, 6, none⟩ = some (.int .i64 q4)) (x7 : W.cell? ⟨pb, 7, none⟩ = some (q5)) (x8 : W.cell? ⟨pb, 8, none⟩ = some (q6)) (x9 : W.cell? ⟨pb, 9, none⟩ = some (q7)) (x10 : W.cell? ⟨pb, 10, none⟩ = some (q8))
    (hf1 : (FloatKind.f64.format.order x (floatOfInt .f64 (A : Nat)) != some .eq) = false) (hf2 : (FloatKind.f64.format.order y (floatOfInt .f64 (B : Nat)) != some .eq) = false)
    (hO1 : ∀ V, Kept (fun _ => False) W.drew V → Calls Tryd.prog 26 #[.agg #[d0, d1], .agg #[q0, q1, q2, q3, .int .i64 q4, q5, q6, q7, q8]] V fun e w' => e = .returned (.bool ob) ∧ Kept (fun _ => False) V w')
    (hO2 : ∀ V, Kept (fun _ => False) W.drew V → Calls Tryd.prog 27 #[.agg #[d0, d1], .agg #[q0, q1, q2, q3, .int .i64 q4, q5, q6, q7, q8]] V fun e w' => e = .returned (.bool ob) ∧ Kept (fun _ => False) V w')
    (hW1 : ∀ V, Kept (fun _ => False) W.drew V → Calls Tryd.prog 28 #[.int .i64 q4] V fun e w' => e = .returned (.string wv) ∧ Kept (fun _ => False) V w')
    (hW2 : ∀ V, Kept (fun _ => False) W.drew V → Calls Tryd.prog 29 #[.int .i64 q4] V fun e w' => e = .returned (.string wv) ∧ Kept (fun _ => False) V w')
    (h : ∀ (v166 v167 v168 v169 v170 v171 v172 v173 v174 v175 v176 v177 v178 v179 v180 v181 v182 v183 v184 v185 v186 v187 v188 v189 v190 v191 v192 v193 v194 v195 v196 v197 v198 v199 v200 v201 v202 v203 v204 v205 v206 : Value) (w5 : World), Kept (fun _ => False) W w5 → K { tmps := #[u0, u1, .pointer (some ⟨db, 0, none⟩), u3, u4, .pointer (some ⟨pb, 0, none⟩), u6, u7, u8, u9, u10, u11, u12, u13, .int .i64 (A : Nat), .int .i64 (B : Nat), .complex .f64 x y, u17, u18, u19, u20, u21, u22, u23, u24, u25, u26, u27, u28, u29, u30, u31, u32, u33, u34, u35, u36, u37, u38, u39, u40, u41, u42, u43, u44, u45, u46, u47, u48, u49, u50, u51, u52, u53, u54, u55, u56, u57, u58, u59, u60, u61, u62, u63, u64, u65, u66, u67, u68, u69, u70, u71, u72, u73, u74, u75, u76, u77, u78, u79, u80, u81, u82, u83, u84, u85, u86, u87, u88, u89, u90, u91, u92, u93, u94, u95, u96, u97, u98, u99, u100, u101, u102, u103, u104, u105, u106, u107, u108, u109, u110, u111, u112, u113, u114, u115, u116, u117, u118, u119, u120, u121, u122, u123, u124, u125, u126, u127, u128, u129, u130, u131, u132, u133, u134, u135, u136, u137, u138, u139, u140, u141, u142, u143, u144, u145, u146, u147, u148, u149, u150, u151, u152, u153, u154, u155, u156, u157, u158, u159, u160, u161, u162, u163, u164, u165, v166, v167, v168, v169, v170, v171, v172, v173, v174, v175, v176, v177, v178, v179, v180, v181, v182, v183, v184, v185, v186, v187, v188, v189, v190, v191, v192, v193, v194, v195, v196, v197, v198, v199, v200, v201, v202, v203, v204, v205, v206, .bool false, u208], defers := ds } w5) :
    (Code.region 30 #[{ dst := some 166, op := Op.move (Operand.tmp 16), type := 69, pos := "law.go:215", after := #[], guard := none }, { dst := some 167, op := Op.call { callee := Callee.builtin Builtin.real, args := #[Operand.tmp 166], argTypes := #[69] }, type := 71, pos := "law.go:215", after := #[{ on := 0, ground := Ground.data }], guard := none }, { dst := some 168, op := Op.move (Operand.tmp 14), type := 3, pos := "law.go:215", after := #[], guard := none }, { dst := some 169, op := Op.convert 3 71 (Operand.tmp 168), type := 71, pos := "law.go:215", after := #[{ on := 2, ground := Ground.data }], guard := none }, { dst := some 170, op := Op.binOp BinOp.neq 71 (Operand.tmp 167) (Operand.tmp 169) 71, type := 4, pos := "law.go:215", after := #[{ on := 1, ground := Ground.data }, { on := 3, ground := Ground.data }], guard := none }, { dst := some 171, op := Op.move (Operand.tmp 170), type := 4, pos := "law.go:215", after := #[{ on := 4, ground := Ground.data }], guard := none }, { dst := some 172, op := Op.move (Operand.tmp 16), type := 69, pos := "law.go:215", after := #[{ on := 5, ground := Ground.guard }], guard := some (5, false) }, { dst := some 173, op := Op.call { callee := Callee.builtin Builtin.imag, args := #[Operand.tmp 172], argTypes := #[69] }, type := 71, pos := "law.go:215", after := #[{ on := 6, ground := Ground.data }, { on := 5, ground := Ground.guard }], guard := some (5, false) }, { dst := some 174, op := Op.move (Operand.tmp 15), type := 3, pos := "law.go:215", after := #[{ on := 5, ground := Ground.guard }], guard := some (5, false) }, { dst := some 175, op := Op.convert 3 71 (Operand.tmp 174), type := 71, pos := "law.go:215", after := #[{ on := 8, ground := Ground.data }, { on := 5, ground := Ground.guard }], guard := some (5, false) }, { dst := some 176, op := Op.binOp BinOp.neq 71 (Operand.tmp 173) (Operand.tmp 175) 71, type := 4, pos := "law.go:215", after := #[{ on := 7, ground := Ground.data }, { on := 9, ground := Ground.data }, { on := 5, ground := Ground.guard }], guard := some (5, false) }, { dst := some 177, op := Op.pick (Operand.tmp 171) (Operand.const (Value.bool true)) (Operand.tmp 176), type := 4, pos := "law.go:215", after := #[{ on := 5, ground := Ground.data }, { on := 10, ground := Ground.data }], guard := none }, { dst := some 178, op := Op.move (Operand.tmp 177), type := 4, pos := "law.go:215", after := #[{ on := 11, ground := Ground.data }, { on := 5, ground := Ground.chain }], guard := none }, { dst := some 179, op := Op.load 24 (Operand.tmp 2), type := 24, pos := "law.go:215", after := #[{ on := 12, ground := Ground.guard }], guard := some (12, false) }, { dst := some 180, op := Op.move (Operand.tmp 5), type := 29, pos := "law.go:215", after := #[{ on := 12, ground := Ground.guard }], guard := some (12, false) }, { dst := some 181, op := Op.nilCheck (Operand.tmp 180), type := 0, pos := "law.go:215", after := #[{ on := 14, ground := Ground.data }, { on := 12, ground := Ground.guard }], guard := some (12, false) }, { dst := some 182, op := Op.fieldAddr 36 (Operand.tmp 181) 1, type := 0, pos := "law.go:215", after := #[{ on := 15, ground := Ground.data }, { on := 12, ground := Ground.guard }], guard := some (12, false) }, { dst := some 183, op := Op.load 33 (Operand.tmp 182), type := 33, pos := "law.go:215", after := #[{ on := 16, ground := Ground.data }, { on := 12, ground := Ground.guard }], guard := some (12, false) }, { dst := some 184, op := Op.call { callee := Callee.value (Operand.func 26), args := #[Operand.tmp 179, Operand.tmp 183], argTypes := #[24, 33] }, type := 4, pos := "law.go:215", after := #[{ on := 13, ground := Ground.data }, { on := 17, ground := Ground.data }, { on := 12, ground := Ground.chain }, { on := 12, ground := Ground.guard }], guard := some (12, false) }, { dst := some 185, op := Op.load 24 (Operand.tmp 2), type := 24, pos := "law.go:215", after := #[{ on := 12, ground := Ground.guard }], guard := some (12, false) }, { dst := some 186, op := Op.move (Operand.tmp 5), type := 29, pos := "law.go:215", after := #[{ on := 12, ground := Ground.guard }], guard := some (12, false) }, { dst := some 187, op := Op.nilCheck (Operand.tmp 186), type := 0, pos := "law.go:215", after := #[{ on := 20, ground := Ground.data }, { on := 12, ground := Ground.guard }], guard := some (12, false) }, { dst := some 188, op := Op.fieldAddr 36 (Operand.tmp 187) 1, type := 0, pos := "law.go:215", after := #[{ on := 21, ground := Ground.data }, { on := 12, ground := Ground.guard }], guard := some (12, false) }, { dst := some 189, op := Op.load 33 (Operand.tmp 188), type := 33, pos := "law.go:215", after := #[{ on := 22, ground := Ground.data }, { on := 12, ground := Ground.guard }], guard := some (12, false) }, { dst := some 190, op := Op.call { callee := Callee.value (Operand.func 27), args := #[Operand.tmp 185, Operand.tmp 189], argTypes := #[24, 33] }, type := 4, pos := "law.go:215", after := #[{ on := 19, ground := Ground.data }, { on := 23, ground := Ground.data }, { on := 18, ground := Ground.chain }, { on := 12, ground := Ground.guard }], guard := some (12, false) }, { dst := some 191, op := Op.binOp BinOp.neq 4 (Operand.tmp 184) (Operand.tmp 190) 4, type := 4, pos := "law.go:215", after := #[{ on := 18, ground := Ground.data }, { on := 24, ground := Ground.data }, { on := 12, ground := Ground.guard }], guard := some (12, false) }, { dst := some 192, op := Op.pick (Operand.tmp 178) (Operand.const (Value.bool true)) (Operand.tmp 191), type := 4, pos := "law.go:215", after := #[{ on := 12, ground := Ground.data }, { on := 25, ground := Ground.data }], guard := none }, { dst := some 193, op := Op.move (Operand.tmp 192), type := 4, pos := "law.go:215", after := #[{ on := 26, ground := Ground.data }, { on := 24, ground := Ground.chain }], guard := none }, { dst := some 194, op := Op.move (Operand.tmp 5), type := 29, pos := "law.go:215", after := #[{ on := 27, ground := Ground.guard }], guard := some (27, false) }, { dst := some 195, op := Op.nilCheck (Operand.tmp 194), type := 0, pos := "law.go:215", after := #[{ on := 28, ground := Ground.data }, { on := 27, ground := Ground.guard }], guard := some (27, false) }, { dst := some 196, op := Op.fieldAddr 36 (Operand.tmp 195) 1, type := 0, pos := "law.go:215", after := #[{ on := 29, ground := Ground.data }, { on := 27, ground := Ground.guard }], guard := some (27, false) }, { dst := some 197, op := Op.fieldAddr 33 (Operand.tmp 196) 4, type := 0, pos := "law.go:215", after := #[{ on := 30, ground := Ground.data }, { on := 27, ground := Ground.guard }], guard := some (27, false) }, { dst := some 198, op := Op.load 3 (Operand.tmp 197), type := 3, pos := "law.go:215", after := #[{ on := 31, ground := Ground.data }, { on := 27, ground := Ground.guard }], guard := some (27, false) }, { dst := some 199, op := Op.call { callee := Callee.value (Operand.func 28), args := #[Operand.tmp 198], argTypes := #[3] }, type := 9, pos := "law.go:215", after := #[{ on := 32, ground := Ground.data }, { on := 27, ground := Ground.chain }, { on := 27, ground := Ground.guard }], guard := some (27, false) }, { dst := some 200, op := Op.move (Operand.tmp 5), type := 29, pos := "law.go:215", after := #[{ on := 27, ground := Ground.guard }], guard := some (27, false) }, { dst := some 201, op := Op.nilCheck (Operand.tmp 200), type := 0, pos := "law.go:215", after := #[{ on := 34, ground := Ground.data }, { on := 27, ground := Ground.guard }], guard := some (27, false) }, { dst := some 202, op := Op.fieldAddr 36 (Operand.tmp 201) 1, type := 0, pos := "law.go:215", after := #[{ on := 35, ground := Ground.data }, { on := 27, ground := Ground.guard }], guard := some (27, false) }, { dst := some 203, op := Op.fieldAddr 33 (Operand.tmp 202) 4, type := 0, pos := "law.go:215", after := #[{ on := 36, ground := Ground.data }, { on := 27, ground := Ground.guard }], guard := some (27, false) }, { dst := some 204, op := Op.load 3 (Operand.tmp 203), type := 3, pos := "law.go:215", after := #[{ on := 37, ground := Ground.data }, { on := 27, ground := Ground.guard }], guard := some (27, false) }, { dst := some 205, op := Op.call { callee := Callee.value (Operand.func 29), args := #[Operand.tmp 204], argTypes := #[3] }, type := 9, pos := "law.go:215", after := #[{ on := 38, ground := Ground.data }, { on := 33, ground := Ground.chain }, { on := 27, ground := Ground.guard }], guard := some (27, false) }, { dst := some 206, op := Op.binOp BinOp.neq 9 (Operand.tmp 199) (Operand.tmp 205) 9, type := 4, pos := "law.go:215", after := #[{ on := 33, ground := Ground.data }, { on := 39, ground := Ground.data }, { on := 27, ground := Ground.guard }], guard := some (27, false) }, { dst := some 207, op := Op.pick (Operand.tmp 193) (Operand.const (Value.bool true)) (Operand.tmp 206), type := 4, pos := "law.go:215", after := #[{ on := 27, ground := Ground.data }, { on := 40, ground := Ground.data }], guard := none }] true).wp Tryd.prog (onlyN K) { tmps := #[u0, u1, .pointer (some ⟨db, 0, none⟩), u3, u4, .pointer (some ⟨pb, 0, none⟩), u6, u7, u8, u9, u10, u11, u12, u13, .int .i64 (A : Nat), .int .i64 (B : Nat), .complex .f64 x y, u17, u18, u19, u20, u21, u22, u23, u24, u25, u26, u27, u28, u29, u30, u31, u32, u33, u34, u35, u36, u37, u38, u39, u40, u41, u42, u43, u44, u45, u46, u47, u48, u49, u50, u51, u52, u53, u54, u55, u56, u57, u58, u59, u60, u61, u62, u63, u64, u65, u66, u67, u68, u69, u70, u71, u72, u73, u74, u75, u76, u77, u78, u79, u80, u81, u82, u83, u84, u85, u86, u87, u88, u89, u90, u91, u92, u93, u94, u95, u96, u97, u98, u99, u100, u101, u102, u103, u104, u105, u106, u107, u108, u109, u110, u111, u112, u113, u114, u115, u116, u117, u118, u119, u120, u121, u122, u123, u124, u125, u126, u127, u128, u129, u130, u131, u132, u133, u134, u135, u136, u137, u138, u139, u140, u141, u142, u143, u144, u145, u146, u147, u148, u149, u150, u151, u152, u153, u154, u155, u156, u157, u158, u159, u160, u161, u162, u163, u164, u165, u166, u167, u168, u169, u170, u171, u172, u173, u174, u175, u176, u177, u178, u179, u180, u181, u182, u183, u184, u185, u186, u187, u188, u189, u190, u191, u192, u193, u194, u195, u196, u197, u198, u199, u200, u201, u202, u203, u204, u205, u206, u207, u208], defers := ds } W := by
  have HH : Hid _ := h
  have KD := Kept.drew (fun _ => False) W
  have HS : Hid (∀ V, Kept (fun _ => False) W.drew V → V.cell? ⟨db, 0, none⟩ = some (d0) ∧ V.cell? ⟨db, 1, none⟩ = some (d1) ∧ V.cell? ⟨pb, 2, none⟩ = some (q0) ∧ V.cell? ⟨pb, 3, none⟩ = some (q1) ∧ V.cell? ⟨pb, 4, none⟩ = some (q2) ∧ V.cell? ⟨pb, 5, none⟩ = some (q3) ∧ V.cell? ⟨pb, 6, none⟩ = some (.int .i64 q4) ∧ V.cell? ⟨pb, 7, none⟩ = some (q5) ∧ V.cell? ⟨pb, 8, none⟩ = some (q6) ∧ V.cell? ⟨pb, 9, none⟩ = some (q7) ∧ V.cell? ⟨pb, 10, none⟩ = some (q8)) := fun V KV => ⟨keepC (KD.and KV) x0 (fun _ _ h => h), keepC (KD.and KV) x1 (fun _ _ h => h), keepC (KD.and KV) x2 (fun _ _ h => h), keepC (KD.and KV) x3 (fun _ _ h => h), keepC (KD.and KV) x4 (fun _ _ h => h), keepC (KD.and KV) x5 (fun _ _ h => h), keepC (KD.and KV) x6 (fun _ _ h => h), keepC (KD.and KV) x7 (fun _ _ h => h), keepC (KD.and KV) x8 (fun _ _ h => h), keepC (KD.and KV) x9 (fun _ _ h => h), keepC (KD.and KV) x10 (fun _ _ h => h)⟩
  have HKD : Hid (Kept (fun _ => False) W W.drew) := KD
  have hS0 := HS.out W.drew (Kept.refl _ _)
  clear h KD x0 x1 x2 x3 x4 x5 x6 x7 x8 x9 x10
  refine wp_region_held_drew (S := fun V => V.cell? ⟨db, 0, none⟩ = some (d0) ∧ V.cell? ⟨db, 1, none⟩ = some (d1) ∧ V.cell? ⟨pb, 2, none⟩ = some (q0) ∧ V.cell? ⟨pb, 3, none⟩ = some (q1) ∧ V.cell? ⟨pb, 4, none⟩ = some (q2) ∧ V.cell? ⟨pb, 5, none⟩ = some (q3) ∧ V.cell? ⟨pb, 6, none⟩ = some (.int .i64 q4) ∧ V.cell? ⟨pb, 7, none⟩ = some (q5) ∧ V.cell? ⟨pb, 8, none⟩ = some (q6) ∧ V.cell? ⟨pb, 9, none⟩ = some (q7) ∧ V.cell? ⟨pb, 10, none⟩ = some (q8)) (by kernel_rfl) hS0 (fun _ => ?_)
  refine wpAnyH_take (i := 0) (oi := { dst := some 166, op := Op.move (Operand.tmp 16), type := 69, pos := "law.go:215", after := #[], guard := none }) (v := ?vv1) rfl (by kernel_rfl) (by kernel_rfl) (by kernel_rfl) (fun _ _ _ h => h) (Or.inl ⟨by rfl, ?hy1⟩) hS0 ?rest1
  case hy1 =>
    intro V hV
    obtain ⟨y0, y1, y2, y3, y4, y5, y6, y7, y8, y9, y10⟩ := hV
    go_simp
    (try simp only [hf1, hf2])
    all_goals rfl
  simp only [Act.put, List.setIfInBounds_toArray, List.set_cons_zero, List.set_cons_succ]
  refine wpAnyH_take (i := 1) (oi := { dst := some 167, op := Op.call { callee := Callee.builtin Builtin.real, args := #[Operand.tmp 166], argTypes := #[69] }, type := 71, pos := "law.go:215", after := #[{ on := 0, ground := Ground.data }], guard := none }) (v := ?vv2) rfl (by kernel_rfl) (by kernel_rfl) (by kernel_rfl) (fun _ _ _ h => h) (Or.inl ⟨by rfl, ?hy2⟩) hS0 ?rest2
  case hy2 =>
    intro V hV
    obtain ⟨y0, y1, y2, y3, y4, y5, y6, y7, y8, y9, y10⟩ := hV
    go_simp
    (try simp only [hf1, hf2])
    all_goals rfl
  simp only [Act.put, List.setIfInBounds_toArray, List.set_cons_zero, List.set_cons_succ]
  refine wpAnyH_take (i := 2) (oi := { dst := some 168, op := Op.move (Operand.tmp 14), type := 3, pos := "law.go:215", after := #[], guard := none }) (v := ?vv3) rfl (by kernel_rfl) (by kernel_rfl) (by kernel_rfl) (fun _ _ _ h => h) (Or.inl ⟨by rfl, ?hy3⟩) hS0 ?rest3
  case hy3 =>
    intro V hV
    obtain ⟨y0, y1, y2, y3, y4, y5, y6, y7, y8, y9, y10⟩ := hV
    go_simp
    (try simp only [hf1, hf2])
    all_goals rfl
  simp only [Act.put, List.setIfInBounds_toArray, List.set_cons_zero, List.set_cons_succ]
  refine wpAnyH_take (i := 3) (oi := { dst := some 169, op := Op.convert 3 71 (Operand.tmp 168), type := 71, pos := "law.go:215", after := #[{ on := 2, ground := Ground.data }], guard := none }) (v := ?vv4) rfl (by kernel_rfl) (by kernel_rfl) (by kernel_rfl) (fun _ _ _ h => h) (Or.inl ⟨by rfl, ?hy4⟩) hS0 ?rest4
  case hy4 =>
    intro V hV
    obtain ⟨y0, y1, y2, y3, y4, y5, y6, y7, y8, y9, y10⟩ := hV
    go_simp
    (try simp only [hf1, hf2])
    all_goals rfl
  simp only [Act.put, List.setIfInBounds_toArray, List.set_cons_zero, List.set_cons_succ]
  refine wpAnyH_take (i := 4) (oi := { dst := some 170, op := Op.binOp BinOp.neq 71 (Operand.tmp 167) (Operand.tmp 169) 71, type := 4, pos := "law.go:215", after := #[{ on := 1, ground := Ground.data }, { on := 3, ground := Ground.data }], guard := none }) (v := ?vv5) rfl (by kernel_rfl) (by kernel_rfl) (by kernel_rfl) (fun _ _ _ h => h) (Or.inl ⟨by rfl, ?hy5⟩) hS0 ?rest5
  case hy5 =>
    intro V hV
    obtain ⟨y0, y1, y2, y3, y4, y5, y6, y7, y8, y9, y10⟩ := hV
    go_simp
    (try simp only [hf1, hf2])
    all_goals rfl
  simp only [Act.put, List.setIfInBounds_toArray, List.set_cons_zero, List.set_cons_succ]
  refine wpAnyH_take (i := 5) (oi := { dst := some 171, op := Op.move (Operand.tmp 170), type := 4, pos := "law.go:215", after := #[{ on := 4, ground := Ground.data }], guard := none }) (v := ?vv6) rfl (by kernel_rfl) (by kernel_rfl) (by kernel_rfl) (fun _ _ _ h => h) (Or.inl ⟨by rfl, ?hy6⟩) hS0 ?rest6
  case hy6 =>
    intro V hV
    obtain ⟨y0, y1, y2, y3, y4, y5, y6, y7, y8, y9, y10⟩ := hV
    go_simp
    (try simp only [hf1, hf2])
    all_goals rfl
  simp only [Act.put, List.setIfInBounds_toArray, List.set_cons_zero, List.set_cons_succ]
  refine wpAnyH_take (i := 6) (oi := { dst := some 172, op := Op.move (Operand.tmp 16), type := 69, pos := "law.go:215", after := #[{ on := 5, ground := Ground.guard }], guard := some (5, false) }) (v := ?vv7) rfl (by kernel_rfl) (by kernel_rfl) (by kernel_rfl) (fun _ _ _ h => h) (Or.inl ⟨by rfl, ?hy7⟩) hS0 ?rest7
  case hy7 =>
    intro V hV
    obtain ⟨y0, y1, y2, y3, y4, y5, y6, y7, y8, y9, y10⟩ := hV
    go_simp
    (try simp only [hf1, hf2])
    all_goals rfl
  simp only [Act.put, List.setIfInBounds_toArray, List.set_cons_zero, List.set_cons_succ]
  refine wpAnyH_take (i := 7) (oi := { dst := some 173, op := Op.call { callee := Callee.builtin Builtin.imag, args := #[Operand.tmp 172], argTypes := #[69] }, type := 71, pos := "law.go:215", after := #[{ on := 6, ground := Ground.data }, { on := 5, ground := Ground.guard }], guard := some (5, false) }) (v := ?vv8) rfl (by kernel_rfl) (by kernel_rfl) (by kernel_rfl) (fun _ _ _ h => h) (Or.inl ⟨by rfl, ?hy8⟩) hS0 ?rest8
  case hy8 =>
    intro V hV
    obtain ⟨y0, y1, y2, y3, y4, y5, y6, y7, y8, y9, y10⟩ := hV
    go_simp
    (try simp only [hf1, hf2])
    all_goals rfl
  simp only [Act.put, List.setIfInBounds_toArray, List.set_cons_zero, List.set_cons_succ]
  refine wpAnyH_take (i := 8) (oi := { dst := some 174, op := Op.move (Operand.tmp 15), type := 3, pos := "law.go:215", after := #[{ on := 5, ground := Ground.guard }], guard := some (5, false) }) (v := ?vv9) rfl (by kernel_rfl) (by kernel_rfl) (by kernel_rfl) (fun _ _ _ h => h) (Or.inl ⟨by rfl, ?hy9⟩) hS0 ?rest9
  case hy9 =>
    intro V hV
    obtain ⟨y0, y1, y2, y3, y4, y5, y6, y7, y8, y9, y10⟩ := hV
    go_simp
    (try simp only [hf1, hf2])
    all_goals rfl
  simp only [Act.put, List.setIfInBounds_toArray, List.set_cons_zero, List.set_cons_succ]
  refine wpAnyH_take (i := 9) (oi := { dst := some 175, op := Op.convert 3 71 (Operand.tmp 174), type := 71, pos := "law.go:215", after := #[{ on := 8, ground := Ground.data }, { on := 5, ground := Ground.guard }], guard := some (5, false) }) (v := ?vv10) rfl (by kernel_rfl) (by kernel_rfl) (by kernel_rfl) (fun _ _ _ h => h) (Or.inl ⟨by rfl, ?hy10⟩) hS0 ?rest10
  case hy10 =>
    intro V hV
    obtain ⟨y0, y1, y2, y3, y4, y5, y6, y7, y8, y9, y10⟩ := hV
    go_simp
    (try simp only [hf1, hf2])
    all_goals rfl
  simp only [Act.put, List.setIfInBounds_toArray, List.set_cons_zero, List.set_cons_succ]
  refine wpAnyH_take (i := 10) (oi := { dst := some 176, op := Op.binOp BinOp.neq 71 (Operand.tmp 173) (Operand.tmp 175) 71, type := 4, pos := "law.go:215", after := #[{ on := 7, ground := Ground.data }, { on := 9, ground := Ground.data }, { on := 5, ground := Ground.guard }], guard := some (5, false) }) (v := ?vv11) rfl (by kernel_rfl) (by kernel_rfl) (by kernel_rfl) (fun _ _ _ h => h) (Or.inl ⟨by rfl, ?hy11⟩) hS0 ?rest11
  case hy11 =>
    intro V hV
    obtain ⟨y0, y1, y2, y3, y4, y5, y6, y7, y8, y9, y10⟩ := hV
    go_simp
    (try simp only [hf1, hf2])
    all_goals rfl
  simp only [Act.put, List.setIfInBounds_toArray, List.set_cons_zero, List.set_cons_succ]
  refine wpAnyH_take (i := 11) (oi := { dst := some 177, op := Op.pick (Operand.tmp 171) (Operand.const (Value.bool true)) (Operand.tmp 176), type := 4, pos := "law.go:215", after := #[{ on := 5, ground := Ground.data }, { on := 10, ground := Ground.data }], guard := none }) (v := ?vv12) rfl (by kernel_rfl) (by kernel_rfl) (by kernel_rfl) (fun _ _ _ h => h) (Or.inl ⟨by rfl, ?hy12⟩) hS0 ?rest12
  case hy12 =>
    intro V hV
    obtain ⟨y0, y1, y2, y3, y4, y5, y6, y7, y8, y9, y10⟩ := hV
    go_simp
    (try simp only [hf1, hf2])
    all_goals rfl
  simp only [Act.put, List.setIfInBounds_toArray, List.set_cons_zero, List.set_cons_succ]
  refine wpAnyH_take (i := 12) (oi := { dst := some 178, op := Op.move (Operand.tmp 177), type := 4, pos := "law.go:215", after := #[{ on := 11, ground := Ground.data }, { on := 5, ground := Ground.chain }], guard := none }) (v := ?vv13) rfl (by kernel_rfl) (by kernel_rfl) (by kernel_rfl) (fun _ _ _ h => h) (Or.inl ⟨by rfl, ?hy13⟩) hS0 ?rest13
  case hy13 =>
    intro V hV
    obtain ⟨y0, y1, y2, y3, y4, y5, y6, y7, y8, y9, y10⟩ := hV
    go_simp
    (try simp only [hf1, hf2])
    all_goals rfl
  simp only [Act.put, List.setIfInBounds_toArray, List.set_cons_zero, List.set_cons_succ]
  refine wpAnyH_take (i := 13) (oi := { dst := some 179, op := Op.load 24 (Operand.tmp 2), type := 24, pos := "law.go:215", after := #[{ on := 12, ground := Ground.guard }], guard := some (12, false) }) (v := ?vv14) rfl (by kernel_rfl) (by kernel_rfl) (by kernel_rfl) (fun _ _ _ h => h) (Or.inl ⟨by rfl, ?hy14⟩) hS0 ?rest14
  case hy14 =>
    intro V hV
    obtain ⟨y0, y1, y2, y3, y4, y5, y6, y7, y8, y9, y10⟩ := hV
    go_simp
    (try simp only [hf1, hf2])
    all_goals rfl
  simp only [Act.put, List.setIfInBounds_toArray, List.set_cons_zero, List.set_cons_succ]
  refine wpAnyH_take (i := 14) (oi := { dst := some 180, op := Op.move (Operand.tmp 5), type := 29, pos := "law.go:215", after := #[{ on := 12, ground := Ground.guard }], guard := some (12, false) }) (v := ?vv15) rfl (by kernel_rfl) (by kernel_rfl) (by kernel_rfl) (fun _ _ _ h => h) (Or.inl ⟨by rfl, ?hy15⟩) hS0 ?rest15
  case hy15 =>
    intro V hV
    obtain ⟨y0, y1, y2, y3, y4, y5, y6, y7, y8, y9, y10⟩ := hV
    go_simp
    (try simp only [hf1, hf2])
    all_goals rfl
  simp only [Act.put, List.setIfInBounds_toArray, List.set_cons_zero, List.set_cons_succ]
  refine wpAnyH_take (i := 15) (oi := { dst := some 181, op := Op.nilCheck (Operand.tmp 180), type := 0, pos := "law.go:215", after := #[{ on := 14, ground := Ground.data }, { on := 12, ground := Ground.guard }], guard := some (12, false) }) (v := ?vv16) rfl (by kernel_rfl) (by kernel_rfl) (by kernel_rfl) (fun _ _ _ h => h) (Or.inl ⟨by rfl, ?hy16⟩) hS0 ?rest16
  case hy16 =>
    intro V hV
    obtain ⟨y0, y1, y2, y3, y4, y5, y6, y7, y8, y9, y10⟩ := hV
    go_simp
    (try simp only [hf1, hf2])
    all_goals rfl
  simp only [Act.put, List.setIfInBounds_toArray, List.set_cons_zero, List.set_cons_succ]
  refine wpAnyH_take (i := 16) (oi := { dst := some 182, op := Op.fieldAddr 36 (Operand.tmp 181) 1, type := 0, pos := "law.go:215", after := #[{ on := 15, ground := Ground.data }, { on := 12, ground := Ground.guard }], guard := some (12, false) }) (v := ?vv17) rfl (by kernel_rfl) (by kernel_rfl) (by kernel_rfl) (fun _ _ _ h => h) (Or.inl ⟨by rfl, ?hy17⟩) hS0 ?rest17
  case hy17 =>
    intro V hV
    obtain ⟨y0, y1, y2, y3, y4, y5, y6, y7, y8, y9, y10⟩ := hV
    go_simp
    (try simp only [hf1, hf2])
    all_goals rfl
  simp only [Act.put, List.setIfInBounds_toArray, List.set_cons_zero, List.set_cons_succ]
  refine wpAnyH_take (i := 17) (oi := { dst := some 183, op := Op.load 33 (Operand.tmp 182), type := 33, pos := "law.go:215", after := #[{ on := 16, ground := Ground.data }, { on := 12, ground := Ground.guard }], guard := some (12, false) }) (v := ?vv18) rfl (by kernel_rfl) (by kernel_rfl) (by kernel_rfl) (fun _ _ _ h => h) (Or.inl ⟨by rfl, ?hy18⟩) hS0 ?rest18
  case hy18 =>
    intro V hV
    obtain ⟨y0, y1, y2, y3, y4, y5, y6, y7, y8, y9, y10⟩ := hV
    go_simp
    (try simp only [hf1, hf2])
    all_goals rfl
  simp only [Act.put, List.setIfInBounds_toArray, List.set_cons_zero, List.set_cons_succ]
  refine wpAnyH_take (i := 19) (oi := { dst := some 185, op := Op.load 24 (Operand.tmp 2), type := 24, pos := "law.go:215", after := #[{ on := 12, ground := Ground.guard }], guard := some (12, false) }) (v := ?vv19) rfl (by kernel_rfl) (by kernel_rfl) (by kernel_rfl) (fun _ _ _ h => h) (Or.inl ⟨by rfl, ?hy19⟩) hS0 ?rest19
  case hy19 =>
    intro V hV
    obtain ⟨y0, y1, y2, y3, y4, y5, y6, y7, y8, y9, y10⟩ := hV
    go_simp
    (try simp only [hf1, hf2])
    all_goals rfl
  simp only [Act.put, List.setIfInBounds_toArray, List.set_cons_zero, List.set_cons_succ]
  refine wpAnyH_take (i := 20) (oi := { dst := some 186, op := Op.move (Operand.tmp 5), type := 29, pos := "law.go:215", after := #[{ on := 12, ground := Ground.guard }], guard := some (12, false) }) (v := ?vv20) rfl (by kernel_rfl) (by kernel_rfl) (by kernel_rfl) (fun _ _ _ h => h) (Or.inl ⟨by rfl, ?hy20⟩) hS0 ?rest20
  case hy20 =>
    intro V hV
    obtain ⟨y0, y1, y2, y3, y4, y5, y6, y7, y8, y9, y10⟩ := hV
    go_simp
    (try simp only [hf1, hf2])
    all_goals rfl
  simp only [Act.put, List.setIfInBounds_toArray, List.set_cons_zero, List.set_cons_succ]
  refine wpAnyH_take (i := 21) (oi := { dst := some 187, op := Op.nilCheck (Operand.tmp 186), type := 0, pos := "law.go:215", after := #[{ on := 20, ground := Ground.data }, { on := 12, ground := Ground.guard }], guard := some (12, false) }) (v := ?vv21) rfl (by kernel_rfl) (by kernel_rfl) (by kernel_rfl) (fun _ _ _ h => h) (Or.inl ⟨by rfl, ?hy21⟩) hS0 ?rest21
  case hy21 =>
    intro V hV
    obtain ⟨y0, y1, y2, y3, y4, y5, y6, y7, y8, y9, y10⟩ := hV
    go_simp
    (try simp only [hf1, hf2])
    all_goals rfl
  simp only [Act.put, List.setIfInBounds_toArray, List.set_cons_zero, List.set_cons_succ]
  refine wpAnyH_take (i := 22) (oi := { dst := some 188, op := Op.fieldAddr 36 (Operand.tmp 187) 1, type := 0, pos := "law.go:215", after := #[{ on := 21, ground := Ground.data }, { on := 12, ground := Ground.guard }], guard := some (12, false) }) (v := ?vv22) rfl (by kernel_rfl) (by kernel_rfl) (by kernel_rfl) (fun _ _ _ h => h) (Or.inl ⟨by rfl, ?hy22⟩) hS0 ?rest22
  case hy22 =>
    intro V hV
    obtain ⟨y0, y1, y2, y3, y4, y5, y6, y7, y8, y9, y10⟩ := hV
    go_simp
    (try simp only [hf1, hf2])
    all_goals rfl
  simp only [Act.put, List.setIfInBounds_toArray, List.set_cons_zero, List.set_cons_succ]
  refine wpAnyH_take (i := 23) (oi := { dst := some 189, op := Op.load 33 (Operand.tmp 188), type := 33, pos := "law.go:215", after := #[{ on := 22, ground := Ground.data }, { on := 12, ground := Ground.guard }], guard := some (12, false) }) (v := ?vv23) rfl (by kernel_rfl) (by kernel_rfl) (by kernel_rfl) (fun _ _ _ h => h) (Or.inl ⟨by rfl, ?hy23⟩) hS0 ?rest23
  case hy23 =>
    intro V hV
    obtain ⟨y0, y1, y2, y3, y4, y5, y6, y7, y8, y9, y10⟩ := hV
    go_simp
    (try simp only [hf1, hf2])
    all_goals rfl
  simp only [Act.put, List.setIfInBounds_toArray, List.set_cons_zero, List.set_cons_succ]
  refine wpAnyH_ready (rs := [18]) (by kernel_rfl) (by simp) (AllReadyH.cons (o := { dst := some 184, op := Op.call { callee := Callee.value (Operand.func 26), args := #[Operand.tmp 179, Operand.tmp 183], argTypes := #[24, 33] }, type := 4, pos := "law.go:215", after := #[{ on := 13, ground := Ground.data }, { on := 17, ground := Ground.data }, { on := 12, ground := Ground.chain }, { on := 12, ground := Ground.guard }], guard := some (12, false) }) rfl (fun K' hK => ?_) AllReadyH.nil)
  refine step_call2 _ (by rfl) 26 _ _ _ _ (by rfl) (enters_of Tryd.func26 (by kernel_rfl) rfl) _ _ (by rfl) (by rfl) (hO1 _ (Kept.refl (fun _ => False) W.drew)) ?_
  rintro e w21 ⟨rfl, Kw21⟩
  have Lw21 := ((Kept.refl (fun _ => False) W.drew)).and Kw21
  refine ⟨_, rfl, ?_⟩
  refine hK.out _ _ (HS.out _ Lw21) (fun _ => ?_)
  clear hK K'
  try (simp only [Act.put, List.setIfInBounds_toArray, List.set_cons_zero, List.set_cons_succ])
  refine wpAnyH_ready (rs := [24]) (by kernel_rfl) (by simp) (AllReadyH.cons (o := { dst := some 190, op := Op.call { callee := Callee.value (Operand.func 27), args := #[Operand.tmp 185, Operand.tmp 189], argTypes := #[24, 33] }, type := 4, pos := "law.go:215", after := #[{ on := 19, ground := Ground.data }, { on := 23, ground := Ground.data }, { on := 18, ground := Ground.chain }, { on := 12, ground := Ground.guard }], guard := some (12, false) }) rfl (fun K' hK => ?_) AllReadyH.nil)
  refine step_call2 _ (by rfl) 27 _ _ _ _ (by rfl) (enters_of Tryd.func27 (by kernel_rfl) rfl) _ _ (by rfl) (by rfl) (hO2 _ Lw21) ?_
  rintro e w22 ⟨rfl, Kw22⟩
  have Lw22 := (Lw21).and Kw22
  refine ⟨_, rfl, ?_⟩
  refine hK.out _ _ (HS.out _ Lw22) (fun _ => ?_)
  clear hK K'
  try (simp only [Act.put, List.setIfInBounds_toArray, List.set_cons_zero, List.set_cons_succ])
  refine wpAnyH_take (i := 25) (oi := { dst := some 191, op := Op.binOp BinOp.neq 4 (Operand.tmp 184) (Operand.tmp 190) 4, type := 4, pos := "law.go:215", after := #[{ on := 18, ground := Ground.data }, { on := 24, ground := Ground.data }, { on := 12, ground := Ground.guard }], guard := some (12, false) }) (v := ?vv24) rfl (by kernel_rfl) (by kernel_rfl) (by kernel_rfl) (fun _ _ _ h => h) (Or.inl ⟨by rfl, ?hy24⟩) (HS.out _ Lw22) ?rest24
  case hy24 =>
    intro V hV
    obtain ⟨y0, y1, y2, y3, y4, y5, y6, y7, y8, y9, y10⟩ := hV
    go_simp
    (try simp only [hf1, hf2])
    all_goals rfl
  simp only [Act.put, List.setIfInBounds_toArray, List.set_cons_zero, List.set_cons_succ]
  refine wpAnyH_take (i := 26) (oi := { dst := some 192, op := Op.pick (Operand.tmp 178) (Operand.const (Value.bool true)) (Operand.tmp 191), type := 4, pos := "law.go:215", after := #[{ on := 12, ground := Ground.data }, { on := 25, ground := Ground.data }], guard := none }) (v := ?vv25) rfl (by kernel_rfl) (by kernel_rfl) (by kernel_rfl) (fun _ _ _ h => h) (Or.inl ⟨by rfl, ?hy25⟩) (HS.out _ Lw22) ?rest25
  case hy25 =>
    intro V hV
    obtain ⟨y0, y1, y2, y3, y4, y5, y6, y7, y8, y9, y10⟩ := hV
    go_simp
    (try simp only [hf1, hf2])
    all_goals rfl
  simp only [Act.put, List.setIfInBounds_toArray, List.set_cons_zero, List.set_cons_succ]
  refine wpAnyH_take (i := 27) (oi := { dst := some 193, op := Op.move (Operand.tmp 192), type := 4, pos := "law.go:215", after := #[{ on := 26, ground := Ground.data }, { on := 24, ground := Ground.chain }], guard := none }) (v := ?vv26) rfl (by kernel_rfl) (by kernel_rfl) (by kernel_rfl) (fun _ _ _ h => h) (Or.inl ⟨by rfl, ?hy26⟩) (HS.out _ Lw22) ?rest26
  case hy26 =>
    intro V hV
    obtain ⟨y0, y1, y2, y3, y4, y5, y6, y7, y8, y9, y10⟩ := hV
    go_simp
    (try simp only [hf1, hf2])
    all_goals rfl
  simp only [Act.put, List.setIfInBounds_toArray, List.set_cons_zero, List.set_cons_succ]
  refine wpAnyH_take (i := 28) (oi := { dst := some 194, op := Op.move (Operand.tmp 5), type := 29, pos := "law.go:215", after := #[{ on := 27, ground := Ground.guard }], guard := some (27, false) }) (v := ?vv27) rfl (by kernel_rfl) (by kernel_rfl) (by kernel_rfl) (fun _ _ _ h => h) (Or.inl ⟨by rfl, ?hy27⟩) (HS.out _ Lw22) ?rest27
  case hy27 =>
    intro V hV
    obtain ⟨y0, y1, y2, y3, y4, y5, y6, y7, y8, y9, y10⟩ := hV
    go_simp
    (try simp only [hf1, hf2])
    all_goals rfl
  simp only [Act.put, List.setIfInBounds_toArray, List.set_cons_zero, List.set_cons_succ]
  refine wpAnyH_take (i := 29) (oi := { dst := some 195, op := Op.nilCheck (Operand.tmp 194), type := 0, pos := "law.go:215", after := #[{ on := 28, ground := Ground.data }, { on := 27, ground := Ground.guard }], guard := some (27, false) }) (v := ?vv28) rfl (by kernel_rfl) (by kernel_rfl) (by kernel_rfl) (fun _ _ _ h => h) (Or.inl ⟨by rfl, ?hy28⟩) (HS.out _ Lw22) ?rest28
  case hy28 =>
    intro V hV
    obtain ⟨y0, y1, y2, y3, y4, y5, y6, y7, y8, y9, y10⟩ := hV
    go_simp
    (try simp only [hf1, hf2])
    all_goals rfl
  simp only [Act.put, List.setIfInBounds_toArray, List.set_cons_zero, List.set_cons_succ]
  refine wpAnyH_take (i := 30) (oi := { dst := some 196, op := Op.fieldAddr 36 (Operand.tmp 195) 1, type := 0, pos := "law.go:215", after := #[{ on := 29, ground := Ground.data }, { on := 27, ground := Ground.guard }], guard := some (27, false) }) (v := ?vv29) rfl (by kernel_rfl) (by kernel_rfl) (by kernel_rfl) (fun _ _ _ h => h) (Or.inl ⟨by rfl, ?hy29⟩) (HS.out _ Lw22) ?rest29
  case hy29 =>
    intro V hV
    obtain ⟨y0, y1, y2, y3, y4, y5, y6, y7, y8, y9, y10⟩ := hV
    go_simp
    (try simp only [hf1, hf2])
    all_goals rfl
  simp only [Act.put, List.setIfInBounds_toArray, List.set_cons_zero, List.set_cons_succ]
  refine wpAnyH_take (i := 31) (oi := { dst := some 197, op := Op.fieldAddr 33 (Operand.tmp 196) 4, type := 0, pos := "law.go:215", after := #[{ on := 30, ground := Ground.data }, { on := 27, ground := Ground.guard }], guard := some (27, false) }) (v := ?vv30) rfl (by kernel_rfl) (by kernel_rfl) (by kernel_rfl) (fun _ _ _ h => h) (Or.inl ⟨by rfl, ?hy30⟩) (HS.out _ Lw22) ?rest30
  case hy30 =>
    intro V hV
    obtain ⟨y0, y1, y2, y3, y4, y5, y6, y7, y8, y9, y10⟩ := hV
    go_simp
    (try simp only [hf1, hf2])
    all_goals rfl
  simp only [Act.put, List.setIfInBounds_toArray, List.set_cons_zero, List.set_cons_succ]
  refine wpAnyH_take (i := 32) (oi := { dst := some 198, op := Op.load 3 (Operand.tmp 197), type := 3, pos := "law.go:215", after := #[{ on := 31, ground := Ground.data }, { on := 27, ground := Ground.guard }], guard := some (27, false) }) (v := ?vv31) rfl (by kernel_rfl) (by kernel_rfl) (by kernel_rfl) (fun _ _ _ h => h) (Or.inl ⟨by rfl, ?hy31⟩) (HS.out _ Lw22) ?rest31
  case hy31 =>
    intro V hV
    obtain ⟨y0, y1, y2, y3, y4, y5, y6, y7, y8, y9, y10⟩ := hV
    go_simp
    (try simp only [hf1, hf2])
    all_goals rfl
  simp only [Act.put, List.setIfInBounds_toArray, List.set_cons_zero, List.set_cons_succ]
  refine wpAnyH_take (i := 34) (oi := { dst := some 200, op := Op.move (Operand.tmp 5), type := 29, pos := "law.go:215", after := #[{ on := 27, ground := Ground.guard }], guard := some (27, false) }) (v := ?vv32) rfl (by kernel_rfl) (by kernel_rfl) (by kernel_rfl) (fun _ _ _ h => h) (Or.inl ⟨by rfl, ?hy32⟩) (HS.out _ Lw22) ?rest32
  case hy32 =>
    intro V hV
    obtain ⟨y0, y1, y2, y3, y4, y5, y6, y7, y8, y9, y10⟩ := hV
    go_simp
    (try simp only [hf1, hf2])
    all_goals rfl
  simp only [Act.put, List.setIfInBounds_toArray, List.set_cons_zero, List.set_cons_succ]
  refine wpAnyH_take (i := 35) (oi := { dst := some 201, op := Op.nilCheck (Operand.tmp 200), type := 0, pos := "law.go:215", after := #[{ on := 34, ground := Ground.data }, { on := 27, ground := Ground.guard }], guard := some (27, false) }) (v := ?vv33) rfl (by kernel_rfl) (by kernel_rfl) (by kernel_rfl) (fun _ _ _ h => h) (Or.inl ⟨by rfl, ?hy33⟩) (HS.out _ Lw22) ?rest33
  case hy33 =>
    intro V hV
    obtain ⟨y0, y1, y2, y3, y4, y5, y6, y7, y8, y9, y10⟩ := hV
    go_simp
    (try simp only [hf1, hf2])
    all_goals rfl
  simp only [Act.put, List.setIfInBounds_toArray, List.set_cons_zero, List.set_cons_succ]
  refine wpAnyH_take (i := 36) (oi := { dst := some 202, op := Op.fieldAddr 36 (Operand.tmp 201) 1, type := 0, pos := "law.go:215", after := #[{ on := 35, ground := Ground.data }, { on := 27, ground := Ground.guard }], guard := some (27, false) }) (v := ?vv34) rfl (by kernel_rfl) (by kernel_rfl) (by kernel_rfl) (fun _ _ _ h => h) (Or.inl ⟨by rfl, ?hy34⟩) (HS.out _ Lw22) ?rest34
  case hy34 =>
    intro V hV
    obtain ⟨y0, y1, y2, y3, y4, y5, y6, y7, y8, y9, y10⟩ := hV
    go_simp
    (try simp only [hf1, hf2])
    all_goals rfl
  simp only [Act.put, List.setIfInBounds_toArray, List.set_cons_zero, List.set_cons_succ]
  refine wpAnyH_take (i := 37) (oi := { dst := some 203, op := Op.fieldAddr 33 (Operand.tmp 202) 4, type := 0, pos := "law.go:215", after := #[{ on := 36, ground := Ground.data }, { on := 27, ground := Ground.guard }], guard := some (27, false) }) (v := ?vv35) rfl (by kernel_rfl) (by kernel_rfl) (by kernel_rfl) (fun _ _ _ h => h) (Or.inl ⟨by rfl, ?hy35⟩) (HS.out _ Lw22) ?rest35
  case hy35 =>
    intro V hV
    obtain ⟨y0, y1, y2, y3, y4, y5, y6, y7, y8, y9, y10⟩ := hV
    go_simp
    (try simp only [hf1, hf2])
    all_goals rfl
  simp only [Act.put, List.setIfInBounds_toArray, List.set_cons_zero, List.set_cons_succ]
  refine wpAnyH_take (i := 38) (oi := { dst := some 204, op := Op.load 3 (Operand.tmp 203), type := 3, pos := "law.go:215", after := #[{ on := 37, ground := Ground.data }, { on := 27, ground := Ground.guard }], guard := some (27, false) }) (v := ?vv36) rfl (by kernel_rfl) (by kernel_rfl) (by kernel_rfl) (fun _ _ _ h => h) (Or.inl ⟨by rfl, ?hy36⟩) (HS.out _ Lw22) ?rest36
  case hy36 =>
    intro V hV
    obtain ⟨y0, y1, y2, y3, y4, y5, y6, y7, y8, y9, y10⟩ := hV
    go_simp
    (try simp only [hf1, hf2])
    all_goals rfl
  simp only [Act.put, List.setIfInBounds_toArray, List.set_cons_zero, List.set_cons_succ]
  refine wpAnyH_ready (rs := [33]) (by kernel_rfl) (by simp) (AllReadyH.cons (o := { dst := some 199, op := Op.call { callee := Callee.value (Operand.func 28), args := #[Operand.tmp 198], argTypes := #[3] }, type := 9, pos := "law.go:215", after := #[{ on := 32, ground := Ground.data }, { on := 27, ground := Ground.chain }, { on := 27, ground := Ground.guard }], guard := some (27, false) }) rfl (fun K' hK => ?_) AllReadyH.nil)
  refine step_call1g _ (by rfl) 28 _ _ (by rfl) (enters_of Tryd.func28 (by kernel_rfl) rfl) _ (by rfl) (hW1 _ Lw22) ?_
  rintro e w23 ⟨rfl, Kw23⟩
  have Lw23 := (Lw22).and Kw23
  refine ⟨_, rfl, ?_⟩
  refine hK.out _ _ (HS.out _ Lw23) (fun _ => ?_)
  clear hK K'
  try (simp only [Act.put, List.setIfInBounds_toArray, List.set_cons_zero, List.set_cons_succ])
  refine wpAnyH_ready (rs := [39]) (by kernel_rfl) (by simp) (AllReadyH.cons (o := { dst := some 205, op := Op.call { callee := Callee.value (Operand.func 29), args := #[Operand.tmp 204], argTypes := #[3] }, type := 9, pos := "law.go:215", after := #[{ on := 38, ground := Ground.data }, { on := 33, ground := Ground.chain }, { on := 27, ground := Ground.guard }], guard := some (27, false) }) rfl (fun K' hK => ?_) AllReadyH.nil)
  refine step_call1g _ (by rfl) 29 _ _ (by rfl) (enters_of Tryd.func29 (by kernel_rfl) rfl) _ (by rfl) (hW2 _ Lw23) ?_
  rintro e w24 ⟨rfl, Kw24⟩
  have Lw24 := (Lw23).and Kw24
  refine ⟨_, rfl, ?_⟩
  refine hK.out _ _ (HS.out _ Lw24) (fun _ => ?_)
  clear hK K'
  try (simp only [Act.put, List.setIfInBounds_toArray, List.set_cons_zero, List.set_cons_succ])
  refine wpAnyH_take (i := 40) (oi := { dst := some 206, op := Op.binOp BinOp.neq 9 (Operand.tmp 199) (Operand.tmp 205) 9, type := 4, pos := "law.go:215", after := #[{ on := 33, ground := Ground.data }, { on := 39, ground := Ground.data }, { on := 27, ground := Ground.guard }], guard := some (27, false) }) (v := ?vv37) rfl (by kernel_rfl) (by kernel_rfl) (by kernel_rfl) (fun _ _ _ h => h) (Or.inl ⟨by rfl, ?hy37⟩) (HS.out _ Lw24) ?rest37
  case hy37 =>
    intro V hV
    obtain ⟨y0, y1, y2, y3, y4, y5, y6, y7, y8, y9, y10⟩ := hV
    go_simp
    (try simp only [hf1, hf2])
    all_goals rfl
  simp only [Act.put, List.setIfInBounds_toArray, List.set_cons_zero, List.set_cons_succ]
  refine wpAnyH_take (i := 41) (oi := { dst := some 207, op := Op.pick (Operand.tmp 193) (Operand.const (Value.bool true)) (Operand.tmp 206), type := 4, pos := "law.go:215", after := #[{ on := 27, ground := Ground.data }, { on := 40, ground := Ground.data }], guard := none }) (v := ?vv38) rfl (by kernel_rfl) (by kernel_rfl) (by kernel_rfl) (fun _ _ _ h => h) (Or.inl ⟨by rfl, ?hy38⟩) (HS.out _ Lw24) ?rest38
  case hy38 =>
    intro V hV
    obtain ⟨y0, y1, y2, y3, y4, y5, y6, y7, y8, y9, y10⟩ := hV
    go_simp
    (try simp only [hf1, hf2])
    all_goals rfl
  simp only [Act.put, List.setIfInBounds_toArray, List.set_cons_zero, List.set_cons_succ]
  refine wpAnyH_done (by kernel_rfl) ?_ _
  exact HH.out _ _ _ _ _ _ _ _ _ _ _ _ _ _ _ _ _ _ _ _ _ _ _ _ _ _ _ _ _ _ _ _ _ _ _ _ _ _ _ _ _ _ (HKD.out.and (Lw24))

end Go.Proofs.YtfjekjbkifmpfaaDoor.Rf

/-
  HistoryMoves holds for every definition and inputs: the law's call returns true and leaves its arguments as they were. No condition; the listed variable is tied to the program's text.
-/
namespace Go.Proofs.YtfjekjbkifmpfaaDoor.Rf
open Go.ChangeShapes Go.WideShapes Go.ChangeAt Go.RowKit Go.Deep

/-- Is some node ready or busy? -/
def movB (l : List Ns) : Bool := l.any (fun y => y.status == 1 || y.status == 2)

theorem movB_next {l : List Ns} {k : Nat} (h : k < l.length) : movB (l.take (k + 1)) = (movB (l.take k) || ((l[k]).status == 1 || (l[k]).status == 2)) := by
  unfold movB
  rw [List.take_succ_eq_append_getElem h, List.any_append]
  simp

theorem changeP_run {nm : ByteArray} {ns : List Nd} {s s' : St} {e : Ev} (h : changeP nm ns s e = some s') (hk : e.kind ≠ 1) : s'.status ≠ 0 := by
  have h1 := (change_cases h hk).1
  unfold changeP at h
  rw [if_neg (by rw [if_neg hk]; simp [h1]), if_neg hk] at h
  split at h
  · cases h
    show s.status ≠ 0
    omega
  split at h
  · split at h
    · rename_i hz
      cases h
      show e.num ≠ 0
      omega
    · cases h
  · cases hc : changeNodeP ns s e with
    | none => rw [hc] at h; cases h
    | some t =>
      rw [hc] at h
      cases h
      unfold changeNodeP at hc
      split at hc
      · cases hc
      split at hc
      · cases hc
      split at hc
      · cases hc
      cases hc
      show s.status ≠ 0
      omega

theorem told_run {nm : ByteArray} {ns : List Nd} {r r' : Rn} (h : Tolds nm ns r r') : r.st.status ≠ 0 → r'.st.status ≠ 0 := by
  induction h with
  | none => exact fun h => h
  | @tell r r' e ts he _ ih =>
    intro h0
    refine ih ?_
    unfold tellP
    cases hc : changeP nm ns r.st e with
    | none => exact h0
    | some s' => exact changeP_run hc he

/-- A state that has not begun has no nodes; what is over stays as it is. -/
theorem play_stays {nm : ByteArray} {ns : List Nd} (T : Taken nm ns) {s : St} (M : Met ns s) (h0 : s.status = 0 → s.nodes = []) (q : Inp) : ((playS nm ns s q).status = 0 → (playS nm ns s q).nodes = []) ∧ ∀ (k : Nat) (x : Ns), s.nodes[k]? = some x → x.status = 3 → (playS nm ns s q).nodes[k]? = some x := by
  unfold playS
  split
  · rename_i he
    by_cases hq : q.kind = 1
    · by_cases hs : s.status = 0
      · refine ⟨fun h => absurd h ?_, fun k x hx => by rw [h0 hs] at hx; cases hx⟩
        unfold stepP doP
        rw [if_pos hq]
        unfold startP
        rw [if_neg (by show ¬ s.status ≠ 0; simp [hs])]
        refine told_run goOnP_told ?_
        have hc : changeP nm ns { s with id := q.name } ⟨1, q.pnode, q.par, 0⟩ = some { s with id := q.name, status := 1, dfn := nm, par := q.par, pnode := q.pnode, nodes := List.replicate ns.length ⟨0, 0, ⟨#[]⟩⟩, events := s.events + 1 } := by
          unfold changeP
          dsimp only
          rw [if_neg (c := s.status ≠ (if (1 : Int) = 1 then 0 else 1)) (by rw [hs]; decide), if_pos (c := (1 : Int) = 1) rfl]
        unfold tellP
        show (match changeP nm ns { s with id := q.name } ⟨1, q.pnode, q.par, 0⟩ with | none => _ | some t => _ : Rn).st.status ≠ 0
        rw [hc]
        show (1 : Int) ≠ 0
        decide
      · exfalso
        unfold stepP doP at he
        rw [if_pos hq] at he
        unfold startP at he
        rw [if_pos (by show s.status ≠ 0; exact hs)] at he
        exact absurd (show (7 : Int) = 0 from he) (by decide)
    · have hs : s.status ≠ 0 := fun hs => by
        unfold stepP doP at he
        rw [if_neg hq, if_pos (by show s.status = 0; exact hs)] at he
        exact absurd (show (6 : Int) = 0 from he) (by decide)
      have hG := (doP_keeps (nm := nm) (ns := ns) (r := ⟨s, q.now, [], []⟩) q hq M.1).2
      have hT := (doP_few (nm := nm) T.sound (r := ⟨s, q.now, [], []⟩) q hq (fun h => ⟨M.2 h, M.1⟩)).1
      exact ⟨fun h => absurd h (told_run hT hs), hG.over⟩
  · exact ⟨h0, fun _ _ h _ => h⟩

theorem _root_.Go.Proofs.YtfjekjbkifmpfaaDoor.Good.play {nm : ByteArray} {ns : List Nd} (T : Taken nm ns) {s : St} (M : Met ns s) (G : Good ns s) (q : Inp) : Good ns (playS nm ns s q) := by
  unfold playS
  split
  · exact G.step T M q
  · exact G

theorem PlSt.stands {w2 wr : World} {pb : Nat} {nm : ByteArray} {a : Option Addr} {c : Nat} {ns : List Nd} {k : Nat} {s : St} {l : List Ev} (X : PlSt w2 wr pb nm a c ns k s l) : ∃ (a6 : Option Addr) (c6 : Nat) (a7 : Option Addr) (c7 : Nat) (v11 : Value), wr.heap[pb]? = some (.cells #[.string nm, .slice a ns.length c, .string s.dfn, .string s.id, .string s.par, .string s.pnode, .int .i64 s.status, .string s.text, .slice a6 s.nodes.length c6, .slice a7 s.sigs.length c7, .int .i64 s.events, v11] 36 (0, 0)) ∧ wr.ownsRow 0 61 3 (.slice a6 s.nodes.length c6) s.nodes.length (nsF s.nodes) ∧ FlatAt wr 2 (.slice a7 s.sigs.length c7) s.sigs.length (sgF s.sigs) := by
  obtain ⟨⟨H, v6, v7, v11, E, P⟩, M, hl⟩ := X
  obtain ⟨a6, c6, rfl⟩ := ownsRow_shape P.nodes
  obtain ⟨a7, c7, rfl⟩ := ownsRow_shape P.sigs
  exact ⟨a6, c6, a7, c7, v11, P.blk, P.nodes, flat_of_owns P.sigs⟩

theorem txt_at {w : World} {av : Option Addr} {cv : Nat} {l : List ByteArray} (T : TextsAt w (.slice av l.length cv) l) {j : Nat} (hj : j < l.length) : ∃ b o, av = some ⟨b, o, none⟩ ∧ w.cell? ⟨b, o + j, none⟩ = some (.string l[j]) := by
  obtain ⟨a', c', e, _, h⟩ := T.at
  obtain ⟨b, o, ha, hc⟩ := h (fun h => by subst h; exact absurd hj (Nat.not_lt_zero _))
  simp only [Value.slice.injEq] at e
  exact ⟨b, o, e.1.trans ha, hc j hj⟩

/-- Who began has its nodes ahead over. -/
theorem free_at {ns : List Nd} {s : St} (G : Good ns s) {i j : Nat} {x : Nd} {y : Ns} (hx : ns[i]? = some x) (hy : s.nodes[i]? = some y) (h0 : y.status ≠ 0) (hl : s.nodes.length = ns.length) (hj : j < x.after.length) : ∃ (n : Nat) (z : Ns), findP ns x.after[j] = some n ∧ s.nodes[n]? = some z ∧ z.status = 3 := by
  have h := G.free i x y hx hy h0
  unfold overP at h
  rw [List.all_eq_true] at h
  have h1 := h _ (List.getElem_mem hj)
  unfold oneP at h1
  split at h1
  · rename_i n hn
    have hnl : n < s.nodes.length := by rw [hl]; exact aheadP_lt hn
    refine ⟨n, s.nodes[n], ?_, List.getElem?_eq_getElem hnl, ?_⟩
    · unfold aheadP at hn
      split at hn
      · cases hn
      · exact hn
    · unfold overL at h1
      rw [List.getD_eq_getElem?_getD, List.getElem?_map, List.getElem?_eq_getElem hnl] at h1
      simpa using h1
  · cases h1

set_option maxRecDepth 100000 in
set_option maxHeartbeats 8000000 in
theorem historyMoves_walk (name : ByteArray) (a : Option Addr) (c : Nat) (ns0 : List Nd) (ai : Option Addr) (ci : Nat) (ins : List Inp) (w : World) (R0 : RawAt w a ns0) (hnm : name.size ≤ maxLen) (hc : ns0.length ≤ c) (I0 : InsAt w ai ins) (hi0 : ins.length ≤ ci ∧ ci ≤ maxLen) (M : MovesAt w) :
    Calls Tryd.prog 7 #[.agg #[.string name, .slice a ns0.length c], .slice ai ins.length ci] w fun e w' => e = .returned (.bool true) ∧ Below w.heap.size w w' := by
  have hCut := hcut_any (w.alloc (.cells #[.string name, .slice a ns0.length c] 24)) name a ns0.length c ns0 rfl hc
  obtain ⟨ns, hns⟩ : ∃ ns, ns = ns0.take 32 := ⟨_, rfl⟩
  rw [← hns] at hCut
  have R : RawAt w a ns := by rw [hns]; exact R0.take 32
  have h32 : ns.length ≤ 32 := by rw [hns, List.length_take]; omega
  have HTk : Hid (∀ b, decide ((checkP name ns).2 = 0) = b → ∀ V, RawAt V a ns → Calls Tryd.prog 10 #[.agg #[.string name, .slice a ns.length c]] V fun e w' => e = .returned (.bool b) ∧ Kept (fun _ => False) V w') := fun b hb V RV => taken_any V name a _ c _ RV rfl h32 hnm b hb
  have HR := hid R
  have HM := hid M
  have HI := hid I0
  have hil : ins.length ≤ ci := hi0.1
  have him : ins.length ≤ 9223372036854775807 := by have : maxLen = 9223372036854775807 := rfl; omega
  clear R R0 M hns hc I0 hi0
  by_cases hT : (checkP name ns).2 = 0
  · have T := taken_of hT
    have HT := hid T
    have HTk2 := hid (HTk.out true (by simp [hT]))
    clear HTk hT T
    go_enter Tryd.func7, Tryd.ntmps7
    go_upto_region 4 with (first
      | (go_at_call 9; refine hCut.mono ?_; rintro e w1 ⟨rfl, K1⟩; clear hCut; obtain ⟨_, f0, f1⟩ := pairF ((K1.block w.heap.size (by simp) (fun h => h)).trans (heap_alloc_new _ _)); have hb := cut_box (n' := ns.length) K1 HR.out; obtain ⟨⟨x0, x1⟩, _, _⟩ := pairF hb.1; have hTk := HTk2.out _ hb.2.2; have HB := hid hb; clear hb)
      | (go_at_call 10; refine hTk.mono ?_; rintro e w2 ⟨rfl, K2⟩; clear hTk)
      | fail)
    have hb2 := (K2.block _ (Array.getElem?_eq_some_iff.1 HB.out.1).1 (fun h => h)).trans HB.out.1
    have HK2 := hid (HB.out.2.1.and K2)
    have HD2 := hid (HT.out.at (keptRaw K2 HB.out.2.2) (HM.out.kept HK2.out (fun h => h)))
    obtain ⟨⟨d0, d1⟩, _, _⟩ := pairF hb2
    have HX0 := hid (PlSt.start (nm := name) (c := c) HD2.out)
    have HBX := hid hb2
    have HRW : Hid (∀ V, Kept (fun _ => False) w2 V → RawAt V a ns) := fun V KV => keptRaw (K2.and KV) HB.out.2.2
    clear HTk2 K2 HB f0 f1 x0 x1 K1 hb2
    go_wp2_with fail
    go_loopw [6, 7] (fun vw q wr => ∃ (i : Nat) (s : St) (l : List Ev), i ≤ ins.length ∧ i ≤ 60 ∧ q = .int .i64 i ∧ PlSt w2 wr w2.heap.size name a c ns i s l ∧ Good ns s ∧ (s.status = 0 → s.nodes = []) ∧ wr.ownsRow 0 61 3 vw s.nodes.length (nsF s.nodes)) (fun _ q _ => ins.length - (intOf q).toNat)
    case atStart => exact ⟨0, zeroSt, [], Nat.zero_le _, Nat.zero_le _, rfl, HX0.out, Good.zero ns, fun _ => rfl, World.ownsRow_nil _ _ _ _⟩
    case round =>
      clear HX0
      obtain ⟨i, s, l, hi, hi60, rfl, X, G, hs0, hVW⟩ := hrel
      by_cases hgo : i < ins.length ∧ i < 60
      · obtain ⟨hlt, h60⟩ := hgo
        have e0 : (i : Int) < (ins.length : Int) := by omega
        have e1 : (i : Int) < 60 := by omega
        obtain ⟨bi, oi, rfl, hI⟩ := HI.out.at hlt
        obtain ⟨i0, i1, i2, i3, i4, i5, i6, i7, i8⟩ := hI wr (HK2.out.and X.keep)
        obtain ⟨p, hp⟩ : ∃ p, p = clipQ ins[i] := ⟨_, rfl⟩
        have hpt : p.text.size ≤ 300 := by rw [hp]; exact clipQ_text _
        have hpn : p.name.size ≤ 300 := by rw [hp]; exact clipQ_name _
        have hClip : Calls Tryd.prog 13 #[.agg #[.int .i64 (ins[i]).kind, .string (ins[i]).node, .string (ins[i]).name, .string (ins[i]).text, .int .i64 (ins[i]).tr, .int .i64 (ins[i]).status, .int .i64 (ins[i]).now, .string (ins[i]).par, .string (ins[i]).pnode]] wr fun e w' => e = .returned (.agg #[.int .i64 p.kind, .string p.node, .string p.name, .string p.text, .int .i64 p.tr, .int .i64 p.status, .int .i64 p.now, .string p.par, .string p.pnode]) ∧ Kept (fun _ => False) wr w' := by
          rw [hp]
          exact clip_any wr ins[i] (fun V => within_wide V _ _ (by decide) (by decide))
        have hIn := fun V (KV : Kept (fun _ => False) wr V) => play_input (X.new KV) HT.out (by omega) p hpn (Nat.le_trans hpt (by decide))
        unfold inpV at hIn
        have HGP := hid (G.play HT.out X.2.1.met p)
        have HPS := hid (play_stays HT.out X.2.1.met hs0 p)
        have HVW := hid hVW
        obtain ⟨wa6, wc6, rfl⟩ := ownsRow_shape hVW
        clear X hI hp d0 d1 G hs0 hVW
        -- MARK R9
        go_upto_region 10 with (first
          | (go_at_call 13; refine hClip.mono ?_; rintro e w6 ⟨rfl, K6⟩; clear hClip)
          | (go_at_call 12; refine (hIn _ K6).mono ?_; rintro e w7 ⟨rfl, X7, K7, KR⟩; clear hIn)
          | fail)
        obtain ⟨s', hs'⟩ : ∃ x, x = playS name ns s p := ⟨_, rfl⟩
        obtain ⟨l', hl'⟩ : ∃ x, x = playL name ns s l p := ⟨_, rfl⟩
        rw [← hs'] at HGP HPS X7
        rw [← hl'] at X7
        have HG7 := HGP
        have H07 := hid HPS.out.1
        have HOV := hid HPS.out.2
        have hRw := KR _ _ _ (ownsRow_keep HVW.out (fun g hg => K6.block g (ownsRow_blk HVW.out hg) (fun h => h)))
        have HWR := hid hRw
        obtain ⟨z6a, z6c, z7a, z7c, v11, hbp, hno, hsg⟩ := X7.stands
        have HBP := hid hbp
        have HNO := hid hno
        have HSG := hid hsg
        have HX7 := hid X7
        have HLn : Hid (s'.nodes ≠ [] → s'.nodes.length = ns.length) := fun h => X7.2.1.met.2 (fun h0 => h (H07.out h0))
        have HFW : Hid (s'.nodes.length ≤ 1000000 ∧ s'.sigs.length ≤ 1000000) := ⟨by have := (X7.2.1.small (by omega)).nodes; omega, by have := (X7.2.1.small (by omega)).sigs; omega⟩
        have HOC : Hid (overC s'.nodes ≤ 1000000 ∧ restC s'.nodes ≤ 1000000) := ⟨Nat.le_trans List.countP_le_length HFW.out.1, Nat.le_trans List.countP_le_length HFW.out.1⟩
        have HKD := hid X7.keep
        have HDW := hid (HD2.out.new X7.keep)
        have HRA : Hid (∀ V, Kept (fun _ => False) w7 V → RawAt V a ns) := fun V KV => HRW.out V (HKD.out.and KV)
        clear hs' hl' hRw hbp hno hsg X7 K7 KR K6 HPS HGP hpt hpn
        -- MARK Q0
        go_wp2_with fail
        go_loopw [8, 9] (fun mv q wk => ∃ (k : Nat), k ≤ s'.nodes.length ∧ q = .int .i64 k ∧ mv = .bool (movB (s'.nodes.take k)) ∧ Kept (fun _ => False) w7 wk) (fun _ q _ => s'.nodes.length - (intOf q).toNat)
        case atStart => exact ⟨0, Nat.zero_le _, rfl, rfl, Kept.refl _ _⟩
        case round =>
          obtain ⟨k, hk, rfl, rfl, KQ⟩ := hrel
          generalize wr = wk at *
          obtain ⟨⟨_, _, z2, z3, z4, z5, z6, z7, z8, z9, z10, _⟩, _⟩ := twelve (((KQ).block _ (Array.getElem?_eq_some_iff.1 HBP.out).1 (fun h => h)).trans HBP.out)
          by_cases hgo : k < s'.nodes.length
          · have hkl := hgo
            have hkn : k < ns.length := by rw [← HLn.out (fun h => by rw [h] at hkl; cases hkl)]; exact hkl
            have haf := HT.out.afters _ (List.getElem_mem hkn)
            have f0 : (k : Int) < (s'.nodes.length : Int) := by omega
            obtain ⟨_, g6, o6, rfl, y0, y1, y2⟩ := flat_ns ((flat_of_owns HNO.out).new KQ) hkl
            have hN := movB_next hkl
            have hmv : (movB (s'.nodes.take k) = true ∧ movB (s'.nodes.take (k + 1)) = true) ∨ (movB (s'.nodes.take k) = false ∧ ((s'.nodes[k]).status == 1) = true ∧ movB (s'.nodes.take (k + 1)) = true) ∨ (movB (s'.nodes.take k) = false ∧ ((s'.nodes[k]).status == 1) = false ∧ ((s'.nodes[k]).status == 2) = true ∧ movB (s'.nodes.take (k + 1)) = true) ∨ (movB (s'.nodes.take k) = false ∧ ((s'.nodes[k]).status == 1) = false ∧ ((s'.nodes[k]).status == 2) = false ∧ movB (s'.nodes.take (k + 1)) = false) := by
              rw [hN]
              cases movB (s'.nodes.take k) <;> cases ((s'.nodes[k]).status == 1) <;> cases ((s'.nodes[k]).status == 2) <;> simp
            have hws : (¬ (k : Int) < (s.nodes.length : Int)) ∨ (∃ h : k < s.nodes.length, ((s.nodes[k]).status == 3) = false) ∨ (∃ h : k < s.nodes.length, (s.nodes[k]).status = 3 ∧ s.nodes[k] = s'.nodes[k]) := by
              by_cases hks : k < s.nodes.length
              · by_cases h3 : (s.nodes[k]).status = 3
                · have h := HOV.out k _ (List.getElem?_eq_getElem hks) h3
                  rw [List.getElem?_eq_getElem hkl] at h
                  exact .inr (.inr ⟨hks, h3, (Option.some.inj h).symm⟩)
                · exact .inr (.inl ⟨hks, by simpa using h3⟩)
              · exact .inl (by omega)
            have HWS := hid hws
            have HKQ := hid KQ
            clear hN hws KQ
            rcases hmv with ⟨m0, hm⟩ | ⟨m0, m1, hm⟩ | ⟨m0, m1, m2, hm⟩ | ⟨m0, m1, m2, hm⟩
            all_goals
              have HMV := hid hm
              clear hm
              rw [m0]
              clear m0
              go_upto_region 17 with fail
              -- MARK K1
              rcases HWS.out with c0 | ⟨hks, c1⟩ | ⟨hks, c1, c2⟩
              case' inr.inl =>
                obtain ⟨_, h6, p6, rfl, v0, v1, v2⟩ := flat_ns ((flat_of_owns HWR.out).new HKQ.out) hks
                have g0 : (k : Int) < (s.nodes.length : Int) := by omega
              case' inr.inr =>
                obtain ⟨_, h6, p6, rfl, v0, v1, v2⟩ := flat_ns ((flat_of_owns HWR.out).new HKQ.out) hks
                rw [c2] at v0 v1 v2 c1
                rw [c1] at v0 y0
                have g0 : (k : Int) < (s.nodes.length : Int) := by omega
              all_goals
                go_quiet (fail)
                have HKK := hid (HKQ.out.and (Kept.drewN (fun _ => False) wk nq))
                (try clear v0 v1 v2)
                (try clear m1)
                (try clear m2)
                (try clear c2)
                (try clear c1)
                (try clear c0)
                clear z2 z3 z4 z5 z6 z7 z8 z9 z10 y0 y1 y2
                generalize wk.drewN nq = wn at *
                -- MARK K2
                go_wp2_with fail
                go_loopw [11] (fun q wj => ∃ (j : Nat), j ≤ (ns[k]).after.length ∧ ((s'.nodes[k]).status = 0 → j = 0) ∧ q = .int .i64 j ∧ Kept (fun _ => False) wn wj) (fun q _ => (ns[k]).after.length - (intOf q).toNat)
                case atStart => exact ⟨0, Nat.zero_le _, fun _ => rfl, rfl, Kept.refl _ _⟩
                case round =>
                  obtain ⟨j, hj, h0j, rfl, KJ⟩ := hrel
                  generalize wr = wj at *
                  by_cases hgo : j < (ns[k]).after.length ∧ (s'.nodes[k]).status ≠ 0
                  · obtain ⟨hjl, hy0⟩ := hgo
                    obtain ⟨n, z, hfd, hz, hz3⟩ := free_at HG7.out (List.getElem?_eq_getElem hkn) (List.getElem?_eq_getElem hkl) hy0 (HLn.out (fun h => by rw [h] at hkl; cases hkl)) hjl
                    obtain ⟨hnl, hze⟩ := List.getElem?_eq_some_iff.1 hz
                    have hnb := (HKK.out.and KJ)
                    obtain ⟨⟨_, _, z2, z3, z4, z5, z6, z7, z8, z9, z10, _⟩, _⟩ := twelve (((hnb).block _ (Array.getElem?_eq_some_iff.1 HBP.out).1 (fun h => h)).trans HBP.out)
                    obtain ⟨⟨d0, d1⟩, _, _⟩ := pairF (((HKD.out.and hnb).block _ (Array.getElem?_eq_some_iff.1 HBX.out).1 (fun h => h)).trans HBX.out)
                    obtain ⟨bn, on, av, cv, rfl, hT0, q0, q1, q2, q3, q4, q5, q6⟩ := (HDW.out.new hnb).nodes.at hkn
                    obtain ⟨b2, o2, rfl, ht⟩ := txt_at hT0 hjl
                    have hF := fun V (KV : Kept (fun _ => False) wj.drew V) => refFind_wide V name _ ns.length c ns (HRA.out V (hnb.and ((Kept.drew _ _).and KV))) rfl (by omega) (ns[k]).after[j]
                    rw [hfd] at hF
                    simp only [Option.getD_some, Option.isSome_some] at hF
                    have HN9 := hid hnb
                    have HKJ := hid KJ
                    have e0 : (j : Int) < ((ns[k]).after.length : Int) := by omega
                    have e1 : ((s'.nodes[k]).status != 0) = true := by simpa using hy0
                    have e2 : (k : Int) < (ns.length : Int) := by omega
                    clear KJ hnb hz z2 z3 z4 z5 z6 z7 z8 z9 z10 q0 q1 q2 q3 q4 q5
                    -- MARK J0
                    go_upto_region 22 with fail
                    refine wp_onlyN (mv22 _ d0 d1 q6 ht hkn hjl hF ?_)
                    intro _ _ _ _ _ _ _ _ _ _ _ _ _ _ w9 K9
                    clear d0 d1 q6 ht hF
                    have hnb := HN9.out.and K9
                    obtain ⟨⟨_, _, z2, z3, z4, z5, z6, z7, z8, z9, z10, _⟩, _⟩ := twelve (((hnb).block _ (Array.getElem?_eq_some_iff.1 HBP.out).1 (fun h => h)).trans HBP.out)
                    obtain ⟨_, g6, o6, hg6, y0, y1, y2⟩ := flat_ns ((flat_of_owns HNO.out).new hnb) hnl
                    cases hg6
                    rw [hze, hz3] at y0
                    have e3 : (n : Int) < (s'.nodes.length : Int) := by omega
                    have HK9 := hid (HKJ.out.and K9)
                    clear hnb K9 z2 z3 z4 z5 z6 z7 z9 z10
                    -- MARK J1
                    go_wp2_with fail
                    go_roundw
                    case rel => exact ⟨j + 1, by omega, fun h => absurd h hy0, by go_num, HK9.out⟩
                    case measure => simp [intOf]; omega
                  · obtain ⟨⟨d0, d1⟩, _, _⟩ := pairF (((HKD.out.and (HKK.out.and KJ)).block _ (Array.getElem?_eq_some_iff.1 HBX.out).1 (fun h => h)).trans HBX.out)
                    obtain ⟨bn, on, av, cv, rfl, hT0, q0, q1, q2, q3, q4, q5, q6⟩ := (HDW.out.new (HKK.out.and KJ)).nodes.at hkn
                    have hcs : (¬ (j : Int) < ((ns[k]).after.length : Int)) ∨ ((j : Int) < ((ns[k]).after.length : Int) ∧ ((s'.nodes[k]).status != 0) = false) := by
                      by_cases hjl : j < (ns[k]).after.length
                      · exact .inr ⟨by omega, by simpa using fun h => hgo ⟨hjl, h⟩⟩
                      · exact .inl (by omega)
                    have e2 : (k : Int) < (ns.length : Int) := by omega
                    have HKJ := hid KJ
                    clear KJ hgo q0 q1 q2 q3 q4 q5 hT0
                    -- MARK J2
                    rcases hcs with e0 | ⟨e0, e1⟩
                    all_goals
                      go_wp2_with fail
                      go_roundw
                      case rel => exact ⟨k + 1, by omega, by go_num, by rw [HMV.out], HKK.out.and HKJ.out⟩
                      case measure => simp [intOf]; omega
          · obtain rfl : k = s'.nodes.length := by omega
            rw [List.take_length]
            have f0 : ¬ (s'.nodes.length : Int) < (s'.nodes.length : Int) := by omega
            have hst : (s'.status == 1) = true ∧ movB s'.nodes = true ∨ (s'.status == 1) = false := by
              by_cases h1 : s'.status = 1
              · refine .inl ⟨by simp [h1], ?_⟩
                obtain ⟨y, hy, h⟩ := HG7.out.moving h1
                unfold movB
                rw [List.any_eq_true]
                exact ⟨y, hy, by rcases h with h | h <;> simp [h]⟩
              · exact .inr (by simpa using h1)
            have hRd := fun V (KV : Kept (fun _ => False) w7 V) => StRd.new ⟨flat_of_owns HNO.out, HSG.out, HFW.out.1, HFW.out.2⟩ KV
            have hRC := refCount_any wk s' _ _ _ (hRd _ KQ)
            have hHC := fun V (KV : Kept (fun _ => False) w7 V) => count_any V s' _ _ (hRd V KV)
            have hO1 := fun V (KV : Kept (fun _ => False) w7 V) => hOpen_any V name _ c ns (HDW.out.new KV).nodes (by omega) s' _ _ _ (hRd V KV)
            have hO2 := fun V (KV : Kept (fun _ => False) w7 V) => refOpen_any V name _ c ns (HDW.out.new KV).nodes (by omega) s' _ _ _ (hRd V KV)
            have HHC := hid hHC
            have HO1 := hid hO1
            have HO2 := hid hO2
            have HKQ := hid KQ
            clear hRd hHC hO1 hO2 KQ
            -- MARK E0
            rcases hst with ⟨g1, g2⟩ | g1
            all_goals
              (try rw [g2])
              go_upto_region 29 with (first
                | (go_at_call 24; refine hRC.mono ?_; rintro e w8 ⟨rfl, K8⟩; clear hRC)
                | fail)
              have HK8 := hid (HKQ.out.and K8)
              clear K8 z2 z3 z4 z5 z6 z7 z8 z9 z10
              obtain ⟨⟨_, _, z2, z3, z4, z5, z6, z7, z8, z9, z10, _⟩, _⟩ := twelve (((HK8.out).block _ (Array.getElem?_eq_some_iff.1 HBP.out).1 (fun h => h)).trans HBP.out)
              have hHC := HHC.out w8 HK8.out
              go_upto_region 30 with (first
                | (go_at_call 25; refine hHC.mono ?_; rintro e w9 ⟨⟨x, y, rfl, hx, hy⟩, K9⟩; clear hHC)
                | fail)
              have HK9 := hid (HK8.out.and K9)
              clear K9 z2 z3 z4 z5 z6 z7 z8 z9 z10
              obtain ⟨⟨_, _, z2, z3, z4, z5, z6, z7, z8, z9, z10, _⟩, _⟩ := twelve (((HK9.out).block _ (Array.getElem?_eq_some_iff.1 HBP.out).1 (fun h => h)).trans HBP.out)
              obtain ⟨⟨d0, d1⟩, _, _⟩ := pairF (((HKD.out.and HK9.out).block _ (Array.getElem?_eq_some_iff.1 HBX.out).1 (fun h => h)).trans HBX.out)
              have hq1 : (FloatKind.f64.format.order x (floatOfInt .f64 (overC s'.nodes : Nat)) != some .eq) = false := by
                have h := isF_eq hx (isF_int ((overC s'.nodes : Nat) : Int) (by have := HOC.out.1; omega))
                simp [bne, h]
              have hq2 : (FloatKind.f64.format.order y (floatOfInt .f64 (restC s'.nodes : Nat)) != some .eq) = false := by
                have h := isF_eq hy (isF_int ((restC s'.nodes : Nat) : Int) (by have := HOC.out.2; omega))
                simp [bne, h]
              -- MARK E1
              refine wp_onlyN (mv30 _ d0 d1 z2 z3 z4 z5 z6 z7 z8 z9 z10 hq1 hq2 (fun V KV => HO1.out V (HK9.out.and ((Kept.drew _ _).and KV))) (fun V KV => HO2.out V (HK9.out.and ((Kept.drew _ _).and KV))) (fun V _ => hWords_any V _) (fun V _ => refWords_any V _) ?_)
              intro _ _ _ _ _ _ _ _ _ _ _ _ _ _ _ _ _ _ _ _ _ _ _ _ _ _ _ _ _ _ _ _ _ _ _ _ _ _ _ _ _ w10 K10
              have HK10 := hid (HK9.out.and K10)
              clear z2 z3 z4 z5 z6 z7 z8 z9 z10 d0 d1 K10 hx hy hq1 hq2
              go_wp2_with fail
              go_roundw
              case rel => exact ⟨i + 1, s', _, by omega, by omega, by go_num, HX7.out.new HK10.out, HG7.out, H07.out, ownsRow_keep HNO.out (fun g hg => HK10.out.block g (ownsRow_blk HNO.out hg) (fun h => h))⟩
              case measure => simp [intOf]; omega
      · have hW := wakes_any wr (HM.out.kept (HK2.out.and X.keep) (fun h => h))
        have HK := hid (HK2.out.and X.keep)
        have hcs : (¬ ((i : Int) < (ins.length : Int))) ∨ (((i : Int) < (ins.length : Int)) ∧ ¬ ((i : Int) < 60)) := by omega
        clear X hgo d0 d1 G hs0 hVW
        rcases hcs with e0 | ⟨e0, e1⟩
        all_goals
          go_wp2_with (first
            | (go_at_call 11; refine hW.mono ?_; rintro e w8 ⟨rfl, K8⟩; clear hW)
            | fail)
          go_ret
          exact ⟨rfl, (HK.out.and K8).none⟩
  · have HTk2 := hid (HTk.out false (by simp [hT]))
    have hW := fun V (K : Kept (fun _ => False) w V) => wakes_any V (HM.out.kept K (fun h => h))
    have HW := hid hW
    clear HTk hT hW
    go_enter Tryd.func7, Tryd.ntmps7
    go_wp2_with (first
      | (go_at_call 9; refine hCut.mono ?_; rintro e w1 ⟨rfl, K1⟩; clear hCut; obtain ⟨_, f0, f1⟩ := pairF ((K1.block w.heap.size (by simp) (fun h => h)).trans (heap_alloc_new _ _)); have hb := cut_box (n' := ns.length) K1 HR.out; obtain ⟨⟨x0, x1⟩, _, _⟩ := pairF hb.1; have hTk := HTk2.out _ hb.2.2; have HB := hid hb; clear hb)
      | (go_at_call 10; refine hTk.mono ?_; rintro e w2 ⟨rfl, K2⟩; clear hTk; have hW := HW.out w2 (HB.out.2.1.and K2))
      | (go_at_call 11; refine hW.mono ?_; rintro e w8 ⟨rfl, K8⟩; clear hW)
      | fail)
    go_ret
    exact ⟨rfl, ((HB.out.2.1.and K2).and K8).none⟩

end Go.Proofs.YtfjekjbkifmpfaaDoor.Rf
namespace Go.Proofs.YtfjekjbkifmpfaaDoor
open Go.ChangeShapes Go.WideShapes Go.ChangeAt Go.RowKit Go.Deep

set_option maxRecDepth 100000 in
theorem historyMoves_lifted (os : Os) (started : os.Started) (H : Type) (enc : TypeId × Value → H) :
    ReturnsInHanded {} Tryd.checked os 7 .any (fun w args => (Rows.historyMovesSpec.pre enc Tryd.prog Tryd.f7 [] false w args ∧ laidMetH Tryd.prog laidL w) ∧ sizedMet enc Tryd.prog Tryd.f7 (OpenSpec.ofChange Rows.historyMovesSpec) false w args)
      (Rows.historyMovesSpec.post enc Tryd.prog Tryd.f7 false true false false) := by
  refine returnsInHanded_of_change_and (C := Tryd.checked) (X := fun w _ => laidMetH Tryd.prog laidL w) (fun _ _ _ hh h => h.of_heap hh) Tryd.own started (by kernel_rfl) Tryd.func7
    (ChangeSpec.witness_shaped (enc := enc) (C := Tryd.checked) (os := os) (X := fun w _ => laidMetH Tryd.prog laidL w) false (World.doorLaid Tryd.prog 28 os) #[.agg #[.string ⟨#[]⟩, .slice none 0 0], .slice none 0 0] 8 rfl (World.shaped_of_RefB (by kernel_rfl) (by kernel_rfl)) (by kernel_rfl) (by kernel_rfl) (by kernel_rfl) (door_met os _)) ?_
  intro W base args ds gs before hval0 hW _ _ hL _
  have hval : ∀ (j : Nat) t v, Tryd.f7.params[j]? = some t → args[j]? = some v → Value.okWide Tryd.prog W .any base t v := hval0
  have hW' := hW
  obtain ⟨p, q, hA0, hV, rfl, _, _⟩ := hW
  have hA : DataW.TrodAll enc Tryd.prog W 0 (fun _ => true) true Tryd.f7.params.toList args.toList ds p := hA0
  rw [Tryd.params7] at hA hval
  obtain ⟨v0, vs0, d0, ds0, p0, q0, hargs, rfl, rfl, h0, r0⟩ := trodAll_cons hA
  obtain ⟨v1, vs1, d1, ds1, p1, q1, rfl, rfl, rfl, h1, r1⟩ := trodAll_cons r0
  obtain ⟨rfl, rfl, rfl⟩ := trodAll_nil r1
  obtain rfl : args = #[v0, v1] := by cases args; simp_all
  obtain ⟨rfl, rfl⟩ := trodVars_none hV
  have k0 := h0
  have k1 := h1
  have lt0 : ∀ x ∈ p0, x.block < W.heap.size := by obtain ⟨m, hm⟩ := k0; exact DataW.trod_lt m _ _ _ hm
  have lt1 : ∀ x ∈ p1, x.block < W.heap.size := by obtain ⟨m, hm⟩ := k1; exact DataW.trod_lt m _ _ _ hm
  obtain ⟨nm0, a0, c0, ns0, rfl, z0, y0, x0, w0⟩ := dv_open (hval 0 24 v0 rfl rfl) h0
  obtain ⟨a1', len1', cap1', rfl⟩ := okWide_slice Tryd.underlying25 (hval 1 25 v1 rfl rfl)
  obtain ⟨a1, cap1, l1, e1, y1, x1, w1⟩ : ∃ a c l, Value.slice a1' len1' cap1' = .slice a l.length c ∧ l.length ≤ c ∧ c ≤ maxLen ∧ InsAt W a l := by
    obtain ⟨fuel, hf⟩ := h1
    exact ins_open hf
  simp only [Value.slice.injEq] at e1
  obtain ⟨rfl, rfl, rfl⟩ := e1
  clear hA0 hval0
  refine (Rf.historyMoves_walk _ _ _ _ _ _ _ W w0 z0 y0 w1 ⟨y1, x1⟩ (moves_laid hL)).mono fun e W' ⟨he, bel⟩ => ?_
  subst he
  exact ⟨_, rfl, _, _, _, [], _, [], hW', trodAll_mk1 (shut_bool Tryd.underlying4 _), (trodAll_cons_mk (Below.trod Tryd.laidOut (by kernel_rfl) (of_decide_eq_true (by kernel_rfl)) k0 bel lt0) (trodAll_cons_mk (Below.trod Tryd.laidOut (by kernel_rfl) (of_decide_eq_true (by kernel_rfl)) k1 bel lt1) trodAll_mk0)), rfl, bel.frame _, fun h => by cases h⟩

theorem historyMoves_row : Rows.HistoryMovesSaid :=
  OpenClaim.holds_of_wide 7 Tryd.f7 rfl rfl rfl rfl rfl rfl rfl ⟨rfl, rfl, rfl, rfl, rfl⟩ rfl rfl rfl rfl rfl (by kernel_rfl) Tryd.func7 (by kernel_rfl)
    (of_decide_eq_true (by kernel_rfl)) (by unfold Func.isWrapper; first | (rw [if_pos (by decide +kernel)]; kernel_rfl) | (rw [if_neg (by decide +kernel)]; exact ⟨rfl, rfl⟩))
    (fun os started H enc _ => historyMoves_lifted os started H enc)

theorem historyMoves_holds : Rows.HistoryMovesCardSaid :=
  Claim7.holds_tied_plain_at .later [] [.data] true Rows.historyMovesCard.stood.harness false
    historyMoves_row (fun _ h => by cases h) (by kernel_rfl) (fun _ h => by cases h) historyMoves_row_tie rfl ⟨rfl, rfl⟩ (by kernel_rfl) rfl
    (fun f fn hf hfn => by
      obtain rfl : f = 7 := Option.some.inj ((show Tryd.prog.funcNamed "tiller/tillerlaw09.HistoryMoves" = some 7 by kernel_rfl).symm.trans hf) |>.symm
      obtain rfl : fn = Tryd.f7 := (Option.some.inj (Tryd.func7.symm.trans hfn)).symm
      exact ⟨by kernel_rfl, fun j t ht => by
        rw [Tryd.params7] at ht
        have hm : t ∈ [24, 25] := by simpa using Array.mem_of_getElem? ht
        have hall : ([24, 25].all fun u => !Tryd.prog.wantsStandIn u) = true := by kernel_rfl
        exact (show Tryd.prog.wantsStandIn t = false by simpa using List.all_eq_true.1 hall t hm)⟩)
    (by kernel_rfl)

end Go.Proofs.YtfjekjbkifmpfaaDoor
