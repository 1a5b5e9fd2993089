/-
 What stands between the inputs of a workflow: who began may begin, who runs moves; and what each task is made for.
-/
import Derived.Test.YtfjekjbkifmpfaaDoorS53
set_option maxRecDepth 100000
set_option maxHeartbeats 16000000
namespace Go.Proofs.YtfjekjbkifmpfaaDoor
open Go.RowKit
variable {tx : ByteArray} {e : Ev} {now : Int} {l : List Ns} {m : Mv} {i j : Nat} {x : Nd} {r : Rn} {s : St}
section
variable {nm : ByteArray} {ns : List Nd}
theorem move_fits {e k s : Int} (h : moveP e k s = some m) : m ∈ movesL ∧ m.event = e ∧ m.src = s ∧ (m.kind = k ∨ m.kind = 0) := by
 unfold moveP at h
 have h1 := List.mem_of_find?_eq_some h
 have h2 := List.find?_some h
 unfold Mv.fits at h2
 simp only [Bool.and_eq_true, Bool.or_eq_true, beq_iff_eq] at h2
 exact ⟨h1, h2.1, h2.2.1, h2.2.2⟩
def TkFor (ns : List Nd) (now : Int) (s : St) (t : Tk) : Prop :=
 t.flow = s.id ∧ ((t.kind = 1 ∧ ∃ (i : Nat) (x : Nd) (y : Ns), findP ns t.node = some i ∧ ns[i]? = some x ∧ s.nodes[i]? = some y ∧ (s.status = 1 → y.status = 1) ∧ IntKind.i64.wrap (y.tr + 1) = t.tr ∧ x.kind = 1)
  ∨ (t.kind = 2 ∧ ∃ (i : Nat) (x : Nd) (y : Ns), findP ns t.node = some i ∧ ns[i]? = some x ∧ s.nodes[i]? = some y ∧ (s.status = 1 → y.status = 2) ∧ t.tm = IntKind.i64.wrap (now + x.delay))
  ∨ (t.kind = 3 ∧ t.mail.src = s.id ∧ 1 ≤ t.mail.kind ∧ t.mail.kind ≤ 4))
structure Neat (ns : List Nd) (now : Int) (r : Rn) : Prop where
 tick : r.now = now
 idle : ∀ y ∈ r.st.nodes, y.status = 0 → y.tr = 0
 free : ∀ (i : Nat) (x : Nd) (y : Ns), ns[i]? = some x → r.st.nodes[i]? = some y → y.status ≠ 0 → overP ns x (overL r.st.nodes) = true
 tks : ∀ t ∈ r.tks, TkFor ns now r.st t
def Live (s : St) : Prop := s.status = 1 → ∀ y ∈ s.nodes, 0 ≤ y.status ∧ y.status ≤ 3
theorem change_cases {s' : St} (h : changeP nm ns s e = some s') (hk : e.kind ≠ 1) : s.status = 1 ∧ s'.id = s.id ∧
  (((e.kind = 13 ∨ e.kind = 15) ∧ s'.nodes = s.nodes) ∨ (e.kind ≠ 13 ∧ e.kind ≠ 15 ∧ s'.status = 1 ∧ ∃ (i : Nat) (x : Nd) (y : Ns) (m : Mv), findP ns e.node = some i ∧ ns[i]? = some x ∧ s.nodes[i]? = some y ∧ moveP e.kind x.kind y.status = some m ∧ s'.nodes = setNode s.nodes i m e)) := by
 unfold changeP at h
 by_cases hst : s.status ≠ (if e.kind = 1 then 0 else 1)
 ·rw [if_pos hst] at h
  cases h
 rw [if_neg hst, if_neg hk] at h
 have hs : s.status = 1 := by
  have := Decidable.not_not.1 hst
  rwa [if_neg hk] at this
 refine ⟨hs, ?_⟩
 split at h
 ·rename_i h13
  cases h
  exact ⟨rfl, .inl ⟨.inl h13, rfl⟩⟩
 rename_i h13
 split at h
 ·rename_i h15
  split at h
  ·cases h
   exact ⟨rfl, .inl ⟨.inr h15, rfl⟩⟩
  ·cases h
 ·rename_i h15
  cases hc : changeNodeP ns s e with
  | none => rw [hc] at h; cases h
  | some t =>
   rw [hc] at h
   cases h
   unfold changeNodeP at hc
   split at hc
   ·cases hc
   rename_i i hfi
   split at hc
   ·cases hc
   rename_i m hm
   split at hc
   ·cases hc
   cases hc
   refine ⟨rfl, .inr ⟨h13, h15, hs, i, ?_⟩⟩
   unfold nodeMove at hm
   split at hm
   ·rename_i x y hx hy
    exact ⟨x, y, m, hfi, hx, hy, hm, rfl⟩
   ·cases hm
theorem set_at {z : Ns} (h : (setNode l i m e)[j]? = some z) : (j = i ∧ ∃ y, l[i]? = some y ∧ z = ⟨m.dst, if e.kind = 3 then e.num else y.tr, if m.txt then e.text else y.text⟩) ∨ (j ≠ i ∧ l[j]? = some z) := by
 unfold setNode at h
 rw [List.getElem?_modify] at h
 by_cases hij : i = j
 ·subst hij
  cases hy : l[i]? with
  | none => rw [hy] at h; simp at h
  | some y =>
   rw [hy] at h
   simp at h
   exact .inl ⟨rfl, y, rfl, h.symm⟩
 ·simp [hij] at h
  exact .inr ⟨fun h => hij h.symm, h⟩
theorem set_here {y : Ns} (h : l[i]? = some y) : (setNode l i m e)[i]? = some ⟨m.dst, if e.kind = 3 then e.num else y.tr, if m.txt then e.text else y.text⟩ := by
 unfold setNode
 rw [List.getElem?_modify, h]
 simp
theorem set_else {z : Ns} (hj : j ≠ i) (h : l[j]? = some z) : (setNode l i m e)[j]? = some z := by
 unfold setNode
 rw [List.getElem?_modify, h]
 have : ¬ i = j := fun h => hj h.symm
 simp [this]
theorem moves_dst : ∀ m ∈ movesL, 1 ≤ m.dst ∧ m.dst ≤ 4 ∧ (m.dst = 4 → m.event = 6) := by
 intro m hm
 simp only [movesL, List.mem_cons, List.not_mem_nil, or_false] at hm
 rcases hm with rfl | rfl | rfl | rfl | rfl | rfl | rfl | rfl | rfl | rfl | rfl | rfl | rfl | rfl <;> decide
theorem moves_to {e d : Int} (h : movesL.all (fun m => !(m.event == e) || (m.dst == d)) = true) (m1 : m ∈ movesL) (m2 : m.event = e) : m.dst = d := by
 have := List.all_eq_true.1 h m m1
 simpa [m2] using this
theorem Neat.tell {ts : List Tk} (R : Neat ns now r) (hk : e.kind ≠ 1)
  (hat : e.kind ≠ 13 → e.kind ≠ 15 → ∀ (i : Nat) (x : Nd) (y : Ns), findP ns e.node = some i → ns[i]? = some x → r.st.nodes[i]? = some y → (r.tks = [] ∨ y.status = 0) ∧ (y.status ≠ 0 ∨ overP ns x (overL r.st.nodes) = true))
  (hts : ∀ s', changeP nm ns r.st e = some s' → ∀ t ∈ ts, TkFor ns now s' (flowT s'.id t)) : Neat ns now (tellP nm ns r e ts) := by
 unfold tellP
 cases hc : changeP nm ns r.st e with
 | none => exact R
 | some s' =>
  have hg := changeP_grow hc hk
  obtain ⟨hs, hid, hn⟩ := change_cases hc hk
  have old : (∀ (i : Nat) (y : Ns), r.st.nodes[i]? = some y → y.status ≠ 0 → r.tks ≠ [] → s'.nodes[i]? = some y) → ∀ t ∈ r.tks, TkFor ns now s' t := fun keep t ht => by
   have hne : r.tks ≠ [] := fun h => by rw [h] at ht; cases ht
   obtain ⟨hf, h⟩ := R.tks t ht
   refine ⟨hf.trans hid.symm, ?_⟩
   rcases h with ⟨k1, i, x, y, a, b, c, d, f, g⟩ | ⟨k2, i, x, y, a, b, c, d, f⟩ | ⟨k3, a, b⟩
   ·have := d hs
    exact .inl ⟨k1, i, x, y, a, b, keep i y c (by omega) hne, fun _ => this, f, g⟩
   ·have := d hs
    exact .inr (.inl ⟨k2, i, x, y, a, b, keep i y c (by omega) hne, fun _ => this, f⟩)
   ·exact .inr (.inr ⟨k3, a.trans hid.symm, b⟩)
  have both : (∀ t ∈ r.tks, TkFor ns now s' t) → ∀ t ∈ r.tks ++ ts.map (flowT s'.id), TkFor ns now s' t := fun h t ht => by
   rw [List.mem_append] at ht
   rcases ht with ht | ht
   ·exact h t ht
   ·obtain ⟨u, hu, rfl⟩ := List.mem_map.1 ht
    exact hts s' hc u hu
  rcases hn with ⟨_, hn⟩ | ⟨h13, h15, _, i, x, y, m, hf, hx, hy, hm, hn⟩
  ·refine ⟨R.tick, fun z hz h0 => R.idle z (by rw [← hn]; exact hz) h0, fun j z q hz hq h0 => ?_, both (old fun j z hz _ _ => by rw [hn]; exact hz)⟩
   show overP ns z (overL s'.nodes) = true
   rw [hn]
   exact R.free j z q hz (by rw [← hn]; exact hq) h0
  ·have hd := moves_dst m (move_fits hm).1
   obtain ⟨ht, ho⟩ := hat h13 h15 i x y hf hx hy
   refine ⟨R.tick, fun z hz h0 => ?_, fun j z q hz hq h0 => ?_, both (old fun j z hz h0 hne => ?_)⟩
   ·obtain ⟨j, hj⟩ := List.mem_iff_getElem?.1 hz
    have hj : s'.nodes[j]? = some z := hj
    rw [hn] at hj
    rcases set_at hj with ⟨rfl, y', hy', rfl⟩ | ⟨_, h⟩
    ·have h0 : m.dst = 0 := h0
     omega
    ·exact R.idle z (List.mem_of_getElem? h) h0
   ·have hq : s'.nodes[j]? = some q := hq
    show overP ns z (overL s'.nodes) = true
    rw [hn] at hq
    rcases set_at hq with ⟨rfl, y', hy', rfl⟩ | ⟨_, h⟩
    ·rw [hx] at hz
     cases hz
     rcases ho with ho | ho
     ·exact over_mono hg.over (R.free j x y hx hy ho)
     ·exact over_mono hg.over ho
    ·exact over_mono hg.over (R.free j z q hz h h0)
   ·rw [hn]
    refine set_else (fun hji => ?_) hz
    subst hji
    rw [hy] at hz
    cases hz
    rcases ht with ht | ht
    ·exact hne ht
    ·exact h0 ht
theorem Live.tell {ts : List Tk} (L : Live r.st) (hk : e.kind ≠ 1) (h6 : e.kind ≠ 6) : Live (tellP nm ns r e ts).st := by
 unfold tellP
 cases hc : changeP nm ns r.st e with
 | none => exact L
 | some s' =>
  obtain ⟨hs, hid, hn⟩ := change_cases hc hk
  intro _ z hz
  have hz : z ∈ s'.nodes := hz
  rcases hn with ⟨_, hn⟩ | ⟨h13, h15, _, i, x, y, m, hf, hx, hy, hm, hn⟩
  ·rw [hn] at hz
   exact L hs z hz
  ·obtain ⟨j, hj⟩ := List.mem_iff_getElem?.1 hz
   rw [hn] at hj
   rcases set_at hj with ⟨rfl, y', hy', rfl⟩ | ⟨_, h⟩
   ·obtain ⟨m1, m2, m3, _⟩ := move_fits hm
    obtain ⟨d1, d2, d3⟩ := moves_dst m m1
    show 0 ≤ m.dst ∧ m.dst ≤ 3
    have : m.dst ≠ 4 := fun h => h6 (m2.symm.trans (d3 h))
    omega
   ·exact L hs z (List.mem_of_getElem? h)
theorem endP_shut {st : Int} (h : st = 2 ∨ st = 3 ∨ st = 4) : (endP nm ns r st tx).st.status ≠ 1 := by
 unfold endP tellP
 cases hc : changeP nm ns r.st ⟨15, ⟨#[]⟩, tx, st⟩ with
 | none =>
  intro h1
  have h1 : r.st.status = 1 := h1
  rw [changeP_close h1 st tx h] at hc
  cases hc
 | some s' =>
  show s'.status ≠ 1
  have h1 := (change_cases hc (by show (15 : Int) ≠ 1; decide)).1
  rw [changeP_close h1 st tx h] at hc
  cases hc
  show st ≠ 1
  omega
theorem breakP_shut {x : ByteArray} : (breakP nm ns r x tx).st.status ≠ 1 := endP_shut (.inr (.inl rfl))
theorem mails_ok {s' : St} {st : Int} (hid : s'.id = s.id) : ∀ t ∈ mailsP ns s st tx, TkFor ns now s' (flowT s'.id t) := fun t ht => by
 unfold mailsP cancelL at ht
 rw [List.mem_append] at ht
 rcases ht with ht | ht
 ·obtain ⟨i, _, rfl⟩ := List.mem_map.1 ht
  exact ⟨rfl, .inr (.inr ⟨rfl, hid.symm, by show (1 : Int) ≤ 4; decide, by show (4 : Int) ≤ 4; decide⟩)⟩
 ·split at ht
  ·cases ht
  ·rw [List.mem_singleton] at ht
   subst ht
   exact ⟨rfl, .inr (.inr ⟨rfl, hid.symm, by show (1 : Int) ≤ 2; decide, by show (2 : Int) ≤ 4; decide⟩)⟩
theorem Neat.close (R : Neat ns now r) (st : Int) (tx : ByteArray) : Neat ns now (endP nm ns r st tx) :=
 R.tell (by show (15 : Int) ≠ 1; decide) (fun _ h => absurd rfl h) (fun s' hc => mails_ok (change_cases hc (by show (15 : Int) ≠ 1; decide)).2.1)
theorem Neat.fall (R : Neat ns now r) (x tx : ByteArray)
  (hat : ∀ (i : Nat) (z : Nd) (y : Ns), findP ns x = some i → ns[i]? = some z → r.st.nodes[i]? = some y → (r.tks = [] ∨ y.status = 0) ∧ (y.status ≠ 0 ∨ overP ns z (overL r.st.nodes) = true)) : Neat ns now (breakP nm ns r x tx) :=
 (R.tell (e := ⟨6, x, tx, 0⟩) (by show (6 : Int) ≠ 1; decide) (fun _ _ => hat) (fun _ _ _ h => by cases h)).close 3 tx
theorem live_shut (h : s.status ≠ 1) : Live s := fun h1 => absurd h1 h
theorem ready_over (hi : i ∈ goReady ns r) (hx : ns[i]? = some x) : overP ns x (overL r.st.nodes) = true := by
 unfold goReady rdyL at hi
 rw [List.mem_filter] at hi
 have h2 := hi.2
 unfold rdyB at h2
 rw [Bool.and_eq_true, hx] at h2
 exact h2.2
theorem Neat.begin (S : Sound ns) (R : Neat ns now r) (L : Live r.st) (hi : i ∈ goReady ns r) (hx : ns[i]? = some x) : Neat ns now (beginP nm ns r x) ∧ Live (beginP nm ns r x).st := by
 obtain ⟨hin, y, hy, hy0⟩ := goReady_idle hi
 have hf := S.find i x hx
 have hov := ready_over hi hx
 have hat : ∀ (j : Nat) (z : Nd) (q : Ns), findP ns x.name = some j → ns[j]? = some z → r.st.nodes[j]? = some q → (r.tks = [] ∨ q.status = 0) ∧ (q.status ≠ 0 ∨ overP ns z (overL r.st.nodes) = true) := fun j z q h1 h2 h3 => by
  rw [hf] at h1
  cases h1
  rw [hx] at h2
  cases h2
  rw [hy] at h3
  cases h3
  exact ⟨.inr hy0, .inr hov⟩
 have one : ∀ {e : Ev} {ts : List Tk}, e.node = x.name → e.kind ≠ 1 → e.kind ≠ 6 → (∀ s', changeP nm ns r.st e = some s' → ∀ t ∈ ts, TkFor ns now s' (flowT s'.id t)) → Neat ns now (tellP nm ns r e ts) ∧ Live (tellP nm ns r e ts).st := fun he h1 h6 hts =>
  ⟨R.tell h1 (fun _ _ => by rw [he]; exact hat) hts, L.tell h1 h6⟩
 have here : ∀ {e : Ev} {s' : St}, e.node = x.name → e.kind ≠ 1 → e.kind ≠ 3 → e.kind ≠ 13 → e.kind ≠ 15 → changeP nm ns r.st e = some s' → ∃ m z, m ∈ movesL ∧ m.event = e.kind ∧ (m.kind = x.kind ∨ m.kind = 0) ∧ s'.nodes[i]? = some z ∧ z.status = m.dst ∧ z.tr = 0 := fun {e s'} he h1 h3 h13 h15 hc => by
  obtain ⟨_, _, hn⟩ := change_cases hc h1
  rcases hn with ⟨h, _⟩ | ⟨_, _, _, j, x', y', m, hf', hx', hy', hm, hn⟩
  ·exact absurd h (by omega)
  ·rw [he, hf] at hf'
   cases hf'
   rw [hx] at hx'
   cases hx'
   rw [hy] at hy'
   cases hy'
   obtain ⟨m1, m2, _, m4⟩ := move_fits hm
   refine ⟨m, _, m1, m2, m4, by rw [hn]; exact set_here hy, rfl, ?_⟩
   show (if e.kind = 3 then e.num else y.tr) = 0
   rw [if_neg h3]
   exact R.idle y (List.mem_of_getElem? hy) hy0
 unfold beginP
 split
 ·refine one rfl (by show (2 : Int) ≠ 1; decide) (by show (2 : Int) ≠ 6; decide) (fun s' hc t ht => ?_)
  rename_i h1
  rw [List.mem_singleton] at ht
  subst ht
  obtain ⟨m, z, m1, m2, m4, hz, hz1, hz0⟩ := here rfl (by show (2 : Int) ≠ 1; decide) (by show (2 : Int) ≠ 3; decide) (by show (2 : Int) ≠ 13; decide) (by show (2 : Int) ≠ 15; decide) hc
  refine ⟨rfl, .inl ⟨rfl, i, x, z, hf, hx, hz, fun _ => ?_, ?_, h1⟩⟩
  ·rw [hz1]
   exact moves_to (e := 2) (by decide) m1 m2
  ·rw [hz0]
   rfl
 split
 ·refine one rfl (by show (7 : Int) ≠ 1; decide) (by show (7 : Int) ≠ 6; decide) (fun s' hc t ht => ?_)
  rw [List.mem_singleton] at ht
  subst ht
  obtain ⟨m, z, m1, m2, m4, hz, hz1, hz0⟩ := here rfl (by show (7 : Int) ≠ 1; decide) (by show (7 : Int) ≠ 3; decide) (by show (7 : Int) ≠ 13; decide) (by show (7 : Int) ≠ 15; decide) hc
  refine ⟨rfl, .inr (.inl ⟨rfl, i, x, z, hf, hx, hz, fun _ => ?_, by show IntKind.i64.wrap (r.now + x.delay) = _; rw [R.tick]⟩)⟩
  rw [hz1]
  exact moves_to (e := 7) (by decide) m1 m2
 split
 ·unfold askP
  split
  ·exact ⟨R.fall _ _ hat, live_shut breakP_shut⟩
  ·refine one rfl (by show (9 : Int) ≠ 1; decide) (by show (9 : Int) ≠ 6; decide) (fun s' hc t ht => ?_)
   rw [List.mem_singleton] at ht
   subst ht
   have hid := (change_cases hc (by show (9 : Int) ≠ 1; decide)).2.1
   exact ⟨rfl, .inr (.inr ⟨rfl, hid.symm, by show (1 : Int) ≤ 1; decide, by show (1 : Int) ≤ 4; decide⟩)⟩
 split
 ·unfold waitP
  split
  ·exact one rfl (by show (11 : Int) ≠ 1; decide) (by show (11 : Int) ≠ 6; decide) (fun _ _ _ h => by cases h)
  ·exact one rfl (by show (12 : Int) ≠ 1; decide) (by show (12 : Int) ≠ 6; decide) (fun _ _ _ h => by cases h)
 split
 ·refine one rfl (by show (14 : Int) ≠ 1; decide) (by show (14 : Int) ≠ 6; decide) (fun s' hc t ht => ?_)
  rw [List.mem_singleton] at ht
  subst ht
  have hid := (change_cases hc (by show (14 : Int) ≠ 1; decide)).2.1
  exact ⟨rfl, .inr (.inr ⟨rfl, hid.symm, by show (1 : Int) ≤ 3; decide, by show (3 : Int) ≤ 4; decide⟩)⟩
 ·exact ⟨R, L⟩
theorem neat_on (S : Sound ns) {r' : Rn} (h : On nm ns r r') : Fine ns r.st → Neat ns now r → Live r.st → Neat ns now r' ∧ Live r'.st ∧ (r'.st.status = 1 → goReady ns r' = [] ∧ restC r'.st.nodes ≠ 0) := by
 induction h with
 | stop hs => exact fun _ R L => ⟨R, L, fun h => absurd h hs⟩
 | @step r r' i x hs hh hx hon ih =>
  intro F R L
  have hi : i ∈ goReady ns r := List.mem_of_mem_head? (by rw [hh]; rfl)
  obtain ⟨hin, y, hy, hy0⟩ := goReady_idle hi
  have hk := S.kind x (List.mem_of_getElem? hx)
  have hf := S.find i x hx
  have hb := begin_same (nm := nm) F.bare hs hf hx hy hy0 hk.1 hk.2
  rw [hb] at ih
  obtain ⟨R', L'⟩ := R.begin (nm := nm) S L hi hx
  exact ih (begin_fine F hs hf hx hy hy0 hk.1 hk.2) R' L'
 | @done r hs hz hc =>
  intro F R L
  rw [closed_same F.bare hs (.inl rfl)]
  exact ⟨R.close _ _, live_shut (endP_shut (.inl rfl)), fun h => absurd h (endP_shut (.inl rfl))⟩
 | rest hs hz hc => exact fun _ R L => ⟨R, L, fun _ => ⟨hz, hc⟩⟩
def Moving (s : St) : Prop := s.status = 1 → ∃ y ∈ s.nodes, y.status = 1 ∨ y.status = 2
theorem oneP_over {s : ByteArray} {y : Ns} (hj : aheadP ns x s = some j) (hy : l[j]? = some y) (h3 : y.status = 3) : oneP ns x (overL l) s = true := by
 unfold oneP
 rw [hj]
 show (overL l).getD j false = true
 unfold overL
 rw [List.getD_eq_getElem?_getD, List.getElem?_map, hy]
 simp [h3]
theorem moving (T : Taken nm ns) (F : Fine ns r.st) (L : Live r.st) (hs : r.st.status = 1) (hz : goReady ns r = []) (hc : restC r.st.nodes ≠ 0) : ∃ y ∈ r.st.nodes, y.status = 1 ∨ y.status = 2 := by
 refine Classical.byContradiction fun hno => hc ?_
 have h03 : ∀ y ∈ r.st.nodes, y.status = 0 ∨ y.status = 3 := fun y hy => by
  have h1 := L hs y hy
  have h2 : ¬ (y.status = 1 ∨ y.status = 2) := fun h => hno ⟨y, hy, h⟩
  omega
 have all : ∀ (n i : Nat) (x : Nd) (y : Ns), rowP ns i = n → ns[i]? = some x → r.st.nodes[i]? = some y → y.status = 3 := by
  intro n
  induction n using Nat.strongRecOn with
  | _ n ih =>
   intro i x y hn hx hy
   rcases h03 y (List.mem_of_getElem? hy) with h0 | h3
   ·exfalso
    have hil : i < ns.length := (List.getElem?_eq_some_iff.1 hx).1
    have hov : overP ns x (overL r.st.nodes) = true := by
     unfold overP
     rw [List.all_eq_true]
     intro s hsm
     obtain ⟨j, hj, hjm, hlt⟩ := (lev_ord ns).aft i (ord_all T.ord i hil) x hx s hsm
     have hjl : j < ns.length := aheadP_lt hj
     have hjr : j < r.st.nodes.length := by rw [F.len]; exact hjl
     exact oneP_over hj (List.getElem?_eq_getElem hjr) (ih (rowP ns j) (by rw [← hn]; exact hlt) j (ns[j]) _ rfl (List.getElem?_eq_getElem hjl) (List.getElem?_eq_getElem hjr))
    have : i ∈ goReady ns r := by
     unfold goReady rdyL
     rw [List.mem_filter]
     refine ⟨List.mem_range.2 hil, ?_⟩
     unfold rdyB begunL
     rw [List.getD_eq_getElem?_getD, List.getElem?_map, List.getElem?_range hil, hx]
     simp [begunB, hy, h0, hov]
    rw [hz] at this
    cases this
   ·exact h3
 unfold restC
 rw [List.countP_eq_zero]
 intro y hy
 obtain ⟨i, hi⟩ := List.mem_iff_getElem?.1 hy
 have hil : i < ns.length := by rw [← F.len]; exact (List.getElem?_eq_some_iff.1 hi).1
 have := all _ i (ns[i]) y rfl (List.getElem?_eq_getElem hil) hi
 simp [this]
theorem Neat.goOn (S : Sound ns) (T : Taken nm ns) (R : Neat ns now r) (L : Live r.st) (F : Fine ns r.st) : Neat ns now (goOnP nm ns r) ∧ Live (goOnP nm ns r).st ∧ Moving (goOnP nm ns r).st := by
 rcases goOn_on (nm := nm) S F with h | h
 ·obtain ⟨R', L', H⟩ := neat_on S h F R L
  have K := goP_keeps (nm := nm) (ns := ns) (restC r.st.nodes + 1) r F.bare
  have F' : Fine ns (goOnP nm ns r).st := ⟨K.2.len.trans F.len, K.1⟩
  exact ⟨R', L', fun hs => moving T F' L' hs (H hs).1 (H hs).2⟩
 ·have e : goOnP nm ns r = r := told_closed goOnP_told h
  rw [e]
  exact ⟨R, L, fun h1 => absurd h1 h⟩
structure Good (ns : List Nd) (s : St) : Prop where
 idle : ∀ y ∈ s.nodes, y.status = 0 → y.tr = 0
 free : ∀ (i : Nat) (x : Nd) (y : Ns), ns[i]? = some x → s.nodes[i]? = some y → y.status ≠ 0 → overP ns x (overL s.nodes) = true
 live : Live s
 moving : Moving s
theorem Good.zero (ns : List Nd) : Good ns zeroSt := ⟨fun y hy => (by cases hy), fun i x y _ hy => (by cases hy), fun h => (by cases h), fun h => (by cases h)⟩
theorem Good.neat (G : Good ns s) (now : Int) : Neat ns now ⟨s, now, [], []⟩ := ⟨rfl, G.idle, G.free, fun t ht => by cases ht⟩
theorem Neat.good (R : Neat ns now r) (L : Live r.st) (M : Moving r.st) : Good ns r.st := ⟨R.idle, R.free, L, M⟩
theorem busy_at {q : Inp} {ks : List Int} {e : Int} (h : busyP ns s q ks = (i, e)) (he : ¬ e ≠ 0) : findP ns q.node = some i ∧ ∃ x y, ns[i]? = some x ∧ s.nodes[i]? = some y ∧ y.status = 2 ∧ ks.contains x.kind = true := by
 have he : e = 0 := Decidable.not_not.1 he
 subst he
 obtain ⟨h1, h2⟩ := busyP_ok h
 obtain ⟨a, b, c, d⟩ := findK_some h1
 refine ⟨c, ns[i], s.nodes[i], List.getElem?_eq_getElem a, List.getElem?_eq_getElem b, ?_, d⟩
 unfold busyB at h2
 rw [List.getElem?_eq_getElem a, List.getElem?_eq_getElem b] at h2
 simp only [Bool.and_eq_true, beq_iff_eq] at h2
 exact h2.1
theorem wait_at {x : ByteArray} (h : busyWaitP ns s x = some i) : ∃ n y, ns[i]? = some n ∧ s.nodes[i]? = some y ∧ y.status = 2 := by
 unfold busyWaitP at h
 have h2 := List.find?_some h
 unfold waitB at h2
 split at h2
 ·rename_i n y hn hy
  simp only [Bool.and_eq_true, beq_iff_eq, decide_eq_true_eq] at h2
  exact ⟨n, y, hn, hy, h2.2.2⟩
 ·cases h2
theorem Good.does (T : Taken nm ns) (M : Met ns s) (G : Good ns s) (q : Inp) : Neat ns q.now (stepP nm ns s q).1 ∧ Live (stepP nm ns s q).1.st ∧ Moving (stepP nm ns s q).1.st := by
 have S := T.sound
 obtain ⟨r, hr⟩ : ∃ r : Rn, r = ⟨s, q.now, [], []⟩ := ⟨_, rfl⟩
 have R : Neat ns q.now r := by rw [hr]; exact G.neat q.now
 have L : Live r.st := by rw [hr]; exact G.live
 have Mv : Moving r.st := by rw [hr]; exact G.moving
 have M : Met ns r.st := by rw [hr]; exact M
 have h0 : r.tks = [] := by rw [hr]
 unfold stepP
 rw [← hr]
 clear hr
 have stay : Neat ns q.now r ∧ Live r.st ∧ Moving r.st := ⟨R, L, Mv⟩
 unfold doP
 split
 ·unfold startP
  split
  ·exact stay
  rename_i hs
  have hs : r.st.status = 0 := Decidable.not_not.1 hs
  have hc : changeP nm ns { r.st with id := q.name } ⟨1, q.pnode, q.par, 0⟩ = some { r.st with id := q.name, status := 1, dfn := nm, par := q.par, pnode := q.pnode, nodes := List.replicate ns.length ⟨0, 0, ⟨#[]⟩⟩, events := r.st.events + 1 } := by
   unfold changeP
   dsimp only
   rw [if_neg (c := r.st.status ≠ (if (1 : Int) = 1 then 0 else 1)) (by rw [hs]; decide), if_pos (c := (1 : Int) = 1) rfl]
  have hrep : ∀ y ∈ List.replicate ns.length (⟨0, 0, ⟨#[]⟩⟩ : Ns), y = ⟨0, 0, ⟨#[]⟩⟩ := fun y hy => (List.mem_replicate.1 hy).2
  have R1 : Neat ns q.now (tellP nm ns { r with st := { r.st with id := q.name } } ⟨1, q.pnode, q.par, 0⟩ []) := by
   unfold tellP
   rw [hc]
   refine ⟨R.tick, fun y hy _ => ?_, fun i x y _ hy h => ?_, fun t ht => ?_⟩
   ·rw [hrep y hy]
   ·rw [hrep y (List.mem_of_getElem? hy)] at h
    exact absurd rfl h
   ·have ht : t ∈ r.tks ++ [] := ht
    rw [h0] at ht
    cases ht
  have L1 : Live (tellP nm ns { r with st := { r.st with id := q.name } } ⟨1, q.pnode, q.par, 0⟩ []).st := by
   unfold tellP
   rw [hc]
   intro _ y hy
   rw [hrep y hy]
   exact ⟨by show (0 : Int) ≤ 0; decide, by show (0 : Int) ≤ 3; decide⟩
  have F1 : Fine ns (tellP nm ns { r with st := { r.st with id := q.name } } ⟨1, q.pnode, q.par, 0⟩ []).st := by
   unfold tellP
   rw [hc]
   exact ⟨List.length_replicate, fun y hy _ => by rw [hrep y hy]⟩
  exact R1.goOn S T L1 F1
 split
 ·exact stay
 rename_i hs0
 split
 ·exact stay
 rename_i hs1
 have F : Fine ns r.st := ⟨M.2 hs0, M.1⟩
 have told : ∀ {e : Ev} {ts : List Tk}, e.kind ≠ 1 → e.kind ≠ 6 → (∀ (i : Nat) (y : Ns), findP ns e.node = some i → r.st.nodes[i]? = some y → y.status ≠ 0) → (∀ s', changeP nm ns r.st e = some s' → ∀ t ∈ ts, TkFor ns q.now s' (flowT s'.id t)) → Neat ns q.now (tellP nm ns r e ts) ∧ Live (tellP nm ns r e ts).st ∧ Fine ns (tellP nm ns r e ts).st := fun h1 h6 hn hts =>
  ⟨R.tell h1 (fun _ _ i x y hf hx hy => ⟨.inl h0, .inl (hn i y hf hy)⟩) hts, L.tell h1 h6, ⟨(tellP_grow h1).len.trans F.len, tellP_bare F.bare⟩⟩
 have toldGo : ∀ {e : Ev}, e.kind ≠ 1 → e.kind ≠ 6 → (∀ (i : Nat) (y : Ns), findP ns e.node = some i → r.st.nodes[i]? = some y → y.status ≠ 0) → Neat ns q.now (goOnP nm ns (tellP nm ns r e [])) ∧ Live (goOnP nm ns (tellP nm ns r e [])).st ∧ Moving (goOnP nm ns (tellP nm ns r e [])).st := fun h1 h6 hn => by
  obtain ⟨a, b, c⟩ := told (ts := []) h1 h6 hn (fun _ _ _ h => by cases h)
  exact a.goOn S T b c
 have fell : ∀ {x tx : ByteArray}, (∀ (i : Nat) (y : Ns), findP ns x = some i → r.st.nodes[i]? = some y → y.status ≠ 0) → Neat ns q.now (breakP nm ns r x tx) ∧ Live (breakP nm ns r x tx).st ∧ Moving (breakP nm ns r x tx).st := fun hn =>
  ⟨R.fall _ _ (fun i x y hf hx hy => ⟨.inl h0, .inl (hn i y hf hy)⟩), live_shut breakP_shut, fun h => absurd h breakP_shut⟩
 have here : ∀ {e : Ev} {s' : St} {i : Nat} {x : Nd} {y : Ns}, findP ns e.node = some i → ns[i]? = some x → r.st.nodes[i]? = some y → e.kind ≠ 1 → e.kind ≠ 13 → e.kind ≠ 15 → changeP nm ns r.st e = some s' → ∃ m, m ∈ movesL ∧ m.event = e.kind ∧ (m.kind = x.kind ∨ m.kind = 0) ∧ s'.nodes[i]? = some ⟨m.dst, if e.kind = 3 then e.num else y.tr, if m.txt then e.text else y.text⟩ := fun {e s' i x y} hf hx hy h1 h13 h15 hc => by
  obtain ⟨_, _, hn⟩ := change_cases hc h1
  rcases hn with ⟨h, _⟩ | ⟨_, _, _, j, x', y', m, hf', hx', hy', hm, hn⟩
  ·exact absurd h (by omega)
  ·rw [hf] at hf'
   cases hf'
   rw [hx] at hx'
   cases hx'
   rw [hy] at hy'
   cases hy'
   obtain ⟨m1, m2, _, m4⟩ := move_fits hm
   exact ⟨m, m1, m2, m4, by rw [hn]; exact set_here hy⟩
 have moved : ∀ {e : Ev} {ts : List Tk} {d : Int}, d = 1 ∨ d = 2 → e.kind ≠ 1 → e.kind ≠ 13 → e.kind ≠ 15 → (∀ m ∈ movesL, m.event = e.kind → m.dst = d) → Moving (tellP nm ns r e ts).st := fun {e ts d} hd h1 h13 h15 hm => by
  unfold tellP
  cases hc : changeP nm ns r.st e with
  | none => exact Mv
  | some s' =>
   obtain ⟨_, _, hn⟩ := change_cases hc h1
   rcases hn with ⟨h, _⟩ | ⟨_, _, _, j, x', y', m, hf', hx', hy', hmv, hn⟩
   ·exact absurd h (by omega)
   ·obtain ⟨m1, m2, _, m4⟩ := move_fits hmv
    intro _
    have hat := set_here (m := m) (e := e) hy'
    rw [← hn] at hat
    refine ⟨_, List.mem_of_getElem? hat, ?_⟩
    show m.dst = 1 ∨ m.dst = 2
    rw [hm m m1 m2]
    exact hd
 have failed : ∀ {i : Nat} {x : Nd} {y : Ns} {tx : ByteArray}, ns[i]? = some x → r.st.nodes[i]? = some y → y.status = 2 → x.kind = 1 → Neat ns q.now (failTryP nm ns r i tx) ∧ Live (failTryP nm ns r i tx).st ∧ Moving (failTryP nm ns r i tx).st := fun {i x y tx} hx hy h2 hk => by
  have hf := S.find i x hx
  have hn : ∀ (j : Nat) (z : Ns), findP ns x.name = some j → r.st.nodes[j]? = some z → z.status ≠ 0 := fun j z h1 h3 => by
   rw [hf] at h1
   cases h1
   rw [hy] at h3
   cases h3
   omega
  unfold failTryP
  rw [hx, hy]
  dsimp only
  split
  ·exact fell hn
  ·obtain ⟨a, b, _⟩ := told (e := ⟨5, x.name, tx, y.tr⟩) (ts := [⟨1, ⟨#[]⟩, x.name, IntKind.i64.wrap (y.tr + 1), 0, zeroMl⟩]) (by show (5 : Int) ≠ 1; decide) (by show (5 : Int) ≠ 6; decide) hn (fun s' hc t ht => by
    rw [List.mem_singleton] at ht
    subst ht
    obtain ⟨m, m1, m2, m4, hz⟩ := here (e := ⟨5, x.name, tx, y.tr⟩) hf hx hy (by show (5 : Int) ≠ 1; decide) (by show (5 : Int) ≠ 13; decide) (by show (5 : Int) ≠ 15; decide) hc
    refine ⟨rfl, .inl ⟨rfl, i, x, _, hf, hx, hz, fun _ => ?_, rfl, hk⟩⟩
    exact moves_to (e := 5) (by decide) m1 m2)
   refine ⟨a, b, moved (d := 1) (.inl rfl) (by show (5 : Int) ≠ 1; decide) (by show (5 : Int) ≠ 13; decide) (by show (5 : Int) ≠ 15; decide) (fun m m1 m2 => ?_)⟩
   exact moves_to (e := 5) (by decide) m1 m2
 have atN : ∀ {i : Nat} {y : Ns} {x : ByteArray}, findP ns x = some i → r.st.nodes[i]? = some y → y.status ≠ 0 → ∀ (j : Nat) (z : Ns), findP ns x = some j → r.st.nodes[j]? = some z → z.status ≠ 0 := fun hf hy h2 j z h1 h3 => by
  rw [hf] at h1
  cases h1
  rw [hy] at h3
  cases h3
  exact h2
 split
 ·unfold signalP
  split
  ·exact stay
  split
  ·exact stay
  split
  ·rename_i i hw
   obtain ⟨n, y, hn, hy, h2⟩ := wait_at hw
   refine toldGo (by show (12 : Int) ≠ 1; decide) (by show (12 : Int) ≠ 6; decide) ?_
   have e : nmAt ns i = n.name := by unfold nmAt; rw [hn]
   show ∀ (j : Nat) (z : Ns), findP ns (nmAt ns i) = some j → _
   rw [e]
   exact atN (S.find i n hn) hy (by omega)
  ·split
   ·exact stay
   ·refine ⟨R.tell (e := ⟨13, q.name, q.text, 0⟩) (by show (13 : Int) ≠ 1; decide) (fun h => absurd rfl h) (fun _ _ _ h => by cases h), L.tell (by show (13 : Int) ≠ 1; decide) (by show (13 : Int) ≠ 6; decide), ?_⟩
    unfold tellP
    cases hc : changeP nm ns r.st ⟨13, q.name, q.text, 0⟩ with
    | none => exact Mv
    | some s' =>
     obtain ⟨h1, _, hn⟩ := change_cases hc (by show (13 : Int) ≠ 1; decide)
     rcases hn with ⟨_, hn⟩ | ⟨h, _⟩
     ·intro _
      obtain ⟨y, hy, h⟩ := Mv h1
      exact ⟨y, by show y ∈ s'.nodes; rw [hn]; exact hy, h⟩
     ·exact absurd rfl h
 split
 ·unfold takeP
  split
  ·exact stay
  ·rename_i i hk
   obtain ⟨a, b, hf, hc1⟩ := findK_some hk
   rw [List.getElem?_eq_getElem a, List.getElem?_eq_getElem b]
   dsimp only
   split
   ·rename_i h1
    obtain ⟨x, hx⟩ : ∃ x, x = ns[i] := ⟨_, rfl⟩
    obtain ⟨y, hy⟩ : ∃ y, y = r.st.nodes[i] := ⟨_, rfl⟩
    have hxi : ns[i]? = some x := by rw [hx]; exact List.getElem?_eq_getElem a
    have hyi : r.st.nodes[i]? = some y := by rw [hy]; exact List.getElem?_eq_getElem b
    rw [← hx, ← hy]
    rw [← hy] at h1
    obtain ⟨k1, k2, _⟩ := told (e := ⟨3, q.node, ⟨#[]⟩, IntKind.i64.wrap (y.tr + 1)⟩) (ts := alarmL r q x (IntKind.i64.wrap (y.tr + 1))) (by show (3 : Int) ≠ 1; decide) (by show (3 : Int) ≠ 6; decide) (atN hf hyi (by omega)) (fun s' hc t ht => by
     unfold alarmL at ht
     split at ht
     ·rw [List.mem_singleton] at ht
      subst ht
      obtain ⟨m, m1, m2, m4, hz⟩ := here (e := ⟨3, q.node, ⟨#[]⟩, IntKind.i64.wrap (y.tr + 1)⟩) hf hxi hyi (by show (3 : Int) ≠ 1; decide) (by show (3 : Int) ≠ 13; decide) (by show (3 : Int) ≠ 15; decide) hc
      refine ⟨rfl, .inr (.inl ⟨rfl, i, x, _, hf, hxi, hz, fun _ => ?_, by show IntKind.i64.wrap (r.now + x.delay) = _; rw [R.tick]⟩)⟩
      exact moves_to (e := 3) (by decide) m1 m2
     ·cases ht)
    refine ⟨k1, k2, moved (d := 2) (.inr rfl) (by show (3 : Int) ≠ 1; decide) (by show (3 : Int) ≠ 13; decide) (by show (3 : Int) ≠ 15; decide) (fun m m1 m2 => ?_)⟩
    exact moves_to (e := 3) (by decide) m1 m2
   ·exact stay
 split
 ·unfold completeP
  split
  rename_i i e hb
  split
  ·exact stay
  rename_i he
  split
  ·exact stay
  ·obtain ⟨hf, x, y, hx, hy, h2, _⟩ := busy_at hb he
   exact toldGo (by show (4 : Int) ≠ 1; decide) (by show (4 : Int) ≠ 6; decide) (atN hf hy (by omega))
 split
 ·unfold failP
  split
  rename_i i e hb
  split
  ·exact stay
  rename_i he
  split
  ·exact stay
  ·obtain ⟨hf, x, y, hx, hy, h2, hk⟩ := busy_at hb he
   exact failed hx hy h2 (by simpa using hk)
 split
 ·unfold fireP
  split
  rename_i i e hb
  split
  ·exact stay
  rename_i he
  obtain ⟨hf, x, y, hx, hy, h2, hk⟩ := busy_at hb he
  split
  ·rename_i hk1
   refine failed hx hy h2 ?_
   unfold kindAt at hk1
   rw [hx] at hk1
   exact hk1
  ·exact toldGo (by show (8 : Int) ≠ 1; decide) (by show (8 : Int) ≠ 6; decide) (atN hf hy (by omega))
 split
 ·unfold kidP
  split
  rename_i i e hb
  split
  ·exact stay
  rename_i he
  obtain ⟨hf, x, y, hx, hy, h2, hk⟩ := busy_at hb he
  split
  ·exact fell (atN hf hy (by omega))
  ·exact toldGo (by show (10 : Int) ≠ 1; decide) (by show (10 : Int) ≠ 6; decide) (atN hf hy (by omega))
 split
 ·unfold cancelP
  split
  ·exact stay
  ·exact ⟨R.close _ _, live_shut (endP_shut (.inr (.inr rfl))), fun h => absurd h (endP_shut (.inr (.inr rfl)))⟩
 ·exact stay
theorem Good.step (T : Taken nm ns) (M : Met ns s) (G : Good ns s) (q : Inp) : Good ns (stepP nm ns s q).1.st := by
 obtain ⟨a, b, c⟩ := G.does T M q
 exact a.good b c
theorem Good.tasks (T : Taken nm ns) (M : Met ns s) (G : Good ns s) (q : Inp) : ∀ t ∈ (stepP nm ns s q).1.tks, TkFor ns q.now (stepP nm ns s q).1.st t := (G.does T M q).1.tks
end
end Go.Proofs.YtfjekjbkifmpfaaDoor
namespace Go.Proofs.YtfjekjbkifmpfaaDoor.Rf
open Go.RowKit
variable {nm : ByteArray} {ns : List Nd} {pb : Nat} {s : St}
theorem ht9 {W : World} {db ib : Nat} {d0 d1 q0 q1 q2 q3 q4 q5 q6 q7 q8 i0 i1 i2 i3 i4 i5 i6 i7 i8 : Value} {t : St} {z : Int} {Q : Nat → World → Value → Value → Value → Value → Prop} {ds : List Deferred} {u0 u1 u3 u4 u6 u8 u9 u10 u11 u12 u13 u14 u15 u16 u17 u18 u19 u20 u21 u22 u23 u24 u25 u26 u27 u28 u29 u30 u31 u32 u33 u34 u35 u36 u37 u38 u39 u40 u41 u42 u43 u44 u45 u46 u47 u48 u49 u50 u51 u52 u53 u54 u55 u56 u57 u58 u59 u60 u61 u62 u63 u64 u65 u66 u67 u68 u69 u70 u71 u72 u73 u74 u75 u76 u77 u78 u79 u80 u81 u82 u83 u84 u85 u86 u87 u88 u89 u90 u91 u92 u93 u94 u95 u96 u97 u98 u99 u100 u101 u102 u103 u104 u105 u106 u107 u108 u109 u110 u111 u112 u113 u114 u115 u116 u117 u118 u119 u120 u121 u122 u123 u124 u125 u126 u127 u128 u129 u130 u131 u132 u133 u134 u135 u136 u137 u138 u139 u140 u141 u142 u143 u144 u145 u146 u147 u148 u149 u150 u151 u152 u153 u154 u155 u156 u157 u158 u159 u160 u161 u162 u163 u164 u165 u166 u167 u168 u169 u170 u171 u172 u173 u174 u175 u176 u177 u178 : Value} (K : Act → World → Prop)
  (x0 : W.cell? ⟨db, 0, none⟩ = some (d0)) (x1 : W.cell? ⟨db, 1, none⟩ = some (d1)) (x2 : W.cell? ⟨pb, 2, none⟩ = some (q0)) (x3 : W.cell? ⟨pb, 3, none⟩ = some (q1)) (x4 : W.cell? ⟨pb, 4, none⟩ = some (q2)) (x5 : W.cell? ⟨pb, 5, none⟩ = some (q3)) (x6 : W.cell? ⟨pb, 6, none⟩ = some (q4)) (x7 : W.cell? ⟨pb, 7, none⟩ = some (q5)) (x8 : W.cell? ⟨pb, 8, none⟩ = some (q6)) (x9 : W.cell? ⟨pb, 9, none⟩ = some (q7)) (x10 : W.cell? ⟨pb, 10, none⟩ = some (q8)) (x11 : W.cell? ⟨ib, 0, none⟩ = some (i0)) (x12 : W.cell? ⟨ib, 1, none⟩ = some (i1)) (x13 : W.cell? ⟨ib, 2, none⟩ = some (i2)) (x14 : W.cell? ⟨ib, 3, none⟩ = some (i3)) (x15 : W.cell? ⟨ib, 4, none⟩ = some (i4)) (x16 : W.cell? ⟨ib, 5, none⟩ = some (i5)) (x17 : W.cell? ⟨ib, 6, none⟩ = some (i6)) (x18 : W.cell? ⟨ib, 7, none⟩ = some (i7)) (x19 : W.cell? ⟨ib, 8, none⟩ = some (i8))
  (hC : ∀ V, KF W.drew V → Calls Tryd.prog 22 #[.agg #[d0, d1], .agg #[q0, q1, q2, q3, q4, q5, q6, q7, q8], .agg #[i0, i1, i2, i3, i4, i5, i6, i7, i8]] V fun e w' => ∃ (ve : Value) (a6 : Option Addr) (c6 : Nat) (a7 : Option Addr) (c7 : Nat) (vt : Value), e = .returned (.tuple #[ve, .agg #[.string t.dfn, .string t.id, .string t.par, .string t.pnode, .int .i64 t.status, .string t.text, .slice a6 t.nodes.length c6, .slice a7 t.sigs.length c7, .int .i64 t.events], vt, .int .i64 z]) ∧ Q V.heap.size w' ve (.slice a6 t.nodes.length c6) (.slice a7 t.sigs.length c7) vt ∧ KF V w')
  (hQ : ∀ B w1 w2 ve p6 p7 vt mb, Q B w1 ve p6 p7 vt → mb < B ∨ w1.heap.size ≤ mb → Kept (fun j => j = mb) w1 w2 → Q B w2 ve p6 p7 vt)
  (h : ∀ (v40 v41 v42 v43 v44 v45 v46 v47 v48 v49 v50 v51 : Value) (mb B : Nat) (ve : Value) (a6 : Option Addr) (c6 : Nat) (a7 : Option Addr) (c7 : Nat) (vt : Value) (W' : World), W.heap.size ≤ mb → W.heap.size ≤ B → W'.heap[mb]? = some (zS t (.slice a6 t.nodes.length c6) (.slice a7 t.sigs.length c7)) → Q B W' ve (.slice a6 t.nodes.length c6) (.slice a7 t.sigs.length c7) vt → KF W W' → K { tmps := #[u0, u1, .pointer (some ⟨db, 0, none⟩), u3, u4, .pointer (some ⟨pb, 0, none⟩), u6, .pointer (some ⟨ib, 0, none⟩), ve, .pointer (some ⟨mb, 0, none⟩), vt, .int .i64 z, u12, u13, u14, u15, u16, u17, u18, u19, u20, u21, u22, u23, u24, u25, u26, u27, u28, u29, u30, u31, u32, u33, u34, u35, u36, u37, u38, u39, v40, v41, v42, v43, v44, v45, v46, v47, v48, v49, v50, v51, u52, u53, u54, u55, u56, u57, u58, u59, u60, u61, u62, u63, u64, u65, u66, u67, u68, u69, u70, u71, u72, u73, u74, u75, u76, u77, u78, u79, u80, u81, u82, u83, u84, u85, u86, u87, u88, u89, u90, u91, u92, u93, u94, u95, u96, u97, u98, u99, u100, u101, u102, u103, u104, u105, u106, u107, u108, u109, u110, u111, u112, u113, u114, u115, u116, u117, u118, u119, u120, u121, u122, u123, u124, u125, u126, u127, u128, u129, u130, u131, u132, u133, u134, u135, u136, u137, u138, u139, u140, u141, u142, u143, u144, u145, u146, u147, u148, u149, u150, u151, u152, u153, u154, u155, u156, u157, u158, u159, u160, u161, u162, u163, u164, u165, u166, u167, u168, u169, u170, u171, u172, u173, u174, u175, u176, u177, u178], defers := ds } W') :
  (Code.region 9 (rgF Tryd.f8 9) true).wp Tryd.prog (onlyN K) { tmps := #[u0, u1, .pointer (some ⟨db, 0, none⟩), u3, u4, .pointer (some ⟨pb, 0, none⟩), u6, .pointer (some ⟨ib, 0, none⟩), u8, u9, u10, u11, u12, u13, u14, u15, u16, u17, u18, u19, u20, u21, u22, u23, u24, u25, u26, u27, u28, u29, u30, u31, u32, u33, u34, u35, u36, u37, u38, u39, u40, u41, u42, u43, u44, u45, u46, u47, u48, u49, u50, u51, u52, u53, u54, u55, u56, u57, u58, u59, u60, u61, u62, u63, u64, u65, u66, u67, u68, u69, u70, u71, u72, u73, u74, u75, u76, u77, u78, u79, u80, u81, u82, u83, u84, u85, u86, u87, u88, u89, u90, u91, u92, u93, u94, u95, u96, u97, u98, u99, u100, u101, u102, u103, u104, u105, u106, u107, u108, u109, u110, u111, u112, u113, u114, u115, u116, u117, u118, u119, u120, u121, u122, u123, u124, u125, u126, u127, u128, u129, u130, u131, u132, u133, u134, u135, u136, u137, u138, u139, u140, u141, u142, u143, u144, u145, u146, u147, u148, u149, u150, u151, u152, u153, u154, u155, u156, u157, u158, u159, u160, u161, u162, u163, u164, u165, u166, u167, u168, u169, u170, u171, u172, u173, u174, u175, u176, u177, u178], defers := ds } W := by
 have HH : Hid _ := h
 have KD := Kept.drew (fun _ => False) W
 have HS : Hid (∀ V, KF W.drew V → V.cell? ⟨db, 0, none⟩ = some (d0) ∧ V.cell? ⟨db, 1, none⟩ = some (d1) ∧ V.cell? ⟨pb, 2, none⟩ = some (q0) ∧ V.cell? ⟨pb, 3, none⟩ = some (q1) ∧ V.cell? ⟨pb, 4, none⟩ = some (q2) ∧ V.cell? ⟨pb, 5, none⟩ = some (q3) ∧ V.cell? ⟨pb, 6, none⟩ = some (q4) ∧ V.cell? ⟨pb, 7, none⟩ = some (q5) ∧ V.cell? ⟨pb, 8, none⟩ = some (q6) ∧ V.cell? ⟨pb, 9, none⟩ = some (q7) ∧ V.cell? ⟨pb, 10, none⟩ = some (q8) ∧ V.cell? ⟨ib, 0, none⟩ = some (i0) ∧ V.cell? ⟨ib, 1, none⟩ = some (i1) ∧ V.cell? ⟨ib, 2, none⟩ = some (i2) ∧ V.cell? ⟨ib, 3, none⟩ = some (i3) ∧ V.cell? ⟨ib, 4, none⟩ = some (i4) ∧ V.cell? ⟨ib, 5, none⟩ = some (i5) ∧ V.cell? ⟨ib, 6, none⟩ = some (i6) ∧ V.cell? ⟨ib, 7, none⟩ = some (i7) ∧ V.cell? ⟨ib, 8, none⟩ = some (i8)) := fun V KV => ⟨kc_ (KD.and KV) x0, kc_ (KD.and KV) x1, kc_ (KD.and KV) x2, kc_ (KD.and KV) x3, kc_ (KD.and KV) x4, kc_ (KD.and KV) x5, kc_ (KD.and KV) x6, kc_ (KD.and KV) x7, kc_ (KD.and KV) x8, kc_ (KD.and KV) x9, kc_ (KD.and KV) x10, kc_ (KD.and KV) x11, kc_ (KD.and KV) x12, kc_ (KD.and KV) x13, kc_ (KD.and KV) x14, kc_ (KD.and KV) x15, kc_ (KD.and KV) x16, kc_ (KD.and KV) x17, kc_ (KD.and KV) x18, kc_ (KD.and KV) x19⟩
 have HKD : Hid (KF W W.drew) := KD
 have hS0 := HS.out W.drew (Kept.refl _ _)
 clear h KD x0 x1 x2 x3 x4 x5 x6 x7 x8 x9 x10 x11 x12 x13 x14 x15 x16 x17 x18 x19
 refine heldR HS (fun _ => ?_)
 generalize W.drew = V0 at *
 refine tkR 0 hS0 ?_
 refine tkR 1 hS0 ?_
 refine tkR 2 hS0 ?_
 refine tkR 3 hS0 ?_
 refine tkR 4 hS0 ?_
 refine tkR 5 hS0 ?_
 refine wpAnyH_ready (rs := [6, 12]) (by kernel_rfl) (by simp) (rdy (fun K' hK => ?_) (rdy (fun K' hK => ?_) AllReadyH.nil))
 ·refine step_call3 _ (by rfl) 22 _ _ _ _ _ _ (by rfl) (enters_of Tryd.func22 (by kernel_rfl) rfl) _ _ _ (by rfl) (by rfl) (by rfl) (hC _ (Kept.refl (fun _ => False) V0)) ?_
  rintro e w9 ⟨ve, a6, c6, a7, c7, vt, rfl, Q9, K9⟩
  have L9 := ((Kept.refl (fun _ => False) V0)).and K9
  have hB9 : V0.heap.size ≤ V0.heap.size := ((Kept.refl (fun _ => False) V0)).size
  refine ⟨_, rfl, ?_⟩
  refine hK.out _ _ (HS.out _ L9) (fun _ => ?_)
  clear hK K'
  try (simp only [Act.put, List.setIfInBounds_toArray, List.set_cons_zero, List.set_cons_succ])
  refine tkR 7 (HS.out _ L9) ?_
  refine tkR 8 (HS.out _ L9) ?_
  refine tkR 9 (HS.out _ L9) ?_
  refine tkR 10 (HS.out _ L9) ?_
  refine tkR 11 (HS.out _ L9) ?_
  refine wpAnyH_ready (rs := [12]) (by kernel_rfl) (by simp) (rdy (fun K' hK => ?_) AllReadyH.nil)
  have hmb : (w9.alloc zZ).heap[w9.heap.size]? = some (.cells #[.string ⟨#[]⟩, .string ⟨#[]⟩, .string ⟨#[]⟩, .string ⟨#[]⟩, .int .i64 0, .string ⟨#[]⟩, .slice none 0 0, .slice none 0 0, .int .i64 0] 33 (0, 0)) := heap_alloc_new _ _
  have KA0 : KF w9 (w9.alloc zZ) := Kept.alloc _ _ _
  have KA := (L9).and KA0
  go_simp
  refine hK.out _ _ (HS.out _ KA) (fun _ => ?_)
  generalize w9.alloc zZ = V6 at *
  obtain ⟨mb, hmbe⟩ : ∃ mb, mb = w9.heap.size := ⟨_, rfl⟩
  rw [← hmbe] at hmb ⊢
  have hz : V0.heap.size ≤ mb := by rw [hmbe]; exact (L9).size
  have hmC : mb < V0.heap.size ∨ w9.heap.size ≤ mb := .inr (Nat.le_of_eq hmbe.symm)
  have K90 : Kept (fun j => j = mb) w9 V6 := KA0.mono (fun _ h => h.elim)
  clear hmbe KA0
  clear hK K'
  try (simp only [Act.put, List.setIfInBounds_toArray, List.set_cons_zero, List.set_cons_succ])
  refine tkR 13 (HS.out _ KA) ?_
  refine wpAnyH_ready (rs := [14]) (by kernel_rfl) (by simp) (rdy (fun K' hK => ?_) AllReadyH.nil)
  obtain ⟨⟨p0, p1, p2, p3, p4, p5, p6, p7, p8⟩, f0, f1, f2, f3, f4, f5, f6, f7, f8⟩ := nine hmb
  have HM := hid (put9 hmb (.string t.dfn) (.string t.id) (.string t.par) (.string t.pnode) (.int .i64 t.status) (.string t.text) (.slice a6 t.nodes.length c6) (.slice a7 t.sigs.length c7) (.int .i64 t.events))
  have KS := kept9 (S := fun j => j = mb) V6 rfl (.string t.dfn) (.string t.id) (.string t.par) (.string t.pnode) (.int .i64 t.status) (.string t.text) (.slice a6 t.nodes.length c6) (.slice a7 t.sigs.length c7) (.int .i64 t.events)
  have QS := hid (hQ _ _ _ _ _ _ _ _ Q9 hmC (K90.and KS))
  have KF := (KA).trans KS (fun j h => .inr (by subst h; exact hz))
  go_simp
  refine hK.out _ _ (HS.out _ KF) (fun _ => ?_)
  have HKF := hid (HKD.out.and KF)
  clear p0 p1 p2 p3 p4 p5 p6 p7 p8 f0 f1 f2 f3 f4 f5 f6 f7 f8 KS
  clear hK K'
  try (simp only [Act.put, List.setIfInBounds_toArray, List.set_cons_zero, List.set_cons_succ])
  refine tkR 15 (HS.out _ KF) ?_
  refine tkR 16 (HS.out _ KF) ?_
  refine wpAnyH_done (by kernel_rfl) ?_ _
  exact HH.out _ _ _ _ _ _ _ _ _ _ _ _ mb _ ve a6 c6 a7 c7 vt _ (Nat.le_trans HKD.out.size hz) (Nat.le_trans HKD.out.size hB9) HM.out QS.out HKF.out
 ·have hmb : (V0.alloc zZ).heap[V0.heap.size]? = some (.cells #[.string ⟨#[]⟩, .string ⟨#[]⟩, .string ⟨#[]⟩, .string ⟨#[]⟩, .int .i64 0, .string ⟨#[]⟩, .slice none 0 0, .slice none 0 0, .int .i64 0] 33 (0, 0)) := heap_alloc_new _ _
  have KA0 : KF V0 (V0.alloc zZ) := Kept.alloc _ _ _
  have KA := ((Kept.refl (fun _ => False) V0)).and KA0
  go_simp
  refine hK.out _ _ (HS.out _ KA) (fun _ => ?_)
  generalize V0.alloc zZ = V6 at *
  obtain ⟨mb, hmbe⟩ : ∃ mb, mb = V0.heap.size := ⟨_, rfl⟩
  rw [← hmbe] at hmb ⊢
  have hz : V0.heap.size ≤ mb := by rw [hmbe]; exact ((Kept.refl (fun _ => False) V0)).size
  clear hmbe KA0
  clear hK K'
  try (simp only [Act.put, List.setIfInBounds_toArray, List.set_cons_zero, List.set_cons_succ])
  refine wpAnyH_ready (rs := [6]) (by kernel_rfl) (by simp) (rdy (fun K' hK => ?_) AllReadyH.nil)
  refine step_call3 _ (by rfl) 22 _ _ _ _ _ _ (by rfl) (enters_of Tryd.func22 (by kernel_rfl) rfl) _ _ _ (by rfl) (by rfl) (by rfl) (hC _ KA) ?_
  rintro e w9 ⟨ve, a6, c6, a7, c7, vt, rfl, Q9, K9⟩
  have L9 := (KA).and K9
  have hB9 : V0.heap.size ≤ V6.heap.size := (KA).size
  have hmC : mb < V6.heap.size ∨ w9.heap.size ≤ mb := .inl (Array.getElem?_eq_some_iff.1 hmb).1
  replace hmb := atK K9 hmb
  have K90 : Kept (fun j => j = mb) w9 w9 := Kept.refl _ _
  refine ⟨_, rfl, ?_⟩
  refine hK.out _ _ (HS.out _ L9) (fun _ => ?_)
  clear hK K'
  try (simp only [Act.put, List.setIfInBounds_toArray, List.set_cons_zero, List.set_cons_succ])
  refine tkR 7 (HS.out _ L9) ?_
  refine tkR 8 (HS.out _ L9) ?_
  refine tkR 9 (HS.out _ L9) ?_
  refine tkR 10 (HS.out _ L9) ?_
  refine tkR 11 (HS.out _ L9) ?_
  refine tkR 13 (HS.out _ L9) ?_
  refine wpAnyH_ready (rs := [14]) (by kernel_rfl) (by simp) (rdy (fun K' hK => ?_) AllReadyH.nil)
  obtain ⟨⟨p0, p1, p2, p3, p4, p5, p6, p7, p8⟩, f0, f1, f2, f3, f4, f5, f6, f7, f8⟩ := nine hmb
  have HM := hid (put9 hmb (.string t.dfn) (.string t.id) (.string t.par) (.string t.pnode) (.int .i64 t.status) (.string t.text) (.slice a6 t.nodes.length c6) (.slice a7 t.sigs.length c7) (.int .i64 t.events))
  have KS := kept9 (S := fun j => j = mb) w9 rfl (.string t.dfn) (.string t.id) (.string t.par) (.string t.pnode) (.int .i64 t.status) (.string t.text) (.slice a6 t.nodes.length c6) (.slice a7 t.sigs.length c7) (.int .i64 t.events)
  have QS := hid (hQ _ _ _ _ _ _ _ _ Q9 hmC (K90.and KS))
  have KF := (L9).trans KS (fun j h => .inr (by subst h; exact hz))
  go_simp
  refine hK.out _ _ (HS.out _ KF) (fun _ => ?_)
  have HKF := hid (HKD.out.and KF)
  clear p0 p1 p2 p3 p4 p5 p6 p7 p8 f0 f1 f2 f3 f4 f5 f6 f7 f8 KS
  clear hK K'
  try (simp only [Act.put, List.setIfInBounds_toArray, List.set_cons_zero, List.set_cons_succ])
  refine tkR 15 (HS.out _ KF) ?_
  refine tkR 16 (HS.out _ KF) ?_
  refine wpAnyH_done (by kernel_rfl) ?_ _
  exact HH.out _ _ _ _ _ _ _ _ _ _ _ _ mb _ ve a6 c6 a7 c7 vt _ (Nat.le_trans HKD.out.size hz) (Nat.le_trans HKD.out.size hB9) HM.out QS.out HKF.out
open Go.ChangeShapes Go.WideShapes Go.ChangeAt Go.RowKit Go.Deep
theorem PlSt.next {w2 wr : World} {a : Option Addr} {c : Nat} {k : Nat} {l : List Ev} (X : PlSt w2 wr pb nm a c ns k s l) : PlSt w2 wr pb nm a c ns (k + 1) s l :=
 ⟨X.1, X.2.1.next, Nat.le_trans X.2.2 (by omega)⟩
theorem PlSt.stands {w2 wr : World} {a : Option Addr} {c : Nat} {k : Nat} {l : List Ev} (X : PlSt w2 wr pb nm a c ns k s l) : ∃ (a6 : Option Addr) (c6 : Nat) (a7 : Option Addr) (c7 : Nat) (v11 : Value), wr.heap[pb]? = some (.cells #[.string nm, .slice a ns.length c, .string s.dfn, .string s.id, .string s.par, .string s.pnode, .int .i64 s.status, .string s.text, .slice a6 s.nodes.length c6, .slice a7 s.sigs.length c7, .int .i64 s.events, v11] 36 (0, 0)) ∧ FlatAt wr 3 (.slice a6 s.nodes.length c6) s.nodes.length (nsF s.nodes) ∧ FlatAt wr 2 (.slice a7 s.sigs.length c7) s.sigs.length (sgF s.sigs) := by
 obtain ⟨⟨H, v6, v7, v11, E, P⟩, M, hl⟩ := X
 obtain ⟨a6, c6, rfl⟩ := ownsRow_shape P.nodes
 obtain ⟨a7, c7, rfl⟩ := ownsRow_shape P.sigs
 exact ⟨a6, c6, a7, c7, v11, P.blk, flat_of_owns P.nodes, flat_of_owns P.sigs⟩
theorem thirteen {w : World} {b : Nat} {T : TypeId} {u0 u1 u2 u3 u4 u5 u6 u7 u8 u9 u10 u11 u12 : Value} (h : w.heap[b]? = some (.cells #[u0, u1, u2, u3, u4, u5, u6, u7, u8, u9, u10, u11, u12] T (0, 0))) : w.cell? ⟨b, 0, none⟩ = some u0 ∧ w.cell? ⟨b, 1, none⟩ = some u1 ∧ w.cell? ⟨b, 2, none⟩ = some u2 ∧ w.cell? ⟨b, 3, none⟩ = some u3 ∧ w.cell? ⟨b, 4, none⟩ = some u4 ∧ w.cell? ⟨b, 5, none⟩ = some u5 ∧ w.cell? ⟨b, 6, none⟩ = some u6 ∧ w.cell? ⟨b, 7, none⟩ = some u7 ∧ w.cell? ⟨b, 8, none⟩ = some u8 ∧ w.cell? ⟨b, 9, none⟩ = some u9 ∧ w.cell? ⟨b, 10, none⟩ = some u10 ∧ w.cell? ⟨b, 11, none⟩ = some u11 ∧ w.cell? ⟨b, 12, none⟩ = some u12 := by
 simp [World.cell?, h]
theorem _root_.Go.Proofs.YtfjekjbkifmpfaaDoor.Good.play (T : Taken nm ns) (M : Met ns s) (G : Good ns s) (q : Inp) : Good ns (playS nm ns s q) := by
 unfold playS
 split
 ·exact G.step T M q
 ·exact G
theorem historyTasks_walk (name : ByteArray) (a : Option Addr) (c : Nat) (ns0 : List Nd) (ai : Option Addr) (ci : Nat) (ins : List Inp) (w : World) (R0 : RawAt w a ns0) (hnm : name.size ≤ maxLen) (hc : ns0.length ≤ c) (I0 : InsAt w ai ins) (hi0 : ins.length ≤ ci ∧ ci ≤ maxLen) (M : MovesAt w) :
  Calls Tryd.prog 8 #[.agg #[.string name, .slice a ns0.length c], .slice ai ins.length ci] w fun e w' => e = .returned (.bool true) ∧ Below w.heap.size w w' := by
 have hCut := hcut_any (w.alloc (.cells #[.string name, .slice a ns0.length c] 24)) name a ns0.length c ns0 rfl hc
 obtain ⟨ns, hns⟩ : ∃ ns, ns = ns0.take 32 := ⟨_, rfl⟩
 rw [← hns] at hCut
 have R : RawAt w a ns := by rw [hns]; exact R0.take 32
 have h32 : ns.length ≤ 32 := by rw [hns, List.length_take]; omega
 have HTk : Hid (∀ b, decide ((checkP name ns).2 = 0) = b → ∀ V, RawAt V a ns → Calls Tryd.prog 10 #[.agg #[.string name, .slice a ns.length c]] V fun e w' => e = .returned (.bool b) ∧ KF V w') := fun b hb V RV => taken_any V name a _ c _ RV rfl h32 hnm b hb
 have HR := hid R
 have HM := hid M
 have HI := hid I0
 have hil : ins.length ≤ ci := hi0.1
 have him : ins.length ≤ 9223372036854775807 := by have : maxLen = 9223372036854775807 := rfl; omega
 clear R R0 M hns hc I0 hi0
 by_cases hT : (checkP name ns).2 = 0
 ·have T := taken_of hT
  have HT := hid T
  have HTk2 := hid (HTk.out true (by simp [hT]))
  clear HTk hT T
  go_enter Tryd.func8, Tryd.ntmps8
  go_upto_region 4 with (first
   | (go_at_call 9; refine hCut.mono ?_; rintro e w1 ⟨rfl, K1⟩; clear hCut; obtain ⟨_, f0, f1⟩ := pairF ((K1.block w.heap.size (by simp) (fun h => h)).trans (heap_alloc_new _ _)); have hb := cut_box (n' := ns.length) K1 HR.out; obtain ⟨⟨x0, x1⟩, _, _⟩ := pairF hb.1; have hTk := HTk2.out _ hb.2.2; have HB := hid hb; clear hb)
   | (go_at_call 10; refine hTk.mono ?_; rintro e w2 ⟨rfl, K2⟩; clear hTk)
   | fail)
  have hb2 := atK K2 HB.out.1
  have HK2 := hid (HB.out.2.1.and K2)
  have HD2 := hid (HT.out.at (keptRaw K2 HB.out.2.2) (HM.out.kept HK2.out (fun h => h)))
  obtain ⟨⟨d0, d1⟩, _, _⟩ := pairF hb2
  have HX0 := hid (PlSt.start (nm := name) (c := c) HD2.out)
  have HBX := hid hb2
  have HRW : Hid (∀ V, KF w2 V → RawAt V a ns) := fun V KV => keptRaw (K2.and KV) HB.out.2.2
  clear HTk2 K2 HB f0 f1 x0 x1 K1 hb2
  go_wp2_with fail
  go_loopw [6] (fun q wr => ∃ (i : Nat) (s : St) (l : List Ev), i ≤ ins.length ∧ i ≤ 60 ∧ q = .int .i64 i ∧ PlSt w2 wr w2.heap.size name a c ns i s l ∧ Good ns s) (fun q _ => ins.length - (intOf q).toNat)
  case atStart => exact ⟨0, zeroSt, [], Nat.zero_le _, Nat.zero_le _, rfl, HX0.out, Good.zero ns⟩
  case round =>
   clear HX0
   obtain ⟨i, s, l, hi, hi60, rfl, X, G⟩ := hrel
   by_cases hgo : i < ins.length ∧ i < 60
   ·obtain ⟨hlt, h60⟩ := hgo
    have e0 : (i : Int) < (ins.length : Int) := by omega
    have e1 : (i : Int) < 60 := by omega
    obtain ⟨bi, oi, rfl, hI⟩ := HI.out.at hlt
    obtain ⟨i0, i1, i2, i3, i4, i5, i6, i7, i8⟩ := hI wr (HK2.out.and X.keep)
    obtain ⟨p, hp⟩ : ∃ p, p = clipQ ins[i] := ⟨_, rfl⟩
    have hpt : p.text.size ≤ 300 := by rw [hp]; exact clipQ_text _
    have hpn : p.name.size ≤ 300 := by rw [hp]; exact clipQ_name _
    have hClip : Calls Tryd.prog 13 #[.agg #[.int .i64 (ins[i]).kind, .string (ins[i]).node, .string (ins[i]).name, .string (ins[i]).text, .int .i64 (ins[i]).tr, .int .i64 (ins[i]).status, .int .i64 (ins[i]).now, .string (ins[i]).par, .string (ins[i]).pnode]] wr fun e w' => e = .returned (.agg #[.int .i64 p.kind, .string p.node, .string p.name, .string p.text, .int .i64 p.tr, .int .i64 p.status, .int .i64 p.now, .string p.par, .string p.pnode]) ∧ KF wr w' := by
     rw [hp]
     exact clip_any wr ins[i] (fun V => within_wide V _ _ (by decide) (by decide))
    have hIn := fun V (KV : KF wr V) => play_input (X.new KV) HT.out (by omega) p hpn (Nat.le_trans hpt (by decide))
    unfold inpV at hIn
    have HIN := hid hIn
    have HX := hid X
    have HTO := hid (G.tasks HT.out X.2.1.met p)
    have HGP := hid (G.play HT.out X.2.1.met p)
    have HG := hid G
    have HKX := hid X.keep
    clear hI hp d0 d1 hIn G
    go_upto_region 9 with (first
     | (go_at_call 13; refine hClip.mono ?_; rintro e w6 ⟨rfl, K6⟩; clear hClip)
     | fail)
    have hib := heap_alloc_new w6 (zQ p)
    have HK6 := hid (K6.and (Kept.alloc (fun _ => False) w6 (zQ p)))
    clear K6 i0 i1 i2 i3 i4 i5 i6 i7 i8
    generalize w6.alloc (zQ p) = wa at *
    generalize w6.heap.size = ib at *
    obtain ⟨⟨p0, p1, p2, p3, p4, p5, p6, p7, p8⟩, _⟩ := nine hib
    obtain ⟨u6, g6, u7, g7, v11, hpb, hN0, hS0⟩ := HX.out.stands
    have Z := X.2.1.small (by omega)
    obtain ⟨r, hr⟩ : ∃ r, r = stepP name ns s p := ⟨_, rfl⟩
    have hC := fun V (KV : KF wa.drew V) => Calls.mono (step_any V name a c ns (((HD2.out.new HKX.out).new (HK6.out)).new ((Kept.drew _ _).and KV)).nodes (by omega) (((HD2.out.new HKX.out).new (HK6.out)).new ((Kept.drew _ _).and KV)).low (((HD2.out.new HKX.out).new (HK6.out)).new ((Kept.drew _ _).and KV)).names (((HD2.out.new HKX.out).new (HK6.out)).new ((Kept.drew _ _).and KV)).moves s _ _ (StRd.new (StRd.new ⟨hN0, hS0, by have := Z.nodes; omega, by have := Z.sigs; omega⟩ HK6.out) ((Kept.drew _ _).and KV)) Z p (by omega) (Nat.le_trans hpt (by decide))) (fun e w' h => stepPost_open h)
    have htk : (stepP name ns s p).1.tks.length ≤ 400000 := (stepP_fit (nm := name) (ns := ns) (by omega) Z p (by omega)).tks
    rw [← hr] at hC HTO htk
    have hbp := atK HK6.out hpb
    obtain ⟨⟨z0, z1, z2, z3, z4, z5, z6, z7, z8, z9, z10, _⟩, _⟩ := twelve hbp
    obtain ⟨⟨d0, d1⟩, _, _⟩ := pairF (atK (HKX.out.and HK6.out) HBX.out)
    have HBI0 := hid hib
    clear X hib hpb hbp hN0 hS0 Z hpt hpn hr
    -- MARK S9
    refine wp_onlyN (ht9 (Q := fun B V ve u6 u7 vt => AnsAt V B (ansP r) ve u6 u7 vt) _ d0 d1 z2 z3 z4 z5 z6 z7 z8 z9 z10 p0 p1 p2 p3 p4 p5 p6 p7 p8 hC (fun B w1 w2 ve p6 p7 vt mb A h K => ansAt_keep A h K) ?_)
    intro _ _ _ _ _ _ _ _ _ _ _ _ mb B ve a6 c6 a7 c7 vt w5 hmb hB hbx hQ K5
    have HK5 := hid K5
    clear K5 hC z0 z1 z2 z3 z4 z5 z6 z7 z8 z9 z10 p0 p1 p2 p3 p4 p5 p6 p7 p8 d0 d1
    by_cases hz : r.2 = 0
    ·have hans : ansP r = r.1 := if_pos hz
     rw [hans] at hbx hQ
     rw [hz]
     obtain ⟨at_, ct, rfl⟩ := ownsRow_shape hQ.tks
     have HTA := hid (flat_of_owns hQ.tks)
     have HNA := hid (flat_of_owns hQ.nodes)
     have HBS := hid hbx
     have HKW := hid ((HKX.out.and HK6.out).and HK5.out)
     have HDW := hid ((HD2.out).new HKW.out)
     have HRA : Hid (∀ V, KF w5 V → RawAt V a ns) := fun V KV => HRW.out V (HKW.out.and KV)
     have HBI := hid (atK HK5.out HBI0.out)
     clear hbx hQ hmb hB hz hans
     -- MARK L0
     go_wp2_with fail
     -- MARK L1
     go_loopw [12] (fun q wq => ∃ (j : Nat), j ≤ r.1.tks.length ∧ q = .int .i64 j ∧ KF w5 wq) (fun q _ => r.1.tks.length - (intOf q).toNat)
     case atStart => exact ⟨0, Nat.zero_le _, rfl, Kept.refl _ _⟩
     case round =>
      generalize wr = wq at *
      obtain ⟨j, hj, rfl, KI⟩ := hrel
      by_cases hgo : j < r.1.tks.length
      ·have f0 : (j : Int) < (r.1.tks.length : Int) := by omega
       obtain ⟨b, o, rfl, t0, t1, t2, t3, t4, t5, t6, t7, t8, t9, t10, t11, t12⟩ := tk_at ((HTA.out).new KI) hgo rfl
       obtain ⟨hfl, h⟩ := HTO.out _ (List.getElem_mem hgo)
       generalize r.1.tks[j] = t at *
       rw [hfl] at t2
       have hcx : ∀ (W : World) (a : Addr), (store a (.complex .f64 0 0)).run Tryd.prog W = stored Tryd.prog W a (.complex .f64 0 0) .plain := fun W a => run_store _ W a _ _ rfl
       have HKI := hid KI
       clear KI
       rcases h with ⟨k1, h⟩ | ⟨k2, h⟩ | ⟨k3, hm1, hm2, hm3⟩
       ·rw [k1] at t0
        obtain ⟨n, x, y, hfd, hx, hy, hst, htr, hk1⟩ := h
        obtain ⟨hnl, hxe⟩ := List.getElem?_eq_some_iff.1 hx
        obtain ⟨hyl, hye⟩ := List.getElem?_eq_some_iff.1 hy
        have hcs : y.status = 1 ∨ ((y.status != 1) = true ∧ (r.1.st.status == 1) = false) := by
         by_cases h1 : y.status = 1
         ·exact .inl h1
         ·exact .inr ⟨by simpa using h1, by simpa using fun h => h1 (hst h)⟩
        clear hst hfl k1
        have HTR := hid htr
        clear htr
        have HC := hid hcs
        clear hcs
        go_upto_region 15 with fail
        have htb := heap_alloc_new wq (.cells #[.int .i64 1, .complex .f64 0 0, .string r.1.st.id, .string t.node, .int .i64 t.tr, .int .i64 (t.tm), .int .i64 t.mail.kind, .string t.mail.dst, .string t.mail.src, .string t.mail.node, .string t.mail.name, .string t.mail.text, .int .i64 t.mail.status] 78)
        have HKT := hid (HKI.out.and (Kept.alloc (fun _ => False) wq (.cells #[.int .i64 1, .complex .f64 0 0, .string r.1.st.id, .string t.node, .int .i64 t.tr, .int .i64 (t.tm), .int .i64 t.mail.kind, .string t.mail.dst, .string t.mail.src, .string t.mail.node, .string t.mail.name, .string t.mail.text, .int .i64 t.mail.status] 78)))
        clear t0 t1 t2 t3 t4 t5 t6 t7 t8 t9 t10 t11 t12 hcx
        generalize wq.alloc (.cells #[.int .i64 1, .complex .f64 0 0, .string r.1.st.id, .string t.node, .int .i64 t.tr, .int .i64 (t.tm), .int .i64 t.mail.kind, .string t.mail.dst, .string t.mail.src, .string t.mail.node, .string t.mail.name, .string t.mail.text, .int .i64 t.mail.status] 78) = wt at *
        generalize wq.heap.size = tb at *
        obtain ⟨⟨d0, d1⟩, _, _⟩ := pairF (atK (HKW.out.and HKT.out) HBX.out)
        obtain ⟨t0, t1, t2, t3, t4, t5, t6, t7, t8, t9, t10, t11, t12⟩ := thirteen htb
        have hF := refFind_wide wt name _ ns.length c ns (HRA.out wt HKT.out) rfl (by omega) t.node
        rw [hfd] at hF
        simp only [Option.getD_some, Option.isSome_some] at hF
        go_upto_region 16 with (first
         | (go_at_call 23; refine hF.mono ?_; rintro e w9 ⟨rfl, K9⟩; clear hF)
         | fail)
        have HK9 := hid (HKT.out.and K9)
        have htb9 := atK K9 htb
        clear d0 d1 t0 t1 t2 t3 t4 t5 t6 t7 t8 t9 t10 t11 t12 K9 htb
        obtain ⟨t0, t1, t2, t3, t4, t5, t6, t7, t8, t9, t10, t11, t12⟩ := thirteen htb9
        obtain ⟨⟨s0, s1, s2, s3, s4, s5, s6, s7, s8⟩, _⟩ := nine (atK HK9.out HBS.out)
        obtain ⟨⟨d0, d1⟩, _, _⟩ := pairF (atK (HKW.out.and HK9.out) HBX.out)
        obtain ⟨hlc, b6, o6, rfl, y0, y1, y2⟩ := flat_ns (HNA.out.new HK9.out) hyl
        rw [hye] at y0 y1 y2
        obtain ⟨bn, on, av0, cv0, rfl, hT0, q0, q1, q2, q3, q4, q5, q6⟩ := (HDW.out.new HK9.out).nodes.at hnl
        rw [hxe] at q0 q1 q2 q3 q4 q5 q6 hT0
        have f3 : (n : Int) < (r.1.st.nodes.length : Int) := by omega
        have f4 : (n : Int) < (ns.length : Int) := by omega
        clear htb9
        rw [hk1] at q1
        have htr := HTR.out
        rcases HC.out with h1 | ⟨h1, h2⟩
        all_goals
         (try rw [h1] at y0)
         go_upto_region 19 with fail
         go_quiet (fail)
         go_wp2_with fail
         go_roundw
         case rel => exact ⟨j + 1, by omega, by go_num, HK9.out.and (Kept.drewN _ _ _)⟩
         case measure => simp [intOf]; omega
       ·rw [k2] at t0
        obtain ⟨n, x, y, hfd, hx, hy, hst, htm⟩ := h
        obtain ⟨hnl, hxe⟩ := List.getElem?_eq_some_iff.1 hx
        obtain ⟨hyl, hye⟩ := List.getElem?_eq_some_iff.1 hy
        have hcs : y.status = 2 ∨ ((y.status != 2) = true ∧ (r.1.st.status == 1) = false) := by
         by_cases h1 : y.status = 2
         ·exact .inl h1
         ·exact .inr ⟨by simpa using h1, by simpa using fun h => h1 (hst h)⟩
        clear hst hfl k2
        have HTR := hid htm.symm
        clear htm
        have HC := hid hcs
        clear hcs
        go_upto_region 15 with fail
        have htb := heap_alloc_new wq (.cells #[.int .i64 2, .complex .f64 0 0, .string r.1.st.id, .string t.node, .int .i64 t.tr, .int .i64 (t.tm), .int .i64 t.mail.kind, .string t.mail.dst, .string t.mail.src, .string t.mail.node, .string t.mail.name, .string t.mail.text, .int .i64 t.mail.status] 78)
        have HKT := hid (HKI.out.and (Kept.alloc (fun _ => False) wq (.cells #[.int .i64 2, .complex .f64 0 0, .string r.1.st.id, .string t.node, .int .i64 t.tr, .int .i64 (t.tm), .int .i64 t.mail.kind, .string t.mail.dst, .string t.mail.src, .string t.mail.node, .string t.mail.name, .string t.mail.text, .int .i64 t.mail.status] 78)))
        clear t0 t1 t2 t3 t4 t5 t6 t7 t8 t9 t10 t11 t12 hcx
        generalize wq.alloc (.cells #[.int .i64 2, .complex .f64 0 0, .string r.1.st.id, .string t.node, .int .i64 t.tr, .int .i64 (t.tm), .int .i64 t.mail.kind, .string t.mail.dst, .string t.mail.src, .string t.mail.node, .string t.mail.name, .string t.mail.text, .int .i64 t.mail.status] 78) = wt at *
        generalize wq.heap.size = tb at *
        obtain ⟨⟨d0, d1⟩, _, _⟩ := pairF (atK (HKW.out.and HKT.out) HBX.out)
        obtain ⟨t0, t1, t2, t3, t4, t5, t6, t7, t8, t9, t10, t11, t12⟩ := thirteen htb
        have hF := refFind_wide wt name _ ns.length c ns (HRA.out wt HKT.out) rfl (by omega) t.node
        rw [hfd] at hF
        simp only [Option.getD_some, Option.isSome_some] at hF
        go_upto_region 16 with (first
         | (go_at_call 23; refine hF.mono ?_; rintro e w9 ⟨rfl, K9⟩; clear hF)
         | fail)
        have HK9 := hid (HKT.out.and K9)
        have htb9 := atK K9 htb
        clear d0 d1 t0 t1 t2 t3 t4 t5 t6 t7 t8 t9 t10 t11 t12 K9 htb
        obtain ⟨t0, t1, t2, t3, t4, t5, t6, t7, t8, t9, t10, t11, t12⟩ := thirteen htb9
        obtain ⟨⟨s0, s1, s2, s3, s4, s5, s6, s7, s8⟩, _⟩ := nine (atK HK9.out HBS.out)
        obtain ⟨⟨d0, d1⟩, _, _⟩ := pairF (atK (HKW.out.and HK9.out) HBX.out)
        obtain ⟨hlc, b6, o6, rfl, y0, y1, y2⟩ := flat_ns (HNA.out.new HK9.out) hyl
        rw [hye] at y0 y1 y2
        obtain ⟨bn, on, av0, cv0, rfl, hT0, q0, q1, q2, q3, q4, q5, q6⟩ := (HDW.out.new HK9.out).nodes.at hnl
        rw [hxe] at q0 q1 q2 q3 q4 q5 q6 hT0
        have f3 : (n : Int) < (r.1.st.nodes.length : Int) := by omega
        have f4 : (n : Int) < (ns.length : Int) := by omega
        clear htb9
        obtain ⟨⟨p0, p1, p2, p3, p4, p5, p6, p7, p8⟩, _⟩ := nine (atK HK9.out HBI.out)
        have htr := HTR.out
        rcases HC.out with h1 | ⟨h1, h2⟩
        all_goals
         (try rw [h1] at y0)
         go_upto_region 22 with fail
         go_quiet (fail)
         go_wp2_with fail
         go_roundw
         case rel => exact ⟨j + 1, by omega, by go_num, HK9.out.and (Kept.drewN _ _ _)⟩
         case measure => simp [intOf]; omega
       ·rw [k3] at t0
        have f1 : ¬ t.mail.kind < 1 := by omega
        have f2 : ¬ 4 < t.mail.kind := by omega
        rw [hm1] at t8
        clear hfl k3 hm1 hm2 hm3
        go_upto_region 15 with fail
        have htb := heap_alloc_new wq (.cells #[.int .i64 3, .complex .f64 0 0, .string r.1.st.id, .string t.node, .int .i64 t.tr, .int .i64 (t.tm), .int .i64 t.mail.kind, .string t.mail.dst, .string r.1.st.id, .string t.mail.node, .string t.mail.name, .string t.mail.text, .int .i64 t.mail.status] 78)
        have HKT := hid (HKI.out.and (Kept.alloc (fun _ => False) wq (.cells #[.int .i64 3, .complex .f64 0 0, .string r.1.st.id, .string t.node, .int .i64 t.tr, .int .i64 (t.tm), .int .i64 t.mail.kind, .string t.mail.dst, .string r.1.st.id, .string t.mail.node, .string t.mail.name, .string t.mail.text, .int .i64 t.mail.status] 78)))
        clear t0 t1 t2 t3 t4 t5 t6 t7 t8 t9 t10 t11 t12 hcx
        generalize wq.alloc (.cells #[.int .i64 3, .complex .f64 0 0, .string r.1.st.id, .string t.node, .int .i64 t.tr, .int .i64 (t.tm), .int .i64 t.mail.kind, .string t.mail.dst, .string r.1.st.id, .string t.mail.node, .string t.mail.name, .string t.mail.text, .int .i64 t.mail.status] 78) = wt at *
        generalize wq.heap.size = tb at *
        obtain ⟨⟨d0, d1⟩, _, _⟩ := pairF (atK (HKW.out.and HKT.out) HBX.out)
        obtain ⟨t0, t1, t2, t3, t4, t5, t6, t7, t8, t9, t10, t11, t12⟩ := thirteen htb
        have hF := refFind_wide wt name _ ns.length c ns (HRA.out wt HKT.out) rfl (by omega) t.node
        obtain ⟨fz, hfz⟩ : ∃ z, z = (findP ns t.node).getD 0 := ⟨_, rfl⟩
        obtain ⟨fb, hfb⟩ : ∃ z, z = (findP ns t.node).isSome := ⟨_, rfl⟩
        rw [← hfz, ← hfb] at hF
        clear hfz hfb
        go_upto_region 16 with (first
         | (go_at_call 23; refine hF.mono ?_; rintro e w9 ⟨rfl, K9⟩; clear hF)
         | fail)
        have HK9 := hid (HKT.out.and K9)
        have htb9 := atK K9 htb
        clear d0 d1 t0 t1 t2 t3 t4 t5 t6 t7 t8 t9 t10 t11 t12 K9 htb
        obtain ⟨t0, t1, t2, t3, t4, t5, t6, t7, t8, t9, t10, t11, t12⟩ := thirteen htb9
        obtain ⟨⟨s0, s1, s2, s3, s4, s5, s6, s7, s8⟩, _⟩ := nine (atK HK9.out HBS.out)
        clear htb9
        -- MARK C
        go_wp2_with fail
        go_roundw
        case rel => exact ⟨j + 1, by omega, by go_num, HK9.out⟩
        case measure => simp [intOf]; omega
      ·have f0 : ¬ (j : Int) < (r.1.tks.length : Int) := by omega
       have HKI := hid KI
       clear KI hgo
       obtain ⟨⟨p0, p1, p2, p3, p4, p5, p6, p7, p8⟩, _⟩ := nine (atK HKI.out HBI.out)
       have hIn2 := HIN.out wq ((HK6.out.and HK5.out).and HKI.out)
       -- MARK D
       go_wp2_with (first
        | (go_at_call 12; refine hIn2.mono ?_; rintro e w7 ⟨rfl, X7, K7⟩; clear hIn2)
        | fail)
       go_roundw
       case rel => exact ⟨i + 1, _, _, by omega, by omega, by go_num, X7, HGP.out⟩
       case measure => simp [intOf]; omega
    ·have hz : (r.2 != 0) = true := by simpa using hz
     clear hbx hQ hmb hB
     -- MARK N
     go_wp2_with fail
     go_roundw
     case rel => exact ⟨i + 1, s, l, by omega, by omega, by go_num, (HX.out.new (HK6.out.and HK5.out)).next, HG.out⟩
     case measure => simp [intOf]; omega
   ·have hW := wakes_any wr (HM.out.kept (HK2.out.and X.keep) (fun h => h))
    have HK := hid (HK2.out.and X.keep)
    have hcs : (¬ ((i : Int) < (ins.length : Int))) ∨ (((i : Int) < (ins.length : Int)) ∧ ¬ ((i : Int) < 60)) := by omega
    clear X hgo d0 d1 G
    rcases hcs with e0 | ⟨e0, e1⟩
    all_goals
     go_wp2_with (first
      | (go_at_call 11; refine hW.mono ?_; rintro e w8 ⟨rfl, K8⟩; clear hW)
      | fail)
     go_ret
     exact ⟨rfl, (HK.out.and K8).none⟩
 ·have HTk2 := hid (HTk.out false (by simp [hT]))
  have hW := fun V (K : KF w V) => wakes_any V (HM.out.kept K (fun h => h))
  have HW := hid hW
  clear HTk hT hW
  go_enter Tryd.func8, Tryd.ntmps8
  go_wp2_with (first
   | (go_at_call 9; refine hCut.mono ?_; rintro e w1 ⟨rfl, K1⟩; clear hCut; obtain ⟨_, f0, f1⟩ := pairF ((K1.block w.heap.size (by simp) (fun h => h)).trans (heap_alloc_new _ _)); have hb := cut_box (n' := ns.length) K1 HR.out; obtain ⟨⟨x0, x1⟩, _, _⟩ := pairF hb.1; have hTk := HTk2.out _ hb.2.2; have HB := hid hb; clear hb)
   | (go_at_call 10; refine hTk.mono ?_; rintro e w2 ⟨rfl, K2⟩; clear hTk; have hW := HW.out w2 (HB.out.2.1.and K2))
   | (go_at_call 11; refine hW.mono ?_; rintro e w8 ⟨rfl, K8⟩; clear hW)
   | fail)
  go_ret
  exact ⟨rfl, ((HB.out.2.1.and K2).and K8).none⟩
end Go.Proofs.YtfjekjbkifmpfaaDoor.Rf
namespace Go.Proofs.YtfjekjbkifmpfaaDoor
open Go.ChangeShapes Go.WideShapes Go.ChangeAt Go.RowKit Go.Deep
theorem historyTasks_lifted (os : Os) (started : os.Started) (H : Type) (enc : TypeId × Value → H) :
  ReturnsInHanded {} Tryd.checked os 8 .any (fun w args => (Rows.historyTasksSpec.pre enc Tryd.prog Tryd.f8 [] false w args ∧ laidMetH Tryd.prog laidL w) ∧ sizedMet enc Tryd.prog Tryd.f8 (OpenSpec.ofChange Rows.historyTasksSpec) false w args)
   (Rows.historyTasksSpec.post enc Tryd.prog Tryd.f8 false true false false) := by
 refine returnsInHanded_of_change_and (C := Tryd.checked) (X := fun w _ => laidMetH Tryd.prog laidL w) (fun _ _ _ hh h => h.of_heap hh) Tryd.own started (by kernel_rfl) Tryd.func8
  (ChangeSpec.witness_shaped (enc := enc) (C := Tryd.checked) (os := os) (X := fun w _ => laidMetH Tryd.prog laidL w) false (World.doorLaid Tryd.prog 28 os) #[.agg #[.string ⟨#[]⟩, .slice none 0 0], .slice none 0 0] 8 rfl (World.shaped_of_RefB (by kernel_rfl) (by kernel_rfl)) (by kernel_rfl) (by kernel_rfl) (by kernel_rfl) (door_met os _)) ?_
 intro W base args ds gs before hval0 hW _ _ hL _
 have hval : ∀ (j : Nat) t v, Tryd.f8.params[j]? = some t → args[j]? = some v → Value.okWide Tryd.prog W .any base t v := hval0
 have hW' := hW
 obtain ⟨p, q, hA0, hV, rfl, _, _⟩ := hW
 have hA : DataW.TrodAll enc Tryd.prog W 0 (fun _ => true) true Tryd.f8.params.toList args.toList ds p := hA0
 rw [Tryd.params8] at hA hval
 obtain ⟨v0, vs0, d0, ds0, p0, q0, hargs, rfl, rfl, h0, r0⟩ := trodAll_cons hA
 obtain ⟨v1, vs1, d1, ds1, p1, q1, rfl, rfl, rfl, h1, r1⟩ := trodAll_cons r0
 obtain ⟨rfl, rfl, rfl⟩ := trodAll_nil r1
 obtain rfl : args = #[v0, v1] := by cases args; simp_all
 obtain ⟨rfl, rfl⟩ := trodVars_none hV
 have k0 := h0
 have k1 := h1
 have lt0 : ∀ x ∈ p0, x.block < W.heap.size := by obtain ⟨m, hm⟩ := k0; exact DataW.trod_lt m _ _ _ hm
 have lt1 : ∀ x ∈ p1, x.block < W.heap.size := by obtain ⟨m, hm⟩ := k1; exact DataW.trod_lt m _ _ _ hm
 obtain ⟨nm0, a0, c0, ns0, rfl, z0, y0, x0, w0⟩ := dv_open (hval 0 24 v0 rfl rfl) h0
 obtain ⟨a1', len1', cap1', rfl⟩ := okWide_slice Tryd.underlying25 (hval 1 25 v1 rfl rfl)
 obtain ⟨a1, cap1, l1, e1, y1, x1, w1⟩ : ∃ a c l, Value.slice a1' len1' cap1' = .slice a l.length c ∧ l.length ≤ c ∧ c ≤ maxLen ∧ InsAt W a l := by
  obtain ⟨fuel, hf⟩ := h1
  exact ins_open hf
 simp only [Value.slice.injEq] at e1
 obtain ⟨rfl, rfl, rfl⟩ := e1
 clear hA0 hval0
 refine (Rf.historyTasks_walk _ _ _ _ _ _ _ W w0 z0 y0 w1 ⟨y1, x1⟩ (moves_laid hL)).mono fun e W' ⟨he, bel⟩ => ?_
 subst he
 exact ⟨_, rfl, _, _, _, [], _, [], hW', trodAll_mk1 (shut_bool Tryd.underlying4 _), (trodAll_cons_mk (Below.trod Tryd.laidOut (by kernel_rfl) (of_decide_eq_true (by kernel_rfl)) k0 bel lt0) (trodAll_cons_mk (Below.trod Tryd.laidOut (by kernel_rfl) (of_decide_eq_true (by kernel_rfl)) k1 bel lt1) trodAll_mk0)), rfl, bel.frame _, fun h => by cases h⟩
theorem historyTasks_row : Rows.HistoryTasksSaid :=
 OpenClaim.holds_of_wide 8 Tryd.f8 rfl rfl rfl rfl rfl rfl rfl ⟨rfl, rfl, rfl, rfl, rfl⟩ rfl rfl rfl rfl rfl (by kernel_rfl) Tryd.func8 (by kernel_rfl)
  (of_decide_eq_true (by kernel_rfl)) (by unfold Func.isWrapper; first | (rw [if_pos (by decide +kernel)]; kernel_rfl) | (rw [if_neg (by decide +kernel)]; exact ⟨rfl, rfl⟩))
  (fun os started H enc _ => historyTasks_lifted os started H enc)
theorem historyTasks_holds : Rows.HistoryTasksCardSaid :=
 Claim7.holds_tied_plain_at .later [] [.data] true Rows.historyTasksCard.stood.harness false
  historyTasks_row (fun _ h => by cases h) (by kernel_rfl) (fun _ h => by cases h) historyTasks_row_tie rfl ⟨rfl, rfl⟩ (by kernel_rfl) rfl
  (fun f fn hf hfn => by
    obtain rfl : f = 8 := Option.some.inj ((show Tryd.prog.funcNamed "tiller/tillerlaw09.HistoryTasks" = some 8 by kernel_rfl).symm.trans hf) |>.symm
    obtain rfl : fn = Tryd.f8 := (Option.some.inj (Tryd.func8.symm.trans hfn)).symm
    exact ⟨by kernel_rfl, fun j t ht => by
     rw [Tryd.params8] at ht
     have hm : t ∈ [24, 25] := by simpa using Array.mem_of_getElem? ht
     have hall : ([24, 25].all fun u => !Tryd.prog.wantsStandIn u) = true := by kernel_rfl
     exact (show Tryd.prog.wantsStandIn t = false by simpa using List.all_eq_true.1 hall t hm)⟩)
  (by kernel_rfl)
end Go.Proofs.YtfjekjbkifmpfaaDoor
