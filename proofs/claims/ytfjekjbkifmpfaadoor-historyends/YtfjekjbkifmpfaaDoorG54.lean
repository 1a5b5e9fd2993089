/-
  HistoryLong as data: what each event of a node adds.
-/
import Derived.Test.YtfjekjbkifmpfaaDoorG34
import Derived.Test.YtfjekjbkifmpfaaDoorG04
import Derived.Test.YtfjekjbkifmpfaaDoorG02
import Derived.Test.YtfjekjbkifmpfaaDoorG18
import Derived.Test.YtfjekjbkifmpfaaDoorG53
import Derived.Deep.QuietTactic
import Derived.BigQuiet
namespace Go.Proofs.YtfjekjbkifmpfaaDoor
open Go.RowKit

/-- How many events a node that stands so may have had. -/
def wt (x : Nd) (y : Ns) : Int :=
  if x.kind = 1 then (if y.status = 0 then 0 else if y.status = 1 then 1 + 2 * y.tr else if y.status = 2 then 2 * y.tr else 2 * y.tr + 1)
  else if y.status = 0 then 0 else if y.status = 2 then 1 else 2

theorem moveP_fits {e k s : Int} {m : Mv} (h : moveP e k s = some m) : m ∈ movesL ∧ m.event = e ∧ m.src = s ∧ (m.kind = k ∨ m.kind = 0) := by
  unfold moveP at h
  have h1 := List.mem_of_find?_eq_some h
  have h2 := List.find?_some h
  unfold Mv.fits at h2
  simp only [Bool.and_eq_true, Bool.or_eq_true, beq_iff_eq] at h2
  exact ⟨h1, h2.1, h2.2.1, h2.2.2⟩

/-- A node's event adds one at least. -/
theorem wt_move {x : Nd} {y : Ns} {m : Mv} {ek : Int} {num : Int} {tx : ByteArray} (h : moveP ek x.kind y.status = some m) (h3 : ek = 3 → num = y.tr + 1) (h0 : 0 ≤ y.tr) : wt x y + 1 ≤ wt x ⟨m.dst, if ek = 3 then num else y.tr, tx⟩ := by
  obtain ⟨hm, he, hs, hk⟩ := moveP_fits h
  unfold movesL at hm
  simp only [List.mem_cons, List.not_mem_nil, or_false] at hm
  unfold wt
  rcases hm with rfl | rfl | rfl | rfl | rfl | rfl | rfl | rfl | rfl | rfl | rfl | rfl | rfl | rfl
  all_goals (
    dsimp only at he hs hk ⊢
    subst he
    rw [← hs]
    by_cases hk1 : x.kind = 1
    · simp only [hk1, if_true]
      first
        | (rw [h3 rfl]; simp; omega)
        | (simp; omega)
        | (rcases hk with hk | hk <;> omega)
    · simp only [hk1, if_false]
      first
        | (simp; done)
        | (rcases hk with hk | hk <;> omega))

/-- The same of all nodes. -/
def wtS : List Nd → List Ns → Int
  | x :: ns, y :: l => wt x y + wtS ns l
  | _, _ => 0

theorem wtS_set : ∀ {ns : List Nd} {l : List Ns} {i : Nat} {x : Nd} {y : Ns} (y' : Ns), ns[i]? = some x → l[i]? = some y → wtS ns (l.set i y') = wtS ns l + (wt x y' - wt x y)
  | a :: ns, b :: l, 0, x, y, y', hx, hy => by
    simp at hx hy
    subst hx hy
    show wt a y' + wtS ns l = wt a b + wtS ns l + (wt a y' - wt a b)
    omega
  | a :: ns, b :: l, i + 1, x, y, y', hx, hy => by
    have ih := wtS_set (ns := ns) (l := l) (i := i) y' (by simpa using hx) (by simpa using hy)
    show wt a b + wtS ns (l.set i y') = wt a b + wtS ns l + (wt x y' - wt x y)
    rw [ih]
    omega
  | [], _, i, x, y, y', hx, _ => by simp at hx
  | _ :: _, [], i, x, y, y', _, hy => by simp at hy

/-- Tries are counted as they should be. -/
def Tr (ns : List Nd) (l : List Ns) : Prop := ∀ (i : Nat) (x : Nd) (y : Ns), ns[i]? = some x → l[i]? = some y → 0 ≤ y.tr ∧ (x.kind = 1 → y.tr ≤ x.tries ∧ (y.status = 0 ∨ y.status = 1 → y.tr < x.tries))

/-- An event that keeps it so. -/
def Goods (ns : List Nd) (s : St) (e : Ev) : Prop := ∀ (i : Nat) (x : Nd) (y : Ns), findP ns e.node = some i → ns[i]? = some x → s.nodes[i]? = some y → (e.kind = 3 → e.num = y.tr + 1) ∧ (e.kind = 5 → y.tr < x.tries)

theorem moves_ready : ∀ m ∈ movesL, m.dst = 0 ∨ m.dst = 1 → (m.event = 2 ∧ m.src = 0) ∨ m.event = 5 := by
  intro m hm
  simp only [movesL, List.mem_cons, List.not_mem_nil, or_false] at hm
  rcases hm with rfl | rfl | rfl | rfl | rfl | rfl | rfl | rfl | rfl | rfl | rfl | rfl | rfl | rfl <;> decide

theorem moves_take : ∀ m ∈ movesL, m.event = 3 → m.src = 1 := by
  intro m hm
  simp only [movesL, List.mem_cons, List.not_mem_nil, or_false] at hm
  rcases hm with rfl | rfl | rfl | rfl | rfl | rfl | rfl | rfl | rfl | rfl | rfl | rfl | rfl | rfl <;> decide

theorem change_wt {nm : ByteArray} {ns : List Nd} {s s' : St} {e : Ev} (h : changeP nm ns s e = some s') (hk : e.kind ≠ 1) (T : Tr ns s.nodes) (hg : Goods ns s e) :
    Tr ns s'.nodes ∧ (e.kind ≠ 13 → e.kind ≠ 15 → wtS ns s.nodes + 1 ≤ wtS ns s'.nodes) ∧ (e.kind = 13 ∨ e.kind = 15 → s'.nodes = s.nodes) ∧ (e.kind ≠ 15 → s'.status = s.status) := by
  unfold changeP at h
  by_cases hst : s.status ≠ (if e.kind = 1 then 0 else 1)
  · rw [if_pos hst] at h
    cases h
  rw [if_neg hst, if_neg hk] at h
  split at h
  · rename_i h13
    cases h
    exact ⟨T, fun h => absurd h13 h, fun _ => rfl, fun _ => rfl⟩
  rename_i h13
  split at h
  · rename_i h15
    split at h
    · cases h
      exact ⟨T, fun _ h => absurd h15 h, fun _ => rfl, fun h => absurd h15 h⟩
    · cases h
  · rename_i h15
    cases hc : changeNodeP ns s e with
    | none => rw [hc] at h; cases h
    | some t =>
      rw [hc] at h
      cases h
      unfold changeNodeP at hc
      split at hc
      · cases hc
      rename_i i hfi
      split at hc
      · cases hc
      rename_i m hm
      split at hc
      · cases hc
      · cases hc
        unfold nodeMove at hm
        split at hm
        · rename_i x y hx hy
          obtain ⟨hi, hyi⟩ := List.getElem?_eq_some_iff.1 hy
          obtain ⟨hmem, hev, hsrc, hkd⟩ := moveP_fits hm
          obtain ⟨g3, g5⟩ := hg i x y hfi hx hy
          have hT := T i x y hx hy
          have hset := setNode_set hi m e
          rw [hyi] at hset
          refine ⟨fun j x' y' hx' hy' => ?_, fun _ _ => ?_, fun h => ?_, fun _ => rfl⟩
          · have hy' : (setNode s.nodes i m e)[j]? = some y' := hy'
            rw [hset, List.getElem?_set] at hy'
            by_cases hij : i = j
            · subst hij
              rw [hx] at hx'
              obtain rfl := Option.some.inj hx'
              simp only [if_true, hi] at hy'
              obtain rfl := Option.some.inj hy'
              dsimp only
              by_cases h3 : e.kind = 3
              · rw [if_pos h3]
                have g := g3 h3
                have h1 := moves_take m hmem (by omega)
                have hT1 := hT.1
                refine ⟨by omega, fun hk1 => ⟨by have := (hT.2 hk1).2 (.inr (by omega)); omega, fun hd => ?_⟩⟩
                have := moves_ready m hmem hd
                omega
              · rw [if_neg h3]
                refine ⟨hT.1, fun hk1 => ⟨(hT.2 hk1).1, fun hd => ?_⟩⟩
                rcases moves_ready m hmem hd with ⟨_, h2⟩ | h5
                · exact (hT.2 hk1).2 (.inl (by omega))
                · exact g5 (by omega)
            · simp only [hij, if_false] at hy'
              exact T j x' y' hx' hy'
          · show wtS ns s.nodes + 1 ≤ wtS ns (setNode s.nodes i m e)
            rw [hset, wtS_set _ hx hy]
            have := wt_move (x := x) (y := y) (tx := if m.txt = true then e.text else y.text) hm g3 hT.1
            omega
          · omega
        · cases hm

/-- Events that are no node's, at most; one more may come while the workflow runs. -/
def pot (ns : List Nd) (r : Rn) : Int := r.st.events - wtS ns r.st.nodes + if r.st.status = 1 then 1 else 0

section
variable {nm : ByteArray} {ns : List Nd}

theorem tell_pot {r : Rn} {e : Ev} {ts : List Tk} (hk : e.kind ≠ 1) (T : Tr ns r.st.nodes) (hg : Goods ns r.st e) : Tr ns (tellP nm ns r e ts).st.nodes ∧ pot ns (tellP nm ns r e ts) ≤ pot ns r + if e.kind = 13 then 1 else 0 := by
  unfold tellP
  cases hc : changeP nm ns r.st e with
  | none => exact ⟨T, by dsimp only; split <;> omega⟩
  | some s =>
    obtain ⟨h1, h2, h3, h4⟩ := change_wt hc hk T hg
    have h5 := (changeP_more hc).1
    refine ⟨h1, ?_⟩
    unfold pot
    dsimp only
    rw [h5]
    by_cases k13 : e.kind = 13
    · rw [h3 (.inl k13), h4 (by omega), if_pos k13]
      omega
    · rw [if_neg k13]
      by_cases k15 : e.kind = 15
      · rw [h3 (.inr k15)]
        have hs : r.st.status = 1 := by
          refine Decidable.byContradiction (fun hn => ?_)
          unfold changeP at hc
          rw [if_pos (c := r.st.status ≠ (if e.kind = 1 then 0 else 1)) (by rw [if_neg hk]; exact hn)] at hc
          cases hc
        have hs' : s.status ≠ 1 := by
          unfold changeP at hc
          rw [if_neg (c := r.st.status ≠ (if e.kind = 1 then 0 else 1)) (by rw [if_neg hk]; simp [hs]), if_neg hk, if_neg k13, if_pos k15] at hc
          split at hc
          · rename_i hn
            cases hc
            dsimp only
            omega
          · cases hc
        rw [if_pos hs, if_neg hs']
        omega
      · have := h2 k13 k15
        rw [h4 k15]
        omega

/-- What is reached by telling events that need no word on tries. -/
inductive ToldsN (nm : ByteArray) (ns : List Nd) : Rn → Rn → Prop where
  | none {r : Rn} : ToldsN nm ns r r
  | tell {r r' : Rn} {e : Ev} {ts : List Tk} : e.kind ≠ 1 ∧ e.kind ≠ 3 ∧ e.kind ≠ 5 ∧ e.kind ≠ 13 → ToldsN nm ns (tellP nm ns r e ts) r' → ToldsN nm ns r r'

theorem ToldsN.trans {r r1 r2 : Rn} (h : ToldsN nm ns r r1) (h2 : ToldsN nm ns r1 r2) : ToldsN nm ns r r2 := by
  induction h with
  | none => exact h2
  | tell he _ ih => exact .tell he (ih h2)

theorem ToldsN.pot {r r' : Rn} (h : ToldsN nm ns r r') : Tr ns r.st.nodes → Tr ns r'.st.nodes ∧ pot ns r' ≤ pot ns r := by
  induction h with
  | none => exact fun T => ⟨T, Int.le_refl _⟩
  | @tell r r' e ts he _ ih =>
    intro T
    obtain ⟨h1, h2⟩ := tell_pot (nm := nm) (ts := ts) he.1 T (fun i x y _ _ _ => ⟨fun h => absurd h he.2.1, fun h => absurd h he.2.2.1⟩)
    rw [if_neg he.2.2.2] at h2
    obtain ⟨h3, h4⟩ := ih h1
    exact ⟨h3, by omega⟩

theorem toldN {r : Rn} {e : Ev} {ts : List Tk} (he : e.kind ≠ 1 ∧ e.kind ≠ 3 ∧ e.kind ≠ 5 ∧ e.kind ≠ 13) : ToldsN nm ns r (tellP nm ns r e ts) := .tell he .none

theorem endP_toldN {r : Rn} {st : Int} {tx : ByteArray} : ToldsN nm ns r (endP nm ns r st tx) := toldN (by show (15 : Int) ≠ 1 ∧ (15 : Int) ≠ 3 ∧ (15 : Int) ≠ 5 ∧ (15 : Int) ≠ 13; decide)
theorem breakP_toldN {r : Rn} {x tx : ByteArray} : ToldsN nm ns r (breakP nm ns r x tx) := (toldN (by show (6 : Int) ≠ 1 ∧ (6 : Int) ≠ 3 ∧ (6 : Int) ≠ 5 ∧ (6 : Int) ≠ 13; decide)).trans endP_toldN

theorem beginP_toldN {r : Rn} {x : Nd} : ToldsN nm ns r (beginP nm ns r x) := by
  unfold beginP askP waitP
  repeat' split
  all_goals first
    | exact breakP_toldN
    | exact .none
    | exact toldN (by simp)

theorem goRow_toldN : ∀ (l : List Nat) (r : Rn), ToldsN nm ns r (goRow nm ns r l).1
  | [], r => .none
  | i :: l, r => by
    unfold goRow
    split
    · exact .none
    · split
      · exact beginP_toldN
      · split
        · exact beginP_toldN
        · exact beginP_toldN.trans (goRow_toldN l _)

theorem goP_toldN : ∀ (f : Nat) (r : Rn), ToldsN nm ns r (goP nm ns f r)
  | 0, r => .none
  | f + 1, r => by
    unfold goP
    have g1 := goRow_toldN (nm := nm) (ns := ns) (goReady ns r) r
    cases hg : goRow nm ns r (goReady ns r) with
    | mk r1 w =>
      rw [hg] at g1
      cases w with
      | stop => exact g1
      | again => exact g1.trans (goP_toldN f r1)
      | through =>
        dsimp only
        split
        · exact g1.trans endP_toldN
        · exact g1

theorem goOnP_toldN {r : Rn} : ToldsN nm ns r (goOnP nm ns r) := goP_toldN _ _

theorem tellGo_pot {r : Rn} {e : Ev} (he : e.kind ≠ 1 ∧ e.kind ≠ 3 ∧ e.kind ≠ 5 ∧ e.kind ≠ 13) (T : Tr ns r.st.nodes) : Tr ns (goOnP nm ns (tellP nm ns r e [])).st.nodes ∧ pot ns (goOnP nm ns (tellP nm ns r e [])) ≤ pot ns r := ((toldN he).trans goOnP_toldN).pot T

theorem failTry_pot (S : Sound ns) {r : Rn} {i : Nat} {tx : ByteArray} (T : Tr ns r.st.nodes) : Tr ns (failTryP nm ns r i tx).st.nodes ∧ pot ns (failTryP nm ns r i tx) ≤ pot ns r := by
  unfold failTryP
  split
  · rename_i n y hn hy
    split
    · exact breakP_toldN.pot T
    · rename_i hlt
      have h := tell_pot (nm := nm) (ns := ns) (r := r) (e := ⟨5, n.name, tx, y.tr⟩) (ts := [⟨1, ⟨#[]⟩, n.name, IntKind.i64.wrap (y.tr + 1), 0, zeroMl⟩]) (by simp) T (fun i' x y' hf hx hy' => by
        have h1 := S.find i n hn
        have hf : findP ns n.name = some i' := hf
        rw [h1] at hf
        obtain rfl := Option.some.inj hf
        rw [hn] at hx
        obtain rfl := Option.some.inj hx
        rw [hy] at hy'
        obtain rfl := Option.some.inj hy'
        exact ⟨fun h => (by cases h), fun _ => by omega⟩)
      simpa using h
  · exact ⟨T, Int.le_refl _⟩

theorem doP_pot (S : Sound ns) (hx : ∀ x ∈ ns, x.kind = 1 → x.tries ≤ 10) {r : Rn} (q : Inp) (hq : q.kind ≠ 1) (T : Tr ns r.st.nodes) : Tr ns (doP nm ns r q).1.st.nodes ∧ pot ns (doP nm ns r q).1 ≤ pot ns r + if q.kind = 2 then 1 else 0 := by
  obtain ⟨d, hd, hd0, hd1⟩ : ∃ d : Int, (if q.kind = 2 then (1 : Int) else 0) = d ∧ 0 ≤ d ∧ (q.kind = 2 → d = 1) := ⟨_, rfl, by split <;> omega, fun h => if_pos h⟩
  rw [hd]
  have weak : ∀ {p : Rn}, Tr ns p.st.nodes ∧ pot ns p ≤ pot ns r → Tr ns p.st.nodes ∧ pot ns p ≤ pot ns r + d := fun h => ⟨h.1, by have := h.2; omega⟩
  have stay : Tr ns r.st.nodes ∧ pot ns r ≤ pot ns r := ⟨T, Int.le_refl _⟩
  unfold doP
  rw [if_neg hq]
  split
  · exact weak stay
  split
  · exact weak stay
  split
  · rename_i h2
    unfold signalP
    repeat' split
    · exact weak stay
    · exact weak stay
    · exact weak (tellGo_pot (e := ⟨12, _, _, _⟩) (by simp) T)
    · exact weak stay
    · have h := tell_pot (nm := nm) (ns := ns) (r := r) (e := ⟨13, q.name, q.text, 0⟩) (ts := []) (by simp) T (fun _ _ _ _ _ _ => ⟨fun h => (by cases h), fun h => (by cases h)⟩)
      rw [hd1 h2]
      simpa using h
  split
  · apply weak
    unfold takeP
    split
    · exact stay
    · rename_i i hi
      split
      · rename_i n y hn hy
        split
        · rename_i hs
          obtain ⟨hi1, hi2, hf, hk⟩ := findK_some hi
          have hk1 : n.kind = 1 := by
            have e : ns[i] = n := by rw [List.getElem?_eq_getElem hi1] at hn; exact Option.some.inj hn
            rw [e] at hk
            simpa using hk
          have hT := T i n y hn hy
          have h10 := hx n (List.mem_of_getElem? hn) hk1
          have hlt := (hT.2 hk1).2 (.inr hs)
          have hT1 := hT.1
          have hw : IntKind.i64.wrap (y.tr + 1) = y.tr + 1 := by rw [IntKind.wrap_i64]; omega
          have h := tell_pot (nm := nm) (ns := ns) (r := r) (e := ⟨3, q.node, ⟨#[]⟩, IntKind.i64.wrap (y.tr + 1)⟩) (ts := alarmL r q n (IntKind.i64.wrap (y.tr + 1))) (by simp) T (fun i' x y' hf' hx' hy' => by
            have hf' : findP ns q.node = some i' := hf'
            rw [hf] at hf'
            obtain rfl := Option.some.inj hf'
            rw [hy] at hy'
            obtain rfl := Option.some.inj hy'
            exact ⟨fun _ => hw, fun h => (by cases h)⟩)
          simpa using h
        · exact stay
      · exact stay
  split
  · apply weak
    unfold completeP
    repeat' split
    · exact stay
    · exact stay
    · exact tellGo_pot (by simp) T
  split
  · apply weak
    unfold failP
    repeat' split
    · exact stay
    · exact stay
    · exact failTry_pot S T
  split
  · apply weak
    unfold fireP
    repeat' split
    · exact stay
    · exact failTry_pot S T
    · exact tellGo_pot (by simp) T
  split
  · apply weak
    unfold kidP
    repeat' split
    · exact stay
    · exact breakP_toldN.pot T
    · exact tellGo_pot (by simp) T
  split
  · apply weak
    unfold cancelP
    split
    · exact stay
    · exact endP_toldN.pot T
  · exact weak stay

theorem wtS_zero : ∀ (ns : List Nd) (n : Nat), wtS ns (List.replicate n ⟨0, 0, ⟨#[]⟩⟩) = 0
  | [], _ => by unfold wtS; rfl
  | _ :: _, 0 => rfl
  | x :: ns, n + 1 => by
    rw [List.replicate_succ]
    show wt x ⟨0, 0, ⟨#[]⟩⟩ + wtS ns (List.replicate n ⟨0, 0, ⟨#[]⟩⟩) = 0
    rw [wtS_zero ns n]
    unfold wt
    simp

theorem Tr.tail {x : Nd} {ns : List Nd} {y : Ns} {l : List Ns} (T : Tr (x :: ns) (y :: l)) : Tr ns l := fun i a b ha hb => T (i + 1) a b (by simpa using ha) (by simpa using hb)

theorem wtS_le : ∀ {ns : List Nd} {l : List Ns}, Tr ns l → (∀ x ∈ ns, 0 ≤ x.tries) → wtS ns l ≤ (ns.map (fun x => 4 + 3 * x.tries)).sum
  | [], _, _, _ => by unfold wtS; exact Int.le_refl _
  | x :: ns, [], _, ht => by
    have h : ∀ (l : List Nd), (∀ z ∈ l, 0 ≤ z.tries) → 0 ≤ (l.map (fun x => 4 + 3 * x.tries)).sum := by
      intro l
      induction l with
      | nil => intro _; exact Int.le_refl _
      | cons a l ih =>
        intro hl
        have h1 := ih (fun z hz => hl z (List.mem_cons_of_mem _ hz))
        have h2 := hl a (List.mem_cons_self ..)
        rw [List.map_cons, List.sum_cons]
        omega
    exact h _ ht
  | x :: ns, y :: l, T, ht => by
    have ih := wtS_le T.tail (fun z hz => ht z (List.mem_cons_of_mem _ hz))
    have h0 := T 0 x y rfl rfl
    have h1 := ht x (List.mem_cons_self ..)
    rw [List.map_cons, List.sum_cons]
    show wt x y + wtS ns l ≤ _
    have hw : wt x y ≤ 4 + 3 * x.tries := by
      unfold wt
      by_cases hk : x.kind = 1
      · have h2 := (h0.2 hk).1
        have h3 := h0.1
        rw [if_pos hk]
        repeat' split
        all_goals omega
      · rw [if_neg hk]
        repeat' split
        all_goals omega
    omega

/-- What stands behind inputs of which g were signals. -/
structure Lok (ns : List Nd) (g : Nat) (s : St) : Prop where
  new : s.status = 0 → s.events = 0
  old : s.status ≠ 0 → Tr ns s.nodes ∧ pot ns ⟨s, 0, [], []⟩ ≤ 2 + g

theorem pot_st (r : Rn) : pot ns r = pot ns ⟨r.st, 0, [], []⟩ := rfl

theorem Lok.zero (ns : List Nd) : Lok ns 0 zeroSt := ⟨fun _ => rfl, fun h => absurd rfl h⟩

theorem Lok.few {g : Nat} {s : St} (h : Lok ns g s) (ht : ∀ x ∈ ns, 0 ≤ x.tries) (hs : s.status ≠ 0) : s.events ≤ 2 + 2 * (g : Int) + (ns.map (fun x => 4 + 3 * x.tries)).sum := by
  obtain ⟨T, hp⟩ := h.old hs
  have h1 := wtS_le T ht
  unfold pot at hp
  dsimp only at hp
  split at hp <;> omega

theorem told_status {r r' : Rn} (h : Tolds nm ns r r') : r.st.status ≠ 0 → r'.st.status ≠ 0 := by
  induction h with
  | none => exact fun h => h
  | @tell r r' e ts he _ ih =>
    intro h0
    refine ih ?_
    unfold tellP
    cases hc : changeP nm ns r.st e with
    | none => exact h0
    | some t =>
      show t.status ≠ 0
      unfold changeP at hc
      by_cases hst : r.st.status ≠ (if e.kind = 1 then 0 else 1)
      · rw [if_pos hst] at hc; cases hc
      rw [if_neg hst, if_neg he] at hc
      split at hc
      · cases hc; exact h0
      split at hc
      · split at hc
        · rename_i hnum
          cases hc
          show e.num ≠ 0
          omega
        · cases hc
      · cases hcn : changeNodeP ns r.st e with
        | none => rw [hcn] at hc; cases hc
        | some u =>
          rw [hcn] at hc
          cases hc
          unfold changeNodeP at hcn
          repeat' split at hcn
          all_goals first
            | (cases hcn; done)
            | (cases hcn; exact h0)

theorem Lok.step (S : Sound ns) (hx : ∀ x ∈ ns, x.kind = 1 → 1 ≤ x.tries ∧ x.tries ≤ 10) {g : Nat} {s : St} (h : Lok ns g s) (M : Met ns s) (q : Inp) : Lok ns (g + if q.kind = 2 then 1 else 0) (stepP nm ns s q).1.st := by
  by_cases h1 : q.kind = 1
  · have hg : (g + if q.kind = 2 then 1 else 0) = g := by rw [if_neg (by omega)]; rfl
    rw [hg]
    by_cases h0 : s.status = 0
    · obtain ⟨s1, hs1⟩ : ∃ s1 : Rn, s1 = ⟨⟨nm, q.name, q.par, q.pnode, 1, s.text, List.replicate ns.length ⟨0, 0, ⟨#[]⟩⟩, s.sigs, s.events + 1⟩, q.now, [⟨1, q.pnode, q.par, 0⟩], []⟩ := ⟨_, rfl⟩
      have he : (stepP nm ns s q) = (goOnP nm ns s1, 0) := by
        unfold stepP doP
        rw [if_pos h1]
        unfold startP
        rw [if_neg (by show ¬ s.status ≠ 0; simp [h0])]
        have ht : tellP nm ns ({ (⟨s, q.now, [], []⟩ : Rn) with st := { s with id := q.name } }) ⟨1, q.pnode, q.par, 0⟩ [] = s1 := by
          rw [hs1]
          unfold tellP changeP
          rw [if_neg (by simp [h0])]
          rfl
        rw [ht]
      have hn : s1.st.nodes = List.replicate ns.length ⟨0, 0, ⟨#[]⟩⟩ := by rw [hs1]
      have T : Tr ns s1.st.nodes := fun i x y hxi hy => by
        rw [hn] at hy
        have := List.mem_of_getElem? hy
        rw [List.mem_replicate] at this
        rw [this.2]
        have hxm := List.mem_of_getElem? hxi
        exact ⟨Int.le_refl _, fun hk => ⟨by have := (hx x hxm hk).1; show (0 : Int) ≤ x.tries; omega, fun _ => by have := (hx x hxm hk).1; show (0 : Int) < x.tries; omega⟩⟩
      have hp : pot ns s1 = 2 := by
        unfold pot
        rw [hn, wtS_zero, hs1]
        show s.events + 1 - 0 + (if (1 : Int) = 1 then 1 else 0) = 2
        rw [h.new h0]
        rfl
      obtain ⟨T2, hp2⟩ := (goOnP_toldN (nm := nm) (ns := ns) (r := s1)).pot T
      have hst : (goOnP nm ns s1).st.status ≠ 0 := by
        have : s1.st.status ≠ 0 := by rw [hs1]; show (1 : Int) ≠ 0; decide
        exact told_status goOnP_told this
      rw [he]
      exact ⟨fun h => absurd h hst, fun _ => ⟨T2, by show pot ns (goOnP nm ns s1) ≤ 2 + g; omega⟩⟩
    · have he : stepP nm ns s q = (⟨s, q.now, [], []⟩, 7) := by
        unfold stepP doP
        rw [if_pos h1]
        unfold startP
        rw [if_pos h0]
      rw [he]
      exact h
  · by_cases h0 : s.status = 0
    · have he : stepP nm ns s q = (⟨s, q.now, [], []⟩, 6) := by
        unfold stepP doP
        rw [if_neg h1, if_pos h0]
      rw [he]
      exact ⟨h.new, fun h' => absurd h0 h'⟩
    · obtain ⟨T, hp⟩ := h.old h0
      obtain ⟨T2, hp2⟩ := doP_pot (nm := nm) S (fun x hm hk => (hx x hm hk).2) (r := ⟨s, q.now, [], []⟩) q h1 T
      have hp3 : pot ns (⟨s, q.now, [], []⟩ : Rn) = pot ns ⟨s, 0, [], []⟩ := rfl
      refine ⟨fun hz => ?_, fun _ => ⟨T2, ?_⟩⟩
      · exfalso
        exact told_status (doP_few (nm := nm) S (r := ⟨s, q.now, [], []⟩) q h1 (fun h => ⟨M.2 h, M.1⟩)).1 h0 hz
      · rw [← pot_st]
        have hp2' : pot ns (stepP nm ns s q).1 ≤ pot ns (⟨s, q.now, [], []⟩ : Rn) + if q.kind = 2 then 1 else 0 := hp2
        rw [hp3] at hp2'
        split at hp2' <;> simp_all <;> omega

end

end Go.Proofs.YtfjekjbkifmpfaaDoor

/-
  HistoryLong as data: at most thirty-two signals are kept.
-/
namespace Go.Proofs.YtfjekjbkifmpfaaDoor
open Go.RowKit

section
variable {nm : ByteArray} {ns : List Nd}

theorem changeP_sigs {s s' : St} {e : Ev} (h : changeP nm ns s e = some s') (hk : e.kind ≠ 13) : s'.sigs.length ≤ s.sigs.length := by
  unfold changeP at h
  by_cases hst : s.status ≠ (if e.kind = 1 then 0 else 1)
  · rw [if_pos hst] at h
    cases h
  rw [if_neg hst] at h
  split at h
  · cases h
    exact Nat.le_refl _
  split at h
  · split at h
    · cases h
      exact Nat.le_refl _
    · cases h
  · cases hc : changeNodeP ns s e with
    | none => rw [hc] at h; cases h
    | some t =>
      rw [hc] at h
      cases h
      unfold changeNodeP at hc
      split at hc
      · cases hc
      split at hc
      · cases hc
      split at hc
      · cases hc
      · rename_i l hl
        cases hc
        show l.length ≤ _
        split at hl
        · exact receiveP_len hl
        · cases hl
          exact Nat.le_refl _

theorem tellP_sigs {r : Rn} {e : Ev} {ts : List Tk} (hk : e.kind ≠ 13) : (tellP nm ns r e ts).st.sigs.length ≤ r.st.sigs.length := by
  unfold tellP
  cases hc : changeP nm ns r.st e with
  | none => exact Nat.le_refl _
  | some s => exact changeP_sigs hc hk

theorem ToldsN.sigs {r r' : Rn} (h : ToldsN nm ns r r') : r'.st.sigs.length ≤ r.st.sigs.length := by
  induction h with
  | none => exact Nat.le_refl _
  | tell he _ ih => exact Nat.le_trans ih (tellP_sigs he.2.2.2)

theorem failTry_sigs {r : Rn} {i : Nat} {tx : ByteArray} : (failTryP nm ns r i tx).st.sigs.length ≤ r.st.sigs.length := by
  unfold failTryP
  repeat' split
  · exact breakP_toldN.sigs
  · exact tellP_sigs (by simp)
  · exact Nat.le_refl _

theorem tellGo_sigs {r : Rn} {e : Ev} (hk : e.kind ≠ 13) : (goOnP nm ns (tellP nm ns r e [])).st.sigs.length ≤ r.st.sigs.length := Nat.le_trans goOnP_toldN.sigs (tellP_sigs hk)

/-- No input brings them above thirty-two. -/
theorem stepP_sigs {s : St} (q : Inp) (h : s.sigs.length ≤ 32) : (stepP nm ns s q).1.st.sigs.length ≤ 32 := by
  have low : ∀ {p : Rn}, p.st.sigs.length ≤ s.sigs.length → p.st.sigs.length ≤ 32 := fun hp => Nat.le_trans hp h
  have stay : (⟨s, q.now, [], []⟩ : Rn).st.sigs.length ≤ 32 := h
  unfold stepP doP
  split
  · unfold startP
    split
    · exact stay
    · exact Nat.le_trans goOnP_toldN.sigs (Nat.le_trans (tellP_sigs (by simp)) h)
  split
  · exact stay
  split
  · exact stay
  split
  · unfold signalP
    repeat' split
    · exact stay
    · exact stay
    · exact low (tellGo_sigs (by simp))
    · exact stay
    · rename_i h32
      dsimp only
      unfold tellP
      cases hc : changeP nm ns (⟨s, q.now, [], []⟩ : Rn).st ⟨13, q.name, q.text, 0⟩ with
      | none => exact h
      | some t =>
        have h1 := (changeP_more hc).2
        have h32 : ¬ 32 ≤ s.sigs.length := h32
        have h1 : t.sigs.length ≤ s.sigs.length + 1 := h1
        show t.sigs.length ≤ 32
        omega
  split
  · unfold takeP
    repeat' split
    · exact stay
    · exact low (tellP_sigs (by simp))
    · exact stay
    · exact stay
  split
  · unfold completeP
    repeat' split
    · exact stay
    · exact stay
    · exact low (tellGo_sigs (by simp))
  split
  · unfold failP
    repeat' split
    · exact stay
    · exact stay
    · exact low failTry_sigs
  split
  · unfold fireP
    repeat' split
    · exact stay
    · exact low failTry_sigs
    · exact low (tellGo_sigs (by simp))
  split
  · unfold kidP
    repeat' split
    · exact stay
    · exact low breakP_toldN.sigs
    · exact low (tellGo_sigs (by simp))
  split
  · unfold cancelP
    split
    · exact stay
    · exact low endP_toldN.sigs
  · exact stay

end

end Go.Proofs.YtfjekjbkifmpfaaDoor

/-
  HistoryEnds as data: what is closed stays closed; a cancel closes what runs.
-/
namespace Go.Proofs.YtfjekjbkifmpfaaDoor
open Go.RowKit

section
variable {nm : ByteArray} {ns : List Nd}

theorem step_closed {s : St} (h0 : s.status ≠ 0) (h1 : s.status ≠ 1) (q : Inp) : ∃ e, stepP nm ns s q = (⟨s, q.now, [], []⟩, e) ∧ e ≠ 0 := by
  unfold stepP doP
  by_cases hk : q.kind = 1
  · rw [if_pos hk]
    unfold startP
    rw [if_pos h0]
    exact ⟨7, rfl, by decide⟩
  · rw [if_neg hk, if_neg (show ¬ (⟨s, q.now, [], []⟩ : Rn).st.status = 0 from h0), if_pos (show (⟨s, q.now, [], []⟩ : Rn).st.status ≠ 1 from h1)]
    exact ⟨11, rfl, by decide⟩

theorem told_range {r r' : Rn} (h : Tolds nm ns r r') : 1 ≤ r.st.status ∧ r.st.status ≤ 4 → 1 ≤ r'.st.status ∧ r'.st.status ≤ 4 := by
  induction h with
  | none => exact fun h => h
  | @tell r r' e ts he _ ih =>
    intro h0
    refine ih ?_
    unfold tellP
    cases hc : changeP nm ns r.st e with
    | none => exact h0
    | some t =>
      show 1 ≤ t.status ∧ t.status ≤ 4
      unfold changeP at hc
      by_cases hst : r.st.status ≠ (if e.kind = 1 then 0 else 1)
      · rw [if_pos hst] at hc; cases hc
      rw [if_neg hst, if_neg he] at hc
      split at hc
      · cases hc; exact h0
      split at hc
      · split at hc
        · rename_i hnum
          cases hc
          show 1 ≤ e.num ∧ e.num ≤ 4
          omega
        · cases hc
      · cases hcn : changeNodeP ns r.st e with
        | none => rw [hcn] at hc; cases hc
        | some u =>
          rw [hcn] at hc
          cases hc
          unfold changeNodeP at hcn
          repeat' split at hcn
          all_goals first
            | (cases hcn; done)
            | (cases hcn; exact h0)

/-- What has begun is running or closed, behind every input. -/
theorem step_range (S : Sound ns) {s : St} (M : Met ns s) (h : 1 ≤ s.status ∧ s.status ≤ 4) (q : Inp) : 1 ≤ (stepP nm ns s q).1.st.status ∧ (stepP nm ns s q).1.st.status ≤ 4 := by
  by_cases hk : q.kind = 1
  · unfold stepP doP
    rw [if_pos hk]
    unfold startP
    rw [if_pos (show (⟨s, q.now, [], []⟩ : Rn).st.status ≠ 0 by show s.status ≠ 0; omega)]
    exact h
  · exact told_range (doP_few (nm := nm) S (r := ⟨s, q.now, [], []⟩) q hk (fun h => ⟨M.2 h, M.1⟩)).1 h

theorem start_range (q : Inp) : 1 ≤ (goOnP nm ns (startR nm ns q)).st.status ∧ (goOnP nm ns (startR nm ns q)).st.status ≤ 4 := told_range goOnP_told ⟨by show (1 : Int) ≤ 1; decide, by show (1 : Int) ≤ 4; decide⟩

/-- A cancel closes what runs. -/
theorem step_cancel {s : St} (hs : s.status = 1) (q : Inp) (hk : q.kind = 8) (ht : q.text.size ≤ 256) : (stepP nm ns s q).2 = 0 ∧ (stepP nm ns s q).1.st.status = 4 := by
  unfold stepP
  have hd : doP nm ns ⟨s, q.now, [], []⟩ q = cancelP nm ns ⟨s, q.now, [], []⟩ q := by
    unfold doP
    rw [if_neg (by rw [hk]; decide), if_neg (by show ¬ s.status = 0; rw [hs]; decide), if_neg (by show ¬ s.status ≠ 1; rw [hs]; simp), if_neg (by rw [hk]; decide), if_neg (by rw [hk]; decide), if_neg (by rw [hk]; decide), if_neg (by rw [hk]; decide), if_neg (by rw [hk]; decide), if_neg (by rw [hk]; decide), if_pos hk]
  rw [hd]
  unfold cancelP
  rw [if_neg (by omega)]
  refine ⟨rfl, ?_⟩
  show (endP nm ns ⟨s, q.now, [], []⟩ 4 q.text).st.status = 4
  unfold endP tellP
  rw [changeP_close (s := (⟨s, q.now, [], []⟩ : Rn).st) hs 4 q.text (.inr (.inr rfl))]

end

end Go.Proofs.YtfjekjbkifmpfaaDoor

/-
  HistoryEnds: its region that draws its order.
-/
namespace Go.Proofs.YtfjekjbkifmpfaaDoor.Rf
open Go.RowKit

set_option maxRecDepth 100000 in
set_option maxHeartbeats 8000000 in
theorem en16 {W : World} {db pb b o n cn i : Nat} {d0 d1 q0 q1 q2 q3 q4 q5 q6 q7 q8 i0 i1 i2 i3 i4 i5 i6 i7 i8 p0 p1 p2 p3 p4 p5 p6 p7 p8 : Value} {ee : Int} {ds : List Deferred} {u0 u1 u4 u5 u6 u8 u10 u11 u12 u13 u14 u15 u16 u17 u18 u19 u20 u21 u22 u23 u24 u25 u26 u27 u28 u29 u30 u31 u32 u33 u34 u35 u36 u37 u38 u39 u40 u41 u42 u43 u44 u45 u46 u47 u48 u49 u50 u51 u52 u53 u54 u55 u56 u57 u58 u59 u60 u61 u62 u63 u64 u65 u66 u67 u68 u69 u70 u71 u72 u73 u74 u75 u76 u77 u78 u79 u80 u81 u82 u83 u84 u85 u86 u87 u88 u89 u90 u91 u92 u93 u94 : Value} (K : Act → World → Prop)
    (x0 : W.cell? ⟨db, 0, none⟩ = some (d0)) (x1 : W.cell? ⟨db, 1, none⟩ = some (d1)) (x2 : W.cell? ⟨pb, 2, none⟩ = some (q0)) (x3 : W.cell? ⟨pb, 3, none⟩ = some (q1)) (x4 : W.cell? ⟨pb, 4, none⟩ = some (q2)) (x5 : W.cell? ⟨pb, 5, none⟩ = some (q3)) (x6 : W.cell? ⟨pb, 6, none⟩ = some (q4)) (x7 : W.cell? ⟨pb, 7, none⟩ = some (q5)) (x8 : W.cell? ⟨pb, 8, none⟩ = some (q6)) (x9 : W.cell? ⟨pb, 9, none⟩ = some (q7)) (x10 : W.cell? ⟨pb, 10, none⟩ = some (q8)) (x11 : W.cell? ⟨b, o + i * 9, none⟩ = some (i0)) (x12 : W.cell? ⟨b, o + i * 9 + 1, none⟩ = some (i1)) (x13 : W.cell? ⟨b, o + i * 9 + 2, none⟩ = some (i2)) (x14 : W.cell? ⟨b, o + i * 9 + 3, none⟩ = some (i3)) (x15 : W.cell? ⟨b, o + i * 9 + 4, none⟩ = some (i4)) (x16 : W.cell? ⟨b, o + i * 9 + 5, none⟩ = some (i5)) (x17 : W.cell? ⟨b, o + i * 9 + 6, none⟩ = some (i6)) (x18 : W.cell? ⟨b, o + i * 9 + 7, none⟩ = some (i7)) (x19 : W.cell? ⟨b, o + i * 9 + 8, none⟩ = some (i8))
    (hi : i < n) (hClip : ∀ V, Kept (fun _ => False) W.drew V → Calls Tryd.prog 13 #[.agg #[i0, i1, i2, i3, i4, i5, i6, i7, i8]] V fun e w' => e = .returned (.agg #[p0, p1, p2, p3, p4, p5, p6, p7, p8]) ∧ Kept (fun _ => False) V w')
    (hStep : ∀ V, Kept (fun _ => False) W.drew V → Calls Tryd.prog 22 #[.agg #[d0, d1], .agg #[q0, q1, q2, q3, q4, q5, q6, q7, q8], .agg #[p0, p1, p2, p3, p4, p5, p6, p7, p8]] V fun e w' => ∃ (ae : Option Addr) (ce : Nat) (a6 : Option Addr) (c6 : Nat) (a7 : Option Addr) (c7 : Nat) (at_ : Option Addr) (ct : Nat), e = .returned (.tuple #[.slice ae 0 ce, .agg #[.string ⟨#[]⟩, .string ⟨#[]⟩, .string ⟨#[]⟩, .string ⟨#[]⟩, .int .i64 0, .string ⟨#[]⟩, .slice a6 0 c6, .slice a7 0 c7, .int .i64 0], .slice at_ 0 ct, .int .i64 ee]) ∧ Kept (fun _ => False) V w')
    (h : ∀ (v58 v59 v60 v61 v62 v63 v64 v65 v66 v67 v68 v69 v70 v71 v72 v73 : Value) (mb : Nat) (ae : Option Addr) (ce : Nat) (at_ : Option Addr) (ct : Nat) (W' : World), Kept (fun _ => False) W W' → K { tmps := #[u0, u1, .slice (some ⟨b, o, none⟩) n cn, .pointer (some ⟨db, 0, none⟩), u4, u5, u6, .pointer (some ⟨pb, 0, none⟩), u8, .int .i64 (i : Nat), .slice ae 0 ce, .pointer (some ⟨mb, 0, none⟩), .slice at_ 0 ct, .int .i64 ee, u14, u15, u16, u17, u18, u19, u20, u21, u22, u23, u24, u25, u26, u27, u28, u29, u30, u31, u32, u33, u34, u35, u36, u37, u38, u39, u40, u41, u42, u43, u44, u45, u46, u47, u48, u49, u50, u51, u52, u53, u54, u55, u56, u57, v58, v59, v60, v61, v62, v63, v64, v65, v66, v67, v68, v69, v70, v71, v72, v73, u74, u75, u76, u77, u78, u79, u80, u81, u82, u83, u84, u85, u86, u87, u88, u89, u90, u91, u92, u93, u94], defers := ds } W') :
    (Code.region 16 #[{ dst := some 59, op := Op.load 24 (Operand.tmp 3), type := 24, pos := "law.go:175", after := #[], guard := none }, { dst := some 60, op := Op.move (Operand.tmp 7), type := 29, pos := "law.go:175", after := #[], guard := none }, { dst := some 61, op := Op.nilCheck (Operand.tmp 60), type := 0, pos := "law.go:175", after := #[{ on := 1, ground := Ground.data }], guard := none }, { dst := some 62, op := Op.fieldAddr 36 (Operand.tmp 61) 1, type := 0, pos := "law.go:175", after := #[{ on := 2, ground := Ground.data }], guard := none }, { dst := some 63, op := Op.load 33 (Operand.tmp 62), type := 33, pos := "law.go:175", after := #[{ on := 3, ground := Ground.data }], guard := none }, { dst := some 64, op := Op.move (Operand.tmp 2), type := 25, pos := "law.go:175", after := #[], guard := none }, { dst := some 65, op := Op.move (Operand.tmp 9), type := 3, pos := "law.go:175", after := #[], guard := none }, { dst := some 66, op := Op.indexAddr 25 (Operand.tmp 64) (Operand.tmp 65), type := 0, pos := "law.go:175", after := #[{ on := 5, ground := Ground.data }, { on := 6, ground := Ground.data }], guard := none }, { dst := some 67, op := Op.load 39 (Operand.tmp 66), type := 39, pos := "law.go:175", after := #[{ on := 7, ground := Ground.data }], guard := none }, { dst := some 68, op := Op.call { callee := Callee.value (Operand.func 13), args := #[Operand.tmp 67], argTypes := #[39] }, type := 39, pos := "law.go:175", after := #[{ on := 8, ground := Ground.data }], guard := none }, { dst := some 69, op := Op.call { callee := Callee.value (Operand.func 22), args := #[Operand.tmp 59, Operand.tmp 63, Operand.tmp 68], argTypes := #[24, 33, 39] }, type := 57, pos := "law.go:175", after := #[{ on := 0, ground := Ground.data }, { on := 4, ground := Ground.data }, { on := 9, ground := Ground.data }, { on := 9, ground := Ground.chain }], guard := none }, { dst := some 58, op := Op.move (Operand.tmp 69), type := 57, pos := "law.go:175", after := #[{ on := 10, ground := Ground.data }], guard := none }, { dst := some 70, op := Op.extract (Operand.tmp 58) 0, type := 34, pos := "law.go:175", after := #[{ on := 11, ground := Ground.data }], guard := none }, { dst := some 71, op := Op.extract (Operand.tmp 58) 1, type := 33, pos := "law.go:175", after := #[{ on := 11, ground := Ground.data }, { on := 17, ground := Ground.gcOnly Departure.lateStores }], guard := none }, { dst := some 72, op := Op.extract (Operand.tmp 58) 2, type := 56, pos := "law.go:175", after := #[{ on := 11, ground := Ground.data }, { on := 18, ground := Ground.gcOnly Departure.lateStores }], guard := none }, { dst := some 73, op := Op.extract (Operand.tmp 58) 3, type := 42, pos := "law.go:175", after := #[{ on := 11, ground := Ground.data }, { on := 19, ground := Ground.gcOnly Departure.lateStores }], guard := none }, { dst := some 11, op := Op.alloc 33, type := 0, pos := "law.go:175", after := #[], guard := none }, { dst := some 10, op := Op.assign (Operand.tmp 70), type := 34, pos := "law.go:175", after := #[{ on := 12, ground := Ground.data }, { on := 10, ground := Ground.chain }, { on := 0, ground := Ground.phase }, { on := 1, ground := Ground.phase }, { on := 2, ground := Ground.phase }, { on := 3, ground := Ground.phase }, { on := 4, ground := Ground.phase }, { on := 5, ground := Ground.phase }, { on := 6, ground := Ground.phase }, { on := 7, ground := Ground.phase }, { on := 8, ground := Ground.phase }, { on := 9, ground := Ground.phase }, { on := 10, ground := Ground.phase }, { on := 11, ground := Ground.phase }, { on := 12, ground := Ground.phase }, { on := 13, ground := Ground.textOnly Departure.lateStores }, { on := 14, ground := Ground.textOnly Departure.lateStores }, { on := 15, ground := Ground.textOnly Departure.lateStores }, { on := 16, ground := Ground.phase }], guard := none }, { dst := none, op := Op.store 33 (Operand.tmp 11) (Operand.tmp 71), type := 0, pos := "law.go:175", after := #[{ on := 16, ground := Ground.data }, { on := 13, ground := Ground.data }, { on := 17, ground := Ground.chain }, { on := 0, ground := Ground.phase }, { on := 1, ground := Ground.phase }, { on := 2, ground := Ground.phase }, { on := 3, ground := Ground.phase }, { on := 4, ground := Ground.phase }, { on := 5, ground := Ground.phase }, { on := 6, ground := Ground.phase }, { on := 7, ground := Ground.phase }, { on := 8, ground := Ground.phase }, { on := 9, ground := Ground.phase }, { on := 10, ground := Ground.phase }, { on := 11, ground := Ground.phase }, { on := 12, ground := Ground.phase }, { on := 13, ground := Ground.phase }, { on := 14, ground := Ground.textOnly Departure.lateStores }, { on := 15, ground := Ground.textOnly Departure.lateStores }, { on := 16, ground := Ground.phase }, { on := 17, ground := Ground.phase }], guard := none }, { dst := some 12, op := Op.assign (Operand.tmp 72), type := 56, pos := "law.go:175", after := #[{ on := 14, ground := Ground.data }, { on := 18, ground := Ground.chain }, { on := 0, ground := Ground.phase }, { on := 1, ground := Ground.phase }, { on := 2, ground := Ground.phase }, { on := 3, ground := Ground.phase }, { on := 4, ground := Ground.phase }, { on := 5, ground := Ground.phase }, { on := 6, ground := Ground.phase }, { on := 7, ground := Ground.phase }, { on := 8, ground := Ground.phase }, { on := 9, ground := Ground.phase }, { on := 10, ground := Ground.phase }, { on := 11, ground := Ground.phase }, { on := 12, ground := Ground.phase }, { on := 13, ground := Ground.phase }, { on := 14, ground := Ground.phase }, { on := 15, ground := Ground.textOnly Departure.lateStores }, { on := 16, ground := Ground.phase }, { on := 17, ground := Ground.phase }, { on := 18, ground := Ground.phase }], guard := none }, { dst := some 13, op := Op.assign (Operand.tmp 73), type := 42, pos := "law.go:175", after := #[{ on := 15, ground := Ground.data }, { on := 19, ground := Ground.chain }, { on := 0, ground := Ground.phase }, { on := 1, ground := Ground.phase }, { on := 2, ground := Ground.phase }, { on := 3, ground := Ground.phase }, { on := 4, ground := Ground.phase }, { on := 5, ground := Ground.phase }, { on := 6, ground := Ground.phase }, { on := 7, ground := Ground.phase }, { on := 8, ground := Ground.phase }, { on := 9, ground := Ground.phase }, { on := 10, ground := Ground.phase }, { on := 11, ground := Ground.phase }, { on := 12, ground := Ground.phase }, { on := 13, ground := Ground.phase }, { on := 14, ground := Ground.phase }, { on := 15, ground := Ground.phase }, { on := 16, ground := Ground.phase }, { on := 17, ground := Ground.phase }, { on := 18, ground := Ground.phase }, { on := 19, ground := Ground.phase }], guard := none }] true).wp Tryd.prog (onlyN K) { tmps := #[u0, u1, .slice (some ⟨b, o, none⟩) n cn, .pointer (some ⟨db, 0, none⟩), u4, u5, u6, .pointer (some ⟨pb, 0, none⟩), u8, .int .i64 (i : Nat), u10, u11, u12, u13, u14, u15, u16, u17, u18, u19, u20, u21, u22, u23, u24, u25, u26, u27, u28, u29, u30, u31, u32, u33, u34, u35, u36, u37, u38, u39, u40, u41, u42, u43, u44, u45, u46, u47, u48, u49, u50, u51, u52, u53, u54, u55, u56, u57, u58, u59, u60, u61, u62, u63, u64, u65, u66, u67, u68, u69, u70, u71, u72, u73, u74, u75, u76, u77, u78, u79, u80, u81, u82, u83, u84, u85, u86, u87, u88, u89, u90, u91, u92, u93, u94], defers := ds } W := by
  have e1 : (i : Int) < (n : Int) := by omega
  have HH : Hid _ := h
  have KD := Kept.drew (fun _ => False) W
  have HS : Hid (∀ V, Kept (fun _ => False) W.drew V → V.cell? ⟨db, 0, none⟩ = some (d0) ∧ V.cell? ⟨db, 1, none⟩ = some (d1) ∧ V.cell? ⟨pb, 2, none⟩ = some (q0) ∧ V.cell? ⟨pb, 3, none⟩ = some (q1) ∧ V.cell? ⟨pb, 4, none⟩ = some (q2) ∧ V.cell? ⟨pb, 5, none⟩ = some (q3) ∧ V.cell? ⟨pb, 6, none⟩ = some (q4) ∧ V.cell? ⟨pb, 7, none⟩ = some (q5) ∧ V.cell? ⟨pb, 8, none⟩ = some (q6) ∧ V.cell? ⟨pb, 9, none⟩ = some (q7) ∧ V.cell? ⟨pb, 10, none⟩ = some (q8) ∧ V.cell? ⟨b, o + i * 9, none⟩ = some (i0) ∧ V.cell? ⟨b, o + i * 9 + 1, none⟩ = some (i1) ∧ V.cell? ⟨b, o + i * 9 + 2, none⟩ = some (i2) ∧ V.cell? ⟨b, o + i * 9 + 3, none⟩ = some (i3) ∧ V.cell? ⟨b, o + i * 9 + 4, none⟩ = some (i4) ∧ V.cell? ⟨b, o + i * 9 + 5, none⟩ = some (i5) ∧ V.cell? ⟨b, o + i * 9 + 6, none⟩ = some (i6) ∧ V.cell? ⟨b, o + i * 9 + 7, none⟩ = some (i7) ∧ V.cell? ⟨b, o + i * 9 + 8, none⟩ = some (i8)) := fun V KV => ⟨keepC (KD.and KV) x0 (fun _ _ h => h), keepC (KD.and KV) x1 (fun _ _ h => h), keepC (KD.and KV) x2 (fun _ _ h => h), keepC (KD.and KV) x3 (fun _ _ h => h), keepC (KD.and KV) x4 (fun _ _ h => h), keepC (KD.and KV) x5 (fun _ _ h => h), keepC (KD.and KV) x6 (fun _ _ h => h), keepC (KD.and KV) x7 (fun _ _ h => h), keepC (KD.and KV) x8 (fun _ _ h => h), keepC (KD.and KV) x9 (fun _ _ h => h), keepC (KD.and KV) x10 (fun _ _ h => h), keepC (KD.and KV) x11 (fun _ _ h => h), keepC (KD.and KV) x12 (fun _ _ h => h), keepC (KD.and KV) x13 (fun _ _ h => h), keepC (KD.and KV) x14 (fun _ _ h => h), keepC (KD.and KV) x15 (fun _ _ h => h), keepC (KD.and KV) x16 (fun _ _ h => h), keepC (KD.and KV) x17 (fun _ _ h => h), keepC (KD.and KV) x18 (fun _ _ h => h), keepC (KD.and KV) x19 (fun _ _ h => h)⟩
  have HKD : Hid (Kept (fun _ => False) W W.drew) := KD
  have hS0 := HS.out W.drew (Kept.refl _ _)
  clear h KD x0 x1 x2 x3 x4 x5 x6 x7 x8 x9 x10 x11 x12 x13 x14 x15 x16 x17 x18 x19
  refine wp_region_held_drew (S := fun V => V.cell? ⟨db, 0, none⟩ = some (d0) ∧ V.cell? ⟨db, 1, none⟩ = some (d1) ∧ V.cell? ⟨pb, 2, none⟩ = some (q0) ∧ V.cell? ⟨pb, 3, none⟩ = some (q1) ∧ V.cell? ⟨pb, 4, none⟩ = some (q2) ∧ V.cell? ⟨pb, 5, none⟩ = some (q3) ∧ V.cell? ⟨pb, 6, none⟩ = some (q4) ∧ V.cell? ⟨pb, 7, none⟩ = some (q5) ∧ V.cell? ⟨pb, 8, none⟩ = some (q6) ∧ V.cell? ⟨pb, 9, none⟩ = some (q7) ∧ V.cell? ⟨pb, 10, none⟩ = some (q8) ∧ V.cell? ⟨b, o + i * 9, none⟩ = some (i0) ∧ V.cell? ⟨b, o + i * 9 + 1, none⟩ = some (i1) ∧ V.cell? ⟨b, o + i * 9 + 2, none⟩ = some (i2) ∧ V.cell? ⟨b, o + i * 9 + 3, none⟩ = some (i3) ∧ V.cell? ⟨b, o + i * 9 + 4, none⟩ = some (i4) ∧ V.cell? ⟨b, o + i * 9 + 5, none⟩ = some (i5) ∧ V.cell? ⟨b, o + i * 9 + 6, none⟩ = some (i6) ∧ V.cell? ⟨b, o + i * 9 + 7, none⟩ = some (i7) ∧ V.cell? ⟨b, o + i * 9 + 8, none⟩ = some (i8)) (by kernel_rfl) hS0 (fun _ => ?_)
  generalize W.drew = V0 at *
  refine wpAnyH_take (i := 0) (oi := { dst := some 59, op := Op.load 24 (Operand.tmp 3), type := 24, pos := "law.go:175", after := #[], guard := none }) (v := ?vv1) rfl (by kernel_rfl) (by kernel_rfl) (by kernel_rfl) (fun _ _ _ h => h) (Or.inl ⟨by rfl, ?hy1⟩) hS0 ?rest1
  case hy1 =>
    intro V hV
    obtain ⟨y0, y1, y2, y3, y4, y5, y6, y7, y8, y9, y10, y11, y12, y13, y14, y15, y16, y17, y18, y19⟩ := hV
    go_simp
    all_goals rfl
  simp only [Act.put, List.setIfInBounds_toArray, List.set_cons_zero, List.set_cons_succ]
  refine wpAnyH_take (i := 1) (oi := { dst := some 60, op := Op.move (Operand.tmp 7), type := 29, pos := "law.go:175", after := #[], guard := none }) (v := ?vv2) rfl (by kernel_rfl) (by kernel_rfl) (by kernel_rfl) (fun _ _ _ h => h) (Or.inl ⟨by rfl, ?hy2⟩) hS0 ?rest2
  case hy2 =>
    intro V hV
    obtain ⟨y0, y1, y2, y3, y4, y5, y6, y7, y8, y9, y10, y11, y12, y13, y14, y15, y16, y17, y18, y19⟩ := hV
    go_simp
    all_goals rfl
  simp only [Act.put, List.setIfInBounds_toArray, List.set_cons_zero, List.set_cons_succ]
  refine wpAnyH_take (i := 2) (oi := { dst := some 61, op := Op.nilCheck (Operand.tmp 60), type := 0, pos := "law.go:175", after := #[{ on := 1, ground := Ground.data }], guard := none }) (v := ?vv3) rfl (by kernel_rfl) (by kernel_rfl) (by kernel_rfl) (fun _ _ _ h => h) (Or.inl ⟨by rfl, ?hy3⟩) hS0 ?rest3
  case hy3 =>
    intro V hV
    obtain ⟨y0, y1, y2, y3, y4, y5, y6, y7, y8, y9, y10, y11, y12, y13, y14, y15, y16, y17, y18, y19⟩ := hV
    go_simp
    all_goals rfl
  simp only [Act.put, List.setIfInBounds_toArray, List.set_cons_zero, List.set_cons_succ]
  refine wpAnyH_take (i := 3) (oi := { dst := some 62, op := Op.fieldAddr 36 (Operand.tmp 61) 1, type := 0, pos := "law.go:175", after := #[{ on := 2, ground := Ground.data }], guard := none }) (v := ?vv4) rfl (by kernel_rfl) (by kernel_rfl) (by kernel_rfl) (fun _ _ _ h => h) (Or.inl ⟨by rfl, ?hy4⟩) hS0 ?rest4
  case hy4 =>
    intro V hV
    obtain ⟨y0, y1, y2, y3, y4, y5, y6, y7, y8, y9, y10, y11, y12, y13, y14, y15, y16, y17, y18, y19⟩ := hV
    go_simp
    all_goals rfl
  simp only [Act.put, List.setIfInBounds_toArray, List.set_cons_zero, List.set_cons_succ]
  refine wpAnyH_take (i := 4) (oi := { dst := some 63, op := Op.load 33 (Operand.tmp 62), type := 33, pos := "law.go:175", after := #[{ on := 3, ground := Ground.data }], guard := none }) (v := ?vv5) rfl (by kernel_rfl) (by kernel_rfl) (by kernel_rfl) (fun _ _ _ h => h) (Or.inl ⟨by rfl, ?hy5⟩) hS0 ?rest5
  case hy5 =>
    intro V hV
    obtain ⟨y0, y1, y2, y3, y4, y5, y6, y7, y8, y9, y10, y11, y12, y13, y14, y15, y16, y17, y18, y19⟩ := hV
    go_simp
    all_goals rfl
  simp only [Act.put, List.setIfInBounds_toArray, List.set_cons_zero, List.set_cons_succ]
  refine wpAnyH_take (i := 5) (oi := { dst := some 64, op := Op.move (Operand.tmp 2), type := 25, pos := "law.go:175", after := #[], guard := none }) (v := ?vv6) rfl (by kernel_rfl) (by kernel_rfl) (by kernel_rfl) (fun _ _ _ h => h) (Or.inl ⟨by rfl, ?hy6⟩) hS0 ?rest6
  case hy6 =>
    intro V hV
    obtain ⟨y0, y1, y2, y3, y4, y5, y6, y7, y8, y9, y10, y11, y12, y13, y14, y15, y16, y17, y18, y19⟩ := hV
    go_simp
    all_goals rfl
  simp only [Act.put, List.setIfInBounds_toArray, List.set_cons_zero, List.set_cons_succ]
  refine wpAnyH_take (i := 6) (oi := { dst := some 65, op := Op.move (Operand.tmp 9), type := 3, pos := "law.go:175", after := #[], guard := none }) (v := ?vv7) rfl (by kernel_rfl) (by kernel_rfl) (by kernel_rfl) (fun _ _ _ h => h) (Or.inl ⟨by rfl, ?hy7⟩) hS0 ?rest7
  case hy7 =>
    intro V hV
    obtain ⟨y0, y1, y2, y3, y4, y5, y6, y7, y8, y9, y10, y11, y12, y13, y14, y15, y16, y17, y18, y19⟩ := hV
    go_simp
    all_goals rfl
  simp only [Act.put, List.setIfInBounds_toArray, List.set_cons_zero, List.set_cons_succ]
  refine wpAnyH_take (i := 7) (oi := { dst := some 66, op := Op.indexAddr 25 (Operand.tmp 64) (Operand.tmp 65), type := 0, pos := "law.go:175", after := #[{ on := 5, ground := Ground.data }, { on := 6, ground := Ground.data }], guard := none }) (v := ?vv8) rfl (by kernel_rfl) (by kernel_rfl) (by kernel_rfl) (fun _ _ _ h => h) (Or.inl ⟨by rfl, ?hy8⟩) hS0 ?rest8
  case hy8 =>
    intro V hV
    obtain ⟨y0, y1, y2, y3, y4, y5, y6, y7, y8, y9, y10, y11, y12, y13, y14, y15, y16, y17, y18, y19⟩ := hV
    go_simp
    all_goals rfl
  simp only [Act.put, List.setIfInBounds_toArray, List.set_cons_zero, List.set_cons_succ]
  refine wpAnyH_take (i := 8) (oi := { dst := some 67, op := Op.load 39 (Operand.tmp 66), type := 39, pos := "law.go:175", after := #[{ on := 7, ground := Ground.data }], guard := none }) (v := ?vv9) rfl (by kernel_rfl) (by kernel_rfl) (by kernel_rfl) (fun _ _ _ h => h) (Or.inl ⟨by rfl, ?hy9⟩) hS0 ?rest9
  case hy9 =>
    intro V hV
    obtain ⟨y0, y1, y2, y3, y4, y5, y6, y7, y8, y9, y10, y11, y12, y13, y14, y15, y16, y17, y18, y19⟩ := hV
    go_simp
    all_goals rfl
  simp only [Act.put, List.setIfInBounds_toArray, List.set_cons_zero, List.set_cons_succ]
  refine wpAnyH_ready (rs := [9, 16]) (by kernel_rfl) (by simp) (AllReadyH.cons (o := { dst := some 68, op := Op.call { callee := Callee.value (Operand.func 13), args := #[Operand.tmp 67], argTypes := #[39] }, type := 39, pos := "law.go:175", after := #[{ on := 8, ground := Ground.data }], guard := none }) rfl (fun K' hK => ?_) (AllReadyH.cons (o := { dst := some 11, op := Op.alloc 33, type := 0, pos := "law.go:175", after := #[], guard := none }) rfl (fun K' hK => ?_) AllReadyH.nil))
  · refine step_call1 _ (by rfl) 13 _ _ (by rfl) (enters_of Tryd.func13 (by kernel_rfl) rfl) _ (by rfl) (hClip _ (Kept.refl (fun _ => False) V0)) ?_
    rintro e w8 ⟨rfl, K8⟩
    have L8 := ((Kept.refl (fun _ => False) V0)).and K8
    refine ⟨_, rfl, ?_⟩
    refine hK.out _ _ (HS.out _ L8) (fun _ => ?_)
    clear hK K'
    try (simp only [Act.put, List.setIfInBounds_toArray, List.set_cons_zero, List.set_cons_succ])
    refine wpAnyH_ready (rs := [10, 16]) (by kernel_rfl) (by simp) (AllReadyH.cons (o := { dst := some 69, op := Op.call { callee := Callee.value (Operand.func 22), args := #[Operand.tmp 59, Operand.tmp 63, Operand.tmp 68], argTypes := #[24, 33, 39] }, type := 57, pos := "law.go:175", after := #[{ on := 0, ground := Ground.data }, { on := 4, ground := Ground.data }, { on := 9, ground := Ground.data }, { on := 9, ground := Ground.chain }], guard := none }) rfl (fun K' hK => ?_) (AllReadyH.cons (o := { dst := some 11, op := Op.alloc 33, type := 0, pos := "law.go:175", after := #[], guard := none }) rfl (fun K' hK => ?_) AllReadyH.nil))
    · refine step_call3 _ (by rfl) 22 _ _ _ _ _ _ (by rfl) (enters_of Tryd.func22 (by kernel_rfl) rfl) _ _ _ (by rfl) (by rfl) (by rfl) (hStep _ L8) ?_
      rintro e w9 ⟨ae, ce, a6, c6, a7, c7, at_, ct, rfl, K9⟩
      have L9 := (L8).and K9
      refine ⟨_, rfl, ?_⟩
      refine hK.out _ _ (HS.out _ L9) (fun _ => ?_)
      clear hK K'
      try (simp only [Act.put, List.setIfInBounds_toArray, List.set_cons_zero, List.set_cons_succ])
      refine wpAnyH_take (i := 11) (oi := { dst := some 58, op := Op.move (Operand.tmp 69), type := 57, pos := "law.go:175", after := #[{ on := 10, ground := Ground.data }], guard := none }) (v := ?vv10) rfl (by kernel_rfl) (by kernel_rfl) (by kernel_rfl) (fun _ _ _ h => h) (Or.inl ⟨by rfl, ?hy10⟩) (HS.out _ L9) ?rest10
      case hy10 =>
        intro V hV
        obtain ⟨y0, y1, y2, y3, y4, y5, y6, y7, y8, y9, y10, y11, y12, y13, y14, y15, y16, y17, y18, y19⟩ := hV
        go_simp
        all_goals rfl
      simp only [Act.put, List.setIfInBounds_toArray, List.set_cons_zero, List.set_cons_succ]
      refine wpAnyH_take (i := 12) (oi := { dst := some 70, op := Op.extract (Operand.tmp 58) 0, type := 34, pos := "law.go:175", after := #[{ on := 11, ground := Ground.data }], guard := none }) (v := ?vv11) rfl (by kernel_rfl) (by kernel_rfl) (by kernel_rfl) (fun _ _ _ h => h) (Or.inl ⟨by rfl, ?hy11⟩) (HS.out _ L9) ?rest11
      case hy11 =>
        intro V hV
        obtain ⟨y0, y1, y2, y3, y4, y5, y6, y7, y8, y9, y10, y11, y12, y13, y14, y15, y16, y17, y18, y19⟩ := hV
        go_simp
        all_goals rfl
      simp only [Act.put, List.setIfInBounds_toArray, List.set_cons_zero, List.set_cons_succ]
      refine wpAnyH_take (i := 13) (oi := { dst := some 71, op := Op.extract (Operand.tmp 58) 1, type := 33, pos := "law.go:175", after := #[{ on := 11, ground := Ground.data }, { on := 17, ground := Ground.gcOnly Departure.lateStores }], guard := none }) (v := ?vv12) rfl (by kernel_rfl) (by kernel_rfl) (by kernel_rfl) (fun _ _ _ h => h) (Or.inl ⟨by rfl, ?hy12⟩) (HS.out _ L9) ?rest12
      case hy12 =>
        intro V hV
        obtain ⟨y0, y1, y2, y3, y4, y5, y6, y7, y8, y9, y10, y11, y12, y13, y14, y15, y16, y17, y18, y19⟩ := hV
        go_simp
        all_goals rfl
      simp only [Act.put, List.setIfInBounds_toArray, List.set_cons_zero, List.set_cons_succ]
      refine wpAnyH_take (i := 14) (oi := { dst := some 72, op := Op.extract (Operand.tmp 58) 2, type := 56, pos := "law.go:175", after := #[{ on := 11, ground := Ground.data }, { on := 18, ground := Ground.gcOnly Departure.lateStores }], guard := none }) (v := ?vv13) rfl (by kernel_rfl) (by kernel_rfl) (by kernel_rfl) (fun _ _ _ h => h) (Or.inl ⟨by rfl, ?hy13⟩) (HS.out _ L9) ?rest13
      case hy13 =>
        intro V hV
        obtain ⟨y0, y1, y2, y3, y4, y5, y6, y7, y8, y9, y10, y11, y12, y13, y14, y15, y16, y17, y18, y19⟩ := hV
        go_simp
        all_goals rfl
      simp only [Act.put, List.setIfInBounds_toArray, List.set_cons_zero, List.set_cons_succ]
      refine wpAnyH_take (i := 15) (oi := { dst := some 73, op := Op.extract (Operand.tmp 58) 3, type := 42, pos := "law.go:175", after := #[{ on := 11, ground := Ground.data }, { on := 19, ground := Ground.gcOnly Departure.lateStores }], guard := none }) (v := ?vv14) rfl (by kernel_rfl) (by kernel_rfl) (by kernel_rfl) (fun _ _ _ h => h) (Or.inl ⟨by rfl, ?hy14⟩) (HS.out _ L9) ?rest14
      case hy14 =>
        intro V hV
        obtain ⟨y0, y1, y2, y3, y4, y5, y6, y7, y8, y9, y10, y11, y12, y13, y14, y15, y16, y17, y18, y19⟩ := hV
        go_simp
        all_goals rfl
      simp only [Act.put, List.setIfInBounds_toArray, List.set_cons_zero, List.set_cons_succ]
      refine wpAnyH_ready (rs := [16]) (by kernel_rfl) (by simp) (AllReadyH.cons (o := { dst := some 11, op := Op.alloc 33, type := 0, pos := "law.go:175", after := #[], guard := none }) rfl (fun K' hK => ?_) AllReadyH.nil)
      have hmb : (w9.alloc (.cells #[.string ⟨#[]⟩, .string ⟨#[]⟩, .string ⟨#[]⟩, .string ⟨#[]⟩, .int .i64 0, .string ⟨#[]⟩, .slice none 0 0, .slice none 0 0, .int .i64 0] 33)).heap[w9.heap.size]? = some (.cells #[.string ⟨#[]⟩, .string ⟨#[]⟩, .string ⟨#[]⟩, .string ⟨#[]⟩, .int .i64 0, .string ⟨#[]⟩, .slice none 0 0, .slice none 0 0, .int .i64 0] 33 (0, 0)) := heap_alloc_new _ _
      have KA0 : Kept (fun _ => False) w9 (w9.alloc (.cells #[.string ⟨#[]⟩, .string ⟨#[]⟩, .string ⟨#[]⟩, .string ⟨#[]⟩, .int .i64 0, .string ⟨#[]⟩, .slice none 0 0, .slice none 0 0, .int .i64 0] 33)) := Kept.alloc _ _ _
      have KA := (L9).and KA0
      go_simp
      refine hK.out _ _ (HS.out _ KA) (fun _ => ?_)
      generalize w9.alloc (.cells #[.string ⟨#[]⟩, .string ⟨#[]⟩, .string ⟨#[]⟩, .string ⟨#[]⟩, .int .i64 0, .string ⟨#[]⟩, .slice none 0 0, .slice none 0 0, .int .i64 0] 33) = V6 at *
      obtain ⟨mb, hmbe⟩ : ∃ mb, mb = w9.heap.size := ⟨_, rfl⟩
      rw [← hmbe] at hmb ⊢
      have hz : V0.heap.size ≤ mb := by rw [hmbe]; exact (L9).size
      clear hmbe KA0
      clear hK K'
      try (simp only [Act.put, List.setIfInBounds_toArray, List.set_cons_zero, List.set_cons_succ])
      refine wpAnyH_take (i := 17) (oi := { dst := some 10, op := Op.assign (Operand.tmp 70), type := 34, pos := "law.go:175", after := #[{ on := 12, ground := Ground.data }, { on := 10, ground := Ground.chain }, { on := 0, ground := Ground.phase }, { on := 1, ground := Ground.phase }, { on := 2, ground := Ground.phase }, { on := 3, ground := Ground.phase }, { on := 4, ground := Ground.phase }, { on := 5, ground := Ground.phase }, { on := 6, ground := Ground.phase }, { on := 7, ground := Ground.phase }, { on := 8, ground := Ground.phase }, { on := 9, ground := Ground.phase }, { on := 10, ground := Ground.phase }, { on := 11, ground := Ground.phase }, { on := 12, ground := Ground.phase }, { on := 13, ground := Ground.textOnly Departure.lateStores }, { on := 14, ground := Ground.textOnly Departure.lateStores }, { on := 15, ground := Ground.textOnly Departure.lateStores }, { on := 16, ground := Ground.phase }], guard := none }) (v := ?vv15) rfl (by kernel_rfl) (by kernel_rfl) (by kernel_rfl) (fun _ _ _ h => h) (Or.inl ⟨by rfl, ?hy15⟩) (HS.out _ KA) ?rest15
      case hy15 =>
        intro V hV
        obtain ⟨y0, y1, y2, y3, y4, y5, y6, y7, y8, y9, y10, y11, y12, y13, y14, y15, y16, y17, y18, y19⟩ := hV
        go_simp
        all_goals rfl
      simp only [Act.put, List.setIfInBounds_toArray, List.set_cons_zero, List.set_cons_succ]
      refine wpAnyH_ready (rs := [18]) (by kernel_rfl) (by simp) (AllReadyH.cons (o := { dst := none, op := Op.store 33 (Operand.tmp 11) (Operand.tmp 71), type := 0, pos := "law.go:175", after := #[{ on := 16, ground := Ground.data }, { on := 13, ground := Ground.data }, { on := 17, ground := Ground.chain }, { on := 0, ground := Ground.phase }, { on := 1, ground := Ground.phase }, { on := 2, ground := Ground.phase }, { on := 3, ground := Ground.phase }, { on := 4, ground := Ground.phase }, { on := 5, ground := Ground.phase }, { on := 6, ground := Ground.phase }, { on := 7, ground := Ground.phase }, { on := 8, ground := Ground.phase }, { on := 9, ground := Ground.phase }, { on := 10, ground := Ground.phase }, { on := 11, ground := Ground.phase }, { on := 12, ground := Ground.phase }, { on := 13, ground := Ground.phase }, { on := 14, ground := Ground.textOnly Departure.lateStores }, { on := 15, ground := Ground.textOnly Departure.lateStores }, { on := 16, ground := Ground.phase }, { on := 17, ground := Ground.phase }], guard := none }) rfl (fun K' hK => ?_) AllReadyH.nil)
      obtain ⟨⟨z0, z1, z2, z3, z4, z5, z6, z7, z8⟩, f0, f1, f2, f3, f4, f5, f6, f7, f8⟩ := nine hmb
      have KS := kept9 (S := fun j => j = mb) V6 rfl (.string ⟨#[]⟩) (.string ⟨#[]⟩) (.string ⟨#[]⟩) (.string ⟨#[]⟩) (.int .i64 0) (.string ⟨#[]⟩) (.slice a6 0 c6) (.slice a7 0 c7) (.int .i64 0)
      have KF := (KA).trans KS (fun j h => .inr (by subst h; exact hz))
      go_simp
      refine hK.out _ _ (HS.out _ KF) (fun _ => ?_)
      have HKF := hid (HKD.out.and KF)
      clear z0 z1 z2 z3 z4 z5 z6 z7 z8 f0 f1 f2 f3 f4 f5 f6 f7 f8 KS
      clear hK K'
      try (simp only [Act.put, List.setIfInBounds_toArray, List.set_cons_zero, List.set_cons_succ])
      refine wpAnyH_take (i := 19) (oi := { dst := some 12, op := Op.assign (Operand.tmp 72), type := 56, pos := "law.go:175", after := #[{ on := 14, ground := Ground.data }, { on := 18, ground := Ground.chain }, { on := 0, ground := Ground.phase }, { on := 1, ground := Ground.phase }, { on := 2, ground := Ground.phase }, { on := 3, ground := Ground.phase }, { on := 4, ground := Ground.phase }, { on := 5, ground := Ground.phase }, { on := 6, ground := Ground.phase }, { on := 7, ground := Ground.phase }, { on := 8, ground := Ground.phase }, { on := 9, ground := Ground.phase }, { on := 10, ground := Ground.phase }, { on := 11, ground := Ground.phase }, { on := 12, ground := Ground.phase }, { on := 13, ground := Ground.phase }, { on := 14, ground := Ground.phase }, { on := 15, ground := Ground.textOnly Departure.lateStores }, { on := 16, ground := Ground.phase }, { on := 17, ground := Ground.phase }, { on := 18, ground := Ground.phase }], guard := none }) (v := ?vv16) rfl (by kernel_rfl) (by kernel_rfl) (by kernel_rfl) (fun _ _ _ h => h) (Or.inl ⟨by rfl, ?hy16⟩) (HS.out _ KF) ?rest16
      case hy16 =>
        intro V hV
        obtain ⟨y0, y1, y2, y3, y4, y5, y6, y7, y8, y9, y10, y11, y12, y13, y14, y15, y16, y17, y18, y19⟩ := hV
        go_simp
        all_goals rfl
      simp only [Act.put, List.setIfInBounds_toArray, List.set_cons_zero, List.set_cons_succ]
      refine wpAnyH_take (i := 20) (oi := { dst := some 13, op := Op.assign (Operand.tmp 73), type := 42, pos := "law.go:175", after := #[{ on := 15, ground := Ground.data }, { on := 19, ground := Ground.chain }, { on := 0, ground := Ground.phase }, { on := 1, ground := Ground.phase }, { on := 2, ground := Ground.phase }, { on := 3, ground := Ground.phase }, { on := 4, ground := Ground.phase }, { on := 5, ground := Ground.phase }, { on := 6, ground := Ground.phase }, { on := 7, ground := Ground.phase }, { on := 8, ground := Ground.phase }, { on := 9, ground := Ground.phase }, { on := 10, ground := Ground.phase }, { on := 11, ground := Ground.phase }, { on := 12, ground := Ground.phase }, { on := 13, ground := Ground.phase }, { on := 14, ground := Ground.phase }, { on := 15, ground := Ground.phase }, { on := 16, ground := Ground.phase }, { on := 17, ground := Ground.phase }, { on := 18, ground := Ground.phase }, { on := 19, ground := Ground.phase }], guard := none }) (v := ?vv17) rfl (by kernel_rfl) (by kernel_rfl) (by kernel_rfl) (fun _ _ _ h => h) (Or.inl ⟨by rfl, ?hy17⟩) (HS.out _ KF) ?rest17
      case hy17 =>
        intro V hV
        obtain ⟨y0, y1, y2, y3, y4, y5, y6, y7, y8, y9, y10, y11, y12, y13, y14, y15, y16, y17, y18, y19⟩ := hV
        go_simp
        all_goals rfl
      simp only [Act.put, List.setIfInBounds_toArray, List.set_cons_zero, List.set_cons_succ]
      refine wpAnyH_done (by kernel_rfl) ?_ _
      exact HH.out _ _ _ _ _ _ _ _ _ _ _ _ _ _ _ _ mb ae ce at_ ct _ HKF.out
    · have hmb : (w8.alloc (.cells #[.string ⟨#[]⟩, .string ⟨#[]⟩, .string ⟨#[]⟩, .string ⟨#[]⟩, .int .i64 0, .string ⟨#[]⟩, .slice none 0 0, .slice none 0 0, .int .i64 0] 33)).heap[w8.heap.size]? = some (.cells #[.string ⟨#[]⟩, .string ⟨#[]⟩, .string ⟨#[]⟩, .string ⟨#[]⟩, .int .i64 0, .string ⟨#[]⟩, .slice none 0 0, .slice none 0 0, .int .i64 0] 33 (0, 0)) := heap_alloc_new _ _
      have KA0 : Kept (fun _ => False) w8 (w8.alloc (.cells #[.string ⟨#[]⟩, .string ⟨#[]⟩, .string ⟨#[]⟩, .string ⟨#[]⟩, .int .i64 0, .string ⟨#[]⟩, .slice none 0 0, .slice none 0 0, .int .i64 0] 33)) := Kept.alloc _ _ _
      have KA := (L8).and KA0
      go_simp
      refine hK.out _ _ (HS.out _ KA) (fun _ => ?_)
      generalize w8.alloc (.cells #[.string ⟨#[]⟩, .string ⟨#[]⟩, .string ⟨#[]⟩, .string ⟨#[]⟩, .int .i64 0, .string ⟨#[]⟩, .slice none 0 0, .slice none 0 0, .int .i64 0] 33) = V6 at *
      obtain ⟨mb, hmbe⟩ : ∃ mb, mb = w8.heap.size := ⟨_, rfl⟩
      rw [← hmbe] at hmb ⊢
      have hz : V0.heap.size ≤ mb := by rw [hmbe]; exact (L8).size
      clear hmbe KA0
      clear hK K'
      try (simp only [Act.put, List.setIfInBounds_toArray, List.set_cons_zero, List.set_cons_succ])
      refine wpAnyH_ready (rs := [10]) (by kernel_rfl) (by simp) (AllReadyH.cons (o := { dst := some 69, op := Op.call { callee := Callee.value (Operand.func 22), args := #[Operand.tmp 59, Operand.tmp 63, Operand.tmp 68], argTypes := #[24, 33, 39] }, type := 57, pos := "law.go:175", after := #[{ on := 0, ground := Ground.data }, { on := 4, ground := Ground.data }, { on := 9, ground := Ground.data }, { on := 9, ground := Ground.chain }], guard := none }) rfl (fun K' hK => ?_) AllReadyH.nil)
      refine step_call3 _ (by rfl) 22 _ _ _ _ _ _ (by rfl) (enters_of Tryd.func22 (by kernel_rfl) rfl) _ _ _ (by rfl) (by rfl) (by rfl) (hStep _ KA) ?_
      rintro e w9 ⟨ae, ce, a6, c6, a7, c7, at_, ct, rfl, K9⟩
      have L9 := (KA).and K9
      replace hmb := (K9.block _ (Array.getElem?_eq_some_iff.1 hmb).1 (fun h => h)).trans hmb
      refine ⟨_, rfl, ?_⟩
      refine hK.out _ _ (HS.out _ L9) (fun _ => ?_)
      clear hK K'
      try (simp only [Act.put, List.setIfInBounds_toArray, List.set_cons_zero, List.set_cons_succ])
      refine wpAnyH_take (i := 11) (oi := { dst := some 58, op := Op.move (Operand.tmp 69), type := 57, pos := "law.go:175", after := #[{ on := 10, ground := Ground.data }], guard := none }) (v := ?vv18) rfl (by kernel_rfl) (by kernel_rfl) (by kernel_rfl) (fun _ _ _ h => h) (Or.inl ⟨by rfl, ?hy18⟩) (HS.out _ L9) ?rest18
      case hy18 =>
        intro V hV
        obtain ⟨y0, y1, y2, y3, y4, y5, y6, y7, y8, y9, y10, y11, y12, y13, y14, y15, y16, y17, y18, y19⟩ := hV
        go_simp
        all_goals rfl
      simp only [Act.put, List.setIfInBounds_toArray, List.set_cons_zero, List.set_cons_succ]
      refine wpAnyH_take (i := 12) (oi := { dst := some 70, op := Op.extract (Operand.tmp 58) 0, type := 34, pos := "law.go:175", after := #[{ on := 11, ground := Ground.data }], guard := none }) (v := ?vv19) rfl (by kernel_rfl) (by kernel_rfl) (by kernel_rfl) (fun _ _ _ h => h) (Or.inl ⟨by rfl, ?hy19⟩) (HS.out _ L9) ?rest19
      case hy19 =>
        intro V hV
        obtain ⟨y0, y1, y2, y3, y4, y5, y6, y7, y8, y9, y10, y11, y12, y13, y14, y15, y16, y17, y18, y19⟩ := hV
        go_simp
        all_goals rfl
      simp only [Act.put, List.setIfInBounds_toArray, List.set_cons_zero, List.set_cons_succ]
      refine wpAnyH_take (i := 13) (oi := { dst := some 71, op := Op.extract (Operand.tmp 58) 1, type := 33, pos := "law.go:175", after := #[{ on := 11, ground := Ground.data }, { on := 17, ground := Ground.gcOnly Departure.lateStores }], guard := none }) (v := ?vv20) rfl (by kernel_rfl) (by kernel_rfl) (by kernel_rfl) (fun _ _ _ h => h) (Or.inl ⟨by rfl, ?hy20⟩) (HS.out _ L9) ?rest20
      case hy20 =>
        intro V hV
        obtain ⟨y0, y1, y2, y3, y4, y5, y6, y7, y8, y9, y10, y11, y12, y13, y14, y15, y16, y17, y18, y19⟩ := hV
        go_simp
        all_goals rfl
      simp only [Act.put, List.setIfInBounds_toArray, List.set_cons_zero, List.set_cons_succ]
      refine wpAnyH_take (i := 14) (oi := { dst := some 72, op := Op.extract (Operand.tmp 58) 2, type := 56, pos := "law.go:175", after := #[{ on := 11, ground := Ground.data }, { on := 18, ground := Ground.gcOnly Departure.lateStores }], guard := none }) (v := ?vv21) rfl (by kernel_rfl) (by kernel_rfl) (by kernel_rfl) (fun _ _ _ h => h) (Or.inl ⟨by rfl, ?hy21⟩) (HS.out _ L9) ?rest21
      case hy21 =>
        intro V hV
        obtain ⟨y0, y1, y2, y3, y4, y5, y6, y7, y8, y9, y10, y11, y12, y13, y14, y15, y16, y17, y18, y19⟩ := hV
        go_simp
        all_goals rfl
      simp only [Act.put, List.setIfInBounds_toArray, List.set_cons_zero, List.set_cons_succ]
      refine wpAnyH_take (i := 15) (oi := { dst := some 73, op := Op.extract (Operand.tmp 58) 3, type := 42, pos := "law.go:175", after := #[{ on := 11, ground := Ground.data }, { on := 19, ground := Ground.gcOnly Departure.lateStores }], guard := none }) (v := ?vv22) rfl (by kernel_rfl) (by kernel_rfl) (by kernel_rfl) (fun _ _ _ h => h) (Or.inl ⟨by rfl, ?hy22⟩) (HS.out _ L9) ?rest22
      case hy22 =>
        intro V hV
        obtain ⟨y0, y1, y2, y3, y4, y5, y6, y7, y8, y9, y10, y11, y12, y13, y14, y15, y16, y17, y18, y19⟩ := hV
        go_simp
        all_goals rfl
      simp only [Act.put, List.setIfInBounds_toArray, List.set_cons_zero, List.set_cons_succ]
      refine wpAnyH_take (i := 17) (oi := { dst := some 10, op := Op.assign (Operand.tmp 70), type := 34, pos := "law.go:175", after := #[{ on := 12, ground := Ground.data }, { on := 10, ground := Ground.chain }, { on := 0, ground := Ground.phase }, { on := 1, ground := Ground.phase }, { on := 2, ground := Ground.phase }, { on := 3, ground := Ground.phase }, { on := 4, ground := Ground.phase }, { on := 5, ground := Ground.phase }, { on := 6, ground := Ground.phase }, { on := 7, ground := Ground.phase }, { on := 8, ground := Ground.phase }, { on := 9, ground := Ground.phase }, { on := 10, ground := Ground.phase }, { on := 11, ground := Ground.phase }, { on := 12, ground := Ground.phase }, { on := 13, ground := Ground.textOnly Departure.lateStores }, { on := 14, ground := Ground.textOnly Departure.lateStores }, { on := 15, ground := Ground.textOnly Departure.lateStores }, { on := 16, ground := Ground.phase }], guard := none }) (v := ?vv23) rfl (by kernel_rfl) (by kernel_rfl) (by kernel_rfl) (fun _ _ _ h => h) (Or.inl ⟨by rfl, ?hy23⟩) (HS.out _ L9) ?rest23
      case hy23 =>
        intro V hV
        obtain ⟨y0, y1, y2, y3, y4, y5, y6, y7, y8, y9, y10, y11, y12, y13, y14, y15, y16, y17, y18, y19⟩ := hV
        go_simp
        all_goals rfl
      simp only [Act.put, List.setIfInBounds_toArray, List.set_cons_zero, List.set_cons_succ]
      refine wpAnyH_ready (rs := [18]) (by kernel_rfl) (by simp) (AllReadyH.cons (o := { dst := none, op := Op.store 33 (Operand.tmp 11) (Operand.tmp 71), type := 0, pos := "law.go:175", after := #[{ on := 16, ground := Ground.data }, { on := 13, ground := Ground.data }, { on := 17, ground := Ground.chain }, { on := 0, ground := Ground.phase }, { on := 1, ground := Ground.phase }, { on := 2, ground := Ground.phase }, { on := 3, ground := Ground.phase }, { on := 4, ground := Ground.phase }, { on := 5, ground := Ground.phase }, { on := 6, ground := Ground.phase }, { on := 7, ground := Ground.phase }, { on := 8, ground := Ground.phase }, { on := 9, ground := Ground.phase }, { on := 10, ground := Ground.phase }, { on := 11, ground := Ground.phase }, { on := 12, ground := Ground.phase }, { on := 13, ground := Ground.phase }, { on := 14, ground := Ground.textOnly Departure.lateStores }, { on := 15, ground := Ground.textOnly Departure.lateStores }, { on := 16, ground := Ground.phase }, { on := 17, ground := Ground.phase }], guard := none }) rfl (fun K' hK => ?_) AllReadyH.nil)
      obtain ⟨⟨z0, z1, z2, z3, z4, z5, z6, z7, z8⟩, f0, f1, f2, f3, f4, f5, f6, f7, f8⟩ := nine hmb
      have KS := kept9 (S := fun j => j = mb) w9 rfl (.string ⟨#[]⟩) (.string ⟨#[]⟩) (.string ⟨#[]⟩) (.string ⟨#[]⟩) (.int .i64 0) (.string ⟨#[]⟩) (.slice a6 0 c6) (.slice a7 0 c7) (.int .i64 0)
      have KF := (L9).trans KS (fun j h => .inr (by subst h; exact hz))
      go_simp
      refine hK.out _ _ (HS.out _ KF) (fun _ => ?_)
      have HKF := hid (HKD.out.and KF)
      clear z0 z1 z2 z3 z4 z5 z6 z7 z8 f0 f1 f2 f3 f4 f5 f6 f7 f8 KS
      clear hK K'
      try (simp only [Act.put, List.setIfInBounds_toArray, List.set_cons_zero, List.set_cons_succ])
      refine wpAnyH_take (i := 19) (oi := { dst := some 12, op := Op.assign (Operand.tmp 72), type := 56, pos := "law.go:175", after := #[{ on := 14, ground := Ground.data }, { on := 18, ground := Ground.chain }, { on := 0, ground := Ground.phase }, { on := 1, ground := Ground.phase }, { on := 2, ground := Ground.phase }, { on := 3, ground := Ground.phase }, { on := 4, ground := Ground.phase }, { on := 5, ground := Ground.phase }, { on := 6, ground := Ground.phase }, { on := 7, ground := Ground.phase }, { on := 8, ground := Ground.phase }, { on := 9, ground := Ground.phase }, { on := 10, ground := Ground.phase }, { on := 11, ground := Ground.phase }, { on := 12, ground := Ground.phase }, { on := 13, ground := Ground.phase }, { on := 14, ground := Ground.phase }, { on := 15, ground := Ground.textOnly Departure.lateStores }, { on := 16, ground := Ground.phase }, { on := 17, ground := Ground.phase }, { on := 18, ground := Ground.phase }], guard := none }) (v := ?vv24) rfl (by kernel_rfl) (by kernel_rfl) (by kernel_rfl) (fun _ _ _ h => h) (Or.inl ⟨by rfl, ?hy24⟩) (HS.out _ KF) ?rest24
      case hy24 =>
        intro V hV
        obtain ⟨y0, y1, y2, y3, y4, y5, y6, y7, y8, y9, y10, y11, y12, y13, y14, y15, y16, y17, y18, y19⟩ := hV
        go_simp
        all_goals rfl
      simp only [Act.put, List.setIfInBounds_toArray, List.set_cons_zero, List.set_cons_succ]
      refine wpAnyH_take (i := 20) (oi := { dst := some 13, op := Op.assign (Operand.tmp 73), type := 42, pos := "law.go:175", after := #[{ on := 15, ground := Ground.data }, { on := 19, ground := Ground.chain }, { on := 0, ground := Ground.phase }, { on := 1, ground := Ground.phase }, { on := 2, ground := Ground.phase }, { on := 3, ground := Ground.phase }, { on := 4, ground := Ground.phase }, { on := 5, ground := Ground.phase }, { on := 6, ground := Ground.phase }, { on := 7, ground := Ground.phase }, { on := 8, ground := Ground.phase }, { on := 9, ground := Ground.phase }, { on := 10, ground := Ground.phase }, { on := 11, ground := Ground.phase }, { on := 12, ground := Ground.phase }, { on := 13, ground := Ground.phase }, { on := 14, ground := Ground.phase }, { on := 15, ground := Ground.phase }, { on := 16, ground := Ground.phase }, { on := 17, ground := Ground.phase }, { on := 18, ground := Ground.phase }, { on := 19, ground := Ground.phase }], guard := none }) (v := ?vv25) rfl (by kernel_rfl) (by kernel_rfl) (by kernel_rfl) (fun _ _ _ h => h) (Or.inl ⟨by rfl, ?hy25⟩) (HS.out _ KF) ?rest25
      case hy25 =>
        intro V hV
        obtain ⟨y0, y1, y2, y3, y4, y5, y6, y7, y8, y9, y10, y11, y12, y13, y14, y15, y16, y17, y18, y19⟩ := hV
        go_simp
        all_goals rfl
      simp only [Act.put, List.setIfInBounds_toArray, List.set_cons_zero, List.set_cons_succ]
      refine wpAnyH_done (by kernel_rfl) ?_ _
      exact HH.out _ _ _ _ _ _ _ _ _ _ _ _ _ _ _ _ mb ae ce at_ ct _ HKF.out
  · have hmb : (V0.alloc (.cells #[.string ⟨#[]⟩, .string ⟨#[]⟩, .string ⟨#[]⟩, .string ⟨#[]⟩, .int .i64 0, .string ⟨#[]⟩, .slice none 0 0, .slice none 0 0, .int .i64 0] 33)).heap[V0.heap.size]? = some (.cells #[.string ⟨#[]⟩, .string ⟨#[]⟩, .string ⟨#[]⟩, .string ⟨#[]⟩, .int .i64 0, .string ⟨#[]⟩, .slice none 0 0, .slice none 0 0, .int .i64 0] 33 (0, 0)) := heap_alloc_new _ _
    have KA0 : Kept (fun _ => False) V0 (V0.alloc (.cells #[.string ⟨#[]⟩, .string ⟨#[]⟩, .string ⟨#[]⟩, .string ⟨#[]⟩, .int .i64 0, .string ⟨#[]⟩, .slice none 0 0, .slice none 0 0, .int .i64 0] 33)) := Kept.alloc _ _ _
    have KA := ((Kept.refl (fun _ => False) V0)).and KA0
    go_simp
    refine hK.out _ _ (HS.out _ KA) (fun _ => ?_)
    generalize V0.alloc (.cells #[.string ⟨#[]⟩, .string ⟨#[]⟩, .string ⟨#[]⟩, .string ⟨#[]⟩, .int .i64 0, .string ⟨#[]⟩, .slice none 0 0, .slice none 0 0, .int .i64 0] 33) = V6 at *
    obtain ⟨mb, hmbe⟩ : ∃ mb, mb = V0.heap.size := ⟨_, rfl⟩
    rw [← hmbe] at hmb ⊢
    have hz : V0.heap.size ≤ mb := by rw [hmbe]; exact ((Kept.refl (fun _ => False) V0)).size
    clear hmbe KA0
    clear hK K'
    try (simp only [Act.put, List.setIfInBounds_toArray, List.set_cons_zero, List.set_cons_succ])
    refine wpAnyH_ready (rs := [9]) (by kernel_rfl) (by simp) (AllReadyH.cons (o := { dst := some 68, op := Op.call { callee := Callee.value (Operand.func 13), args := #[Operand.tmp 67], argTypes := #[39] }, type := 39, pos := "law.go:175", after := #[{ on := 8, ground := Ground.data }], guard := none }) rfl (fun K' hK => ?_) AllReadyH.nil)
    refine step_call1 _ (by rfl) 13 _ _ (by rfl) (enters_of Tryd.func13 (by kernel_rfl) rfl) _ (by rfl) (hClip _ KA) ?_
    rintro e w8 ⟨rfl, K8⟩
    have L8 := (KA).and K8
    replace hmb := (K8.block _ (Array.getElem?_eq_some_iff.1 hmb).1 (fun h => h)).trans hmb
    refine ⟨_, rfl, ?_⟩
    refine hK.out _ _ (HS.out _ L8) (fun _ => ?_)
    clear hK K'
    try (simp only [Act.put, List.setIfInBounds_toArray, List.set_cons_zero, List.set_cons_succ])
    refine wpAnyH_ready (rs := [10]) (by kernel_rfl) (by simp) (AllReadyH.cons (o := { dst := some 69, op := Op.call { callee := Callee.value (Operand.func 22), args := #[Operand.tmp 59, Operand.tmp 63, Operand.tmp 68], argTypes := #[24, 33, 39] }, type := 57, pos := "law.go:175", after := #[{ on := 0, ground := Ground.data }, { on := 4, ground := Ground.data }, { on := 9, ground := Ground.data }, { on := 9, ground := Ground.chain }], guard := none }) rfl (fun K' hK => ?_) AllReadyH.nil)
    refine step_call3 _ (by rfl) 22 _ _ _ _ _ _ (by rfl) (enters_of Tryd.func22 (by kernel_rfl) rfl) _ _ _ (by rfl) (by rfl) (by rfl) (hStep _ L8) ?_
    rintro e w9 ⟨ae, ce, a6, c6, a7, c7, at_, ct, rfl, K9⟩
    have L9 := (L8).and K9
    replace hmb := (K9.block _ (Array.getElem?_eq_some_iff.1 hmb).1 (fun h => h)).trans hmb
    refine ⟨_, rfl, ?_⟩
    refine hK.out _ _ (HS.out _ L9) (fun _ => ?_)
    clear hK K'
    try (simp only [Act.put, List.setIfInBounds_toArray, List.set_cons_zero, List.set_cons_succ])
    refine wpAnyH_take (i := 11) (oi := { dst := some 58, op := Op.move (Operand.tmp 69), type := 57, pos := "law.go:175", after := #[{ on := 10, ground := Ground.data }], guard := none }) (v := ?vv26) rfl (by kernel_rfl) (by kernel_rfl) (by kernel_rfl) (fun _ _ _ h => h) (Or.inl ⟨by rfl, ?hy26⟩) (HS.out _ L9) ?rest26
    case hy26 =>
      intro V hV
      obtain ⟨y0, y1, y2, y3, y4, y5, y6, y7, y8, y9, y10, y11, y12, y13, y14, y15, y16, y17, y18, y19⟩ := hV
      go_simp
      all_goals rfl
    simp only [Act.put, List.setIfInBounds_toArray, List.set_cons_zero, List.set_cons_succ]
    refine wpAnyH_take (i := 12) (oi := { dst := some 70, op := Op.extract (Operand.tmp 58) 0, type := 34, pos := "law.go:175", after := #[{ on := 11, ground := Ground.data }], guard := none }) (v := ?vv27) rfl (by kernel_rfl) (by kernel_rfl) (by kernel_rfl) (fun _ _ _ h => h) (Or.inl ⟨by rfl, ?hy27⟩) (HS.out _ L9) ?rest27
    case hy27 =>
      intro V hV
      obtain ⟨y0, y1, y2, y3, y4, y5, y6, y7, y8, y9, y10, y11, y12, y13, y14, y15, y16, y17, y18, y19⟩ := hV
      go_simp
      all_goals rfl
    simp only [Act.put, List.setIfInBounds_toArray, List.set_cons_zero, List.set_cons_succ]
    refine wpAnyH_take (i := 13) (oi := { dst := some 71, op := Op.extract (Operand.tmp 58) 1, type := 33, pos := "law.go:175", after := #[{ on := 11, ground := Ground.data }, { on := 17, ground := Ground.gcOnly Departure.lateStores }], guard := none }) (v := ?vv28) rfl (by kernel_rfl) (by kernel_rfl) (by kernel_rfl) (fun _ _ _ h => h) (Or.inl ⟨by rfl, ?hy28⟩) (HS.out _ L9) ?rest28
    case hy28 =>
      intro V hV
      obtain ⟨y0, y1, y2, y3, y4, y5, y6, y7, y8, y9, y10, y11, y12, y13, y14, y15, y16, y17, y18, y19⟩ := hV
      go_simp
      all_goals rfl
    simp only [Act.put, List.setIfInBounds_toArray, List.set_cons_zero, List.set_cons_succ]
    refine wpAnyH_take (i := 14) (oi := { dst := some 72, op := Op.extract (Operand.tmp 58) 2, type := 56, pos := "law.go:175", after := #[{ on := 11, ground := Ground.data }, { on := 18, ground := Ground.gcOnly Departure.lateStores }], guard := none }) (v := ?vv29) rfl (by kernel_rfl) (by kernel_rfl) (by kernel_rfl) (fun _ _ _ h => h) (Or.inl ⟨by rfl, ?hy29⟩) (HS.out _ L9) ?rest29
    case hy29 =>
      intro V hV
      obtain ⟨y0, y1, y2, y3, y4, y5, y6, y7, y8, y9, y10, y11, y12, y13, y14, y15, y16, y17, y18, y19⟩ := hV
      go_simp
      all_goals rfl
    simp only [Act.put, List.setIfInBounds_toArray, List.set_cons_zero, List.set_cons_succ]
    refine wpAnyH_take (i := 15) (oi := { dst := some 73, op := Op.extract (Operand.tmp 58) 3, type := 42, pos := "law.go:175", after := #[{ on := 11, ground := Ground.data }, { on := 19, ground := Ground.gcOnly Departure.lateStores }], guard := none }) (v := ?vv30) rfl (by kernel_rfl) (by kernel_rfl) (by kernel_rfl) (fun _ _ _ h => h) (Or.inl ⟨by rfl, ?hy30⟩) (HS.out _ L9) ?rest30
    case hy30 =>
      intro V hV
      obtain ⟨y0, y1, y2, y3, y4, y5, y6, y7, y8, y9, y10, y11, y12, y13, y14, y15, y16, y17, y18, y19⟩ := hV
      go_simp
      all_goals rfl
    simp only [Act.put, List.setIfInBounds_toArray, List.set_cons_zero, List.set_cons_succ]
    refine wpAnyH_take (i := 17) (oi := { dst := some 10, op := Op.assign (Operand.tmp 70), type := 34, pos := "law.go:175", after := #[{ on := 12, ground := Ground.data }, { on := 10, ground := Ground.chain }, { on := 0, ground := Ground.phase }, { on := 1, ground := Ground.phase }, { on := 2, ground := Ground.phase }, { on := 3, ground := Ground.phase }, { on := 4, ground := Ground.phase }, { on := 5, ground := Ground.phase }, { on := 6, ground := Ground.phase }, { on := 7, ground := Ground.phase }, { on := 8, ground := Ground.phase }, { on := 9, ground := Ground.phase }, { on := 10, ground := Ground.phase }, { on := 11, ground := Ground.phase }, { on := 12, ground := Ground.phase }, { on := 13, ground := Ground.textOnly Departure.lateStores }, { on := 14, ground := Ground.textOnly Departure.lateStores }, { on := 15, ground := Ground.textOnly Departure.lateStores }, { on := 16, ground := Ground.phase }], guard := none }) (v := ?vv31) rfl (by kernel_rfl) (by kernel_rfl) (by kernel_rfl) (fun _ _ _ h => h) (Or.inl ⟨by rfl, ?hy31⟩) (HS.out _ L9) ?rest31
    case hy31 =>
      intro V hV
      obtain ⟨y0, y1, y2, y3, y4, y5, y6, y7, y8, y9, y10, y11, y12, y13, y14, y15, y16, y17, y18, y19⟩ := hV
      go_simp
      all_goals rfl
    simp only [Act.put, List.setIfInBounds_toArray, List.set_cons_zero, List.set_cons_succ]
    refine wpAnyH_ready (rs := [18]) (by kernel_rfl) (by simp) (AllReadyH.cons (o := { dst := none, op := Op.store 33 (Operand.tmp 11) (Operand.tmp 71), type := 0, pos := "law.go:175", after := #[{ on := 16, ground := Ground.data }, { on := 13, ground := Ground.data }, { on := 17, ground := Ground.chain }, { on := 0, ground := Ground.phase }, { on := 1, ground := Ground.phase }, { on := 2, ground := Ground.phase }, { on := 3, ground := Ground.phase }, { on := 4, ground := Ground.phase }, { on := 5, ground := Ground.phase }, { on := 6, ground := Ground.phase }, { on := 7, ground := Ground.phase }, { on := 8, ground := Ground.phase }, { on := 9, ground := Ground.phase }, { on := 10, ground := Ground.phase }, { on := 11, ground := Ground.phase }, { on := 12, ground := Ground.phase }, { on := 13, ground := Ground.phase }, { on := 14, ground := Ground.textOnly Departure.lateStores }, { on := 15, ground := Ground.textOnly Departure.lateStores }, { on := 16, ground := Ground.phase }, { on := 17, ground := Ground.phase }], guard := none }) rfl (fun K' hK => ?_) AllReadyH.nil)
    obtain ⟨⟨z0, z1, z2, z3, z4, z5, z6, z7, z8⟩, f0, f1, f2, f3, f4, f5, f6, f7, f8⟩ := nine hmb
    have KS := kept9 (S := fun j => j = mb) w9 rfl (.string ⟨#[]⟩) (.string ⟨#[]⟩) (.string ⟨#[]⟩) (.string ⟨#[]⟩) (.int .i64 0) (.string ⟨#[]⟩) (.slice a6 0 c6) (.slice a7 0 c7) (.int .i64 0)
    have KF := (L9).trans KS (fun j h => .inr (by subst h; exact hz))
    go_simp
    refine hK.out _ _ (HS.out _ KF) (fun _ => ?_)
    have HKF := hid (HKD.out.and KF)
    clear z0 z1 z2 z3 z4 z5 z6 z7 z8 f0 f1 f2 f3 f4 f5 f6 f7 f8 KS
    clear hK K'
    try (simp only [Act.put, List.setIfInBounds_toArray, List.set_cons_zero, List.set_cons_succ])
    refine wpAnyH_take (i := 19) (oi := { dst := some 12, op := Op.assign (Operand.tmp 72), type := 56, pos := "law.go:175", after := #[{ on := 14, ground := Ground.data }, { on := 18, ground := Ground.chain }, { on := 0, ground := Ground.phase }, { on := 1, ground := Ground.phase }, { on := 2, ground := Ground.phase }, { on := 3, ground := Ground.phase }, { on := 4, ground := Ground.phase }, { on := 5, ground := Ground.phase }, { on := 6, ground := Ground.phase }, { on := 7, ground := Ground.phase }, { on := 8, ground := Ground.phase }, { on := 9, ground := Ground.phase }, { on := 10, ground := Ground.phase }, { on := 11, ground := Ground.phase }, { on := 12, ground := Ground.phase }, { on := 13, ground := Ground.phase }, { on := 14, ground := Ground.phase }, { on := 15, ground := Ground.textOnly Departure.lateStores }, { on := 16, ground := Ground.phase }, { on := 17, ground := Ground.phase }, { on := 18, ground := Ground.phase }], guard := none }) (v := ?vv32) rfl (by kernel_rfl) (by kernel_rfl) (by kernel_rfl) (fun _ _ _ h => h) (Or.inl ⟨by rfl, ?hy32⟩) (HS.out _ KF) ?rest32
    case hy32 =>
      intro V hV
      obtain ⟨y0, y1, y2, y3, y4, y5, y6, y7, y8, y9, y10, y11, y12, y13, y14, y15, y16, y17, y18, y19⟩ := hV
      go_simp
      all_goals rfl
    simp only [Act.put, List.setIfInBounds_toArray, List.set_cons_zero, List.set_cons_succ]
    refine wpAnyH_take (i := 20) (oi := { dst := some 13, op := Op.assign (Operand.tmp 73), type := 42, pos := "law.go:175", after := #[{ on := 15, ground := Ground.data }, { on := 19, ground := Ground.chain }, { on := 0, ground := Ground.phase }, { on := 1, ground := Ground.phase }, { on := 2, ground := Ground.phase }, { on := 3, ground := Ground.phase }, { on := 4, ground := Ground.phase }, { on := 5, ground := Ground.phase }, { on := 6, ground := Ground.phase }, { on := 7, ground := Ground.phase }, { on := 8, ground := Ground.phase }, { on := 9, ground := Ground.phase }, { on := 10, ground := Ground.phase }, { on := 11, ground := Ground.phase }, { on := 12, ground := Ground.phase }, { on := 13, ground := Ground.phase }, { on := 14, ground := Ground.phase }, { on := 15, ground := Ground.phase }, { on := 16, ground := Ground.phase }, { on := 17, ground := Ground.phase }, { on := 18, ground := Ground.phase }, { on := 19, ground := Ground.phase }], guard := none }) (v := ?vv33) rfl (by kernel_rfl) (by kernel_rfl) (by kernel_rfl) (fun _ _ _ h => h) (Or.inl ⟨by rfl, ?hy33⟩) (HS.out _ KF) ?rest33
    case hy33 =>
      intro V hV
      obtain ⟨y0, y1, y2, y3, y4, y5, y6, y7, y8, y9, y10, y11, y12, y13, y14, y15, y16, y17, y18, y19⟩ := hV
      go_simp
      all_goals rfl
    simp only [Act.put, List.setIfInBounds_toArray, List.set_cons_zero, List.set_cons_succ]
    refine wpAnyH_done (by kernel_rfl) ?_ _
    exact HH.out _ _ _ _ _ _ _ _ _ _ _ _ _ _ _ _ mb ae ce at_ ct _ HKF.out

end Go.Proofs.YtfjekjbkifmpfaaDoor.Rf

/-
  HistoryEnds holds for every definition and inputs: the law's call returns true and leaves its arguments as they were. No condition; the listed variable is tied to the program's text.
-/
namespace Go.Proofs.YtfjekjbkifmpfaaDoor.Rf
open Go.ChangeShapes Go.WideShapes Go.ChangeAt Go.RowKit Go.Deep

theorem ends_range {nm : ByteArray} {ns : List Nd} (S : Sound ns) {s : St} (M : Met ns s) (h : 1 ≤ s.status ∧ s.status ≤ 4) (q : Inp) : 1 ≤ (playS nm ns s q).status ∧ (playS nm ns s q).status ≤ 4 := by
  unfold playS
  split
  · exact step_range S M h q
  · exact h

theorem ends_start {nm : ByteArray} {ns : List Nd} (q : Inp) (hq : q.kind = 1) : 1 ≤ (playS nm ns zeroSt q).status ∧ (playS nm ns zeroSt q).status ≤ 4 := by
  have h : stepP nm ns zeroSt q = (goOnP nm ns (startR nm ns q), 0) := start_is q hq
  unfold playS
  rw [h, if_pos rfl]
  exact start_range q

theorem ends_cancel {nm : ByteArray} {ns : List Nd} {s : St} (h : 1 ≤ s.status ∧ s.status ≤ 4) (q : Inp) (hk : q.kind = 8) (ht : q.text.size ≤ 256) : 2 ≤ (playS nm ns s q).status ∧ (playS nm ns s q).status ≤ 4 := by
  unfold playS
  by_cases hs : s.status = 1
  · obtain ⟨h1, h2⟩ := step_cancel (nm := nm) (ns := ns) hs q hk ht
    rw [if_pos h1, h2]
    exact ⟨by decide, by decide⟩
  · obtain ⟨e, he, hne⟩ := step_closed (nm := nm) (ns := ns) (s := s) (by omega) hs q
    rw [he, if_neg hne]
    omega

theorem PlSt.opened {w2 wr : World} {pb : Nat} {nm : ByteArray} {a : Option Addr} {c : Nat} {ns : List Nd} {k : Nat} {s : St} {l : List Ev} (X : PlSt w2 wr pb nm a c ns k s l) (hk : k ≤ 200) : ∃ (a6 : Option Addr) (c6 : Nat) (a7 : Option Addr) (c7 : Nat) (v11 : Value), wr.heap[pb]? = some (.cells #[.string nm, .slice a ns.length c, .string s.dfn, .string s.id, .string s.par, .string s.pnode, .int .i64 s.status, .string s.text, .slice a6 s.nodes.length c6, .slice a7 s.sigs.length c7, .int .i64 s.events, v11] 36 (0, 0)) ∧ StRd wr s (.slice a6 s.nodes.length c6) (.slice a7 s.sigs.length c7) := by
  obtain ⟨⟨H, v6, v7, v11, E, P⟩, M, hl⟩ := X
  obtain ⟨a6, c6, rfl⟩ := ownsRow_shape P.nodes
  obtain ⟨a7, c7, rfl⟩ := ownsRow_shape P.sigs
  have Z := M.small hk
  exact ⟨a6, c6, a7, c7, v11, P.blk, flat_of_owns P.nodes, flat_of_owns P.sigs, by have := Z.nodes; omega, by have := Z.sigs; omega⟩

set_option maxRecDepth 100000 in
set_option maxHeartbeats 8000000 in
theorem historyEnds_walk (name : ByteArray) (a : Option Addr) (c : Nat) (ns0 : List Nd) (ai : Option Addr) (ci : Nat) (ins : List Inp) (am : Option Addr) (cm : Nat) (more : List Inp) (w : World) (R0 : RawAt w a ns0) (hnm : name.size ≤ maxLen) (hc : ns0.length ≤ c) (I0 : InsAt w ai ins) (hi0 : ins.length ≤ ci ∧ ci ≤ maxLen) (I1 : InsAt w am more) (hm0 : more.length ≤ cm ∧ cm ≤ maxLen) (M : MovesAt w) :
    Calls Tryd.prog 6 #[.agg #[.string name, .slice a ns0.length c], .slice ai ins.length ci, .slice am more.length cm] w fun e w' => e = .returned (.bool true) ∧ Below w.heap.size w w' := by
  have hCut := hcut_any (w.alloc (.cells #[.string name, .slice a ns0.length c] 24)) name a ns0.length c ns0 rfl hc
  obtain ⟨ns, hns⟩ : ∃ ns, ns = ns0.take 32 := ⟨_, rfl⟩
  rw [← hns] at hCut
  have R : RawAt w a ns := by rw [hns]; exact R0.take 32
  have h32 : ns.length ≤ 32 := by rw [hns, List.length_take]; omega
  have HTk : Hid (∀ b, decide ((checkP name ns).2 = 0) = b → ∀ V, RawAt V a ns → Calls Tryd.prog 10 #[.agg #[.string name, .slice a ns.length c]] V fun e w' => e = .returned (.bool b) ∧ Kept (fun _ => False) V w') := fun b hb V RV => taken_any V name a _ c _ RV rfl h32 hnm b hb
  have HR := hid R
  have HM := hid M
  have HI := hid I0
  have HJ := hid I1
  have hml : more.length ≤ cm := hm0.1
  have hmm : more.length ≤ 9223372036854775807 := by have : maxLen = 9223372036854775807 := rfl; omega
  have hil : ins.length ≤ ci := hi0.1
  have him : ins.length ≤ 9223372036854775807 := by have : maxLen = 9223372036854775807 := rfl; omega
  clear R R0 M hns hc I0 hi0 I1 hm0
  by_cases hT : (checkP name ns).2 = 0
  · have T := taken_of hT
    have HT := hid T
    have HTk2 := hid (HTk.out true (by simp [hT]))
    clear HTk hT T
    go_enter Tryd.func6, Tryd.ntmps6
    go_upto_region 4 with (first
      | (go_at_call 9; refine hCut.mono ?_; rintro e w1 ⟨rfl, K1⟩; clear hCut; obtain ⟨_, f0, f1⟩ := pairF ((K1.block w.heap.size (by simp) (fun h => h)).trans (heap_alloc_new _ _)); have hb := cut_box (n' := ns.length) K1 HR.out; obtain ⟨⟨x0, x1⟩, _, _⟩ := pairF hb.1; have hTk := HTk2.out _ hb.2.2; have HB := hid hb; clear hb)
      | (go_at_call 10; refine hTk.mono ?_; rintro e w2 ⟨rfl, K2⟩; clear hTk)
      | fail)
    have hb2 := (K2.block _ (Array.getElem?_eq_some_iff.1 HB.out.1).1 (fun h => h)).trans HB.out.1
    have HK2 := hid (HB.out.2.1.and K2)
    have HD2 := hid (HT.out.at (keptRaw K2 HB.out.2.2) (HM.out.kept HK2.out (fun h => h)))
    obtain ⟨⟨d0, d1⟩, _, _⟩ := pairF hb2
    have HX0 := hid (PlSt.start (nm := name) (c := c) HD2.out)
    have HBX := hid hb2
    clear HTk2 K2 HB f0 f1 x0 x1 K1 hb2
    have hIn0 := fun V (KV : Kept (fun _ => False) (w2.alloc (.cells #[.string name, .slice a ns.length c, .string ⟨#[]⟩, .string ⟨#[]⟩, .string ⟨#[]⟩, .string ⟨#[]⟩, .int .i64 0, .string ⟨#[]⟩, .slice none 0 0, .slice none 0 0, .int .i64 0, .slice none 0 0] 36)) V) => play_input (HX0.out.new KV) HT.out (by omega) ⟨1, ⟨#[]⟩, ⟨#[102]⟩, ⟨#[]⟩, 0, 0, 0, ⟨#[]⟩, ⟨#[]⟩⟩ (by decide) (by decide)
    unfold inpV at hIn0
    simp only [] at hIn0
    have HR1 := hid (ends_start (nm := name) (ns := ns) ⟨1, ⟨#[]⟩, ⟨#[102]⟩, ⟨#[]⟩, 0, 0, 0, ⟨#[]⟩, ⟨#[]⟩⟩ rfl)
    clear HX0
    go_upto_region 6 with (first
      | (go_at_call 12; refine (hIn0 _ (Kept.refl _ _)).mono ?_; rintro e w7 ⟨rfl, X1, K1'⟩; clear hIn0)
      | fail)
    have HX1 := hid X1
    clear X1 K1' d0 d1
    go_wp2_with fail
    go_loopw [8] (fun q wr => ∃ (i : Nat) (s : St) (l : List Ev), i ≤ ins.length ∧ i ≤ 60 ∧ q = .int .i64 i ∧ PlSt w2 wr w2.heap.size name a c ns (i + 1) s l ∧ 1 ≤ s.status ∧ s.status ≤ 4) (fun q _ => ins.length - (intOf q).toNat)
    case atStart => exact ⟨0, _, _, Nat.zero_le _, Nat.zero_le _, rfl, HX1.out, HR1.out.1, HR1.out.2⟩
    case round =>
      clear HX1 HR1
      obtain ⟨i, s, l, hi, hi60, rfl, X, hs1, hs4⟩ := hrel
      by_cases hgo : i < ins.length ∧ i < 60
      · obtain ⟨hlt, h60⟩ := hgo
        have e0 : (i : Int) < (ins.length : Int) := by omega
        have e1 : (i : Int) < 60 := by omega
        obtain ⟨bi, oi, rfl, hI⟩ := HI.out.at hlt
        obtain ⟨i0, i1, i2, i3, i4, i5, i6, i7, i8⟩ := hI wr (HK2.out.and X.keep)
        obtain ⟨p, hp⟩ : ∃ p, p = clipQ ins[i] := ⟨_, rfl⟩
        have hpt : p.text.size ≤ 300 := by rw [hp]; exact clipQ_text _
        have hpn : p.name.size ≤ 300 := by rw [hp]; exact clipQ_name _
        have hClip : Calls Tryd.prog 13 #[.agg #[.int .i64 (ins[i]).kind, .string (ins[i]).node, .string (ins[i]).name, .string (ins[i]).text, .int .i64 (ins[i]).tr, .int .i64 (ins[i]).status, .int .i64 (ins[i]).now, .string (ins[i]).par, .string (ins[i]).pnode]] wr fun e w' => e = .returned (.agg #[.int .i64 p.kind, .string p.node, .string p.name, .string p.text, .int .i64 p.tr, .int .i64 p.status, .int .i64 p.now, .string p.par, .string p.pnode]) ∧ Kept (fun _ => False) wr w' := by
          rw [hp]
          exact clip_any wr ins[i] (fun V => within_wide V _ _ (by decide) (by decide))
        have hIn := fun V (KV : Kept (fun _ => False) wr V) => play_input (X.new KV) HT.out (by omega) p hpn (Nat.le_trans hpt (by decide))
        unfold inpV at hIn
        have hR := ends_range (nm := name) HT.out.sound X.2.1.met ⟨hs1, hs4⟩ p
        have HR := hid hR
        clear X hI hp hR hs1 hs4
        go_wp2_with (first
          | (go_at_call 13; refine hClip.mono ?_; rintro e w6 ⟨rfl, K6⟩; clear hClip)
          | (go_at_call 12; refine (hIn _ K6).mono ?_; rintro e w7 ⟨rfl, X7, K7⟩; clear hIn)
          | fail)
        go_roundw
        case rel => exact ⟨i + 1, _, _, by omega, by omega, by go_num, X7, HR.out.1, HR.out.2⟩
        case measure => simp [intOf]; omega
      · have hcs : (¬ ((i : Int) < (ins.length : Int))) ∨ (((i : Int) < (ins.length : Int)) ∧ ¬ ((i : Int) < 60)) := by omega
        have hIn8 := fun V (KV : Kept (fun _ => False) wr V) => play_input (X.new KV) HT.out (by omega) ⟨8, ⟨#[]⟩, ⟨#[]⟩, ⟨#[101, 110, 100]⟩, 0, 0, 0, ⟨#[]⟩, ⟨#[]⟩⟩ (by decide) (by decide)
        unfold inpV at hIn8
        simp only [] at hIn8
        have HR8 := hid (ends_cancel (nm := name) (ns := ns) ⟨hs1, hs4⟩ ⟨8, ⟨#[]⟩, ⟨#[]⟩, ⟨#[101, 110, 100]⟩, 0, 0, 0, ⟨#[]⟩, ⟨#[]⟩⟩ rfl (by decide))
        obtain ⟨s2, hs2e⟩ : ∃ x, x = playS name ns s ⟨8, ⟨#[]⟩, ⟨#[]⟩, ⟨#[101, 110, 100]⟩, 0, 0, 0, ⟨#[]⟩, ⟨#[]⟩⟩ := ⟨_, rfl⟩
        obtain ⟨l2, hl2e⟩ : ∃ x, x = playL name ns s l ⟨8, ⟨#[]⟩, ⟨#[]⟩, ⟨#[101, 110, 100]⟩, 0, 0, 0, ⟨#[]⟩, ⟨#[]⟩⟩ := ⟨_, rfl⟩
        rw [← hs2e] at HR8
        rw [← hs2e, ← hl2e] at hIn8
        clear X hgo hs1 hs4 hs2e hl2e
        rcases hcs with e0 | ⟨e0, e1⟩
        all_goals
          go_upto_region 13 with (first
            | (go_at_call 12; refine (hIn8 _ (Kept.refl _ _)).mono ?_; rintro e w7 ⟨rfl, X2, K2'⟩; clear hIn8)
            | fail)
          have HX2 := hid X2
          clear X2 K2'
          go_wp2_with fail
          go_loopw [9] (fun q w9 => ∃ (j : Nat), j ≤ more.length ∧ j ≤ 20 ∧ q = .int .i64 j ∧ PlSt w2 w9 w2.heap.size name a c ns (i + 1 + 1) s2 l2) (fun q _ => more.length - (intOf q).toNat)
          case atStart => exact ⟨0, Nat.zero_le _, Nat.zero_le _, rfl, HX2.out⟩
          case round =>
            clear HX2 e0
            obtain ⟨j, hj, hj20, rfl, X⟩ := hrel
            have HK := hid (HK2.out.and X.keep)
            have hdb := (X.keep.block _ (Array.getElem?_eq_some_iff.1 HBX.out).1 (fun h => h)).trans HBX.out
            obtain ⟨⟨d0, d1⟩, _, _⟩ := pairF hdb
            obtain ⟨a6, c6, a7, c7, v11, hblk, hrd⟩ := X.opened (by omega)
            obtain ⟨⟨_, _, x2, x3, x4, x5, x6, x7, x8, x9, x10, x11⟩, _⟩ := twelve hblk
            by_cases hgo : j < more.length ∧ j < 20
            · obtain ⟨hlt, h20⟩ := hgo
              have e0 : (j : Int) < (more.length : Int) := by omega
              have e1' : (j : Int) < 20 := by omega
              obtain ⟨bj, oj, rfl, hI⟩ := HJ.out.at hlt
              obtain ⟨i0, i1, i2, i3, i4, i5, i6, i7, i8⟩ := hI wr HK.out
              obtain ⟨p, hp⟩ : ∃ p, p = clipQ more[j] := ⟨_, rfl⟩
              have hpt : p.text.size ≤ 300 := by rw [hp]; exact clipQ_text _
              have hpn : p.name.size ≤ 300 := by rw [hp]; exact clipQ_name _
              have hClip := fun V (KV : Kept (fun _ => False) wr.drew V) => (by rw [hp]; exact clip_any V more[j] (fun V => within_wide V _ _ (by decide) (by decide)) : Calls Tryd.prog 13 #[.agg #[.int .i64 (more[j]).kind, .string (more[j]).node, .string (more[j]).name, .string (more[j]).text, .int .i64 (more[j]).tr, .int .i64 (more[j]).status, .int .i64 (more[j]).now, .string (more[j]).par, .string (more[j]).pnode]] V fun e w' => e = .returned (.agg #[.int .i64 p.kind, .string p.node, .string p.name, .string p.text, .int .i64 p.tr, .int .i64 p.status, .int .i64 p.now, .string p.par, .string p.pnode]) ∧ Kept (fun _ => False) V w')
              obtain ⟨ee, hst, hee⟩ := step_closed (nm := name) (ns := ns) (s := s2) (by have := HR8.out.1; omega) (by have := HR8.out.1; omega) p
              have hStep := fun V (KV : Kept (fun _ => False) wr.drew V) => Calls.mono (step_no (c := c) (n := ns.length) (HD2.out.new ((X.keep.and (Kept.drew _ _)).and KV)) rfl (hrd.new ((Kept.drew _ _).and KV)) (X.2.1.small (by omega)) (q := p) (by omega) (Nat.le_trans hpt (by decide)) hst hee) (fun e w' h => h)
              unfold NoPost at hStep
              have e3 : (ee == 0) = false := by rw [beq_eq_false_iff_ne]; exact hee
              have HX := hid X
              clear X hI hp hst hee hdb hblk hrd x11
              go_upto_region 16 with fail
              refine wp_onlyN (en16 (n := more.length) (i := j) _ d0 d1 x2 x3 x4 x5 x6 x7 x8 x9 x10 i0 i1 i2 i3 i4 i5 i6 i7 i8 hlt hClip hStep ?_)
              intro _ _ _ _ _ _ _ _ _ _ _ _ _ _ _ _ mb ae ce at_ ct w5 K5
              have HX5 := hid (HX.out.new K5)
              clear d0 d1 x2 x3 x4 x5 x6 x7 x8 x9 x10 i0 i1 i2 i3 i4 i5 i6 i7 i8 hClip hStep K5 HX
              go_wp2_with fail
              go_roundw
              case rel => exact ⟨j + 1, by omega, by omega, by go_num, HX5.out⟩
              case measure => simp [intOf]; omega
            · have hW := wakes_any wr (HM.out.kept HK.out (fun h => h))
              have hcs : (¬ ((j : Int) < (more.length : Int))) ∨ (((j : Int) < (more.length : Int)) ∧ ¬ ((j : Int) < 20)) := by omega
              have e4 : (2 : Int) ≤ s2.status := HR8.out.1
              clear X hgo hdb hblk hrd d0 d1
              rcases hcs with f0 | ⟨f0, f1⟩
              all_goals
                go_wp2_with (first
                  | (go_at_call 11; refine hW.mono ?_; rintro e w8 ⟨rfl, K8⟩; clear hW)
                  | fail)
                go_ret
                exact ⟨rfl, (HK.out.and K8).none⟩
  · have HTk2 := hid (HTk.out false (by simp [hT]))
    have hW := fun V (K : Kept (fun _ => False) w V) => wakes_any V (HM.out.kept K (fun h => h))
    have HW := hid hW
    clear HTk hT hW
    go_enter Tryd.func6, Tryd.ntmps6
    go_wp2_with (first
      | (go_at_call 9; refine hCut.mono ?_; rintro e w1 ⟨rfl, K1⟩; clear hCut; obtain ⟨_, f0, f1⟩ := pairF ((K1.block w.heap.size (by simp) (fun h => h)).trans (heap_alloc_new _ _)); have hb := cut_box (n' := ns.length) K1 HR.out; obtain ⟨⟨x0, x1⟩, _, _⟩ := pairF hb.1; have hTk := HTk2.out _ hb.2.2; have HB := hid hb; clear hb)
      | (go_at_call 10; refine hTk.mono ?_; rintro e w2 ⟨rfl, K2⟩; clear hTk; have hW := HW.out w2 (HB.out.2.1.and K2))
      | (go_at_call 11; refine hW.mono ?_; rintro e w8 ⟨rfl, K8⟩; clear hW)
      | fail)
    go_ret
    exact ⟨rfl, ((HB.out.2.1.and K2).and K8).none⟩

end Go.Proofs.YtfjekjbkifmpfaaDoor.Rf
namespace Go.Proofs.YtfjekjbkifmpfaaDoor
open Go.ChangeShapes Go.WideShapes Go.ChangeAt Go.RowKit Go.Deep

set_option maxRecDepth 100000 in
theorem historyEnds_lifted (os : Os) (started : os.Started) (H : Type) (enc : TypeId × Value → H) :
    ReturnsInHanded {} Tryd.checked os 6 .any (fun w args => (Rows.historyEndsSpec.pre enc Tryd.prog Tryd.f6 [] false w args ∧ laidMetH Tryd.prog laidL w) ∧ sizedMet enc Tryd.prog Tryd.f6 (OpenSpec.ofChange Rows.historyEndsSpec) false w args)
      (Rows.historyEndsSpec.post enc Tryd.prog Tryd.f6 false true false false) := by
  refine returnsInHanded_of_change_and (C := Tryd.checked) (X := fun w _ => laidMetH Tryd.prog laidL w) (fun _ _ _ hh h => h.of_heap hh) Tryd.own started (by kernel_rfl) Tryd.func6
    (ChangeSpec.witness_shaped (enc := enc) (C := Tryd.checked) (os := os) (X := fun w _ => laidMetH Tryd.prog laidL w) false (World.doorLaid Tryd.prog 28 os) #[.agg #[.string ⟨#[]⟩, .slice none 0 0], .slice none 0 0, .slice none 0 0] 8 rfl (World.shaped_of_RefB (by kernel_rfl) (by kernel_rfl)) (by kernel_rfl) (by kernel_rfl) (by kernel_rfl) (door_met os _)) ?_
  intro W base args ds gs before hval0 hW _ _ hL _
  have hval : ∀ (j : Nat) t v, Tryd.f6.params[j]? = some t → args[j]? = some v → Value.okWide Tryd.prog W .any base t v := hval0
  have hW' := hW
  obtain ⟨p, q, hA0, hV, rfl, _, _⟩ := hW
  have hA : DataW.TrodAll enc Tryd.prog W 0 (fun _ => true) true Tryd.f6.params.toList args.toList ds p := hA0
  rw [Tryd.params6] at hA hval
  obtain ⟨v0, vs0, d0, ds0, p0, q0, hargs, rfl, rfl, h0, r0⟩ := trodAll_cons hA
  obtain ⟨v1, vs1, d1, ds1, p1, q1, rfl, rfl, rfl, h1, r1⟩ := trodAll_cons r0
  obtain ⟨v2, vs2, d2, ds2, p2, q2, rfl, rfl, rfl, h2, r2⟩ := trodAll_cons r1
  obtain ⟨rfl, rfl, rfl⟩ := trodAll_nil r2
  obtain rfl : args = #[v0, v1, v2] := by cases args; simp_all
  obtain ⟨rfl, rfl⟩ := trodVars_none hV
  have k0 := h0
  have k1 := h1
  have k2 := h2
  have lt0 : ∀ x ∈ p0, x.block < W.heap.size := by obtain ⟨m, hm⟩ := k0; exact DataW.trod_lt m _ _ _ hm
  have lt1 : ∀ x ∈ p1, x.block < W.heap.size := by obtain ⟨m, hm⟩ := k1; exact DataW.trod_lt m _ _ _ hm
  have lt2 : ∀ x ∈ p2, x.block < W.heap.size := by obtain ⟨m, hm⟩ := k2; exact DataW.trod_lt m _ _ _ hm
  obtain ⟨nm0, a0, c0, ns0, rfl, z0, y0, x0, w0⟩ := dv_open (hval 0 24 v0 rfl rfl) h0
  obtain ⟨a1', len1', cap1', rfl⟩ := okWide_slice Tryd.underlying25 (hval 1 25 v1 rfl rfl)
  obtain ⟨a1, cap1, l1, e1, y1, x1, w1⟩ : ∃ a c l, Value.slice a1' len1' cap1' = .slice a l.length c ∧ l.length ≤ c ∧ c ≤ maxLen ∧ InsAt W a l := by
    obtain ⟨fuel, hf⟩ := h1
    exact ins_open hf
  simp only [Value.slice.injEq] at e1
  obtain ⟨rfl, rfl, rfl⟩ := e1
  obtain ⟨a2', len2', cap2', rfl⟩ := okWide_slice Tryd.underlying25 (hval 2 25 v2 rfl rfl)
  obtain ⟨a2, cap2, l2, e2, y2, x2, w2⟩ : ∃ a c l, Value.slice a2' len2' cap2' = .slice a l.length c ∧ l.length ≤ c ∧ c ≤ maxLen ∧ InsAt W a l := by
    obtain ⟨fuel, hf⟩ := h2
    exact ins_open hf
  simp only [Value.slice.injEq] at e2
  obtain ⟨rfl, rfl, rfl⟩ := e2
  clear hA0 hval0
  refine (Rf.historyEnds_walk _ _ _ _ _ _ _ _ _ _ W w0 z0 y0 w1 ⟨y1, x1⟩ w2 ⟨y2, x2⟩ (moves_laid hL)).mono fun e W' ⟨he, bel⟩ => ?_
  subst he
  exact ⟨_, rfl, _, _, _, [], _, [], hW', trodAll_mk1 (shut_bool Tryd.underlying4 _), (trodAll_cons_mk (Below.trod Tryd.laidOut (by kernel_rfl) (of_decide_eq_true (by kernel_rfl)) k0 bel lt0) (trodAll_cons_mk (Below.trod Tryd.laidOut (by kernel_rfl) (of_decide_eq_true (by kernel_rfl)) k1 bel lt1) (trodAll_cons_mk (Below.trod Tryd.laidOut (by kernel_rfl) (of_decide_eq_true (by kernel_rfl)) k2 bel lt2) trodAll_mk0))), rfl, bel.frame _, fun h => by cases h⟩

theorem historyEnds_row : Rows.HistoryEndsSaid :=
  OpenClaim.holds_of_wide 6 Tryd.f6 rfl rfl rfl rfl rfl rfl rfl ⟨rfl, rfl, rfl, rfl, rfl⟩ rfl rfl rfl rfl rfl (by kernel_rfl) Tryd.func6 (by kernel_rfl)
    (of_decide_eq_true (by kernel_rfl)) (by unfold Func.isWrapper; first | (rw [if_pos (by decide +kernel)]; kernel_rfl) | (rw [if_neg (by decide +kernel)]; exact ⟨rfl, rfl⟩))
    (fun os started H enc _ => historyEnds_lifted os started H enc)

theorem historyEnds_holds : Rows.HistoryEndsCardSaid :=
  Claim7.holds_tied_plain_at .later [] [.data] true Rows.historyEndsCard.stood.harness false
    historyEnds_row (fun _ h => by cases h) (by kernel_rfl) (fun _ h => by cases h) historyEnds_row_tie rfl ⟨rfl, rfl⟩ (by kernel_rfl) rfl
    (fun f fn hf hfn => by
      obtain rfl : f = 6 := Option.some.inj ((show Tryd.prog.funcNamed "tiller/tillerlaw09.HistoryEnds" = some 6 by kernel_rfl).symm.trans hf) |>.symm
      obtain rfl : fn = Tryd.f6 := (Option.some.inj (Tryd.func6.symm.trans hfn)).symm
      exact ⟨by kernel_rfl, fun j t ht => by
        rw [Tryd.params6] at ht
        have hm : t ∈ [24, 25] := by simpa using Array.mem_of_getElem? ht
        have hall : ([24, 25].all fun u => !Tryd.prog.wantsStandIn u) = true := by kernel_rfl
        exact (show Tryd.prog.wantsStandIn t = false by simpa using List.all_eq_true.1 hall t hm)⟩)
    (by kernel_rfl)

end Go.Proofs.YtfjekjbkifmpfaaDoor
