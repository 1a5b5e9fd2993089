/-
  The rows of an order; definitions that are taken; one node more; rings: in which round a node is told when all that may be are told at once. Nothing here speaks of a program.
-/
import Derived.Test.YtoonnbagppliaaaDoorDDepth
import Derived.Test.YtoonnbagppliaaaDoorDCheck
namespace Go.Proofs.YtoonnbagppliaaaDoor
open Go.RowKit

/-- Each of T was told at its turn. -/
def Ordd (ns : List Nd) (T : List Nat) : Prop := ∀ k (h : k < T.length), mayB ns (T.take k) (T[k]'h) = true

theorem Ordd.nil (ns : List Nd) : Ordd ns [] := fun k h => by simp at h

theorem Ordd.snoc {ns : List Nd} {T : List Nat} (O : Ordd ns T) {i : Nat} (h : mayB ns T i = true) : Ordd ns (T ++ [i]) := by
  intro k hk
  by_cases e : k < T.length
  · rw [List.getElem_append_left e, List.take_append_of_le_length (by omega)]
    exact O k e
  · have e2 : k = T.length := by simp at hk; omega
    subst e2
    simp only [List.getElem_append_right (Nat.le_refl _), Nat.sub_self, List.getElem_cons_zero, List.take_left]
    exact h

theorem ordK_ordd {ns : List Nd} : ∀ (k : Nat) (T : List Nat), Ordd ns T → Ordd ns (ordK ns k T)
  | 0, T, h => h
  | k + 1, T, h => by
    unfold ordK
    cases hn : nextP ns T with
    | none => exact h
    | some j => exact ordK_ordd k (T ++ [j]) (h.snoc (nextP_is hn).1)

theorem ordP_ordd (ns : List Nd) : Ordd ns (ordP ns) := ordK_ordd _ _ (Ordd.nil ns)

theorem mayB_out {ns : List Nd} {T : List Nat} {i : Nat} (h : mayB ns T i = true) : i ∉ T ∧ ∀ n, ns[i]? = some n → ∀ s ∈ n.after, ∃ j, aheadP ns n s = some j ∧ j ∈ T := by
  have hl := mayB_lt h
  unfold mayB at h
  rw [List.getElem?_eq_getElem hl] at h
  simp only [Bool.and_eq_true, Bool.not_eq_true', decide_eq_true_eq] at h
  refine ⟨by simpa using h.1, fun n hn s hs => ?_⟩
  rw [List.getElem?_eq_getElem hl] at hn
  obtain rfl := Option.some.inj hn
  have h2 := h.2
  unfold need at h2
  rw [List.countP_eq_zero] at h2
  have h3 := h2 s hs
  cases ha : aheadP ns ns[i] s with
  | none => rw [ha] at h3; simp at h3
  | some j => rw [ha] at h3; exact ⟨j, rfl, by simpa using h3⟩

theorem mayB_of {ns : List Nd} {T : List Nat} {i : Nat} (hi : i ∉ T) {n : Nd} (hn : ns[i]? = some n) (h : ∀ s ∈ n.after, ∃ j, aheadP ns n s = some j ∧ j ∈ T) : mayB ns T i = true := by
  unfold mayB
  rw [hn]
  simp only [Bool.and_eq_true, Bool.not_eq_true', decide_eq_true_eq]
  refine ⟨by simpa using hi, ?_⟩
  unfold need
  rw [List.countP_eq_zero]
  intro s hs
  obtain ⟨j, hj, hT⟩ := h s hs
  rw [hj]
  simpa using hT

theorem Ordd.nodup {ns : List Nd} {T : List Nat} (O : Ordd ns T) : T.Nodup := by
  rw [List.nodup_iff_pairwise_ne, List.pairwise_iff_getElem]
  intro i j hi hj hij e
  have := (mayB_out (O j hj)).1
  rw [← e] at this
  exact this (List.mem_take_iff_getElem.2 ⟨i, by omega, rfl⟩)

theorem aheadP_fj {ns : List Nd} {n : Nd} {s : ByteArray} {j : Nat} (h : aheadP ns n s = some j) : fj ns s = j := by
  unfold aheadP at h
  split at h
  · cases h
  · unfold fj; rw [h]; rfl

/-- The rows of the first nodes of an order. -/
structure LevOk (ns : List Nd) (T : List Nat) (R : Nat → Nat) (L : Nat) : Prop where
  none : ∀ x, x ∉ T → R x = 0
  pos : ∀ x, x ∈ T → 1 ≤ R x
  aft : ∀ x, x ∈ T → ∀ n, ns[x]? = some n → ∀ s ∈ n.after, ∃ j, aheadP ns n s = some j ∧ j ∈ T ∧ R j < R x
  top : ∀ x, x ∈ T → R x = 1 ∨ ∃ n, ns[x]? = some n ∧ ∃ s ∈ n.after, ∃ j, aheadP ns n s = some j ∧ R j + 1 = R x
  le : ∀ x, R x ≤ L
  some : L = 0 ∨ ∃ x, x ∈ T ∧ R x = L

theorem curP_new {ns : List Nd} {R : Nat → Nat} {i : Nat} : ∀ (l : List ByteArray) (a : Nat), (∀ s ∈ l, fj ns s ≠ i) →
    a ≤ curP ns R i a l ∧ (∀ s ∈ l, R (fj ns s) ≤ curP ns R i a l) ∧ (curP ns R i a l = a ∨ ∃ s ∈ l, curP ns R i a l = R (fj ns s))
  | [], a, _ => ⟨Nat.le_refl _, fun s h => (by cases h), .inl rfl⟩
  | s :: l, a, h => by
    have hs := h s (List.mem_cons_self ..)
    have ih := curP_new (R := R) l (max a (R (fj ns s))) (fun t ht => h t (List.mem_cons_of_mem _ ht))
    have e : curP ns R i a (s :: l) = curP ns R i (max a (R (fj ns s))) l := by
      show curP ns R i (max a (if fj ns s = i then a else R (fj ns s))) l = _
      rw [if_neg hs]
    rw [e]
    obtain ⟨h1, h2, h3⟩ := ih
    refine ⟨by omega, fun t ht => ?_, ?_⟩
    · rcases List.mem_cons.1 ht with rfl | ht
      · omega
      · exact h2 t ht
    · rcases h3 with h3 | ⟨t, ht, h3⟩
      · by_cases c : a ≤ R (fj ns s)
        · exact .inr ⟨s, List.mem_cons_self .., by rw [h3]; omega⟩
        · left; rw [h3]; omega
      · exact .inr ⟨t, List.mem_cons_of_mem _ ht, h3⟩

theorem LevOk.step {ns : List Nd} {T : List Nat} {R : Nat → Nat} {L i : Nat} (O : LevOk ns T R L) (h : mayB ns T i = true) : LevOk ns (T ++ [i]) (depStep ns (R, L) i).1 (depStep ns (R, L) i).2 := by
  have hl := mayB_lt h
  have hn := List.getElem?_eq_getElem hl
  obtain ⟨hi, ha⟩ := mayB_out h
  have ha := ha _ hn
  unfold depStep
  rw [hn]
  simp only []
  have h0 := O.none i hi
  rw [h0]
  have hne : ∀ s ∈ (ns[i]).after, fj ns s ≠ i := fun s hs e => by
    obtain ⟨j, hj, hT⟩ := ha s hs
    rw [aheadP_fj hj] at e
    subst e
    exact hi hT
  obtain ⟨c1, c2, c3⟩ := curP_new (R := R) (ns[i]).after 0 hne
  have hcL : curP ns R i 0 (ns[i]).after ≤ L := curP_le O.le _ _ (Nat.zero_le _)
  have mi : ∀ x, x ∈ T → x ≠ i := fun x hx e => hi (e ▸ hx)
  refine ⟨fun x hx => ?_, fun x hx => ?_, fun x hx n hxn s hs => ?_, fun x hx => ?_, fun x => ?_, ?_⟩
  · simp at hx
    show (if x = i then _ else _) = _
    rw [if_neg hx.2]
    exact O.none x hx.1
  · show 1 ≤ (if x = i then _ else _)
    split
    · omega
    · rename_i e
      rcases List.mem_append.1 hx with hx | hx
      · exact O.pos x hx
      · simp at hx; exact absurd hx e
  · rcases List.mem_append.1 hx with hx | hx
    · obtain ⟨j, hj, hT, hlt⟩ := O.aft x hx n hxn s hs
      refine ⟨j, hj, List.mem_append_left _ hT, ?_⟩
      rw [if_neg (mi _ hT), if_neg (mi _ hx)]
      exact hlt
    · simp at hx; subst hx
      rw [hn] at hxn
      obtain rfl := Option.some.inj hxn
      obtain ⟨j, hj, hT⟩ := ha s hs
      refine ⟨j, hj, List.mem_append_left _ hT, ?_⟩
      rw [if_neg (mi _ hT), if_pos rfl]
      have := c2 s hs
      rw [aheadP_fj hj] at this
      omega
  · rcases List.mem_append.1 hx with hx | hx
    · rw [if_neg (mi _ hx)]
      rcases O.top x hx with h1 | ⟨n, hxn, s, hs, j, hj, h1⟩
      · exact .inl h1
      · obtain ⟨j', hj', hT', _⟩ := O.aft x hx n hxn s hs
        rw [hj] at hj'
        obtain rfl := Option.some.inj hj'
        exact .inr ⟨n, hxn, s, hs, j, hj, by rw [if_neg (mi _ hT')]; exact h1⟩
    · simp at hx; subst hx
      rw [if_pos rfl]
      rcases c3 with c3 | ⟨s, hs, c3⟩
      · left; omega
      · obtain ⟨j, hj, hT⟩ := ha s hs
        rw [aheadP_fj hj] at c3
        exact .inr ⟨_, hn, s, hs, j, hj, by rw [if_neg (mi _ hT), c3]⟩
  · show (if x = i then _ else _) ≤ max _ _
    have := O.le x
    split <;> omega
  · right
    by_cases c : L ≤ curP ns R i 0 (ns[i]).after + 1
    · exact ⟨i, by simp, by show (if i = i then _ else _) = max _ _; rw [if_pos rfl]; omega⟩
    · rcases O.some with e | ⟨x, hx, e⟩
      · omega
      · refine ⟨x, List.mem_append_left _ hx, ?_⟩
        show (if x = i then _ else _) = max _ _
        rw [if_neg (mi _ hx)]
        omega

theorem lev_take {ns : List Nd} {T : List Nat} (O : Ordd ns T) : ∀ k, k ≤ T.length → LevOk ns (T.take k) (depK ns (T.take k)).1 (depK ns (T.take k)).2
  | 0, _ => ⟨fun _ _ => rfl, fun x h => by simp at h, fun x h => by simp at h, fun x h => by simp at h, fun _ => Nat.zero_le _, .inl rfl⟩
  | k + 1, h => by
    have hk : k < T.length := by omega
    have e : T.take (k + 1) = T.take k ++ [T[k]] := by rw [List.take_add_one, List.getElem?_eq_getElem hk]; rfl
    rw [e, depK_snoc]
    exact (lev_take O k (by omega)).step (O k hk)

theorem lev_all {ns : List Nd} {T : List Nat} (O : Ordd ns T) : LevOk ns T (depK ns T).1 (depK ns T).2 := by
  have := lev_take O T.length (Nat.le_refl _)
  rwa [List.take_length] at this

/-- In which round a node is told when all that may be are told at once. -/
def rowP (ns : List Nd) (x : Nat) : Nat := (depK ns (ordP ns)).1 x

theorem mem_full : ∀ {n : Nat} {l : List Nat}, l.Nodup → (∀ i ∈ l, i < n) → l.length = n → ∀ i, i < n → i ∈ l := by
  intro n l h1 h2 h3 i hi
  by_cases hm : i ∈ l
  · exact hm
  · exfalso
    have h4 : (i :: l).Nodup := List.nodup_cons.2 ⟨hm, h1⟩
    have h5 := nodup_le h4 (fun j hj => by rcases List.mem_cons.1 hj with rfl | hj; exact hi; exact h2 j hj)
    simp at h5
    omega

theorem lev_ord (ns : List Nd) : LevOk ns (ordP ns) (rowP ns) (depP ns) := lev_all (ordP_ordd ns)

theorem ord_all {ns : List Nd} (h : (ordP ns).length = ns.length) : ∀ i, i < ns.length → i ∈ ordP ns := mem_full (ordP_ordd ns).nodup (ordP_lt ns) h

/-- The nodes that may begin when those with a mark are over, and have begun. -/
def readyB (ns : List Nd) (over begun : Nat → Bool) (i : Nat) : Bool := !begun i && match ns[i]? with | some n => n.after.all (fun s => match aheadP ns n s with | some j => over j | none => false) | none => false
def readyP (ns : List Nd) (over begun : Nat → Bool) : List Nat := (List.range ns.length).filter (readyB ns over begun)

theorem readyB_row {ns : List Nd} (h : (ordP ns).length = ns.length) (r : Nat) {i : Nat} (hi : i < ns.length) : readyB ns (fun x => decide (rowP ns x ≤ r)) (fun x => decide (rowP ns x ≤ r)) i = decide (rowP ns i = r + 1) := by
  have O := lev_ord ns
  have hm := ord_all h i hi
  have hn := List.getElem?_eq_getElem hi
  unfold readyB
  rw [hn]
  by_cases c : rowP ns i = r + 1
  · simp only [c, decide_true, Bool.and_eq_true, List.all_eq_true]
    refine ⟨by simp, fun s hs => ?_⟩
    obtain ⟨j, hj, _, hlt⟩ := O.aft i hm _ hn s hs
    rw [hj]
    simp only [decide_eq_true_eq]
    omega
  · simp only [c, decide_false, Bool.and_eq_false_iff, Bool.not_eq_false', decide_eq_true_eq]
    by_cases c2 : rowP ns i ≤ r
    · exact .inl c2
    · right
      rw [List.all_eq_false]
      have := O.pos i hm
      rcases O.top i hm with h1 | ⟨n, hxn, s, hs, j, hj, h1⟩
      · omega
      · rw [hn] at hxn
        obtain rfl := Option.some.inj hxn
        refine ⟨s, hs, ?_⟩
        rw [hj]
        simp only [decide_eq_true_eq]
        omega

theorem readyP_row {ns : List Nd} (h : (ordP ns).length = ns.length) (r : Nat) : readyP ns (fun x => decide (rowP ns x ≤ r)) (fun x => decide (rowP ns x ≤ r)) = (List.range ns.length).filter (fun i => decide (rowP ns i = r + 1)) := by
  unfold readyP
  apply List.filter_congr
  intro x hx
  exact readyB_row h r (List.mem_range.1 hx)

/-- No row is left out. -/
theorem row_each {ns : List Nd} (h : (ordP ns).length = ns.length) : ∀ d r, r + d + 1 = depP ns → ∃ x, x < ns.length ∧ rowP ns x = r + 1
  | 0, r, e => by
    rcases (lev_ord ns).some with h0 | ⟨x, hx, h1⟩
    · omega
    · exact ⟨x, ordP_lt ns x hx, by omega⟩
  | d + 1, r, e => by
    obtain ⟨x, hx, h1⟩ := row_each h d (r + 1) (by omega)
    have O := lev_ord ns
    have hm := ord_all h x hx
    rcases O.top x hm with h2 | ⟨n, hxn, s, hs, j, hj, h2⟩
    · omega
    · obtain ⟨j', hj', hT', _⟩ := O.aft x hm n hxn s hs
      rw [hj] at hj'
      obtain rfl := Option.some.inj hj'
      exact ⟨j, ordP_lt ns j hT', by omega⟩

theorem ready_some {ns : List Nd} (h : (ordP ns).length = ns.length) {r : Nat} (hr : r < depP ns) : 0 < ((List.range ns.length).filter (fun i => decide (rowP ns i = r + 1))).length := by
  obtain ⟨x, hx, h1⟩ := row_each h (depP ns - r - 1) r (by omega)
  exact List.length_pos_of_mem (List.mem_filter.2 ⟨List.mem_range.2 hx, by simpa using h1⟩)

/-- How many have been told. -/
def cntP (ns : List Nd) (r : Nat) : Nat := (List.range ns.length).countP (fun i => decide (rowP ns i ≤ r))

theorem cntP_zero {ns : List Nd} (h : (ordP ns).length = ns.length) : cntP ns 0 = 0 := by
  unfold cntP
  rw [List.countP_eq_zero]
  intro x hx
  have := (lev_ord ns).pos x (ord_all h x (List.mem_range.1 hx))
  simp only [decide_eq_true_eq]
  omega

theorem cntP_next (ns : List Nd) (r : Nat) : cntP ns (r + 1) = cntP ns r + ((List.range ns.length).filter (fun i => decide (rowP ns i = r + 1))).length := by
  unfold cntP
  rw [← List.countP_eq_length_filter]
  induction List.range ns.length with
  | nil => rfl
  | cons x l ih =>
    simp only [List.countP_cons, ih, decide_eq_true_eq]
    split <;> split <;> split <;> omega

theorem cntP_all (ns : List Nd) : cntP ns (depP ns) = ns.length := by
  unfold cntP
  rw [List.countP_eq_length.2, List.length_range]
  intro x _
  simpa using (lev_ord ns).le x

theorem cntP_le (ns : List Nd) (r : Nat) : cntP ns r ≤ ns.length := by
  unfold cntP
  have := List.countP_le_length (p := fun i => decide (rowP ns i ≤ r)) (l := List.range ns.length)
  simpa using this


/-- A definition that is taken. -/
structure Taken (name : ByteArray) (ns : List Nd) : Prop where
  name : nameP name = true
  lo : 1 ≤ ns.length
  hi : ns.length ≤ 32
  nod : ∀ i (h : i < ns.length), nodeE ns i (ns[i]'h) = 0
  aft : ∀ i (h : i < ns.length), afterE ns (ns[i]'h) = 0
  ord : (ordP ns).length = ns.length

theorem firstE_none {f : Nat → Int} : ∀ {n}, firstE f n = none → ∀ i, i < n → f i = 0
  | 0, _, i, hi => by omega
  | n + 1, h, i, hi => by
    unfold firstE at h
    cases hn : firstE f n with
    | some x => rw [hn] at h; cases h
    | none =>
      rw [hn] at h
      by_cases e : f n = 0
      · by_cases e2 : i = n
        · subst e2; exact e
        · exact firstE_none hn i (by omega)
      · simp [e] at h

theorem firstE_some {f : Nat → Int} : ∀ {n} {x : Nat × Int}, firstE f n = some x → x.2 ≠ 0
  | 0, x, h => by cases h
  | n + 1, x, h => by
    unfold firstE at h
    cases hn : firstE f n with
    | some y => rw [hn] at h; cases h; exact firstE_some hn
    | none =>
      rw [hn] at h
      by_cases e : f n = 0
      · simp [e] at h
      · simp [e] at h; subst h; exact e

theorem firstE_zero {f : Nat → Int} : ∀ {n}, (∀ i, i < n → f i = 0) → firstE f n = none
  | 0, _ => rfl
  | n + 1, h => by
    unfold firstE
    rw [firstE_zero (fun i hi => h i (by omega))]
    simp [h n (by omega)]

theorem taken_of {name : ByteArray} {ns : List Nd} (h : (checkP name ns).2 = 0) : Taken name ns := by
  rw [checkP_eq] at h
  cases g0 : nameP name with
  | false => rw [if_pos g0] at h; simp at h
  | true =>
    rw [if_neg (by rw [g0]; simp)] at h
    by_cases c : ns.length < 1 ∨ 32 < ns.length
    · rw [if_pos c] at h; simp at h
    · rw [if_neg c] at h
      cases h1 : firstE (nodeAt ns) ns.length with
      | some x => rw [h1] at h; exact absurd h (firstE_some h1)
      | none =>
        rw [h1] at h
        cases h2 : firstE (aftAt ns) ns.length with
        | some x => rw [h2] at h; exact absurd h (firstE_some h2)
        | none =>
          rw [h2] at h
          by_cases h3 : (ordP ns).length = ns.length
          · refine ⟨g0, by omega, by omega, fun i hi => ?_, fun i hi => ?_, h3⟩
            · have := firstE_none h1 i hi
              unfold nodeAt at this
              rw [List.getElem?_eq_getElem hi] at this
              exact this
            · have := firstE_none h2 i hi
              unfold aftAt at this
              rw [List.getElem?_eq_getElem hi] at this
              exact this
          · simp [h3] at h

theorem Taken.check {name : ByteArray} {ns : List Nd} (T : Taken name ns) : checkP name ns = (-1, 0) := by
  have h1 : firstE (nodeAt ns) ns.length = none := firstE_zero (fun i hi => by
    unfold nodeAt; rw [List.getElem?_eq_getElem hi]; exact T.nod i hi)
  have h2 : firstE (aftAt ns) ns.length = none := firstE_zero (fun i hi => by
    unfold aftAt; rw [List.getElem?_eq_getElem hi]; exact T.aft i hi)
  have := T.lo
  have := T.hi
  rw [checkP_eq, if_neg (by rw [T.name]; simp), if_neg (by omega), h1, h2]
  simp only []
  rw [if_pos T.ord]

/-- What is wrong but for the order. -/
theorem check_loop {name : ByteArray} {ns : List Nd} (h0 : nameP name = true) (hl : 1 ≤ ns.length) (hh : ns.length ≤ 32) (hn : ∀ i (h : i < ns.length), nodeE ns i (ns[i]'h) = 0) (ha : ∀ i (h : i < ns.length), afterE ns (ns[i]'h) = 0)
    (ho : (ordP ns).length ≠ ns.length) : checkP name ns = (-1, 15) := by
  have h1 : firstE (nodeAt ns) ns.length = none := firstE_zero (fun i hi => by
    unfold nodeAt; rw [List.getElem?_eq_getElem hi]; exact hn i hi)
  have h2 : firstE (aftAt ns) ns.length = none := firstE_zero (fun i hi => by
    unfold aftAt; rw [List.getElem?_eq_getElem hi]; exact ha i hi)
  rw [checkP_eq, if_neg (by rw [h0]; simp), if_neg (by omega), h1, h2]
  simp only []
  rw [if_neg ho]

theorem nodeE_ok {ns : List Nd} {i : Nat} {n : Nd} (h : nodeE ns i n = 0) : namedP n = true ∧ i ≤ (findP ns n.name).getD 0 ∧ fitsP n = true := by
  unfold nodeE at h
  split at h
  · rename_i h1
    split at h
    · simp at h
    · rename_i h2
      split at h
      · rename_i h3; exact ⟨h1, by omega, h3⟩
      · simp at h
  · simp at h

theorem nodeE_of {ns : List Nd} {i : Nat} {n : Nd} (h1 : namedP n = true) (h2 : i ≤ (findP ns n.name).getD 0) (h3 : fitsP n = true) : nodeE ns i n = 0 := by
  unfold nodeE
  rw [if_pos h1, if_neg (by omega), if_pos h3]

theorem afterE_ok {ns : List Nd} {n : Nd} (h : afterE ns n = 0) : (∀ s ∈ n.after, (findP ns s).isSome = true) ∧ n.after.Nodup := by
  unfold afterE at h
  split at h
  · rename_i h1
    split at h
    · rename_i h2; exact ⟨by simpa using h1, h2⟩
    · simp at h
  · simp at h

theorem afterE_of {ns : List Nd} {n : Nd} (h1 : ∀ s ∈ n.after, (findP ns s).isSome = true) (h2 : n.after.Nodup) : afterE ns n = 0 := by
  unfold afterE
  rw [if_pos (by simpa using h1), if_pos h2]

theorem findP_mem {ns : List Nd} {n : Nd} (h : n ∈ ns) : (findP ns n.name).isSome = true := by
  cases hf : findP ns n.name with
  | none => exact absurd rfl (findP_none.1 hf n h)
  | some _ => rfl

theorem Taken.self {name : ByteArray} {ns : List Nd} (T : Taken name ns) {i : Nat} (hi : i < ns.length) : findP ns (ns[i]).name = some i := by
  have h1 := findP_mem (List.getElem_mem hi)
  obtain ⟨j, hj⟩ := Option.isSome_iff_exists.1 h1
  have h2 := (nodeE_ok (T.nod i hi)).2.1
  rw [hj] at h2
  simp at h2
  by_cases e : j = i
  · rw [hj, e]
  · exact absurd rfl (findP_first hj (j := i) (by omega))

theorem Taken.inj {name : ByteArray} {ns : List Nd} (T : Taken name ns) {i j : Nat} (hi : i < ns.length) (hj : j < ns.length) (h : (ns[i]).name = (ns[j]).name) : i = j := by
  have h1 := T.self hi
  rw [h, T.self hj] at h1
  exact (Option.some.inj h1).symm

/-- One node more. -/
theorem findP_snoc (ns : List Nd) (z : Nd) (s : ByteArray) : findP (ns ++ [z]) s = (findP ns s).or (if z.name = s then some ns.length else none) := by
  unfold findP
  rw [List.findIdx?_append]
  congr 1
  by_cases h : z.name = s <;> simp [h]

theorem findP_snoc_some {ns : List Nd} (z : Nd) {s : ByteArray} (h : (findP ns s).isSome = true) : findP (ns ++ [z]) s = findP ns s := by
  rw [findP_snoc]
  obtain ⟨j, hj⟩ := Option.isSome_iff_exists.1 h
  rw [hj]; rfl

theorem aheadP_snoc {ns : List Nd} (z n : Nd) {s : ByteArray} (h : (findP ns s).isSome = true) : aheadP (ns ++ [z]) n s = aheadP ns n s := by
  unfold aheadP
  rw [findP_snoc_some z h]

theorem need_snoc {ns : List Nd} (z n : Nd) (T : List Nat) (h : ∀ s ∈ n.after, (findP ns s).isSome = true) : need (ns ++ [z]) T n = need ns T n := by
  unfold need
  apply List.countP_congr
  intro s hs
  rw [aheadP_snoc z n (h s hs)]

theorem mayB_snoc {ns : List Nd} (z : Nd) (T : List Nat) {i : Nat} (hi : i < ns.length) (h : ∀ s ∈ (ns[i]).after, (findP ns s).isSome = true) : mayB (ns ++ [z]) T i = mayB ns T i := by
  unfold mayB
  rw [List.getElem?_append_left hi, List.getElem?_eq_getElem hi]
  simp only []
  rw [need_snoc z _ T h]

theorem nextP_snoc {ns : List Nd} (z : Nd) {T : List Nat} (h : ∀ i (hi : i < ns.length), ∀ s ∈ (ns[i]).after, (findP ns s).isSome = true) {j : Nat} (hj : nextP ns T = some j) : nextP (ns ++ [z]) T = some j := by
  obtain ⟨h1, h2⟩ := nextP_is hj
  have hl := mayB_lt h1
  refine nextP_some (by rw [mayB_snoc z T hl (h j hl)]; exact h1) (fun k hk => ?_)
  have hkl : k < ns.length := by omega
  rw [mayB_snoc z T hkl (h k hkl)]
  exact h2 k hk

theorem ordK_snoc {ns : List Nd} (z : Nd) (h : ∀ i (hi : i < ns.length), ∀ s ∈ (ns[i]).after, (findP ns s).isSome = true) (m : Nat) : ∀ (k : Nat) (T : List Nat), (ordK ns k T).length = T.length + k → ordK (ns ++ [z]) (k + m) T = ordK (ns ++ [z]) m (ordK ns k T)
  | 0, T, _ => by simp [ordK]
  | k + 1, T, hlen => by
    rw [show k + 1 + m = (k + m) + 1 by omega]
    unfold ordK at hlen
    cases hn : nextP ns T with
    | none => rw [hn] at hlen; simp only [] at hlen; omega
    | some j =>
      rw [hn] at hlen
      simp only [] at hlen
      have e1 : ordK (ns ++ [z]) ((k + m) + 1) T = ordK (ns ++ [z]) (k + m) (T ++ [j]) := by
        rw [ordK, nextP_snoc z h hn]
      have e2 : ordK ns (k + 1) T = ordK ns k (T ++ [j]) := by rw [ordK, hn]
      rw [e1, e2]
      exact ordK_snoc z h m k (T ++ [j]) (by rw [hlen]; simp; omega)

/-- A node that stands behind all others is the last one. -/
theorem ordP_grow {name : ByteArray} {ns : List Nd} (T : Taken name ns) (z : Nd) (hz : z.after = ns.map (·.name)) (hf : findP ns z.name = none) : ordP (ns ++ [z]) = ordP ns ++ [ns.length] := by
  have ha : ∀ i (hi : i < ns.length), ∀ s ∈ (ns[i]).after, (findP ns s).isSome = true := fun i hi => (afterE_ok (T.aft i hi)).1
  have e : ordP (ns ++ [z]) = ordK (ns ++ [z]) 1 (ordP ns) := by
    unfold ordP
    rw [List.length_append]
    exact ordK_snoc z ha 1 ns.length [] (by have := T.ord; unfold ordP at this; rw [this]; simp)
  rw [e]
  have hall := ord_all T.ord
  have hnx : nextP (ns ++ [z]) (ordP ns) = some ns.length := by
    refine nextP_some ?_ (fun j hj => ?_)
    · refine mayB_of (n := z) (fun hm => absurd (ordP_lt ns _ hm) (Nat.lt_irrefl _)) (by simp) (fun s hs => ?_)
      rw [hz] at hs
      obtain ⟨n, hn, rfl⟩ := List.mem_map.1 hs
      have h1 := findP_mem hn
      obtain ⟨j, hj⟩ := Option.isSome_iff_exists.1 h1
      refine ⟨j, ?_, hall j (findP_lt hj)⟩
      unfold aheadP
      rw [if_neg (fun e => by rw [e, hf] at h1; cases h1), findP_snoc_some z h1, hj]
    · rw [mayB_snoc z _ hj (ha j hj)]
      unfold mayB
      simp [hall j hj]
  rw [ordK, hnx]
  rfl

theorem depK_snocNs {ns : List Nd} (z : Nd) (h : ∀ i (hi : i < ns.length), ∀ s ∈ (ns[i]).after, (findP ns s).isSome = true) : ∀ (od : List Nat), (∀ i ∈ od, i < ns.length) → ∀ st, od.foldl (depStep (ns ++ [z])) st = od.foldl (depStep ns) st
  | [], _, _ => rfl
  | i :: od, hod, st => by
    have hi := hod i (List.mem_cons_self ..)
    have hc : ∀ (l : List ByteArray) (R : Nat → Nat) (a : Nat), (∀ s ∈ l, (findP ns s).isSome = true) → curP (ns ++ [z]) R i a l = curP ns R i a l := by
      intro l R
      induction l with
      | nil => intro a _; rfl
      | cons s l ih =>
        intro a hs
        have e : fj (ns ++ [z]) s = fj ns s := by unfold fj; rw [findP_snoc_some z (hs s (List.mem_cons_self ..))]
        show curP (ns ++ [z]) R i (max a (if fj (ns ++ [z]) s = i then a else R (fj (ns ++ [z]) s))) l = curP ns R i (max a (if fj ns s = i then a else R (fj ns s))) l
        rw [e]
        exact ih _ (fun t ht => hs t (List.mem_cons_of_mem _ ht))
    have e : depStep (ns ++ [z]) st i = depStep ns st i := by
      unfold depStep
      rw [List.getElem?_append_left hi, List.getElem?_eq_getElem hi]
      simp only []
      rw [hc _ _ _ (h i hi)]
    rw [List.foldl_cons, List.foldl_cons, e]
    exact depK_snocNs z h od (fun k hk => hod k (List.mem_cons_of_mem _ hk)) _

theorem depP_grow {name : ByteArray} {ns : List Nd} (T : Taken name ns) (z : Nd) (hz : z.after = ns.map (·.name)) (hf : findP ns z.name = none) : depP (ns ++ [z]) = depP ns + 1 := by
  have ha : ∀ i (hi : i < ns.length), ∀ s ∈ (ns[i]).after, (findP ns s).isSome = true := fun i hi => (afterE_ok (T.aft i hi)).1
  have e : depK (ns ++ [z]) (ordP ns) = depK ns (ordP ns) := depK_snocNs z ha (ordP ns) (ordP_lt ns) _
  unfold depP
  rw [ordP_grow T z hz hf, depK_snoc, e]
  have O := lev_ord ns
  unfold depStep
  rw [show (ns ++ [z])[ns.length]? = some z by simp]
  simp only []
  have h0 : (depK ns (ordP ns)).1 ns.length = 0 := O.none ns.length (fun hm => absurd (ordP_lt ns _ hm) (Nat.lt_irrefl _))
  rw [h0]
  have hfj : ∀ s ∈ z.after, ∃ j, j < ns.length ∧ fj (ns ++ [z]) s = j := fun s hs => by
    rw [hz] at hs
    obtain ⟨n, hn, rfl⟩ := List.mem_map.1 hs
    have h1 := findP_mem hn
    obtain ⟨j, hj⟩ := Option.isSome_iff_exists.1 h1
    exact ⟨j, findP_lt hj, by unfold fj; rw [findP_snoc_some z h1, hj]; rfl⟩
  obtain ⟨c1, c2, c3⟩ := curP_new (ns := ns ++ [z]) (R := (depK ns (ordP ns)).1) (i := ns.length) z.after 0 (fun s hs e => by obtain ⟨j, hj, he⟩ := hfj s hs; omega)
  have hL : ∀ x, (depK ns (ordP ns)).1 x ≤ (depK ns (ordP ns)).2 := O.le
  have hle : curP (ns ++ [z]) (depK ns (ordP ns)).1 ns.length 0 z.after ≤ (depK ns (ordP ns)).2 := curP_le hL _ _ (Nat.zero_le _)
  have hge : (depK ns (ordP ns)).2 ≤ curP (ns ++ [z]) (depK ns (ordP ns)).1 ns.length 0 z.after := by
    rcases O.some with h | ⟨x, hx, hxe⟩
    · have h' : (depK ns (ordP ns)).2 = 0 := h
      omega
    · have hxl := ordP_lt ns x hx
      have hm : (ns[x]).name ∈ z.after := by rw [hz]; exact List.mem_map.2 ⟨_, List.getElem_mem hxl, rfl⟩
      have h1 := c2 _ hm
      have h2 : fj (ns ++ [z]) (ns[x]).name = x := by
        unfold fj
        rw [findP_snoc_some z (findP_mem (List.getElem_mem hxl)), T.self hxl]; rfl
      rw [h2] at h1
      have hxe' : (depK ns (ordP ns)).1 x = (depK ns (ordP ns)).2 := hxe
      omega
  omega

theorem taken_grow {name : ByteArray} {ns : List Nd} (T : Taken name ns) (h9 : ns.length ≤ 9) (z : Nd) (hz : z.after = ns.map (·.name)) (hf : findP ns z.name = none) (hn : namedP z = true) (hfit : fitsP z = true) : Taken name (ns ++ [z]) := by
  have ho := ordP_grow T z hz hf
  refine ⟨T.name, by simp, by simp; omega, fun i hi => ?_, fun i hi => ?_, by rw [ho]; simp [T.ord]⟩
  · by_cases e : i < ns.length
    · rw [List.getElem_append_left e]
      obtain ⟨h1, h2, h3⟩ := nodeE_ok (T.nod i e)
      exact nodeE_of h1 (by rw [findP_snoc_some z (findP_mem (List.getElem_mem e))]; exact h2) h3
    · have e2 : i = ns.length := by simp at hi; omega
      subst e2
      simp only [List.getElem_append_right (Nat.le_refl _), Nat.sub_self, List.getElem_cons_zero]
      exact nodeE_of hn (by rw [findP_snoc, hf]; simp) hfit
  · by_cases e : i < ns.length
    · rw [List.getElem_append_left e]
      obtain ⟨h1, h2⟩ := afterE_ok (T.aft i e)
      exact afterE_of (fun s hs => by rw [findP_snoc_some z (h1 s hs)]; exact h1 s hs) h2
    · have e2 : i = ns.length := by simp at hi; omega
      subst e2
      simp only [List.getElem_append_right (Nat.le_refl _), Nat.sub_self, List.getElem_cons_zero]
      refine afterE_of (fun s hs => ?_) ?_
      · rw [hz] at hs
        obtain ⟨n, hn, rfl⟩ := List.mem_map.1 hs
        rw [findP_snoc_some z (findP_mem hn)]
        exact findP_mem hn
      · rw [hz, List.nodup_iff_pairwise_ne, List.pairwise_iff_getElem]
        intro i j hi hj hij e
        simp only [List.getElem_map] at e
        simp at hi hj
        have := T.inj hi hj e
        omega

/-- No name in its After means itself. -/
theorem Taken.few {name : ByteArray} {ns : List Nd} (T : Taken name ns) {i : Nat} (hi : i < ns.length) : (ns[i]).after.length ≤ ns.length := by
  obtain ⟨h1, h2⟩ := afterE_ok (T.aft i hi)
  have h3 : ((ns[i]).after.map (fj ns)).Nodup := by
    rw [List.nodup_iff_pairwise_ne, List.pairwise_iff_getElem]
    intro p q hp hq hpq e
    simp only [List.getElem_map] at e
    simp at hp hq
    have f1 := h1 _ (List.getElem_mem hp)
    have f2 := h1 _ (List.getElem_mem hq)
    obtain ⟨j1, g1⟩ := Option.isSome_iff_exists.1 f1
    obtain ⟨j2, g2⟩ := Option.isSome_iff_exists.1 f2
    unfold fj at e
    rw [g1, g2] at e
    simp at e
    subst e
    have n1 := findP_name g1
    have n2 := findP_name g2
    rw [n1] at n2
    have := (List.nodup_iff_pairwise_ne.1 h2)
    rw [List.pairwise_iff_getElem] at this
    exact this p q hp hq hpq n2
  have h4 := nodup_le h3 (n := ns.length) (fun k hk => by
    obtain ⟨s, hs, rfl⟩ := List.mem_map.1 hk
    obtain ⟨j, hj⟩ := Option.isSome_iff_exists.1 (h1 s hs)
    unfold fj; rw [hj]; exact findP_lt hj)
  simpa using h4


/-- From b one comes to a by going to what stands ahead. -/
inductive Path (ns : List Nd) (b : Nat) : Nat → Prop
  | refl : Path ns b b
  | step {i j : Nat} {n : Nd} {s : ByteArray} : Path ns b i → ns[i]? = some n → s ∈ n.after → findP ns s = some j → Path ns b j

/-- Node a gets one more name in its After. -/
def addA (n : Nd) (s : ByteArray) : Nd := { n with after := n.after ++ [s] }
def loopNs (ns : List Nd) (a : Nat) (s : ByteArray) : List Nd := ns.modify a (fun n => addA n s)

theorem loopNs_len (ns : List Nd) (a : Nat) (s : ByteArray) : (loopNs ns a s).length = ns.length := by unfold loopNs; simp

theorem loopNs_at {ns : List Nd} {a : Nat} {s : ByteArray} {i : Nat} : (loopNs ns a s)[i]? = (ns[i]?).map (fun n => if a = i then addA n s else n) := by
  unfold loopNs
  rw [List.getElem?_modify]
  cases ns[i]? <;> rfl

theorem findP_names : ∀ {l m : List Nd}, l.map (·.name) = m.map (·.name) → ∀ s, findP l s = findP m s := by
  intro l m h s
  have e : ∀ (l : List Nd), findP l s = (l.map (·.name)).findIdx? (fun n => decide (n = s)) := fun l => by
    unfold findP
    rw [List.findIdx?_map]
    rfl
  rw [e, e, h]

theorem loopNs_names (ns : List Nd) (a : Nat) (s : ByteArray) : (loopNs ns a s).map (·.name) = ns.map (·.name) := by
  apply List.ext_getElem?
  intro i
  rw [List.getElem?_map, List.getElem?_map, loopNs_at]
  cases ns[i]? with
  | none => rfl
  | some n => by_cases e : a = i <;> simp [e, addA]

theorem loopNs_find (ns : List Nd) (a : Nat) (s t : ByteArray) : findP (loopNs ns a s) t = findP ns t := findP_names (loopNs_names ns a s) t

theorem aheadP_find {ns : List Nd} {n : Nd} {s : ByteArray} {j : Nat} (h : aheadP ns n s = some j) : findP ns s = some j := by
  unfold aheadP at h
  split at h
  · cases h
  · exact h

theorem loop_not {name : ByteArray} {ns : List Nd} (T : Taken name ns) {a b : Nat} (ha : a < ns.length) (hb : b < ns.length) (P : Path ns b a) : (ordP (loopNs ns a (ns[b]).name)).length ≠ (loopNs ns a (ns[b]).name).length := by
  intro hf
  have O := lev_ord (loopNs ns a (ns[b]).name)
  have hall := ord_all hf
  rw [loopNs_len] at hall
  have hle : ∀ j, Path ns b j → j < ns.length ∧ rowP (loopNs ns a (ns[b]).name) j ≤ rowP (loopNs ns a (ns[b]).name) b := by
    intro j p
    induction p with
    | refl => exact ⟨hb, Nat.le_refl _⟩
    | @step i j n s p hn hs hj ih =>
      obtain ⟨hi, hle⟩ := ih
      have hm := hall i hi
      have hn' : (loopNs ns a (ns[b]).name)[i]? = some (if a = i then addA n (ns[b]).name else n) := by rw [loopNs_at, hn]; rfl
      obtain ⟨j', hj', _, hlt⟩ := O.aft i hm _ hn' s (by split; (exact List.mem_append_left _ hs); exact hs)
      have e : j' = j := by
        have hj'' := aheadP_find hj'
        rw [loopNs_find, hj] at hj''
        exact (Option.some.inj hj'').symm
      subst e
      exact ⟨findP_lt hj, by omega⟩
  have h1 := (hle a P).2
  have hn' : (loopNs ns a (ns[b]).name)[a]? = some (addA ns[a] (ns[b]).name) := by rw [loopNs_at, List.getElem?_eq_getElem ha]; simp
  obtain ⟨j', hj', _, hlt⟩ := O.aft a (hall a ha) _ hn' (ns[b]).name (List.mem_append_right _ (by simp))
  have e : j' = b := by
    have hj'' := aheadP_find hj'
    rw [loopNs_find, T.self hb] at hj''
    exact (Option.some.inj hj'').symm
  subst e
  omega

theorem loop_check {name : ByteArray} {ns : List Nd} (T : Taken name ns) {a b : Nat} (ha : a < ns.length) (hb : b < ns.length) (P : Path ns b a) (hm : (ns[b]).name ∉ (ns[a]).after) : checkP name (loopNs ns a (ns[b]).name) = (-1, 15) := by
  have hl := loopNs_len ns a (ns[b]).name
  have hat : ∀ i (h : i < (loopNs ns a (ns[b]).name).length), ∃ hi : i < ns.length, (loopNs ns a (ns[b]).name)[i] = if a = i then addA ns[i] (ns[b]).name else ns[i] := fun i h => by
    have hi : i < ns.length := by omega
    refine ⟨hi, ?_⟩
    have := loopNs_at (ns := ns) (a := a) (s := (ns[b]).name) (i := i)
    rw [List.getElem?_eq_getElem h, List.getElem?_eq_getElem hi] at this
    exact Option.some.inj this
  refine check_loop T.name (by have := T.lo; omega) (by have := T.hi; omega) (fun i h => ?_) (fun i h => ?_) (loop_not T ha hb P)
  · obtain ⟨hi, e⟩ := hat i h
    obtain ⟨h1, h2, h3⟩ := nodeE_ok (T.nod i hi)
    rw [e]
    refine nodeE_of ?_ ?_ ?_
    · split; (exact h1); exact h1
    · rw [loopNs_find]; split; (exact h2); exact h2
    · split; (exact h3); exact h3
  · obtain ⟨hi, e⟩ := hat i h
    obtain ⟨h1, h2⟩ := afterE_ok (T.aft i hi)
    rw [e]
    by_cases c : a = i
    · subst c
      rw [if_pos rfl]
      refine afterE_of (fun s hs => ?_) ?_
      · rw [loopNs_find]
        rcases List.mem_append.1 hs with hs | hs
        · exact h1 s hs
        · simp at hs; subst hs; exact findP_mem (List.getElem_mem hb)
      · show ((ns[a]).after ++ [(ns[b]).name]).Nodup
        rw [List.nodup_append]
        exact ⟨h2, by simp, fun x hx y hy e => by simp at hy; subst hy; subst e; exact hm hx⟩
    · rw [if_neg c]
      exact afterE_of (fun s hs => by rw [loopNs_find]; exact h1 s hs) h2

end Go.Proofs.YtoonnbagppliaaaDoor
