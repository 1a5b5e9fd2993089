/-
  Definitions that are taken; one node more behind all others. Nothing here speaks of a program.
-/
import Derived.Test.YtalhdgelkomaiaaDoorDLevP
namespace Go.Proofs.YtalhdgelkomaiaaDoor
open Go.RowKit

/-- A definition that is taken. -/
structure Taken (name : ByteArray) (ns : List Nd) : Prop where
  name : nameP name = true
  lo : 1 ≤ ns.length
  hi : ns.length ≤ 32
  nod : ∀ i (h : i < ns.length), nodeE ns i (ns[i]'h) = 0
  aft : ∀ i (h : i < ns.length), afterE ns (ns[i]'h) = 0
  ord : (ordP ns).length = ns.length

theorem firstE_none {f : Nat → Int} : ∀ {n}, firstE f n = none → ∀ i, i < n → f i = 0
  | 0, _, i, hi => by omega
  | n + 1, h, i, hi => by
    unfold firstE at h
    cases hn : firstE f n with
    | some x => rw [hn] at h; cases h
    | none =>
      rw [hn] at h
      by_cases e : f n = 0
      · by_cases e2 : i = n
        · subst e2; exact e
        · exact firstE_none hn i (by omega)
      · simp [e] at h

theorem firstE_some {f : Nat → Int} : ∀ {n} {x : Nat × Int}, firstE f n = some x → x.2 ≠ 0
  | 0, x, h => by cases h
  | n + 1, x, h => by
    unfold firstE at h
    cases hn : firstE f n with
    | some y => rw [hn] at h; cases h; exact firstE_some hn
    | none =>
      rw [hn] at h
      by_cases e : f n = 0
      · simp [e] at h
      · simp [e] at h; subst h; exact e

theorem firstE_zero {f : Nat → Int} : ∀ {n}, (∀ i, i < n → f i = 0) → firstE f n = none
  | 0, _ => rfl
  | n + 1, h => by
    unfold firstE
    rw [firstE_zero (fun i hi => h i (by omega))]
    simp [h n (by omega)]

theorem taken_of {name : ByteArray} {ns : List Nd} (h : (checkP name ns).2 = 0) : Taken name ns := by
  rw [checkP_eq] at h
  cases g0 : nameP name with
  | false => rw [if_pos g0] at h; simp at h
  | true =>
    rw [if_neg (by rw [g0]; simp)] at h
    by_cases c : ns.length < 1 ∨ 32 < ns.length
    · rw [if_pos c] at h; simp at h
    · rw [if_neg c] at h
      cases h1 : firstE (nodeAt ns) ns.length with
      | some x => rw [h1] at h; exact absurd h (firstE_some h1)
      | none =>
        rw [h1] at h
        cases h2 : firstE (aftAt ns) ns.length with
        | some x => rw [h2] at h; exact absurd h (firstE_some h2)
        | none =>
          rw [h2] at h
          by_cases h3 : (ordP ns).length = ns.length
          · refine ⟨g0, by omega, by omega, fun i hi => ?_, fun i hi => ?_, h3⟩
            · have := firstE_none h1 i hi
              unfold nodeAt at this
              rw [List.getElem?_eq_getElem hi] at this
              exact this
            · have := firstE_none h2 i hi
              unfold aftAt at this
              rw [List.getElem?_eq_getElem hi] at this
              exact this
          · simp [h3] at h

theorem Taken.check {name : ByteArray} {ns : List Nd} (T : Taken name ns) : checkP name ns = (-1, 0) := by
  have h1 : firstE (nodeAt ns) ns.length = none := firstE_zero (fun i hi => by
    unfold nodeAt; rw [List.getElem?_eq_getElem hi]; exact T.nod i hi)
  have h2 : firstE (aftAt ns) ns.length = none := firstE_zero (fun i hi => by
    unfold aftAt; rw [List.getElem?_eq_getElem hi]; exact T.aft i hi)
  have := T.lo
  have := T.hi
  rw [checkP_eq, if_neg (by rw [T.name]; simp), if_neg (by omega), h1, h2]
  simp only []
  rw [if_pos T.ord]

/-- What is wrong but for the order. -/
theorem check_loop {name : ByteArray} {ns : List Nd} (h0 : nameP name = true) (hl : 1 ≤ ns.length) (hh : ns.length ≤ 32) (hn : ∀ i (h : i < ns.length), nodeE ns i (ns[i]'h) = 0) (ha : ∀ i (h : i < ns.length), afterE ns (ns[i]'h) = 0)
    (ho : (ordP ns).length ≠ ns.length) : checkP name ns = (-1, 15) := by
  have h1 : firstE (nodeAt ns) ns.length = none := firstE_zero (fun i hi => by
    unfold nodeAt; rw [List.getElem?_eq_getElem hi]; exact hn i hi)
  have h2 : firstE (aftAt ns) ns.length = none := firstE_zero (fun i hi => by
    unfold aftAt; rw [List.getElem?_eq_getElem hi]; exact ha i hi)
  rw [checkP_eq, if_neg (by rw [h0]; simp), if_neg (by omega), h1, h2]
  simp only []
  rw [if_neg ho]

theorem nodeE_ok {ns : List Nd} {i : Nat} {n : Nd} (h : nodeE ns i n = 0) : namedP n = true ∧ i ≤ (findP ns n.name).getD 0 ∧ fitsP n = true := by
  unfold nodeE at h
  split at h
  · rename_i h1
    split at h
    · simp at h
    · rename_i h2
      split at h
      · rename_i h3; exact ⟨h1, by omega, h3⟩
      · simp at h
  · simp at h

theorem nodeE_of {ns : List Nd} {i : Nat} {n : Nd} (h1 : namedP n = true) (h2 : i ≤ (findP ns n.name).getD 0) (h3 : fitsP n = true) : nodeE ns i n = 0 := by
  unfold nodeE
  rw [if_pos h1, if_neg (by omega), if_pos h3]

theorem afterE_ok {ns : List Nd} {n : Nd} (h : afterE ns n = 0) : (∀ s ∈ n.after, (findP ns s).isSome = true) ∧ n.after.Nodup := by
  unfold afterE at h
  split at h
  · rename_i h1
    split at h
    · rename_i h2; exact ⟨by simpa using h1, h2⟩
    · simp at h
  · simp at h

theorem afterE_of {ns : List Nd} {n : Nd} (h1 : ∀ s ∈ n.after, (findP ns s).isSome = true) (h2 : n.after.Nodup) : afterE ns n = 0 := by
  unfold afterE
  rw [if_pos (by simpa using h1), if_pos h2]

theorem findP_mem {ns : List Nd} {n : Nd} (h : n ∈ ns) : (findP ns n.name).isSome = true := by
  cases hf : findP ns n.name with
  | none => exact absurd rfl (findP_none.1 hf n h)
  | some _ => rfl

theorem Taken.self {name : ByteArray} {ns : List Nd} (T : Taken name ns) {i : Nat} (hi : i < ns.length) : findP ns (ns[i]).name = some i := by
  have h1 := findP_mem (List.getElem_mem hi)
  obtain ⟨j, hj⟩ := Option.isSome_iff_exists.1 h1
  have h2 := (nodeE_ok (T.nod i hi)).2.1
  rw [hj] at h2
  simp at h2
  by_cases e : j = i
  · rw [hj, e]
  · exact absurd rfl (findP_first hj (j := i) (by omega))

theorem Taken.inj {name : ByteArray} {ns : List Nd} (T : Taken name ns) {i j : Nat} (hi : i < ns.length) (hj : j < ns.length) (h : (ns[i]).name = (ns[j]).name) : i = j := by
  have h1 := T.self hi
  rw [h, T.self hj] at h1
  exact (Option.some.inj h1).symm

/-- One node more. -/
theorem findP_snoc (ns : List Nd) (z : Nd) (s : ByteArray) : findP (ns ++ [z]) s = (findP ns s).or (if z.name = s then some ns.length else none) := by
  unfold findP
  rw [List.findIdx?_append]
  congr 1
  by_cases h : z.name = s <;> simp [h]

theorem findP_snoc_some {ns : List Nd} (z : Nd) {s : ByteArray} (h : (findP ns s).isSome = true) : findP (ns ++ [z]) s = findP ns s := by
  rw [findP_snoc]
  obtain ⟨j, hj⟩ := Option.isSome_iff_exists.1 h
  rw [hj]; rfl

theorem aheadP_snoc {ns : List Nd} (z n : Nd) {s : ByteArray} (h : (findP ns s).isSome = true) : aheadP (ns ++ [z]) n s = aheadP ns n s := by
  unfold aheadP
  rw [findP_snoc_some z h]

theorem need_snoc {ns : List Nd} (z n : Nd) (T : List Nat) (h : ∀ s ∈ n.after, (findP ns s).isSome = true) : need (ns ++ [z]) T n = need ns T n := by
  unfold need
  apply List.countP_congr
  intro s hs
  rw [aheadP_snoc z n (h s hs)]

theorem mayB_snoc {ns : List Nd} (z : Nd) (T : List Nat) {i : Nat} (hi : i < ns.length) (h : ∀ s ∈ (ns[i]).after, (findP ns s).isSome = true) : mayB (ns ++ [z]) T i = mayB ns T i := by
  unfold mayB
  rw [List.getElem?_append_left hi, List.getElem?_eq_getElem hi]
  simp only []
  rw [need_snoc z _ T h]

theorem nextP_snoc {ns : List Nd} (z : Nd) {T : List Nat} (h : ∀ i (hi : i < ns.length), ∀ s ∈ (ns[i]).after, (findP ns s).isSome = true) {j : Nat} (hj : nextP ns T = some j) : nextP (ns ++ [z]) T = some j := by
  obtain ⟨h1, h2⟩ := nextP_is hj
  have hl := mayB_lt h1
  refine nextP_some (by rw [mayB_snoc z T hl (h j hl)]; exact h1) (fun k hk => ?_)
  have hkl : k < ns.length := by omega
  rw [mayB_snoc z T hkl (h k hkl)]
  exact h2 k hk

theorem ordK_snoc {ns : List Nd} (z : Nd) (h : ∀ i (hi : i < ns.length), ∀ s ∈ (ns[i]).after, (findP ns s).isSome = true) (m : Nat) : ∀ (k : Nat) (T : List Nat), (ordK ns k T).length = T.length + k → ordK (ns ++ [z]) (k + m) T = ordK (ns ++ [z]) m (ordK ns k T)
  | 0, T, _ => by simp [ordK]
  | k + 1, T, hlen => by
    rw [show k + 1 + m = (k + m) + 1 by omega]
    unfold ordK at hlen
    cases hn : nextP ns T with
    | none => rw [hn] at hlen; simp only [] at hlen; omega
    | some j =>
      rw [hn] at hlen
      simp only [] at hlen
      have e1 : ordK (ns ++ [z]) ((k + m) + 1) T = ordK (ns ++ [z]) (k + m) (T ++ [j]) := by
        rw [ordK, nextP_snoc z h hn]
      have e2 : ordK ns (k + 1) T = ordK ns k (T ++ [j]) := by rw [ordK, hn]
      rw [e1, e2]
      exact ordK_snoc z h m k (T ++ [j]) (by rw [hlen]; simp; omega)

/-- A node that stands behind all others is the last one. -/
theorem ordP_grow {name : ByteArray} {ns : List Nd} (T : Taken name ns) (z : Nd) (hz : z.after = ns.map (·.name)) (hf : findP ns z.name = none) : ordP (ns ++ [z]) = ordP ns ++ [ns.length] := by
  have ha : ∀ i (hi : i < ns.length), ∀ s ∈ (ns[i]).after, (findP ns s).isSome = true := fun i hi => (afterE_ok (T.aft i hi)).1
  have e : ordP (ns ++ [z]) = ordK (ns ++ [z]) 1 (ordP ns) := by
    unfold ordP
    rw [List.length_append]
    exact ordK_snoc z ha 1 ns.length [] (by have := T.ord; unfold ordP at this; rw [this]; simp)
  rw [e]
  have hall := ord_all T.ord
  have hnx : nextP (ns ++ [z]) (ordP ns) = some ns.length := by
    refine nextP_some ?_ (fun j hj => ?_)
    · refine mayB_of (n := z) (fun hm => absurd (ordP_lt ns _ hm) (Nat.lt_irrefl _)) (by simp) (fun s hs => ?_)
      rw [hz] at hs
      obtain ⟨n, hn, rfl⟩ := List.mem_map.1 hs
      have h1 := findP_mem hn
      obtain ⟨j, hj⟩ := Option.isSome_iff_exists.1 h1
      refine ⟨j, ?_, hall j (findP_lt hj)⟩
      unfold aheadP
      rw [if_neg (fun e => by rw [e, hf] at h1; cases h1), findP_snoc_some z h1, hj]
    · rw [mayB_snoc z _ hj (ha j hj)]
      unfold mayB
      simp [hall j hj]
  rw [ordK, hnx]
  rfl

theorem depK_snocNs {ns : List Nd} (z : Nd) (h : ∀ i (hi : i < ns.length), ∀ s ∈ (ns[i]).after, (findP ns s).isSome = true) : ∀ (od : List Nat), (∀ i ∈ od, i < ns.length) → ∀ st, od.foldl (depStep (ns ++ [z])) st = od.foldl (depStep ns) st
  | [], _, _ => rfl
  | i :: od, hod, st => by
    have hi := hod i (List.mem_cons_self ..)
    have hc : ∀ (l : List ByteArray) (R : Nat → Nat) (a : Nat), (∀ s ∈ l, (findP ns s).isSome = true) → curP (ns ++ [z]) R i a l = curP ns R i a l := by
      intro l R
      induction l with
      | nil => intro a _; rfl
      | cons s l ih =>
        intro a hs
        have e : fj (ns ++ [z]) s = fj ns s := by unfold fj; rw [findP_snoc_some z (hs s (List.mem_cons_self ..))]
        show curP (ns ++ [z]) R i (max a (if fj (ns ++ [z]) s = i then a else R (fj (ns ++ [z]) s))) l = curP ns R i (max a (if fj ns s = i then a else R (fj ns s))) l
        rw [e]
        exact ih _ (fun t ht => hs t (List.mem_cons_of_mem _ ht))
    have e : depStep (ns ++ [z]) st i = depStep ns st i := by
      unfold depStep
      rw [List.getElem?_append_left hi, List.getElem?_eq_getElem hi]
      simp only []
      rw [hc _ _ _ (h i hi)]
    rw [List.foldl_cons, List.foldl_cons, e]
    exact depK_snocNs z h od (fun k hk => hod k (List.mem_cons_of_mem _ hk)) _

theorem depP_grow {name : ByteArray} {ns : List Nd} (T : Taken name ns) (z : Nd) (hz : z.after = ns.map (·.name)) (hf : findP ns z.name = none) : depP (ns ++ [z]) = depP ns + 1 := by
  have ha : ∀ i (hi : i < ns.length), ∀ s ∈ (ns[i]).after, (findP ns s).isSome = true := fun i hi => (afterE_ok (T.aft i hi)).1
  have e : depK (ns ++ [z]) (ordP ns) = depK ns (ordP ns) := depK_snocNs z ha (ordP ns) (ordP_lt ns) _
  unfold depP
  rw [ordP_grow T z hz hf, depK_snoc, e]
  have O := lev_ord ns
  unfold depStep
  rw [show (ns ++ [z])[ns.length]? = some z by simp]
  simp only []
  have h0 : (depK ns (ordP ns)).1 ns.length = 0 := O.none ns.length (fun hm => absurd (ordP_lt ns _ hm) (Nat.lt_irrefl _))
  rw [h0]
  have hfj : ∀ s ∈ z.after, ∃ j, j < ns.length ∧ fj (ns ++ [z]) s = j := fun s hs => by
    rw [hz] at hs
    obtain ⟨n, hn, rfl⟩ := List.mem_map.1 hs
    have h1 := findP_mem hn
    obtain ⟨j, hj⟩ := Option.isSome_iff_exists.1 h1
    exact ⟨j, findP_lt hj, by unfold fj; rw [findP_snoc_some z h1, hj]; rfl⟩
  obtain ⟨c1, c2, c3⟩ := curP_new (ns := ns ++ [z]) (R := (depK ns (ordP ns)).1) (i := ns.length) z.after 0 (fun s hs e => by obtain ⟨j, hj, he⟩ := hfj s hs; omega)
  have hL : ∀ x, (depK ns (ordP ns)).1 x ≤ (depK ns (ordP ns)).2 := O.le
  have hle : curP (ns ++ [z]) (depK ns (ordP ns)).1 ns.length 0 z.after ≤ (depK ns (ordP ns)).2 := curP_le hL _ _ (Nat.zero_le _)
  have hge : (depK ns (ordP ns)).2 ≤ curP (ns ++ [z]) (depK ns (ordP ns)).1 ns.length 0 z.after := by
    rcases O.some with h | ⟨x, hx, hxe⟩
    · have h' : (depK ns (ordP ns)).2 = 0 := h
      omega
    · have hxl := ordP_lt ns x hx
      have hm : (ns[x]).name ∈ z.after := by rw [hz]; exact List.mem_map.2 ⟨_, List.getElem_mem hxl, rfl⟩
      have h1 := c2 _ hm
      have h2 : fj (ns ++ [z]) (ns[x]).name = x := by
        unfold fj
        rw [findP_snoc_some z (findP_mem (List.getElem_mem hxl)), T.self hxl]; rfl
      rw [h2] at h1
      have hxe' : (depK ns (ordP ns)).1 x = (depK ns (ordP ns)).2 := hxe
      omega
  omega

theorem taken_grow {name : ByteArray} {ns : List Nd} (T : Taken name ns) (h9 : ns.length ≤ 9) (z : Nd) (hz : z.after = ns.map (·.name)) (hf : findP ns z.name = none) (hn : namedP z = true) (hfit : fitsP z = true) : Taken name (ns ++ [z]) := by
  have ho := ordP_grow T z hz hf
  refine ⟨T.name, by simp, by simp; omega, fun i hi => ?_, fun i hi => ?_, by rw [ho]; simp [T.ord]⟩
  · by_cases e : i < ns.length
    · rw [List.getElem_append_left e]
      obtain ⟨h1, h2, h3⟩ := nodeE_ok (T.nod i e)
      exact nodeE_of h1 (by rw [findP_snoc_some z (findP_mem (List.getElem_mem e))]; exact h2) h3
    · have e2 : i = ns.length := by simp at hi; omega
      subst e2
      simp only [List.getElem_append_right (Nat.le_refl _), Nat.sub_self, List.getElem_cons_zero]
      exact nodeE_of hn (by rw [findP_snoc, hf]; simp) hfit
  · by_cases e : i < ns.length
    · rw [List.getElem_append_left e]
      obtain ⟨h1, h2⟩ := afterE_ok (T.aft i e)
      exact afterE_of (fun s hs => by rw [findP_snoc_some z (h1 s hs)]; exact h1 s hs) h2
    · have e2 : i = ns.length := by simp at hi; omega
      subst e2
      simp only [List.getElem_append_right (Nat.le_refl _), Nat.sub_self, List.getElem_cons_zero]
      refine afterE_of (fun s hs => ?_) ?_
      · rw [hz] at hs
        obtain ⟨n, hn, rfl⟩ := List.mem_map.1 hs
        rw [findP_snoc_some z (findP_mem hn)]
        exact findP_mem hn
      · rw [hz, List.nodup_iff_pairwise_ne, List.pairwise_iff_getElem]
        intro i j hi hj hij e
        simp only [List.getElem_map] at e
        simp at hi hj
        have := T.inj hi hj e
        omega

/-- No name in its After means itself. -/
theorem Taken.few {name : ByteArray} {ns : List Nd} (T : Taken name ns) {i : Nat} (hi : i < ns.length) : (ns[i]).after.length ≤ ns.length := by
  obtain ⟨h1, h2⟩ := afterE_ok (T.aft i hi)
  have h3 : ((ns[i]).after.map (fj ns)).Nodup := by
    rw [List.nodup_iff_pairwise_ne, List.pairwise_iff_getElem]
    intro p q hp hq hpq e
    simp only [List.getElem_map] at e
    simp at hp hq
    have f1 := h1 _ (List.getElem_mem hp)
    have f2 := h1 _ (List.getElem_mem hq)
    obtain ⟨j1, g1⟩ := Option.isSome_iff_exists.1 f1
    obtain ⟨j2, g2⟩ := Option.isSome_iff_exists.1 f2
    unfold fj at e
    rw [g1, g2] at e
    simp at e
    subst e
    have n1 := findP_name g1
    have n2 := findP_name g2
    rw [n1] at n2
    have := (List.nodup_iff_pairwise_ne.1 h2)
    rw [List.pairwise_iff_getElem] at this
    exact this p q hp hq hpq n2
  have h4 := nodup_le h3 (n := ns.length) (fun k hk => by
    obtain ⟨s, hs, rfl⟩ := List.mem_map.1 hk
    obtain ⟨j, hj⟩ := Option.isSome_iff_exists.1 (h1 s hs)
    unfold fj; rw [hj]; exact findP_lt hj)
  simpa using h4

end Go.Proofs.YtalhdgelkomaiaaDoor
