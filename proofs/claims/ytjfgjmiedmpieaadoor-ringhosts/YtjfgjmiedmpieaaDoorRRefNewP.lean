/-
  The document's New in plain terms: the row that put makes, and the hosts in rising order.
-/
import Derived.Test.YtjfgjmiedmpieaaDoorRRefPut
import Derived.Test.YtjfgjmiedmpieaaDoorRHm
import Derived.Test.YtjfgjmiedmpieaaDoorRWakes
namespace Go.Proofs.YtjfgjmiedmpieaaDoor
open Go.RowKit Go.Sort

/-- Where put lays a spot. -/
def PutAt (l : List Sp) (x : Sp) (k : Nat) : Prop := k ≤ l.length ∧ (∀ j (hj : j < l.length), k ≤ j → ahead x.1 (l[j]'hj).1 = true) ∧ ∀ (hk : k - 1 < l.length), 0 < k → ahead x.1 (l[k - 1]'hk).1 = false

--@pure
theorem put_perm (l : List Sp) (x : Sp) (k : Nat) : (l.take k ++ [x] ++ l.drop k).Perm (l ++ [x]) := by
  have h := List.Perm.append_left (l.take k) (List.perm_append_comm (l₁ := [x]) (l₂ := l.drop k))
  rw [← List.append_assoc, ← List.append_assoc, List.take_append_drop] at h
  exact h

theorem put_sorted {l : List Sp} {x : Sp} {k : Nat} (hs : l.Pairwise noLater) (hp : PutAt l x k) (hh : ∀ y ∈ l, y.2 ≤ x.2) : (l.take k ++ [x] ++ l.drop k).Pairwise noLater := by
  obtain ⟨hk, hall, hno⟩ := hp
  have hs2 : (l.take k ++ l.drop k).Pairwise noLater := by rw [List.take_append_drop]; exact hs
  obtain ⟨h1, h2, h3⟩ := List.pairwise_append.1 hs2
  have hx : ∀ a ∈ l.take k, noLater a x := by
    intro a ha
    obtain ⟨j, hj, rfl⟩ := List.mem_take_iff_getElem.1 ha
    have hjl : j < l.length := by omega
    have hkl : k - 1 < l.length := by omega
    have hn := (ahead_no _ _).1 (hno hkl (by omega))
    have hy := hh _ (List.getElem_mem hjl)
    have hjk : noLater (l[j]'hjl) (l[k - 1]'hkl) := by
      rcases Nat.lt_or_ge j (k - 1) with h | h
      · exact List.pairwise_iff_getElem.1 hs j (k - 1) hjl hkl h
      · obtain rfl : j = k - 1 := by omega
        exact noLater_refl _
    rw [noLater_iff] at hjk ⊢
    omega
  have hd : ∀ b ∈ l.drop k, noLater x b := by
    intro b hb
    obtain ⟨j, hj, rfl⟩ := List.mem_iff_getElem.1 hb
    rw [List.length_drop] at hj
    rw [List.getElem_drop]
    have ha := (ahead_iff _ _).1 (hall (k + j) (by omega) (by omega))
    rw [noLater_iff]
    omega
  rw [List.append_assoc]
  refine List.pairwise_append.2 ⟨h1, List.pairwise_append.2 ⟨List.pairwise_singleton _ _, h2, fun a ha b hb => ?_⟩, fun a ha b hb => ?_⟩
  · rw [List.mem_singleton] at ha
    subst ha
    exact hd b hb
  · rcases List.mem_append.1 hb with hb | hb
    · rw [List.mem_singleton] at hb
      subst hb
      exact hx a ha
    · exact h3 a ha b hb

/-- The hosts below h, rising. -/
def refHosts (zs : List Int) (h : Nat) : List Int := ((List.range h).map (fun n : Nat => (n : Int))).filter (fun z => decide (z ∈ zs))

theorem refHosts_zero (zs : List Int) : refHosts zs 0 = [] := rfl
theorem refHosts_next (zs : List Int) (h : Nat) : refHosts zs (h + 1) = refHosts zs h ++ (if (h : Int) ∈ zs then [(h : Int)] else []) := by
  unfold refHosts
  rw [List.range_succ, List.map_append, List.filter_append]
  by_cases hz : (h : Int) ∈ zs <;> simp [hz]

theorem mem_refHosts {zs : List Int} {h : Nat} {z : Int} : z ∈ refHosts zs h ↔ z ∈ zs ∧ 0 ≤ z ∧ z < h := by
  unfold refHosts
  simp only [List.mem_filter, List.mem_map, List.mem_range, decide_eq_true_eq]
  constructor
  · rintro ⟨⟨n, hn, rfl⟩, hz⟩
    exact ⟨hz, by omega, by omega⟩
  · rintro ⟨hz, h0, h1⟩
    exact ⟨⟨z.toNat, by omega, by omega⟩, hz⟩

theorem refHosts_lt (zs : List Int) (h : Nat) : (refHosts zs h).Pairwise (· < ·) := by
  unfold refHosts
  refine List.Pairwise.filter _ (List.pairwise_map.2 (List.pairwise_lt_range.imp fun h => ?_))
  omega

theorem nodup_of_lt {l : List Int} (h : l.Pairwise (· < ·)) : l.Nodup := h.imp (fun h e => by omega)

theorem lt_eq {l l' : List Int} (h : l.Pairwise (· < ·)) (h' : l'.Pairwise (· < ·)) (hm : ∀ z, z ∈ l ↔ z ∈ l') : l = l' :=
  List.Perm.eq_of_pairwise (fun a b _ _ h1 h2 => by omega) h h' ((List.perm_ext_iff_of_nodup (nodup_of_lt h) (nodup_of_lt h')).2 hm)

theorem refHosts_perm {zs : List Int} (h : Right zs) : (refHosts zs 16).Perm zs :=
  (List.perm_ext_iff_of_nodup (nodup_of_lt (refHosts_lt _ _)) h.2).2 fun z => by
    rw [mem_refHosts]
    exact ⟨fun h => h.1, fun hz => ⟨hz, (h.1 z hz).1, (h.1 z hz).2⟩⟩

theorem compact_keeps {d : Array Int} {i : Nat} (h : Lib.keeps d i = true) (hi : 0 < i) : d[i - 1]! ≠ d[i]! := by
  unfold Lib.keeps at h
  simp at h
  rcases h with h | h
  · omega
  · intro e
    first | exact h e | exact h e.symm

theorem compactUpTo_mem (d : Array Int) : ∀ (m : Nat) (i : Nat), i < m → d[i]! ∈ Lib.compactUpTo d m := by
  intro m
  induction m with
  | zero => intro i hi; omega
  | succ m ih =>
    intro i hi
    rw [Lib.compactUpTo_succ, List.mem_append]
    rcases Nat.lt_or_ge i m with h | h
    · exact .inl (ih i h)
    · obtain rfl : i = m := by omega
      by_cases hk : Lib.keeps d i = true
      · rw [if_pos hk]; exact .inr (List.mem_singleton.2 rfl)
      · rw [if_neg hk]
        refine .inl ?_
        have hk' : ¬ i = 0 ∧ d[i - 1]! = d[i]! := by
          unfold Lib.keeps at hk
          simp at hk
          omega
        rw [← hk'.2]
        exact ih (i - 1) (by omega)

theorem compact_mem {s : List Int} {z : Int} : z ∈ Lib.compact s ↔ z ∈ s := by
  constructor
  · intro h
    unfold Lib.compact Lib.compactUpTo at h
    obtain ⟨i, hi, rfl⟩ := List.mem_map.1 h
    have hi2 : i < s.length := List.mem_range.1 (List.mem_filter.1 hi).1
    rw [getElem!_pos s.toArray i (by simpa using hi2)]
    simp
  · intro h
    obtain ⟨i, hi, rfl⟩ := List.mem_iff_getElem.1 h
    have := compactUpTo_mem s.toArray s.length i hi
    rw [getElem!_pos s.toArray i (by simpa using hi)] at this
    simpa [Lib.compact] using this

theorem compact_lt {s : List Int} (hs : s.Pairwise (· ≤ ·)) : (Lib.compact s).Pairwise (· < ·) := by
  unfold Lib.compact Lib.compactUpTo
  refine List.pairwise_map.2 ?_
  refine (List.Pairwise.and (List.Pairwise.filter (Lib.keeps s.toArray) (List.pairwise_lt_range (n := s.length))) (List.pairwise_of_forall_mem_list (r := fun i j => (i < s.length ∧ Lib.keeps s.toArray i = true) ∧ (j < s.length ∧ Lib.keeps s.toArray j = true)) (fun i hi j hj => ?_))).imp ?_
  · exact ⟨⟨List.mem_range.1 (List.mem_filter.1 hi).1, (List.mem_filter.1 hi).2⟩, ⟨List.mem_range.1 (List.mem_filter.1 hj).1, (List.mem_filter.1 hj).2⟩⟩
  · rintro i j ⟨hij, ⟨hi, _⟩, ⟨hj, kj⟩⟩
    have hne := compact_keeps kj (by omega)
    have e : ∀ k (hk : k < s.length), s.toArray[k]! = s[k]'hk := fun k hk => by rw [getElem!_pos s.toArray k (by simpa using hk)]; simp
    rw [e i hi, e j hj]
    rw [e (j - 1) (by omega), e j hj] at hne
    have h1 : s[j - 1]'(by omega) ≤ s[j]'hj := List.pairwise_iff_getElem.1 hs (j - 1) j (by omega) hj (by omega)
    have h2 : s[i]'hi ≤ s[j - 1]'(by omega) := by
      rcases Nat.lt_or_ge i (j - 1) with h | h
      · exact List.pairwise_iff_getElem.1 hs i (j - 1) hi (by omega) h
      · obtain rfl : i = j - 1 := by omega
        omega
    omega

/-- The hosts that the ring tells are the document's. -/
theorem hostsL_eq {zs : List Int} {n : Nat} {l : List Sp} (h : Right zs) (hn : 0 < n) (hp : l.Perm (allSpots zs n)) : hostsL l = refHosts zs 16 := by
  refine lt_eq (compact_lt ?_) (refHosts_lt _ _) (fun z => ?_)
  · exact (List.pairwise_mergeSort (le := fun x y : Int => decide (x ≤ y)) (fun a b c => by simp; omega) (fun a b => by simp; omega) _).imp (fun h => by simpa using h)
  · unfold hostsL
    rw [compact_mem, (List.mergeSort_perm _ _).mem_iff, mem_refHosts, List.mem_map]
    constructor
    · rintro ⟨x, hx, rfl⟩
      obtain ⟨y, hy, k, _, rfl⟩ := mem_allSpots.1 (hp.mem_iff.1 hx)
      have := h.1 y hy
      show ((y.toNat : Nat) : Int) ∈ zs ∧ _
      rw [Int.toNat_of_nonneg this.1]
      exact ⟨hy, this.1, this.2⟩
    · rintro ⟨hz, h0, _⟩
      exact ⟨_, hp.mem_iff.2 (mem_allSpots.2 ⟨z, hz, 0, hn, rfl⟩), Int.toNat_of_nonneg h0⟩

end Go.Proofs.YtjfgjmiedmpieaaDoor
