/-
  Frames behind each other, cut somewhere: what is told of them, as data.
-/
import Derived.Test.YtchdmlckicipcaaCFrames
namespace Go.Proofs.Ytchdmlckicipcaa
open Go.RowKit

def flatF (ps : List (List Int)) : List Int := ps.flatMap frameB

def startF (ps : List (List Int)) (i : Nat) : Nat := (flatF (ps.take i)).length

theorem frameB_head (p more : List Int) : ((frameB p ++ more).drop 0).take 4 = low 4 p.length := by
  unfold frameB
  rw [List.drop_zero, List.append_assoc, List.take_left' (low_length 4 _)]

theorem frameB_sum (p more : List Int) : ((frameB p ++ more).drop 4).take 4 = low 4 (crc p) := by
  unfold frameB
  rw [List.append_assoc, List.drop_left' (low_length 4 _), List.append_assoc, List.take_left' (low_length 4 _)]

theorem frameB_pay (p more : List Int) : ((frameB p ++ more).drop 8).take p.length = p := by
  have h : frameB p ++ more = (low 4 p.length ++ low 4 (crc p)) ++ (p ++ more) := by unfold frameB; simp [List.append_assoc]
  rw [h, List.drop_left' (by simp [low_length]), List.take_left' rfl]

theorem unfr_pre (p more : List Int) (hp : Bs p) (hl : p.length ≤ 100) : unfr (frameB p ++ more) = some p := by
  have hlen : (frameB p ++ more).length = 8 + p.length + more.length := by rw [List.length_append, frameB_length]
  have hv : valB (((frameB p ++ more).drop 0).take 4) = (p.length : Int) := by rw [frameB_head, valB_low4 (by omega)]
  unfold unfr
  rw [if_neg (by omega), hv, Int.toNat_natCast, if_neg (by omega), frameB_pay, frameB_sum, valB_low4 (crc_lt p hp), if_pos rfl]

theorem unfr_cut (p more : List Int) (hl : p.length ≤ 100) (q : Nat) (hq : q < 8 + p.length) : unfr ((frameB p ++ more).take q) = none := by
  have hlen : ((frameB p ++ more).take q).length = q := by rw [List.length_take, List.length_append, frameB_length]; omega
  unfold unfr
  by_cases h8 : q < 8
  · rw [if_pos (by omega)]
  · rw [if_neg (by omega)]
    have hh : (((frameB p ++ more).take q).drop 0).take 4 = low 4 p.length := by
      rw [List.drop_zero, List.take_take, Nat.min_eq_left (by omega), ← frameB_head p more, List.drop_zero]
    rw [hh, valB_low4 (by omega), Int.toNat_natCast, if_pos (.inr (by omega))]

theorem startF_succ (ps : List (List Int)) (i : Nat) (p : List Int) (h : ps[i]? = some p) : startF ps (i + 1) = startF ps i + (8 + p.length) := by
  unfold startF flatF
  rw [List.take_add_one, h, List.flatMap_append, List.length_append]
  simp [frameB_length]

theorem flat_drop (ps : List (List Int)) (i : Nat) : (flatF ps).drop (startF ps i) = flatF (ps.drop i) := by
  have h : flatF ps = flatF (ps.take i) ++ flatF (ps.drop i) := by
    unfold flatF
    rw [← List.flatMap_append, List.take_append_drop]
  rw [h, startF, List.drop_left' rfl]

theorem raw_drop (ps : List (List Int)) (i k : Nat) : ((flatF ps).take k).drop (startF ps i) = (flatF (ps.drop i)).take (k - startF ps i) := by
  rw [List.drop_take, flat_drop]

/-- Those whose frames lie ahead of the cut are told. -/
theorem tells_split (ps : List (List Int)) (hb : ∀ p ∈ ps, Bs p ∧ p.length ≤ 100) (k t : Nat) (ht : t ≤ ps.length) (hk : startF ps t ≤ k) (hend : t = ps.length ∨ k < startF ps (t + 1)) : ∀ d, d ≤ t → Tells ((flatF ps).take k) (startF ps (t - d)) ((List.range' (t - d) d).map (startF ps)) := by
  have mono : ∀ i j, i ≤ j → startF ps i ≤ startF ps j := by
    intro i j hij
    unfold startF flatF
    have : ps.take i = (ps.take j).take i := by rw [List.take_take, Nat.min_eq_left hij]
    rw [this]
    conv => rhs; rw [← List.take_append_drop i (ps.take j), List.flatMap_append, List.length_append]
    omega
  intro d
  induction d with
  | zero =>
    intro _
    refine .stop _ ?_
    rw [Nat.sub_zero, raw_drop ps t k]
    rcases hend with rfl | hlt
    · rw [List.drop_length, show flatF [] = [] from rfl, List.take_nil]
      rfl
    · by_cases htl : t < ps.length
      · have hp : ps[t]? = some ps[t] := List.getElem?_eq_getElem htl
        have hs := startF_succ ps t _ hp
        rw [List.drop_eq_getElem_cons htl]
        show unfr ((frameB ps[t] ++ flatF (ps.drop (t + 1))).take (k - startF ps t)) = none
        exact unfr_cut _ _ (hb _ (List.getElem_mem htl)).2 _ (by omega)
      · rw [List.drop_eq_nil_of_le (by omega), show flatF [] = [] from rfl, List.take_nil]
        rfl
  | succ d ih =>
    intro hd
    have ih := ih (by omega)
    have htl : t - (d + 1) < ps.length := by omega
    have hp : ps[t - (d + 1)]? = some ps[t - (d + 1)] := List.getElem?_eq_getElem htl
    have hs := startF_succ ps (t - (d + 1)) _ hp
    have e : t - (d + 1) + 1 = t - d := by omega
    rw [e] at hs
    have hkd := mono (t - d) t (by omega)
    have hr : List.range' (t - (d + 1)) (d + 1) = (t - (d + 1)) :: List.range' (t - d) d := by rw [List.range'_succ, e]
    rw [hr, List.map_cons]
    refine .go _ ps[t - (d + 1)] _ ?_ (by rw [← hs]; exact ih)
    rw [raw_drop ps _ k, List.drop_eq_getElem_cons htl]
    show unfr ((frameB ps[t - (d + 1)] ++ flatF (ps.drop (t - (d + 1) + 1))).take (k - startF ps (t - (d + 1)))) = _
    rw [List.take_append, List.take_of_length_le (by rw [frameB_length]; omega)]
    exact unfr_pre _ _ (hb _ (List.getElem_mem htl)).1 (hb _ (List.getElem_mem htl)).2

/-- How many frames lie ahead of a cut. -/
theorem split_count (ps : List (List Int)) (k : Nat) : ∃ t, t ≤ ps.length ∧ startF ps t ≤ k ∧ (t = ps.length ∨ k < startF ps (t + 1)) := by
  have go : ∀ d, d ≤ ps.length → (∃ t, t ≤ ps.length ∧ startF ps t ≤ k ∧ (t = ps.length ∨ k < startF ps (t + 1))) ∨ startF ps d ≤ k := by
    intro d
    induction d with
    | zero => intro _; right; simp [startF, flatF]
    | succ d ih =>
      intro hd
      rcases ih (by omega) with h | h
      · exact .inl h
      · by_cases hk : startF ps (d + 1) ≤ k
        · exact .inr hk
        · exact .inl ⟨d, by omega, h, .inr (by omega)⟩
  rcases go ps.length (Nat.le_refl _) with h | h
  · exact h
  · exact ⟨ps.length, Nat.le_refl _, h, .inl rfl⟩

theorem tells_all (ps : List (List Int)) (hb : ∀ p ∈ ps, Bs p ∧ p.length ≤ 100) (k t : Nat) (ht : t ≤ ps.length) (hk : startF ps t ≤ k) (hend : t = ps.length ∨ k < startF ps (t + 1)) : Tells ((flatF ps).take k) 0 ((List.range t).map (startF ps)) := by
  have h := tells_split ps hb k t ht hk hend t (Nat.le_refl _)
  rw [Nat.sub_self, ← List.range_eq_range'] at h
  have e : startF ps 0 = 0 := by simp [startF, flatF]
  rw [e] at h
  exact h

end Go.Proofs.Ytchdmlckicipcaa
