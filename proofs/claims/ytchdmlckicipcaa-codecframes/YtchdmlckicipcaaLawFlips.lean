/-
  The walk of CodecFlips.
-/
import Derived.Test.YtchdmlckicipcaaCUnfr
import Derived.Test.YtchdmlckicipcaaCWakes
namespace Go.Proofs.Ytchdmlckicipcaa
open Go.ChangeShapes Go.WideShapes Go.ChangeAt Go.RowKit

theorem frameB_length (p : List Int) : (frameB p).length = 8 + p.length := by
  unfold frameB
  simp only [List.length_append, low_length]
  omega

theorem frameB_bs {p : List Int} (hp : Bs p) : Bs (frameB p) := (low_bs _ _).append ((low_bs _ _).append hp)

theorem valB_low4 {x : Nat} (h : x < 4294967296) : valB (low 4 x) = x := by
  unfold valB
  rw [fold_low, Int.zero_mul, Int.zero_add, Nat.mod_eq_of_lt (by simpa using h)]

theorem frame_head (p : List Int) : ((frameB p).drop 0).take 4 = low 4 p.length := by
  unfold frameB
  rw [List.drop_zero, List.take_left' (low_length _ _)]

theorem frame_sum (p : List Int) : ((frameB p).drop 4).take 4 = low 4 (crc p) := by
  unfold frameB
  rw [List.drop_left' (low_length 4 _), List.take_left' (low_length _ _)]

theorem frame_pay (p : List Int) : ((frameB p).drop 8).take p.length = p := by
  unfold frameB
  rw [← List.append_assoc, List.drop_left' (by rw [List.length_append, low_length, low_length]), List.take_length]

/-- What is framed is found again. -/
theorem unfr_frame (p : List Int) (hp : Bs p) (hl : p.length ≤ 1048576) : unfr (frameB p) = some p := by
  unfold unfr
  rw [frame_head, valB_low4 (by omega), Int.toNat_natCast, frame_pay, frame_sum, valB_low4 (crc_lt p hp), frameB_length, if_neg (by omega), if_neg (by omega), if_pos rfl]

theorem drop_set_lo {l : List Int} {k i : Nat} {y : Int} (h : k < i) : (l.set k y).drop i = l.drop i := by
  rw [List.drop_set, if_pos h]

/-- A changed byte behind the length is seen. -/
theorem unfr_flip (p : List Int) (hp : Bs p) (hl : p.length ≤ 1048576) (k : Nat) (hk4 : 4 ≤ k) (hk : k < 8 + p.length) (y : Int) (h0 : 0 ≤ y) (h1 : y ≤ 255) (hne : y ≠ (frameB p).getD k 0) : unfr ((frameB p).set k y) = none := by
  have hlen := frameB_length p
  have hhead : (((frameB p).set k y).drop 0).take 4 = low 4 p.length := by
    rw [List.drop_zero, List.take_set, ← frame_head p, List.drop_zero]
    apply List.set_eq_of_length_le
    rw [List.length_take]
    omega
  unfold unfr
  rw [hhead, valB_low4 (by omega), Int.toNat_natCast, List.length_set, hlen, if_neg (by omega), if_neg (by omega)]
  rw [if_neg]
  intro h
  by_cases hk8 : k < 8
  · obtain ⟨j, rfl⟩ : ∃ j, k = 4 + j := ⟨k - 4, by omega⟩
    have e1 : (((frameB p).set (4 + j) y).drop 8).take p.length = p := by rw [drop_set_lo (by omega), frame_pay]
    have e2 : (((frameB p).set (4 + j) y).drop 4).take 4 = (low 4 (crc p)).set j y := by
      rw [List.drop_set, if_neg (by omega), List.take_set, frame_sum]
      congr 1
      omega
    rw [e1, e2, ← valB_low4 (crc_lt p hp)] at h
    have hbs : Bs ((low 4 (crc p)).set j y) := by
      intro z hz
      rcases List.mem_or_eq_of_mem_set hz with hm | rfl
      · exact low_bs _ _ z hm
      · exact ⟨h0, h1⟩
    have h2 := valB_inj (low_bs 4 (crc p)) hbs (by rw [List.length_set]) h
    have hj : j < (low 4 (crc p)).length := by rw [low_length]; omega
    have h3 : (low 4 (crc p)).getD j 0 = y := by
      rw [h2, List.getD_eq_getElem?_getD, List.getElem?_set_self (by rw [low_length] at hj ⊢; exact hj)]
      rfl
    apply hne
    rw [← h3, ← frame_sum p, piece_getD (by rw [low_length] at hj; exact hj)]
  · obtain ⟨j, rfl⟩ : ∃ j, k = 8 + j := ⟨k - 8, by omega⟩
    have e1 : (((frameB p).set (8 + j) y).drop 8).take p.length = p.set j y := by
      rw [List.drop_set, if_neg (by omega), List.take_set, frame_pay]
      congr 1
      omega
    have e2 : (((frameB p).set (8 + j) y).drop 4).take 4 = low 4 (crc p) := by
      rw [List.drop_set, if_neg (by omega), List.take_set, frame_sum]
      apply List.set_eq_of_length_le
      rw [low_length]
      omega
    rw [e1, e2, valB_low4 (crc_lt p hp)] at h
    refine crc_set p hp j y (by omega) h0 h1 ?_ (by exact_mod_cast h)
    intro e
    apply hne
    rw [e]
    have := piece_getD (raw := frameB p) (i := 8) (k := p.length) (j := j) (by omega)
    rw [frame_pay] at this
    exact this

end Go.Proofs.Ytchdmlckicipcaa
