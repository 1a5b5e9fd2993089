/-
  WorldKeeps holds for every bytes that were kept, every bytes more and every cuts: the law's call returns true and leaves its arguments as they were. No condition.
-/
import Derived.Test.YtbckemimaiajoaaLow
namespace Go.Proofs.Ytbckemimaiajoaa
open Go.ChangeShapes Go.WideShapes Go.ChangeAt Go.RowKit

/-- The disk ahead of the crash. -/
def kp1 (K : List Int) : DSt := DSt.new.append 3 K
def kp2 (K : List Int) : DSt := (kp1 K).sync 3
def kp3 (K M : List Int) : DSt := (kp2 K).append 3 M

theorem kp1e : DSt.new.err 3 = 0 := by decide
theorem kp1_rest (K : List Int) : (kp1 K).ops = 1 ∧ (kp1 K).stop = 9223372036854775807 ∧ (kp1 K).faults = DSt.new.after.faults := append_rest DSt.new 3 K
theorem kp1f (K : List Int) (x : Int) : (kp1 K).files x = if x = 3 ∧ K ≠ [] then some ⟨K, 0⟩ else none := by
  unfold kp1 DSt.append
  rw [if_pos kp1e]
  unfold DSt.put
  by_cases h : K = []
  · simp [h, DSt.after, DSt.new]
  · rw [if_neg h]
    simp only [setF, DSt.after, DSt.new, putF]
    by_cases e : x = 3 <;> simp [e, h]

theorem kp2e (K : List Int) : (kp1 K).err 3 = 0 := by
  obtain ⟨h1, h2, h3⟩ := kp1_rest K
  unfold DSt.err
  rw [h1, h2, h3]
  decide

theorem kp2_rest (K : List Int) : (kp2 K).ops = 2 ∧ (kp2 K).stop = 9223372036854775807 ∧ ∀ x, (kp2 K).faults x = none := by
  obtain ⟨h1, h2, h3⟩ := kp1_rest K
  have : (kp1 K).after.ops = 2 ∧ (kp1 K).after.stop = 9223372036854775807 ∧ ∀ x, (kp1 K).after.faults x = none := by
    refine ⟨by simp [DSt.after, h1], h2, fun x => ?_⟩
    simp only [DSt.after, h1, h3]
    split
    · rfl
    · split <;> rfl
  unfold kp2 DSt.sync
  rw [if_pos (kp2e K)]
  split
  · exact this
  · exact this

theorem kp2f (K : List Int) (x : Int) : (kp2 K).files x = if x = 3 ∧ K ≠ [] then some ⟨K, K.length⟩ else none := by
  unfold kp2 DSt.sync
  rw [if_pos (kp2e K), kp1f]
  by_cases h : K = []
  · rw [if_neg (by simp [h])]
    show (kp1 K).files x = _
    rw [kp1f]; simp [h]
  · rw [if_pos ⟨rfl, h⟩]
    simp only [setF]
    by_cases e : x = 3
    · simp [e, h]
    · rw [if_neg e, kp1f]; simp [e]

theorem kp3e (K : List Int) : (kp2 K).err 3 = 0 := by
  obtain ⟨h1, h2, h3⟩ := kp2_rest K
  unfold DSt.err
  rw [h1, h2, h3]
  decide

theorem kp3_ops (K M : List Int) : (kp3 K M).ops = 3 := by
  have := (append_rest (kp2 K) 3 M).1
  rw [(kp2_rest K).1] at this
  exact this

theorem kp3f (K M : List Int) (x : Int) : (kp3 K M).files x = if x = 3 ∧ K ++ M ≠ [] then some ⟨K ++ M, K.length⟩ else none := by
  unfold kp3 DSt.append
  rw [if_pos (kp3e K)]
  unfold DSt.put
  have hf : ∀ y, (kp2 K).after.files y = (kp2 K).files y := fun y => rfl
  by_cases h : M = []
  · rw [if_pos h, hf, kp2f]
    subst h
    simp
  · rw [if_neg h]
    simp only [setF]
    by_cases e : x = 3
    · subst e
      rw [if_pos rfl, hf, kp2f]
      by_cases hk : K = []
      · subst hk; simp [h, putF]
      · rw [if_pos ⟨rfl, hk⟩]; simp [hk, putF]
    · rw [if_neg e, hf, kp2f]; simp [e]

theorem kp3keys {K M l : List Int} (h : IsKeys (kp3 K M) l) : l = if K ++ M = [] then [] else [3] := by
  have hm : ∀ x, x ∈ l ↔ (x = 3 ∧ K ++ M ≠ []) := by
    intro x
    rw [h.mem x, kp3f]
    by_cases e : x = 3 ∧ K ++ M ≠ []
    · rw [if_pos e]; simp [e]
    · rw [if_neg e]; simp only [Option.isSome_none, Bool.false_eq_true, false_iff]; exact e
  by_cases hn : K ++ M = []
  · rw [if_pos hn]
    cases l with
    | nil => rfl
    | cons x r => exact absurd hn ((hm x).1 (by simp)).2
  · rw [if_neg hn]
    match l, h.rising, hm with
    | [], _, hm => exact absurd ((hm 3).2 ⟨rfl, hn⟩) (by simp)
    | [x], _, hm => rw [((hm x).1 (by simp)).1]
    | x :: y :: r, hr, hm =>
      have e1 := ((hm x).1 (by simp)).1
      have e2 := ((hm y).1 (by simp)).1
      have := (List.pairwise_cons.1 hr).1 y (by simp)
      omega

/-- What a crash leaves of the file: its bytes and how many are kept. -/
structure Left (K M b : List Int) (kept : Int) : Prop where
  kept : kept = b.length
  lo : K.length ≤ b.length
  hi : b.length ≤ K.length + M.length
  head : b.take K.length = K
  byte : ∀ x ∈ b, 0 ≤ x ∧ x ≤ 255
  more : ∀ i, K.length ≤ i → i < b.length → b.getD i 0 = M.getD (i - K.length) 0 ∨ (i = b.length - 1 ∧ b.getD i 0 = 255 - M.getD (i - K.length) 0)

theorem kp_left (K M cs l : List Int) (hl : IsKeys (kp3 K M) l) (hK : ∀ x ∈ K, 0 ≤ x ∧ x ≤ 255) (hM : ∀ x ∈ M, 0 ≤ x ∧ x ≤ 255) :
    Left K M (((kp3 K M).crash l cs).bytesOf 3) (((kp3 K M).crash l cs).keptOf 3) := by
  rw [kp3keys hl]
  have hf := kp3f K M 3
  by_cases hn : K ++ M = []
  · rw [if_pos hn]
    obtain ⟨rfl, rfl⟩ : K = [] ∧ M = [] := by simpa using hn
    have : ((kp3 [] []).crash [] cs).files 3 = none := by show (kp3 [] []).files 3 = none; rw [hf]; simp
    unfold DSt.bytesOf DSt.keptOf
    rw [this]
    exact ⟨rfl, by simp, by simp, by simp, by simp, by intro i _ h; simp at h⟩
  · rw [if_neg hn]
    rw [if_pos ⟨rfl, hn⟩] at hf
    have hc : ((kp3 K M).crash [3] cs).files 3 = cutF ⟨K ++ M, K.length⟩ (cs.headD 0) := by
      show ((kp3 K M).lose 3 (cs.headD 0)).files 3 = _
      unfold DSt.lose
      rw [hf]
      simp [setF]
    have hkl : (⟨K ++ M, K.length⟩ : DFile).kept ≤ (⟨K ++ M, K.length⟩ : DFile).bytes.length := by simp
    have hql := cutQ_le ⟨K ++ M, K.length⟩ (cs.headD 0) hkl
    have hqk : K.length ≤ cutQ ⟨K ++ M, K.length⟩ (cs.headD 0) := by unfold cutQ; simp
    have hqt : 0 < cutK ⟨K ++ M, K.length⟩ (cs.headD 0) → K.length < cutQ ⟨K ++ M, K.length⟩ (cs.headD 0) := by unfold cutQ; simp; omega
    unfold DSt.bytesOf DSt.keptOf
    rw [hc]
    unfold cutF cutB
    generalize cutQ ⟨K ++ M, K.length⟩ (cs.headD 0) = q at *
    generalize cutK ⟨K ++ M, K.length⟩ (cs.headD 0) = k at *
    simp only [List.length_append] at hql
    by_cases hq : q = 0
    · rw [if_pos hq]
      have : K = [] := List.eq_nil_of_length_eq_zero (by omega)
      subst this
      exact ⟨rfl, by simp, by simp, by simp, by simp, by intro i _ h; simp at h⟩
    · rw [if_neg hq]
      have hbb : ∀ x ∈ K ++ M, 0 ≤ x ∧ x ≤ 255 := fun x hx => (List.mem_append.1 hx).elim (hK x) (hM x)
      have hget : ∀ i, K.length ≤ i → i < q → ((K ++ M).take q)[i]? = M[i - K.length]? := by
        intro i h1 h2
        rw [List.getElem?_take_of_lt h2, List.getElem?_append_right h1]
      by_cases ht : 0 < k ∧ k % 2 = 0
      · rw [if_pos ht]
        have hqk2 := hqt ht.1
        have hlen : (((K ++ M).take q).set (q - 1) (255 - ((K ++ M)[q - 1]?).getD 0)).length = q := by simp; omega
        refine ⟨?_, ?_, ?_, ?_, ?_, ?_⟩
        · simp only [hlen]
        · simp only [hlen]; exact hqk
        · simp only [hlen]; exact hql
        · rw [List.take_set_of_le (by omega), List.take_take, Nat.min_eq_left hqk]; simp
        · intro x hx
          rcases List.mem_or_eq_of_mem_set hx with h | h
          · exact hbb x (List.mem_of_mem_take h)
          · have hlt : q - 1 < (K ++ M).length := by simp; omega
            have := hbb _ (List.getElem_mem hlt)
            rw [List.getElem?_eq_getElem hlt] at h
            simp only [Option.getD_some] at h
            omega
        · intro i h1 h2
          simp only [hlen] at h2 ⊢
          by_cases e : i = q - 1
          · right
            refine ⟨e, ?_⟩
            subst e
            rw [List.getD_eq_getElem?_getD, List.getElem?_set_self (by simp; omega), List.getD_eq_getElem?_getD, List.getElem?_append_right (by omega)]
            rfl
          · left
            rw [List.getD_eq_getElem?_getD, List.getElem?_set_ne (by omega), hget i h1 h2, List.getD_eq_getElem?_getD]
      · rw [if_neg ht]
        have hlen : ((K ++ M).take q).length = q := by simp; omega
        refine ⟨?_, ?_, ?_, ?_, ?_, ?_⟩
        · simp only [hlen]
        · simp only [hlen]; exact hqk
        · simp only [hlen]; exact hql
        · rw [List.take_take, Nat.min_eq_left hqk]; simp
        · intro x hx; exact hbb x (List.mem_of_mem_take hx)
        · intro i h1 h2
          simp only [hlen] at h2
          left
          rw [List.getD_eq_getElem?_getD, hget i h1 h2, List.getD_eq_getElem?_getD]

end Go.Proofs.Ytbckemimaiajoaa
