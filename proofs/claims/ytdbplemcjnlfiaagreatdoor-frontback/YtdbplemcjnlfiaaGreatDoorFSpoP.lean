/-
  A beginning of a body is none, as data: what is read of a beginning is read of the whole alike. Nothing here speaks of a program.
-/
import Derived.Test.YtdbplemcjnlfiaaGreatDoorFPure
namespace Go.Proofs.YtdbplemcjnlfiaaGreatDoor
open Go.RowKit

/-- t is a beginning of s. -/
structure Pre (t s : ByteArray) : Prop where
  le : t.size ≤ s.size
  get : ∀ i, i < t.size → s.data.toList[i]? = t.data.toList[i]?

theorem pre_extract (s : ByteArray) (k : Nat) (h : k ≤ s.size) : Pre (s.extract 0 k) s ∧ (s.extract 0 k).size = k := by
  have hz : (s.extract 0 k).size = k := by rw [ByteArray.size_extract]; omega
  refine ⟨⟨by omega, fun i hi => ?_⟩, hz⟩
  rw [hz] at hi
  have e : (s.extract 0 k).data.toList = s.data.toList.take k := by
    rw [ByteArray.data_extract, Array.toList_extract]
    simp [List.extract]
  rw [e, List.getElem?_take, if_pos hi]

section
variable {t s : ByteArray} (hp : Pre t s)
include hp

theorem pre_some {i : Nat} {b : UInt8} (h : t.data.toList[i]? = some b) : s.data.toList[i]? = some b ∧ i < t.size := by
  have hi : i < t.size := by
    have := (List.getElem?_eq_some_iff.1 h).1
    simpa using this
  rw [hp.get i hi]
  exact ⟨h, hi⟩

theorem pre_at {i : Nat} (hi : i < t.size) : s[i]'(Nat.lt_of_lt_of_le hi hp.le) = t[i]'hi := by
  have h := hp.get i hi
  rw [get_lt s (Nat.lt_of_lt_of_le hi hp.le), get_lt t hi] at h
  exact Option.some.inj h

theorem pre_stands {i : Nat} {c : UInt8} (h : standsP t i c = true) : standsP s i c = true := by
  have hi := standsP_some t h
  unfold standsP at h ⊢
  rw [hp.get i hi]
  exact h

theorem pre_standsN {i : Nat} (c : UInt8) (hi : i < t.size) : standsP s i c = standsP t i c := by
  unfold standsP
  rw [hp.get i hi]

theorem pre_skip : ∀ (n i : Nat), t.size - i ≤ n → skipP t i < t.size → skipP s i = skipP t i
  | n, i, hn, h => by
    have hi : i < t.size := Nat.lt_of_le_of_lt (skipP_ge t i) h
    have hs : i < s.size := Nat.lt_of_lt_of_le hi hp.le
    cases hb : blankB (t[i]'hi) with
    | false => rw [skipP_stop t hi hb, skipP_stop s hs (by rw [pre_at hp hi]; exact hb)]
    | true =>
      rw [skipP_next t hi hb, skipP_next s hs (by rw [pre_at hp hi]; exact hb)]
      rw [skipP_next t hi hb] at h
      cases n with
      | zero => omega
      | succ n => exact pre_skip n (i + 1) (by omega) h

theorem pre_skipN {i : Nat} (h : skipP t i < t.size) : skipP s i = skipP t i := pre_skip hp _ i (Nat.le_refl _) h

theorem pre_hexF (a : Nat) : ∀ (k next : Nat) (c : Int), (hexF t a k next c).2.2 = true → hexF s a k next c = hexF t a k next c
  | 0, next, c, _ => rfl
  | k + 1, next, c, h => by
    unfold hexF at h ⊢
    cases hb : t.data.toList[next]? with
    | none => rw [hb] at h; cases h
    | some b =>
      rw [hb] at h
      rw [(pre_some hp hb).1]
      simp only at h ⊢
      split
      · rfl
      · rename_i hd
        rw [if_neg hd] at h
        exact pre_hexF a k (next + 1) _ h

theorem pre_escP {i : Nat} (h : (escP t i).2.2 = true) : escP s i = escP t i := by
  unfold escP at h ⊢
  cases hb : t.data.toList[i + 1]? with
  | none => rw [hb] at h; cases h
  | some b =>
    rw [hb] at h
    rw [(pre_some hp hb).1]
    simp only at h ⊢
    repeat' split
    all_goals first
      | rfl
      | (simp only [*, if_true] at h; exact pre_hexF hp i 4 (i + 2) 0 h)

theorem pre_get! {j : Nat} (hj : j < t.size) : s.get! j = t.get! j := by
  have key : ∀ (u : ByteArray) (h : j < u.size), u.get! j = u[j]'h := fun u h => by
    show u.data[j]! = _
    rw [getElem!_pos u.data j h]
    rfl
  rw [key s (Nat.lt_of_lt_of_le hj hp.le), key t hj, pre_at hp hj]

omit hp in
theorem decodeN_pre {n m b0 b1 b2 b3 c1 c2 c3 : Nat} (hn : n ≤ m) (h1 : 1 < n → c1 = b1) (h2 : 2 < n → c2 = b2) (h3 : 3 < n → c3 = b3)
    (h : ¬ ((Lib.decodeN n b0 b1 b2 b3).1 = 65533 ∧ (Lib.decodeN n b0 b1 b2 b3).2 = 1)) : Lib.decodeN m b0 c1 c2 c3 = Lib.decodeN n b0 b1 b2 b3 := by
  unfold Lib.decodeN at h ⊢
  by_cases a0 : b0 < 128
  · rw [if_pos a0, if_pos a0]
  rw [if_neg a0] at h
  rw [if_neg a0, if_neg a0]
  by_cases a1 : b0 / 32 = 6 ∧ (1 < n ∧ b1 / 64 = 2)
  · have e1 := h1 a1.2.1
    subst e1
    rw [if_pos a1, if_pos ⟨a1.1, by omega, a1.2.2⟩]
  rw [if_neg a1] at h
  rw [if_neg a1]
  by_cases a2 : b0 / 16 = 14 ∧ (1 < n ∧ b1 / 64 = 2) ∧ (2 < n ∧ b2 / 64 = 2)
  · have e1 := h1 a2.2.1.1
    have e2 := h2 a2.2.2.1
    subst e1 e2
    rw [if_neg (by omega), if_pos a2, if_pos ⟨a2.1, ⟨by omega, a2.2.1.2⟩, by omega, a2.2.2.2⟩]
  rw [if_neg a2] at h
  rw [if_neg a2]
  by_cases a3 : b0 / 8 = 30 ∧ (1 < n ∧ b1 / 64 = 2) ∧ (2 < n ∧ b2 / 64 = 2) ∧ (3 < n ∧ b3 / 64 = 2)
  · have e1 := h1 a3.2.1.1
    have e2 := h2 a3.2.2.1.1
    have e3 := h3 a3.2.2.2.1
    subst e1 e2 e3
    rw [if_neg (by omega), if_neg (by omega), if_pos a3, if_pos ⟨a3.1, ⟨by omega, a3.2.1.2⟩, ⟨by omega, a3.2.2.1.2⟩, by omega, a3.2.2.2.2⟩]
  rw [if_neg a3] at h
  exact absurd ⟨rfl, rfl⟩ h

theorem pre_decode {i : Nat} (hi : i < t.size) (h : ¬ ((Utf8.decode t i).1 = 65533 ∧ (Utf8.decode t i).2 = 1)) : Utf8.decode s i = Utf8.decode t i := by
  have hl := hp.le
  rw [Lib.decode_at] at h
  rw [Lib.decode_at, Lib.decode_at, pre_get! hp hi]
  exact decodeN_pre (by omega) (fun h => by rw [pre_get! hp (by omega)]) (fun h => by rw [pre_get! hp (by omega)]) (fun h => by rw [pre_get! hp (by omega)]) h

theorem pre_charP {i : Nat} (h : (charP t i).2.2 = true) : charP s i = charP t i := by
  unfold charP at h ⊢
  cases hb : t.data.toList[i]? with
  | none => rw [hb] at h; cases h
  | some b =>
    obtain ⟨hs, hi⟩ := pre_some hp hb
    rw [hb] at h
    rw [hs]
    simp only at h ⊢
    by_cases c1 : b.toNat < 32
    · rw [if_pos c1, if_pos c1]
    rw [if_neg c1] at h
    rw [if_neg c1, if_neg c1]
    by_cases c2 : b = 92
    · rw [if_pos c2] at h
      rw [if_pos c2, if_pos c2]
      exact pre_escP hp h
    rw [if_neg c2] at h
    rw [if_neg c2, if_neg c2]
    by_cases c3 : (Utf8.decode t i).1 = 65533 ∧ (Utf8.decode t i).2 = 1
    · rw [if_pos c3] at h; cases h
    rw [pre_decode hp hi c3]

theorem pre_textF : ∀ (n m i : Nat) (acc : List UInt8), n ≤ m → (textF t n i acc).2.2 = true → textF s m i acc = textF t n i acc
  | 0, m, i, acc, _, h => by unfold textF at h; cases h
  | n + 1, 0, i, acc, hnm, _ => by omega
  | n + 1, m + 1, i, acc, hnm, h => by
    unfold textF at h ⊢
    by_cases c0 : standsP t i 34 = true
    · rw [if_pos c0, if_pos (pre_stands hp c0)]
    rw [if_neg c0] at h
    rw [if_neg c0]
    by_cases c1 : (charP t i).2.2 = true
    · rw [if_pos c1] at h
      have hi : i < t.size := by
        rcases Nat.lt_or_ge i t.size with h1 | h1
        · exact h1
        · unfold charP at c1; rw [get_ge t h1] at c1; cases c1
      rw [if_neg (by rw [pre_standsN hp 34 hi]; exact c0), pre_charP hp c1, if_pos c1, if_pos c1]
      exact pre_textF n m _ _ (by omega) h
    · rw [if_neg c1] at h; cases h

theorem pre_textP {i : Nat} (h : (textP t i).2.2 = true) : textP s i = textP t i := by
  have hl := hp.le
  unfold textP at h ⊢
  by_cases c0 : standsP t i 34 = true
  · rw [if_pos c0] at h
    rw [if_pos c0, if_pos (pre_stands hp c0)]
    exact pre_textF hp _ _ _ _ (by omega) h
  · rw [if_neg c0] at h; cases h

theorem pre_run : ∀ (n i : Nat), t.size - i ≤ n → i + ((t.data.toList.drop i).takeWhile isDig).length < t.size → ((s.data.toList.drop i).takeWhile isDig).length = ((t.data.toList.drop i).takeWhile isDig).length
  | n, i, hn, h => by
    have hi : i < t.size := by omega
    have hs : i < s.size := Nat.lt_of_lt_of_le hi hp.le
    rw [drop_next t hi] at h ⊢
    rw [drop_next s hs, List.takeWhile_cons, List.takeWhile_cons, pre_at hp hi]
    rw [List.takeWhile_cons] at h
    cases hd : isDig (t[i]'hi) with
    | false => rfl
    | true =>
      rw [hd] at h
      simp only [if_true, List.length_cons] at h ⊢
      cases n with
      | zero => omega
      | succ n => rw [pre_run n (i + 1) (by omega) (by omega)]

theorem pre_runGe : ∀ (n i : Nat), t.size - i ≤ n → ((t.data.toList.drop i).takeWhile isDig).length ≤ ((s.data.toList.drop i).takeWhile isDig).length
  | n, i, hn => by
    rcases Nat.lt_or_ge i t.size with hi | hi
    · have hs : i < s.size := Nat.lt_of_lt_of_le hi hp.le
      rw [drop_next t hi, drop_next s hs, List.takeWhile_cons, List.takeWhile_cons, pre_at hp hi]
      cases hd : isDig (t[i]'hi) with
      | false => simp
      | true =>
        simp only [if_true, List.length_cons]
        cases n with
        | zero => omega
        | succ n => have := pre_runGe n (i + 1) (by omega); omega
    · rw [List.drop_of_length_le (by simpa using hi)]
      simp

theorem pre_digs {i : Nat} (h : i + digsP t i < t.size) : digsP s i = digsP t i := by
  unfold digsP at h ⊢
  by_cases c : ((t.data.toList.drop i).takeWhile isDig).length ≤ 15
  · rw [pre_run hp _ i (Nat.le_refl _) (by omega)]
  · have := pre_runGe hp _ i (Nat.le_refl _)
    omega

theorem pre_subL {i j : Nat} (h : j ≤ t.size) : subL s i j = subL t i j := by
  unfold subL
  refine List.ext_getElem? fun k => ?_
  rw [List.getElem?_take, List.getElem?_take]
  split
  · rw [List.getElem?_drop, List.getElem?_drop]
    rcases Nat.lt_or_ge (i + k) t.size with h1 | h1
    · rw [hp.get _ h1]
    · omega
  · rfl

theorem pre_numP {i : Nat} (h : (numP t i).2.1 < t.size) (hk : (numP t i).2.2 = true) : numP s i = numP t i := by
  have h0 : i < t.size := by
    rcases Nat.lt_or_ge i t.size with h1 | h1
    · exact h1
    · exfalso
      unfold numP at hk
      rw [standsP_ge t h1, standsP_ge t h1] at hk
      simp only [Bool.not_false, Bool.true_and, Bool.false_eq_true, if_false] at hk
      have : digsP t i = 0 := by
        unfold digsP
        rw [List.drop_of_length_le (by simpa using h1)]
        simp
      rw [this] at hk
      simp at hk
  unfold numP at h hk ⊢
  rw [pre_standsN hp 45 h0, pre_standsN hp 48 h0]
  by_cases c0 : (!standsP t i 45 && standsP t i 48) = true
  · rw [if_pos c0, if_pos c0]
  rw [if_neg c0] at h hk
  rw [if_neg c0, if_neg c0]
  simp only at h hk ⊢
  by_cases c1 : standsP t i 45 = true
  · rw [if_pos c1] at h hk ⊢
    by_cases c2 : standsP t (i + 1) 48 = true
    · rw [if_pos c2, if_pos rfl] at hk; cases hk
    · rw [if_neg c2] at h hk ⊢
      by_cases c3 : i + 1 + digsP t (i + 1) = i + 1
      · rw [if_pos c3] at hk; cases hk
      · rw [if_neg c3] at h ⊢
        have h' : i + 1 + digsP t (i + 1) < t.size := h
        rw [pre_standsN hp 48 (by omega), if_neg c2, pre_digs hp h', if_neg c3, pre_subL hp (by omega)]
  · rw [if_neg c1] at h hk ⊢
    by_cases c2 : standsP t i 48 = true
    · rw [if_pos c2, if_pos rfl] at hk; cases hk
    · rw [if_neg c2] at h hk ⊢
      by_cases c3 : i + digsP t i = i
      · rw [if_pos c3] at hk; cases hk
      · rw [if_neg c3] at h ⊢
        have h' : i + digsP t i < t.size := h
        rw [pre_standsN hp 48 h0, if_neg c2, pre_digs hp h', if_neg c3, pre_subL hp (by omega)]

theorem pre_valP {i : Nat} (h : (valP t i).2.1 < t.size) (hk : (valP t i).2.2 = true) : valP s i = valP t i := by
  unfold valP at h hk ⊢
  by_cases c0 : standsP t i 34 = true
  · rw [if_pos c0] at hk
    rw [if_pos c0, if_pos (pre_stands hp c0)]
    by_cases c1 : (textP t i).2.2 = true
    · rw [pre_textP hp c1]
    · rw [if_neg c1] at hk; cases hk
  · rw [if_neg c0] at h hk
    rw [if_neg c0]
    have h0 : i < t.size := by
      rcases Nat.lt_or_ge i t.size with h1 | h1
      · exact h1
      · exfalso
        unfold numP at hk
        rw [standsP_ge t h1, standsP_ge t h1] at hk
        simp only [Bool.not_false, Bool.true_and, Bool.false_eq_true, if_false] at hk
        have : digsP t i = 0 := by
          unfold digsP
          rw [List.drop_of_length_le (by simpa using h1)]
          simp
        rw [this] at hk
        simp at hk
    rw [if_neg (by rw [pre_standsN hp 34 h0]; exact c0)]
    exact pre_numP hp h hk

/-- What is read of a beginning ends at a brace, and the whole is read up to it alike. -/
theorem pre_objF : ∀ (n : Nat) (ps : List Pr) (i : Nat), (objF t n ps i).2.2 = 0 → ∃ qs a, a < t.size ∧ objF t n ps i = closeP t qs a ∧ objF s n ps i = closeP s qs a
  | 0, ps, i, h => by unfold objF at h; cases h
  | n + 1, ps, i, h => by
    unfold objF at h ⊢
    by_cases c0 : (!(textP t i).2.2) = true
    · rw [if_pos c0] at h; cases h
    rw [if_neg c0] at h
    have c0' : (textP t i).2.2 = true := by simpa using c0
    rw [pre_textP hp c0', if_neg c0, if_neg c0]
    by_cases c1 : (fieldP ps (textP t i).1).isSome = true
    · rw [if_pos c1] at h; cases h
    rw [if_neg c1] at h
    rw [if_neg c1, if_neg c1]
    by_cases c2 : ps.length = 16
    · rw [if_pos c2] at h; cases h
    rw [if_neg c2] at h
    rw [if_neg c2, if_neg c2]
    simp only at h ⊢
    by_cases c3 : (!standsP t (skipP t (textP t i).2.1) 58) = true
    · rw [if_pos c3] at h; cases h
    rw [if_neg c3] at h
    have c3' : standsP t (skipP t (textP t i).2.1) 58 = true := by simpa using c3
    have l3 := standsP_some t c3'
    rw [pre_skipN hp l3, pre_standsN hp 58 l3, if_neg c3, if_neg c3]
    generalize skipP t (textP t i).2.1 = a2 at *
    by_cases c4 : (!(valP t (skipP t (a2 + 1))).2.2) = true
    · rw [if_pos c4] at h; cases h
    rw [if_neg c4] at h
    have c4' : (valP t (skipP t (a2 + 1))).2.2 = true := by simpa using c4
    have l5 : skipP t (valP t (skipP t (a2 + 1))).2.1 < t.size := by
      rcases Nat.lt_or_ge (skipP t (valP t (skipP t (a2 + 1))).2.1) t.size with h1 | h1
      · exact h1
      · rw [standsP_ge t h1, standsP_ge t h1] at h
        cases h
    have l4 : (valP t (skipP t (a2 + 1))).2.1 < t.size := Nat.lt_of_le_of_lt (skipP_ge t _) l5
    have l6 : skipP t (a2 + 1) < t.size := by
      rcases Nat.lt_or_ge (skipP t (a2 + 1)) t.size with h1 | h1
      · exact h1
      · exfalso
        have hv : valP t (skipP t (a2 + 1)) = numP t (skipP t (a2 + 1)) := by
          unfold valP
          rw [standsP_ge t h1]
          rfl
        rw [hv] at c4'
        unfold numP at c4'
        rw [standsP_ge t h1, standsP_ge t h1] at c4'
        simp only [Bool.not_false, Bool.true_and, Bool.false_eq_true, if_false] at c4'
        have : digsP t (skipP t (a2 + 1)) = 0 := by
          unfold digsP
          rw [List.drop_of_length_le (by simpa using h1)]
          simp
        rw [this] at c4'
        simp at c4'
    rw [pre_skipN hp l6, pre_valP hp l4 c4', if_neg c4, if_neg c4, pre_skipN hp l5, pre_standsN hp 44 l5, pre_standsN hp 125 l5]
    generalize valP t (skipP t (a2 + 1)) = v at *
    generalize skipP t v.2.1 = a4 at *
    by_cases c5 : standsP t a4 44 = true
    · rw [if_pos c5] at h
      rw [if_pos c5, if_pos c5]
      have l7 : skipP t (a4 + 1) < t.size := by
        rcases Nat.lt_or_ge (skipP t (a4 + 1)) t.size with h1 | h1
        · exact h1
        · exfalso
          cases n with
          | zero => unfold objF at h; cases h
          | succ n =>
            unfold objF at h
            have : (textP t (skipP t (a4 + 1))).2.2 = false := by
              unfold textP
              rw [standsP_ge t h1]
              rfl
            rw [this] at h
            cases h
      rw [pre_skipN hp l7]
      exact pre_objF n _ _ h
    · rw [if_neg c5] at h
      rw [if_neg c5, if_neg c5]
      by_cases c6 : standsP t a4 125 = true
      · rw [if_pos c6, if_pos c6]
        exact ⟨_, a4, l5, rfl, rfl⟩
      · rw [if_neg c6] at h; cases h

theorem pre_objP (h : (objP t).2.2 = 0) : ∃ qs a, a < t.size ∧ objP t = closeP t qs a ∧ objP s = closeP s qs a := by
  unfold objP at h ⊢
  simp only at h ⊢
  by_cases c0 : (!standsP t (skipP t 0) 123) = true
  · rw [if_pos c0] at h; cases h
  rw [if_neg c0] at h
  have l0 : skipP t 0 < t.size := standsP_some t (by simpa using c0)
  rw [pre_skipN hp l0, pre_standsN hp 123 l0, if_neg c0, if_neg c0]
  have l1 : skipP t (skipP t 0 + 1) < t.size := by
    rcases Nat.lt_or_ge (skipP t (skipP t 0 + 1)) t.size with h1 | h1
    · exact h1
    · exfalso
      rw [standsP_ge t h1, if_neg (by decide)] at h
      unfold objF at h
      have : (textP t (skipP t (skipP t 0 + 1))).2.2 = false := by
        unfold textP
        rw [standsP_ge t h1]
        rfl
      rw [this] at h
      cases h
  rw [pre_skipN hp l1, pre_standsN hp 125 l1]
  by_cases c1 : standsP t (skipP t (skipP t 0 + 1)) 125 = true
  · rw [if_pos c1, if_pos c1]
    exact ⟨_, _, l1, rfl, rfl⟩
  · rw [if_neg c1] at h
    rw [if_neg c1, if_neg c1]
    exact pre_objF hp 17 [] _ h

end

/-- What blanks are passed is blanks. -/
theorem skip_all (s : ByteArray) : ∀ (n i j : Nat), s.size - i ≤ n → i ≤ j → j < skipP s i → ∀ h : j < s.size, blankB (s[j]'h) = true
  | n, i, j, hn, hij, hj, h => by
    have hi : i < s.size := by omega
    cases hb : blankB (s[i]'hi) with
    | false => rw [skipP_stop s hi hb] at hj; omega
    | true =>
      rcases Nat.eq_or_lt_of_le hij with e | hlt
      · subst e; exact hb
      · rw [skipP_next s hi hb] at hj
        cases n with
        | zero => omega
        | succ n => exact skip_all s n (i + 1) j (by omega) (by omega) hj h

theorem closeP_bad (s : ByteArray) (qs : List Pr) (a : Nat) : (closeP s qs a).2.2 = 0 → skipP s (a + 1) = s.size := by
  unfold closeP
  split
  · rename_i h; exact fun _ => h
  · intro h; cases h

/-- None of a body's beginnings is a body, but with blanks alone cut off. -/
theorem spoilt_not (s : ByteArray) (k j : Nat) (hk : k ≤ j) (hj : j < s.size) (hb : (s[j]'hj) = 125) (h : (objP s).2.2 = 0) : (objP (s.extract 0 k)).2.2 ≠ 0 := by
  intro h0
  obtain ⟨hp, hz⟩ := pre_extract s k (by omega)
  obtain ⟨qs, a, ha, _, e2⟩ := pre_objP hp h0
  rw [e2] at h
  have h1 := closeP_bad s qs a h
  have := skip_all s _ (a + 1) j (Nat.le_refl _) (by omega) (by omega) hj
  rw [hb] at this
  cases this

theorem closeP_list (s : ByteArray) (qs : List Pr) (a : Nat) (h : (closeP s qs a).2.2 ≠ 0) : (closeP s qs a).1 = [] := by
  unfold closeP at h ⊢
  split
  · rename_i hc; rw [if_pos hc] at h; exact absurd rfl h
  · rfl

theorem objF_list (s : ByteArray) : ∀ (n : Nat) (ps : List Pr) (i : Nat), (objF s n ps i).2.2 ≠ 0 → (objF s n ps i).1 = []
  | 0, ps, i, h => rfl
  | n + 1, ps, i, h => by
    unfold objF at h ⊢
    simp only at h ⊢
    repeat' split
    all_goals first
      | rfl
      | (simp only [*, if_true, if_false] at h; exact objF_list s n _ _ h)
      | (simp only [*, if_true, if_false] at h; exact closeP_list s _ _ h)

/-- Where it is refused there are no fields. -/
theorem objP_list (s : ByteArray) (h : (objP s).2.2 ≠ 0) : (objP s).1 = [] := by
  unfold objP at h ⊢
  simp only at h ⊢
  by_cases c0 : (!standsP s (skipP s 0) 123) = true
  · rw [if_pos c0]
  rw [if_neg c0] at h ⊢
  by_cases c1 : standsP s (skipP s (skipP s 0 + 1)) 125 = true
  · rw [if_pos c1] at h ⊢
    exact closeP_list s _ _ h
  · rw [if_neg c1] at h ⊢
    exact objF_list s _ _ _ h

end Go.Proofs.YtdbplemcjnlfiaaGreatDoor
