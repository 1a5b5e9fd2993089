/-
  The values of a body's fields: a text with its mark, or a number's digits; what Atoi and the document make of them. Nothing here speaks of a program.
-/
import Derived.Test.YtfiaaaflpjpnjaaGreatDoorFPure
import Derived.Lib.AtoiAll
namespace Go.Proofs.YtfiaaaflpjpnjaaGreatDoor
open Go.RowKit

/-- What digits come to. -/
def digV (acc : Nat) : List UInt8 → Nat
  | [] => acc
  | c :: r => digV (10 * acc + (c.toNat - 48)) r

theorem digV_step {acc k : Nat} {c : UInt8} (hc : isDig c = true) (h : acc < 10 ^ k) : 10 * acc + (c.toNat - 48) < 10 ^ (k + 1) := by
  unfold isDig at hc
  simp only [Bool.and_eq_true, decide_eq_true_eq] at hc
  rw [Nat.pow_succ]
  generalize 10 ^ k = z at *
  omega

theorem digV_lt (l : List UInt8) (hd : ∀ c ∈ l, isDig c = true) : ∀ (k acc : Nat), acc < 10 ^ k → digV acc l < 10 ^ (k + l.length) := by
  induction l with
  | nil => intro k acc h; exact h
  | cons c r ih =>
    intro k acc h
    have h1 := digV_step (hd c List.mem_cons_self) h
    have := ih (fun x hx => hd x (List.mem_cons_of_mem _ hx)) (k + 1) _ h1
    rw [List.length_cons, show k + (r.length + 1) = k + 1 + r.length by omega]
    exact this

theorem parse_dig (l : List UInt8) (hd : ∀ c ∈ l, isDig c = true) : ∀ (k acc : Nat), acc < 10 ^ k → k + l.length ≤ 18 → Lib.parseUint10 acc l = .ok (digV acc l) := by
  induction l with
  | nil => intro k acc _ _; rfl
  | cons c r ih =>
    intro k acc h hk
    have hc := hd c List.mem_cons_self
    have h1 := digV_step hc h
    unfold isDig at hc
    simp only [Bool.and_eq_true, decide_eq_true_eq] at hc
    rw [List.length_cons] at hk
    have hp : (10 : Nat) ^ k ≤ 100000000000000000 := Nat.le_trans (Nat.pow_le_pow_right (by decide) (show k ≤ 17 by omega)) (by decide)
    have hacc : acc < 100000000000000000 := Nat.lt_of_lt_of_le h hp
    unfold Lib.parseUint10 digV
    rw [if_pos hc, if_neg (by omega), if_neg (by omega), Nat.mul_comm acc 10]
    exact ih (fun x hx => hd x (List.mem_cons_of_mem _ hx)) (k + 1) _ h1 (by omega)

/-- A number's text. -/
def NumT (v : List UInt8) : Prop := ∃ ds : List UInt8, (v = ds ∨ v = 45 :: ds) ∧ ds ≠ [] ∧ ds.length ≤ 15 ∧ ∀ c ∈ ds, isDig c = true

/-- A field's value. -/
def ValT (v : List UInt8) : Prop := (∃ t, v = 34 :: t) ∨ NumT v

/-- What a value is as a number. -/
def intV : List UInt8 → Int
  | [] => 0
  | c :: r => if c = 45 then -(digV 0 r : Int) else if c = 34 then 0 else (digV 0 (c :: r) : Int)

/-- Whether it is one. -/
def isNum : List UInt8 → Bool
  | [] => false
  | c :: _ => !(c == 34)

theorem dig_range {c : UInt8} (h : isDig c = true) : 48 ≤ c.toNat ∧ c.toNat ≤ 57 := by
  unfold isDig at h
  simpa only [Bool.and_eq_true, decide_eq_true_eq] using h

theorem dig_ne {c : UInt8} (h : isDig c = true) : c ≠ 45 ∧ c ≠ 34 ∧ c ≠ 43 := by
  have := dig_range h
  refine ⟨fun e => ?_, fun e => ?_, fun e => ?_⟩ <;> (subst e; simp at this)

theorem numT_atoi {v : List UInt8} (h : NumT v) : Lib.atoiAll v = .ok (intV v) ∧ isNum v = true ∧ v ≠ [] := by
  obtain ⟨ds, hv, h0, hl, hd⟩ := h
  have hp := parse_dig ds hd 0 0 (by decide) (by omega)
  have hlt := digV_lt ds hd 0 0 (by decide)
  have hb : (10 : Nat) ^ (0 + ds.length) ≤ 1000000000000000 := Nat.le_trans (Nat.pow_le_pow_right (by decide) (show 0 + ds.length ≤ 15 by omega)) (by decide)
  have hlt := Nat.lt_of_lt_of_le hlt hb
  clear hb
  have hm : Lib.parseMag ds = .ok (digV 0 ds) := by
    unfold Lib.parseMag
    rw [if_neg h0]
    exact hp
  rcases hv with rfl | rfl
  · cases v with
    | nil => exact absurd rfl h0
    | cons c r =>
      have hc := hd c List.mem_cons_self
      obtain ⟨n1, n2, n3⟩ := dig_ne hc
      have hr := dig_range hc
      refine ⟨?_, ?_, by simp⟩
      · unfold Lib.atoiAll intV
        simp only
        rw [if_neg (show ¬ (c.toNat = 43 ∨ c.toNat = 45) by omega), hm]
        simp only
        rw [if_neg (by omega), if_neg (by omega), if_neg (by omega), if_neg n1, if_neg n2]
      · unfold isNum
        simpa using n2
  · refine ⟨?_, rfl, by simp⟩
    unfold Lib.atoiAll intV
    simp only
    rw [if_pos (show ((45 : UInt8).toNat = 43 ∨ (45 : UInt8).toNat = 45) from .inr rfl), hm]
    simp only
    rw [if_neg (fun h => h.1 rfl), if_neg (by omega), if_pos (show (45 : UInt8).toNat = 45 from rfl), if_pos trivial]

theorem textT_atoi (t : List UInt8) : Lib.atoiAll (34 :: t) = .syntax := by
  unfold Lib.atoiAll
  simp only
  rw [if_neg (by decide)]
  have : Lib.parseMag (34 :: t) = .syntax := by
    unfold Lib.parseMag
    rw [if_neg (by simp)]
    unfold Lib.parseUint10
    rw [if_neg (by decide)]
  rw [this]

theorem take_dig : ∀ (l : List UInt8) (d : Nat), d ≤ (l.takeWhile isDig).length → ∀ c ∈ l.take d, isDig c = true
  | [], d, _, c, hc => by simp at hc
  | x :: r, 0, _, c, hc => by simp at hc
  | x :: r, d + 1, h, c, hc => by
    rw [List.takeWhile_cons] at h
    cases hx : isDig x with
    | false => rw [hx] at h; simp at h
    | true =>
      rw [hx] at h
      simp only [if_true, List.length_cons] at h
      rw [List.take_succ_cons, List.mem_cons] at hc
      rcases hc with rfl | hc
      · exact hx
      · exact take_dig r d (by omega) c hc

section
variable (s : ByteArray)

theorem sub_dig (i : Nat) : (∀ c ∈ subL s i (i + digsP s i), isDig c = true) ∧ (subL s i (i + digsP s i)).length = digsP s i := by
  have hle : digsP s i ≤ ((s.data.toList.drop i).takeWhile isDig).length := by unfold digsP; omega
  have hl : ((s.data.toList.drop i).takeWhile isDig).length ≤ (s.data.toList.drop i).length := (List.takeWhile_sublist _).length_le
  unfold subL
  rw [show i + digsP s i - i = digsP s i by omega]
  refine ⟨take_dig _ _ hle, ?_⟩
  rw [List.length_take]
  omega

theorem numP_valT {i : Nat} (h : (numP s i).2.2 = true) : NumT (numP s i).1 := by
  unfold numP at h ⊢
  by_cases c0 : (!standsP s i 45 && standsP s i 48) = true
  · rw [if_pos c0]
    exact ⟨[48], .inl rfl, by simp, by simp, by simp [isDig]⟩
  rw [if_neg c0] at h ⊢
  simp only at h ⊢
  by_cases c1 : standsP s i 45 = true
  · rw [if_pos c1] at h ⊢
    by_cases c2 : standsP s (i + 1) 48 = true
    · rw [if_pos c2, if_pos rfl] at h; cases h
    rw [if_neg c2] at h ⊢
    by_cases c3 : i + 1 + digsP s (i + 1) = i + 1
    · rw [if_pos c3] at h; cases h
    rw [if_neg c3]
    have hi := standsP_some s c1
    obtain ⟨d1, d2⟩ := sub_dig s (i + 1)
    refine ⟨subL s (i + 1) (i + 1 + digsP s (i + 1)), .inr ?_, ?_, ?_, d1⟩
    · show subL s i (i + 1 + digsP s (i + 1)) = _
      have e : s[i]'hi = 45 := by
        rw [standsP_lt s hi] at c1
        simpa using c1
      unfold subL
      rw [drop_next s hi, e, show i + 1 + digsP s (i + 1) - i = digsP s (i + 1) + 1 by omega, List.take_succ_cons, show i + 1 + digsP s (i + 1) - (i + 1) = digsP s (i + 1) by omega]
    · intro e
      rw [e] at d2
      simp at d2
      omega
    · rw [d2]
      unfold digsP
      omega
  · rw [if_neg c1] at h ⊢
    by_cases c2 : standsP s i 48 = true
    · rw [if_pos c2, if_pos rfl] at h; cases h
    rw [if_neg c2] at h ⊢
    by_cases c3 : i + digsP s i = i
    · rw [if_pos c3] at h; cases h
    rw [if_neg c3]
    obtain ⟨d1, d2⟩ := sub_dig s i
    refine ⟨subL s i (i + digsP s i), .inl rfl, ?_, ?_, d1⟩
    · intro e
      rw [e] at d2
      simp at d2
      omega
    · rw [d2]
      unfold digsP
      omega

theorem valP_valT {i : Nat} (h : (valP s i).2.2 = true) : ValT (valP s i).1 := by
  unfold valP at h ⊢
  by_cases c0 : standsP s i 34 = true
  · rw [if_pos c0] at h ⊢
    by_cases c1 : (textP s i).2.2 = true
    · rw [if_pos c1]
      exact .inl ⟨_, rfl⟩
    · rw [if_neg c1] at h; cases h
  · rw [if_neg c0] at h ⊢
    exact .inr (numP_valT s h)

theorem closeP_valT (ps : List Pr) (i : Nat) (h : ∀ p ∈ ps, ValT p.2) : ∀ p ∈ (closeP s ps i).1, ValT p.2 := by
  unfold closeP
  split
  · exact h
  · intro p hp; cases hp

theorem closeP_len (ps : List Pr) (i : Nat) (h : ps.length ≤ 16) : (closeP s ps i).1.length ≤ 16 := by
  unfold closeP
  split
  · exact h
  · exact Nat.zero_le _

theorem objF_valT : ∀ (n : Nat) (ps : List Pr) (i : Nat), ps.length ≤ 16 → (∀ p ∈ ps, ValT p.2) → (∀ p ∈ (objF s n ps i).1, ValT p.2) ∧ (objF s n ps i).1.length ≤ 16
  | 0, ps, i, _, h => by unfold objF; exact ⟨(fun p hp => by cases hp), Nat.zero_le _⟩
  | n + 1, ps, i, hl, h => by
    have no : ∀ (a : Nat) (b : Int), (∀ p ∈ (([], a, b) : List Pr × Nat × Int).1, ValT p.2) ∧ (([], a, b) : List Pr × Nat × Int).1.length ≤ 16 := fun a b => ⟨(fun p hp => by cases hp), Nat.zero_le _⟩
    unfold objF
    simp only
    by_cases c0 : (!(textP s i).2.2) = true
    · rw [if_pos c0]; exact no _ _
    rw [if_neg c0]
    by_cases c1 : (fieldP ps (textP s i).1).isSome = true
    · rw [if_pos c1]; exact no _ _
    rw [if_neg c1]
    by_cases c2 : ps.length = 16
    · rw [if_pos c2]; exact no _ _
    rw [if_neg c2]
    by_cases c3 : (!standsP s (skipP s (textP s i).2.1) 58) = true
    · rw [if_pos c3]; exact no _ _
    rw [if_neg c3]
    by_cases c4 : (!(valP s (skipP s (skipP s (textP s i).2.1 + 1))).2.2) = true
    · rw [if_pos c4]; exact no _ _
    rw [if_neg c4]
    have c4' : (valP s (skipP s (skipP s (textP s i).2.1 + 1))).2.2 = true := by simpa using c4
    have hv := valP_valT s c4'
    generalize valP s (skipP s (skipP s (textP s i).2.1 + 1)) = v at *
    have hall : ∀ p ∈ ps ++ [((textP s i).1, v.1)], ValT p.2 := fun p hp => by
      rcases List.mem_append.1 hp with hp | hp
      · exact h p hp
      · simp only [List.mem_singleton] at hp
        subst hp
        exact hv
    have hlen : (ps ++ [((textP s i).1, v.1)]).length ≤ 16 := by
      rw [List.length_append, List.length_singleton]
      omega
    by_cases c5 : standsP s (skipP s v.2.1) 44 = true
    · rw [if_pos c5]
      exact objF_valT n _ _ hlen hall
    rw [if_neg c5]
    by_cases c6 : standsP s (skipP s v.2.1) 125 = true
    · rw [if_pos c6]
      exact ⟨closeP_valT s _ _ hall, closeP_len s _ _ hlen⟩
    rw [if_neg c6]
    exact no _ _

theorem objP_valT : (∀ p ∈ (objP s).1, ValT p.2) ∧ (objP s).1.length ≤ 16 := by
  have no : ∀ (a : Nat) (b : Int), (∀ p ∈ (([], a, b) : List Pr × Nat × Int).1, ValT p.2) ∧ (([], a, b) : List Pr × Nat × Int).1.length ≤ 16 := fun a b => ⟨(fun p hp => by cases hp), Nat.zero_le _⟩
  unfold objP
  simp only
  by_cases c0 : (!standsP s (skipP s 0) 123) = true
  · rw [if_pos c0]; exact no _ _
  rw [if_neg c0]
  by_cases c1 : standsP s (skipP s (skipP s 0 + 1)) 125 = true
  · rw [if_pos c1]
    exact ⟨closeP_valT s _ _ (fun p hp => by cases hp), closeP_len s _ _ (Nat.zero_le _)⟩
  rw [if_neg c1]
  exact objF_valT s 17 [] _ (Nat.zero_le _) (fun p hp => by cases hp)

end

/-- A field of a body: none, or a value. -/
theorem fieldP_valT {ps : List Pr} (h : ∀ p ∈ ps, ValT p.2) (k : List UInt8) : fieldP ps k = none ∨ ∃ v, fieldP ps k = some v ∧ ValT v := by
  unfold fieldP
  cases hf : ps.find? (fun p => p.1 == k) with
  | none => exact .inl rfl
  | some p => exact .inr ⟨p.2, rfl, h p (List.mem_of_find?_eq_some hf)⟩

end Go.Proofs.YtfiaaaflpjpnjaaGreatDoor
