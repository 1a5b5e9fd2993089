/-
  The forms as data: numbers, readers and writers that fit each other. Nothing here speaks of one program.
-/
import Derived.Test.YtchdmlckicipcaaCBase
namespace Go.Proofs.Ytchdmlckicipcaa

/-- How many bytes a number needs. -/
def sz (n : Nat) : Nat := if n = 0 then 0 else if n < 256 then 1 else if n < 65536 then 2 else if n < 16777216 then 3 else if n < 4294967296 then 4 else if n < 1099511627776 then 5 else if n < 281474976710656 then 6 else 7

/-- Its k lowest bytes, the highest first. -/
def low : Nat → Nat → List Int
  | 0, _ => []
  | k + 1, n => ((n / 256 ^ k % 256 : Nat) : Int) :: low k n

def numB (n : Nat) : List Int := (sz n : Int) :: low (sz n) n

/-- The number that bytes are, the highest first. -/
def valB (l : List Int) : Int := l.foldl (fun v d => 256 * v + d) 0

def Bs (l : List Int) : Prop := ∀ y ∈ l, 0 ≤ y ∧ y ≤ 255

theorem sz_le (n : Nat) : sz n ≤ 7 := by unfold sz; (repeat' split) <;> omega

theorem low_length (k n : Nat) : (low k n).length = k := by
  induction k with
  | zero => rfl
  | succ k ih => simp [low, ih]

theorem low_bs (k n : Nat) : Bs (low k n) := by
  induction k with
  | zero => intro y hy; cases hy
  | succ k ih =>
    intro y hy
    rcases List.mem_cons.1 hy with rfl | h
    · have := Nat.mod_lt (n / 256 ^ k) (by decide : 0 < 256)
      omega
    · exact ih y h

theorem numB_length (n : Nat) : (numB n).length = sz n + 1 := by simp [numB, low_length]

theorem numB_bs (n : Nat) : Bs (numB n) := by
  intro y hy
  rcases List.mem_cons.1 hy with rfl | h
  · have := sz_le n; omega
  · exact low_bs _ _ y h

theorem sz_lt {n : Nat} (h : n ≤ 4503599627370496) : n < 256 ^ sz n := by
  unfold sz; (repeat' split) <;> (simp only [Nat.reducePow]; omega)

theorem sz_low {n : Nat} (h : 0 < sz n) : 256 ^ (sz n - 1) ≤ n := by
  have h0 : n ≠ 0 := fun e => by subst e; exact absurd h (by decide)
  clear h
  unfold sz
  rw [if_neg h0]
  (repeat' split) <;> (simp only [Nat.reducePow, Nat.reduceSub]; omega)

theorem sz_eq {n k : Nat} (hk : k ≤ 6) (h0 : 256 ^ k ≤ n) (h1 : n < 256 ^ (k + 1)) : sz n = k + 1 := by
  have hc : k = 0 ∨ k = 1 ∨ k = 2 ∨ k = 3 ∨ k = 4 ∨ k = 5 ∨ k = 6 := by omega
  unfold sz
  rcases hc with rfl | rfl | rfl | rfl | rfl | rfl | rfl <;> simp only [Nat.reducePow, Nat.reduceAdd] at h0 h1 <;> (repeat' split) <;> omega

theorem fold_low (k n : Nat) : ∀ v : Int, (low k n).foldl (fun v d => 256 * v + d) v = v * (256 ^ k : Nat) + (n % 256 ^ k : Nat) := by
  induction k with
  | zero => intro v; simp [low, Nat.mod_one]
  | succ k ih =>
    intro v
    simp only [low, List.foldl_cons]
    rw [ih, Nat.pow_succ, Nat.mod_mul]
    simp only [Int.natCast_add, Int.natCast_mul]
    rw [Int.add_mul, Int.mul_comm 256 v, Int.mul_assoc, Int.mul_comm (256 : Int) _]
    rw [Int.mul_comm (((n / 256 ^ k % 256 : Nat)) : Int)]
    have h256 : ((256 : Nat) : Int) = 256 := rfl
    rw [h256]
    omega

theorem val_low {n : Nat} (h : n ≤ 4503599627370496) : valB (low (sz n) n) = n := by
  unfold valB
  rw [fold_low, Int.zero_mul, Int.zero_add, Nat.mod_eq_of_lt (sz_lt h)]

theorem fold_split (l : List Int) : ∀ v : Int, l.foldl (fun v d => 256 * v + d) v = v * (256 ^ l.length : Nat) + valB l := by
  unfold valB
  induction l with
  | nil => intro v; simp
  | cons d r ih =>
    intro v
    simp only [List.foldl_cons, List.length_cons]
    rw [ih, ih (256 * 0 + d), Nat.pow_succ, Int.mul_zero, Int.zero_add]
    simp only [Int.natCast_mul]
    rw [Int.add_mul, Int.mul_comm 256 v, Int.mul_assoc, Int.mul_comm (256 : Int) _]
    have h256 : ((256 : Nat) : Int) = 256 := rfl
    rw [h256]
    omega

theorem valB_cons (d : Int) (r : List Int) : valB (d :: r) = d * (256 ^ r.length : Nat) + valB r := by
  have := fold_split r (256 * 0 + d)
  rw [Int.mul_zero, Int.zero_add] at this
  rw [← this]
  simp [valB]

theorem valB_snoc (l : List Int) (d : Int) : valB (l ++ [d]) = 256 * valB l + d := by
  unfold valB; simp

theorem valB_bd (l : List Int) (h : Bs l) : 0 ≤ valB l ∧ valB l < (256 ^ l.length : Nat) := by
  induction l with
  | nil => simp [valB]
  | cons d r ih =>
    have h1 := ih (fun y hy => h y (List.mem_cons_of_mem _ hy))
    have h2 := h d (List.mem_cons_self ..)
    rw [valB_cons, List.length_cons, Nat.pow_succ]
    simp only [Int.natCast_mul]
    generalize ((256 ^ r.length : Nat) : Int) = p at *
    have h3 : 0 ≤ d * p := Int.mul_nonneg h2.1 (by omega)
    have h4 : d * p ≤ 255 * p := Int.mul_le_mul_of_nonneg_right h2.2 (by omega)
    have h256 : ((256 : Nat) : Int) = 256 := rfl
    rw [h256]
    omega

theorem low_add (k : Nat) : ∀ n m : Nat, low k (n + m * 256 ^ k) = low k n := by
  induction k with
  | zero => intros; rfl
  | succ k ih =>
    intro n m
    simp only [low]
    have e : n + m * 256 ^ (k + 1) = n + (m * 256) * 256 ^ k := by rw [Nat.pow_succ, Nat.mul_assoc, Nat.mul_comm 256]
    rw [e, ih, Nat.add_mul_div_right _ _ (Nat.pow_pos (by decide)), Nat.add_mul_mod_self_right]

theorem low_val (l : List Int) (h : Bs l) : low l.length (valB l).toNat = l := by
  induction l with
  | nil => rfl
  | cons d r ih =>
    have hr : Bs r := fun y hy => h y (List.mem_cons_of_mem _ hy)
    have h1 := valB_bd r hr
    have h2 := h d (List.mem_cons_self ..)
    have e : (valB (d :: r)).toNat = (valB r).toNat + d.toNat * 256 ^ r.length := by
      rw [valB_cons]
      obtain ⟨dn, rfl⟩ := Int.eq_ofNat_of_zero_le h2.1
      obtain ⟨vn, hv⟩ := Int.eq_ofNat_of_zero_le h1.1
      rw [hv, ← Int.natCast_mul, ← Int.natCast_add, Int.toNat_natCast, Int.toNat_natCast, Int.toNat_natCast, Nat.add_comm]
    simp only [List.length_cons, low]
    rw [e, low_add, ih hr, Nat.add_mul_div_right _ _ (Nat.pow_pos (by decide)), Nat.div_eq_of_lt (by omega), Nat.zero_add]
    have : d.toNat % 256 = d.toNat := Nat.mod_eq_of_lt (by omega)
    rw [this]
    congr 1
    omega

/-- What a reader of a part does: the value and the place behind it, or the place of the fault. -/
abbrev Rd (α : Type) := List Int → Nat → Except Nat (α × Nat)

def rdNum (lo hi : Int) : Rd Int := fun raw at_ =>
  if raw.length ≤ at_ then .error raw.length
  else if 7 < raw.getD at_ 0 then .error at_
  else if raw.length < at_ + 1 + (raw.getD at_ 0).toNat then .error raw.length
  else if (0 < raw.getD at_ 0 ∧ raw.getD (at_ + 1) 0 = 0) ∨ valB ((raw.drop (at_ + 1)).take (raw.getD at_ 0).toNat) < lo ∨ hi < valB ((raw.drop (at_ + 1)).take (raw.getD at_ 0).toNat) then .error at_
  else .ok (valB ((raw.drop (at_ + 1)).take (raw.getD at_ 0).toNat), at_ + 1 + (raw.getD at_ 0).toNat)

def wrNum (lo hi n : Int) : Option (List Int) := if lo ≤ n ∧ n ≤ hi then some (numB n.toNat) else none

/-- A reader and a writer of the same form. -/
structure Form {α : Type} (P : Rd α) (W : α → Option (List Int)) : Prop where
  back : ∀ raw at_ v at', Bs raw → at_ ≤ raw.length → P raw at_ = .ok (v, at') → ∃ enc, W v = some enc ∧ at' = at_ + enc.length ∧ at' ≤ raw.length ∧ (raw.drop at_).take enc.length = enc
  fore : ∀ pre enc post v, W v = some enc → P (pre ++ (enc ++ post)) pre.length = .ok (v, pre.length + enc.length)
  short : ∀ pre enc v k, W v = some enc → k < enc.length → P (pre ++ enc.take k) pre.length = .error (pre.length + k)
  bs : ∀ v enc, W v = some enc → Bs enc

theorem Bs.take {l : List Int} (h : Bs l) (k : Nat) : Bs (l.take k) := fun y hy => h y (List.mem_of_mem_take hy)
theorem Bs.drop {l : List Int} (h : Bs l) (k : Nat) : Bs (l.drop k) := fun y hy => h y (List.mem_of_mem_drop hy)
theorem Bs.append {l r : List Int} (h : Bs l) (k : Bs r) : Bs (l ++ r) := fun y hy => (List.mem_append.1 hy).elim (h y) (k y)
theorem Bs.getD {l : List Int} (h : Bs l) (k : Nat) : 0 ≤ l.getD k 0 ∧ l.getD k 0 ≤ 255 := by
  rw [List.getD_eq_getElem?_getD]
  by_cases hk : k < l.length
  · rw [List.getElem?_eq_getElem hk]; exact h _ (List.getElem_mem _)
  · rw [List.getElem?_eq_none (by omega)]; decide

theorem getD_pre (pre r : List Int) (j : Nat) : (pre ++ r).getD (pre.length + j) 0 = r.getD j 0 := by
  rw [List.getD_eq_getElem?_getD, List.getD_eq_getElem?_getD, List.getElem?_append_right (by omega)]
  congr 2; omega

theorem numForm {lo hi : Int} (h0 : 0 ≤ lo) (h1 : hi ≤ 4503599627370496) : Form (rdNum lo hi) (wrNum lo hi) := by
  refine ⟨?_, ?_, ?_, ?_⟩
  · intro raw at_ v at' hb hat h
    unfold rdNum at h
    split at h
    · cases h
    · split at h
      · cases h
      · split at h
        · cases h
        · split at h
          · cases h
          · rename_i n1 n2 n3 n4
            simp only [Except.ok.injEq, Prod.mk.injEq] at h
            obtain ⟨rfl, rfl⟩ := h
            have hc := hb.getD at_
            have hg : raw.getD at_ 0 = raw[at_] := by rw [List.getD_eq_getElem?_getD, List.getElem?_eq_getElem (by omega)]; rfl
            generalize hk : (raw.getD at_ 0).toNat = k at *
            have hkc : raw.getD at_ 0 = (k : Int) := by omega
            have hdl : ((raw.drop (at_ + 1)).take k).length = k := by rw [List.length_take, List.length_drop]; omega
            have hbd := (hb.drop (at_ + 1)).take k
            have hv := valB_bd _ hbd
            have hlow := low_val _ hbd
            rw [hdl] at hlow hv
            have hszk : sz (valB ((raw.drop (at_ + 1)).take k)).toNat = k := by
              rcases Nat.eq_zero_or_pos k with h0 | hp
              · subst h0
                rw [List.take_zero]; rfl
              · obtain ⟨j, rfl⟩ : ∃ j, k = j + 1 := ⟨k - 1, by omega⟩
                have hd : raw.drop (at_ + 1) = raw.getD (at_ + 1) 0 :: raw.drop (at_ + 2) := by
                  rw [List.drop_eq_getElem_cons (by omega), List.getD_eq_getElem?_getD, List.getElem?_eq_getElem (by omega)]; rfl
                have hne : raw.getD (at_ + 1) 0 ≠ 0 := fun e => n4 (.inl ⟨by omega, e⟩)
                have hp0 := hb.getD (at_ + 1)
                have hval : valB ((raw.drop (at_ + 1)).take (j + 1)) = raw.getD (at_ + 1) 0 * (256 ^ ((raw.drop (at_ + 2)).take j).length : Nat) + valB ((raw.drop (at_ + 2)).take j) := by
                  rw [hd, List.take_succ_cons, valB_cons]
                have hjl : ((raw.drop (at_ + 2)).take j).length = j := by rw [List.length_take, List.length_drop]; omega
                rw [hjl] at hval
                have hv2 := valB_bd _ ((hb.drop (at_ + 2)).take j)
                have hmul : 1 * ((256 ^ j : Nat) : Int) ≤ raw.getD (at_ + 1) 0 * (256 ^ j : Nat) := Int.mul_le_mul_of_nonneg_right (by omega) (by omega)
                exact sz_eq (by omega) (by omega) (by omega)
            refine ⟨numB (valB ((raw.drop (at_ + 1)).take k)).toNat, ?_, ?_, ?_, ?_⟩
            · unfold wrNum; rw [if_pos (by omega)]
            · rw [numB_length, hszk]; omega
            · omega
            · rw [numB_length, hszk]
              unfold numB
              rw [hszk, hlow, List.drop_eq_getElem_cons (by omega), List.take_succ_cons, ← hg, hkc]
  · intro pre enc post v h
    unfold wrNum at h
    split at h
    · rename_i hr
      simp only [Option.some.injEq] at h
      subst h
      have hvn : v.toNat ≤ 4503599627370496 := by omega
      have hs7 := sz_le v.toNat
      have hg0 : (pre ++ (numB v.toNat ++ post)).getD pre.length 0 = sz v.toNat := by
        exact getD_pre pre (numB v.toNat ++ post) 0
      have hd : ((pre ++ (numB v.toNat ++ post)).drop (pre.length + 1)).take (sz v.toNat) = low (sz v.toNat) v.toNat := by
        rw [← List.drop_drop, List.drop_left]
        simp only [numB, List.cons_append, List.drop_succ_cons, List.drop_zero]
        rw [List.take_left' (low_length _ _)]
      have hl : (pre ++ (numB v.toNat ++ post)).length = pre.length + (sz v.toNat + 1) + post.length := by simp [numB_length]; omega
      unfold rdNum
      rw [hg0, Int.toNat_natCast, hd, val_low hvn, hl]
      rw [if_neg (by omega), if_neg (by omega), if_neg (by omega), if_neg ?_]
      · rw [numB_length]
        congr 2
        · omega
        · omega
      · rintro (⟨p1, p2⟩ | p | p)
        · have hp : 0 < sz v.toNat := by omega
          obtain ⟨j, hj⟩ : ∃ j, sz v.toNat = j + 1 := ⟨sz v.toNat - 1, by omega⟩
          have h1 := sz_low hp
          have h2 := sz_lt hvn
          have hg1 : (pre ++ (numB v.toNat ++ post)).getD (pre.length + 1) 0 = ((v.toNat / 256 ^ j % 256 : Nat) : Int) := by
            rw [getD_pre, numB, hj]; rfl
          rw [hg1] at p2
          rw [hj] at h1 h2
          simp only [Nat.add_sub_cancel] at h1
          have h3 : v.toNat / 256 ^ j < 256 := Nat.div_lt_of_lt_mul (by rw [Nat.pow_succ] at h2; exact h2)
          have h4 : 0 < v.toNat / 256 ^ j := Nat.div_pos h1 (Nat.pow_pos (by decide))
          rw [Nat.mod_eq_of_lt h3] at p2
          omega
        · omega
        · omega
    · cases h
  · intro pre enc v k h hk
    unfold wrNum at h
    split at h
    · rename_i hr
      simp only [Option.some.injEq] at h
      subst h
      rw [numB_length] at hk
      have hs7 := sz_le v.toNat
      unfold rdNum
      have hl : (pre ++ (numB v.toNat).take k).length = pre.length + k := by rw [List.length_append, List.length_take, numB_length]; omega
      rw [hl]
      rcases Nat.eq_zero_or_pos k with rfl | hp
      · rw [if_pos (by omega)]
      · obtain ⟨j, rfl⟩ : ∃ j, k = j + 1 := ⟨k - 1, by omega⟩
        have hg0 : (pre ++ (numB v.toNat).take (j + 1)).getD pre.length 0 = sz v.toNat := by
          exact getD_pre pre ((numB v.toNat).take (j + 1)) 0
        rw [hg0, if_neg (by omega), if_neg (by omega), if_pos (by omega)]
    · cases h
  · intro v enc h
    unfold wrNum at h
    split at h
    · simp only [Option.some.injEq] at h; subst h; exact numB_bs _
    · cases h

/-- One part, then another that hangs on its value. -/
def rdBind {α β : Type} (P : Rd α) (Q : α → Rd β) : Rd (α × β) := fun raw at_ =>
  match P raw at_ with
  | .error e => .error e
  | .ok (a, i) => match Q a raw i with
    | .error e => .error e
    | .ok (b, j) => .ok ((a, b), j)

def wrBind {α β : Type} (W : α → Option (List Int)) (V : α → β → Option (List Int)) : α × β → Option (List Int) := fun x =>
  match W x.1 with
  | none => none
  | some p => match V x.1 x.2 with
    | none => none
    | some q => some (p ++ q)

theorem Form.bind {α β : Type} {P : Rd α} {W : α → Option (List Int)} {Q : α → Rd β} {V : α → β → Option (List Int)} (hP : Form P W) (hQ : ∀ a, (W a).isSome = true → Form (Q a) (V a)) : Form (rdBind P Q) (wrBind W V) := by
  refine ⟨?_, ?_, ?_, ?_⟩
  · intro raw at_ v at' hb hat h
    unfold rdBind at h
    split at h
    · cases h
    · rename_i a i ha
      obtain ⟨p, hp, rfl, hil, ht⟩ := hP.back raw at_ a i hb hat ha
      split at h
      · cases h
      · rename_i b j hj
        obtain ⟨q, hq, rfl, hjl, hu⟩ := (hQ a (by rw [hp]; rfl)).back raw _ b j hb hil hj
        simp only [Except.ok.injEq, Prod.mk.injEq] at h
        obtain ⟨rfl, rfl⟩ := h
        refine ⟨p ++ q, by simp [wrBind, hp, hq], by rw [List.length_append]; omega, hjl, ?_⟩
        rw [List.length_append, List.take_add, ht, List.drop_drop, hu]
  · intro pre enc post v h
    unfold wrBind at h
    split at h
    · cases h
    · rename_i p hp
      split at h
      · cases h
      · rename_i q hq
        simp only [Option.some.injEq] at h
        subst h
        have h1 := hP.fore pre p (q ++ post) _ hp
        have h2 := (hQ v.1 (by rw [hp]; rfl)).fore (pre ++ p) q post _ hq
        unfold rdBind
        rw [List.append_assoc, h1]
        rw [List.append_assoc, List.length_append] at h2
        simp only [h2, List.length_append, Nat.add_assoc]
  · intro pre enc v k h hk
    unfold wrBind at h
    split at h
    · cases h
    · rename_i p hp
      split at h
      · cases h
      · rename_i q hq
        simp only [Option.some.injEq] at h
        subst h
        unfold rdBind
        by_cases hkp : k < p.length
        · have h1 := hP.short pre p _ k hp hkp
          rw [List.take_append_of_le_length (by omega), h1]
        · obtain ⟨j, rfl⟩ : ∃ j, k = p.length + j := ⟨k - p.length, by omega⟩
          rw [List.length_append] at hk
          rw [List.take_length_add_append]
          have h1 := hP.fore pre p (q.take j) _ hp
          have h2 := (hQ v.1 (by rw [hp]; rfl)).short (pre ++ p) q _ j hq (by omega)
          rw [List.append_assoc, List.length_append] at h2
          rw [h1]
          simp only [h2, Nat.add_assoc]
  · intro v enc h
    unfold wrBind at h
    split at h
    · cases h
    · rename_i p hp
      split at h
      · cases h
      · rename_i q hq
        simp only [Option.some.injEq] at h
        subst h
        exact (hP.bs _ _ hp).append ((hQ v.1 (by rw [hp]; rfl)).bs _ _ hq)

end Go.Proofs.Ytchdmlckicipcaa
