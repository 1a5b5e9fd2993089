/-
  The form of flags, of changes, of lists.
-/
import Derived.Test.YtceocmhgbcimoaaCOpsX
import Derived.Test.YtceocmhgbcimoaaCForm
namespace Go.Proofs.Ytceocmhgbcimoaa
open Go.RowKit

def rdFlag : Rd Bool := fun raw i => if raw.length ≤ i then .error raw.length else if 1 < raw.getD i 0 then .error i else .ok (raw.getD i 0 == 1, i + 1)

theorem flagForm : Form rdFlag wrFlag := by
  refine ⟨?_, ?_, ?_, ?_⟩
  · intro raw at_ v at' hb hat h
    unfold rdFlag at h
    split at h
    · cases h
    · rename_i h1
      split at h
      · cases h
      · rename_i h2
        have hg := hb.getD at_
        simp only [Except.ok.injEq, Prod.mk.injEq] at h
        obtain ⟨rfl, rfl⟩ := h
        have hlt : at_ < raw.length := by omega
        refine ⟨_, rfl, rfl, hlt, ?_⟩
        have e : raw.getD at_ 0 = raw[at_] := by rw [List.getD_eq_getElem?_getD, List.getElem?_eq_getElem hlt]; rfl
        rw [e] at hg h2 ⊢
        rw [List.drop_eq_getElem_cons hlt]
        have h3 : raw[at_] = 0 ∨ raw[at_] = 1 := by omega
        rcases h3 with h3 | h3 <;> rw [h3] <;> rfl
  · intro pre enc post v h
    cases h
    unfold rdFlag
    have e : (pre ++ ([flagB v] ++ post)).getD pre.length 0 = flagB v := by simp [List.getD_eq_getElem?_getD]
    rw [if_neg (by simp), e, if_neg (by cases v <;> decide)]
    cases v <;> rfl
  · intro pre enc v k h hk
    cases h
    obtain rfl : k = 0 := by simp at hk; omega
    unfold rdFlag
    rw [if_pos (by simp)]
    simp
  · intro v enc h
    cases h
    intro y hy
    simp at hy
    subst hy
    cases v <;> decide

/-- Just one value, of no bytes. -/
def rdOne {α : Type} (d : α) : Rd α := fun _ i => .ok (d, i)

theorem oneForm {α : Type} (d : α) (W : α → Option (List Int)) (h1 : W d = some []) (h2 : ∀ v e, W v = some e → v = d) : Form (rdOne d) W := by
  have hn : ∀ v e, W v = some e → e = [] ∧ v = d := by
    intro v e h
    obtain rfl := h2 v e h
    rw [h1] at h
    cases h
    exact ⟨rfl, rfl⟩
  refine ⟨?_, ?_, ?_, ?_⟩
  · intro raw at_ v at' hb hat h
    cases h
    exact ⟨[], h1, rfl, hat, by simp⟩
  · intro pre enc post v h
    obtain ⟨rfl, rfl⟩ := hn v enc h
    simp [rdOne]
  · intro pre enc v k h hk
    obtain ⟨rfl, rfl⟩ := hn v enc h
    simp at hk
  · intro v enc h
    obtain ⟨rfl, rfl⟩ := hn v enc h
    intro y hy
    cases hy

def wrNil (v : ByteArray) : Option (List Int) := if v.toList = [] then some [] else none

theorem nilForm : Form (rdOne (⟨#[]⟩ : ByteArray)) wrNil := by
  refine oneForm _ _ ?_ ?_
  · unfold wrNil
    rw [if_pos (by rw [ByteArray.toList_eq])]
  · intro v e h
    unfold wrNil at h
    split at h
    · rename_i hv; exact toList_nil hv
    · cases h

def rdOp : Rd (ByteArray × Bool × ByteArray) := rdBind rdText fun _ => rdBind rdFlag fun g => if g = true then rdOne ⟨#[]⟩ else rdText

theorem opForm : Form rdOp (fun x => wrOp x.1 x.2.2 x.2.1) := by
  have h : (fun x : ByteArray × Bool × ByteArray => wrOp x.1 x.2.2 x.2.1) = wrBind wrText (fun _ => wrBind wrFlag (fun g => if g = true then wrNil else wrText)) := by
    funext x
    obtain ⟨k, g, v⟩ := x
    simp only [wrOp, wrBind]
    cases wrText k with
    | none => rfl
    | some p =>
      cases g with
      | true =>
        simp only [if_true, wrNil]
        by_cases hv : v.toList = []
        · rw [if_pos hv]; simp [put, wrFlag]
        · rw [if_neg hv]; simp [put, wrFlag]
      | false =>
        simp only [Bool.false_eq_true, if_false]
        cases wrText v <;> simp [put, wrFlag]
  rw [h]
  refine textForm.bind (fun _ _ => flagForm.bind (fun g _ => ?_))
  cases g with
  | true => simp only [if_true]; exact nilForm
  | false => simp only [Bool.false_eq_true, if_false]; exact textForm

/-- So many, one behind the other. -/
def rdMany {α : Type} (P : Rd α) : Nat → Rd (List α)
  | 0 => rdOne []
  | n + 1 => fun raw i => match rdBind P (fun _ => rdMany P n) raw i with
    | .error e => .error e
    | .ok ((x, l), j) => .ok (x :: l, j)

def wrMany {α : Type} (W : α → Option (List Int)) : Nat → List α → Option (List Int)
  | 0, [] => some []
  | n + 1, x :: l => wrBind W (fun _ => wrMany W n) (x, l)
  | _, _ => none

theorem manyForm {α : Type} {P : Rd α} {W : α → Option (List Int)} (F : Form P W) : ∀ n, Form (rdMany P n) (wrMany W n)
  | 0 => oneForm [] _ rfl (fun v e h => by cases v with
    | nil => rfl
    | cons x l => cases h)
  | n + 1 => by
    have G := F.bind (Q := fun _ => rdMany P n) (V := fun _ => wrMany W n) (fun _ _ => manyForm F n)
    refine ⟨?_, ?_, ?_, ?_⟩
    · intro raw at_ v at' hb hat h
      simp only [rdMany] at h
      split at h
      · cases h
      · rename_i x l j hx
        simp only [Except.ok.injEq, Prod.mk.injEq] at h
        obtain ⟨rfl, rfl⟩ := h
        exact G.back raw at_ (x, l) _ hb hat hx
    · intro pre enc post v h
      cases v with
      | nil => cases h
      | cons x l =>
        simp only [rdMany]
        rw [G.fore pre enc post (x, l) h]
    · intro pre enc v k h hk
      cases v with
      | nil => cases h
      | cons x l =>
        simp only [rdMany]
        rw [G.short pre enc (x, l) k h hk]
    · intro v enc h
      cases v with
      | nil => cases h
      | cons x l => exact G.bs (x, l) enc h

end Go.Proofs.Ytceocmhgbcimoaa
