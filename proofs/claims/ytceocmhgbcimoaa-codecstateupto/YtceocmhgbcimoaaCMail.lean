/-
  A mail, or none: written by the codec and by the document.
-/
import Derived.Test.YtceocmhgbcimoaaCRefText
import Derived.Test.YtceocmhgbcimoaaCEvent
namespace Go.Proofs.Ytceocmhgbcimoaa
open Go.RowKit

/-- Is it none? -/
def isNone (k : Int) (to fr nd nm tx : ByteArray) (s : Int) : Prop := k = 0 ∧ to.toList = [] ∧ fr.toList = [] ∧ nd.toList = [] ∧ nm.toList = [] ∧ tx.toList = [] ∧ s = 0

open Classical in
noncomputable def wrMail (k : Int) (to fr nd nm tx : ByteArray) (s : Int) : Option (List Int) :=
  if k = 0 then (if isNone k to fr nd nm tx s then some [0] else none)
  else put (put (put (put (put (put (wrNum 1 4 k) (wrText to)) (wrText fr)) (wrText nd)) (wrText nm)) (wrText tx)) (wrNum 0 4 s)

theorem put_assoc' (a b c : Option (List Int)) : put (put a b) c = put a (put b c) := by
  cases a <;> cases b <;> cases c <;> simp [put]

theorem wrNum_14 {k : Int} (h : k ≠ 0) : wrNum 1 4 k = wrNum 0 4 k := by
  unfold wrNum
  by_cases h2 : 0 ≤ k ∧ k ≤ 4
  · rw [if_pos h2, if_pos (by omega)]
  · rw [if_neg h2, if_neg (by omega)]

theorem WIn.bnd {w : World} {ty : TypeId} {base p : Nat} {st : Option (List Int)} {L : Nat} (I : WIn w ty base p st L) : p < w.heap.size ∧ base ≤ p := by
  obtain ⟨v, raw, bad, A, _⟩ := I
  exact ⟨A.lt, A.bp⟩

theorem WIn.alloc {w : World} {ty : TypeId} {base p : Nat} {st : Option (List Int)} {L : Nat} (I : WIn w ty base p st L) (o : Obj) : WIn (w.alloc o) ty base p st L := by
  obtain ⟨v, raw, bad, A, h⟩ := I
  exact ⟨v, raw, bad, A.kept (Kept.alloc (fun _ => False) w o) (fun _ h => h.elim), h⟩

theorem WIn.wide {w : World} {ty : TypeId} {base p : Nat} {st : Option (List Int)} {L L' : Nat} (I : WIn w ty base p st L) (h : L ≤ L') : WIn w ty base p st L' := by
  obtain ⟨v, raw, bad, A, hl, hs⟩ := I
  exact ⟨v, raw, bad, A, Nat.le_trans hl h, hs⟩

theorem WIn.refuse {w : World} {base p : Nat} {st : Option (List Int)} {L : Nat} (I : WIn w 117 base p st L) (b : Bool) :
    Calls Try.prog 121 #[.pointer (some ⟨p, 0, none⟩), .bool b] w fun e w' => (∃ v, e = .returned (.bool v)) ∧ WIn w' 117 base p (if b then none else st) L ∧ Keep2 base p w w' := by
  obtain ⟨v, raw, bad, A, hl, rfl⟩ := I
  refine (wrefuse_any A b).mono ?_
  rintro e w' ⟨rfl, rfl⟩
  refine ⟨⟨_, rfl⟩, ⟨v, raw, bad || b, A.mark _, hl, ?_⟩, Keep2.setP _ _ _ A.bp⟩
  cases b <;> cases bad <;> rfl

theorem toList_nil {x : ByteArray} (h : x.toList = []) : x = ⟨#[]⟩ := by
  rw [ByteArray.toList_eq] at h
  obtain ⟨⟨l⟩⟩ := x
  cases l with
  | nil => rfl
  | cons a b => cases h

theorem numB_zero : wrNum 0 4 0 = some [0] := rfl

end Go.Proofs.Ytceocmhgbcimoaa
