/-
  An element that the document's reader reads field by field.
-/
import Derived.Test.YtceocmhgbcimoaaCRefText
import Derived.Test.YtceocmhgbcimoaaCRec
import Derived.Test.YtceocmhgbcimoaaCXFlag
namespace Go.Proofs.Ytceocmhgbcimoaa
open Go.RowKit

/-- On the way of reading an element: w0 is the world ahead, E its block, r the reader's. -/
structure XEl (w0 w : World) (T : TypeId) (E r : Nat) (a : Option Addr) (m c : Nat) (raw : List Int) (st : Except Nat Nat) (cs : Array Value) : Prop where
  rd : XAt w r a m c raw st
  el : w.heap[E]? = some (.cells cs T (0, 0))
  kept : Kept (fun k => k = r ∨ k = E) w0 w
  ne : E ≠ r
  na : raw ≠ [] → ∀ ad, a = some ad → ad.block ≠ E

section
variable {w0 w : World} {T : TypeId} {E r : Nat} {a : Option Addr} {m c : Nat} {raw : List Int} {st : Except Nat Nat} {cs : Array Value}

theorem XEl.cell (S : XEl w0 w T E r a m c raw st cs) {o : Nat} {u : Value} (hu : cs[o]? = some u) : w.cell? ⟨E, o, none⟩ = some u ∧ w.frozen? ⟨E, o, none⟩ = false := cellOf' S.el hu

theorem XEl.store (S : XEl w0 w T E r a m c raw st cs) (o : Nat) (v : Value) : XEl w0 (w.setCell ⟨E, o, none⟩ v) T E r a m c raw st (cs.setIfInBounds o v) := by
  have K : Kept (fun k => k = E) w (w.setCell ⟨E, o, none⟩ v) := Kept.setCell (S := fun k => k = E) _ _ _ rfl
  exact ⟨S.rd.kept K (fun e => S.ne (Eq.symm e)) S.na, by simp [World.setCell, Array.getElem?_modify, S.el], S.kept.and (K.mono (fun _ h => .inr h)), S.ne, S.na⟩

theorem XEl.to {st' : Except Nat Nat} (S : XEl w0 w T E r a m c raw st cs) {w1 : World} (K : Kept (fun k => k = r) w w1) (A : XAt w1 r a m c raw st') : XEl w0 w1 T E r a m c raw st' cs :=
  ⟨A, (K.block E (Array.getElem?_eq_some_iff.1 S.el).1 S.ne).trans S.el, S.kept.and (K.mono (fun _ h => .inl h)), S.ne, S.na⟩

theorem xel_num (S : XEl w0 w T E r a m c raw st cs) (lo hi : Int) :
    Calls Try.prog 99 #[.pointer (some ⟨r, 0, none⟩), .int .i64 lo, .int .i64 hi] w fun e w' => e = .returned (.int .i64 (xval 0 (xnext (rdNum lo hi) raw st))) ∧ XEl w0 w' T E r a m c raw (xst (xnext (rdNum lo hi) raw st)) cs :=
  (xrd_any S.rd lo hi).mono (fun _ _ ⟨h, A, K⟩ => ⟨h, S.to K A⟩)

theorem xel_text (S : XEl w0 w T E r a m c raw st cs) :
    Calls Try.prog 98 #[.pointer (some ⟨r, 0, none⟩)] w fun e w' => e = .returned (.string (xval ⟨#[]⟩ (xnext rdText raw st))) ∧ XEl w0 w' T E r a m c raw (xst (xnext rdText raw st)) cs :=
  (xrtext_any S.rd).mono (fun _ _ ⟨h, A, K⟩ => ⟨h, S.to K A⟩)

theorem xel_flag (S : XEl w0 w T E r a m c raw st cs) :
    Calls Try.prog 110 #[.pointer (some ⟨r, 0, none⟩)] w fun e w' => e = .returned (.bool (xval false (xnext rdFlag raw st))) ∧ XEl w0 w' T E r a m c raw (xst (xnext rdFlag raw st)) cs :=
  (xrflag_any S.rd).mono (fun _ _ ⟨h, A, K⟩ => ⟨h, S.to K A⟩)

/-- The element's block is made. -/
theorem XEl.new {zs : Array Value} (A : XAt w r a m c raw st) (hr : r < w.heap.size) (old : raw ≠ [] → ∀ ad, a = some ad → ad.block < w.heap.size) : XEl (w.alloc (.cells zs T)) (w.alloc (.cells zs T)) T w.heap.size r a m c raw st zs :=
  ⟨A.kept (Kept.alloc (fun _ => False) w _) (fun h => h) (fun _ _ _ h => h), by rw [heap_alloc_new], Kept.refl _ _, by omega, fun h ad e => by have := old h ad e; omega⟩
end

end Go.Proofs.Ytceocmhgbcimoaa
