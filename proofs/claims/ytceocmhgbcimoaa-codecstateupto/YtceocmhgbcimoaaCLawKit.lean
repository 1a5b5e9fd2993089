/-
  What the walks of the records' laws share.
-/
import Derived.Test.YtceocmhgbcimoaaCSpoil
import Derived.Test.YtceocmhgbcimoaaCWakes
namespace Go.Proofs.Ytceocmhgbcimoaa
open Go.RowKit

theorem Ans.kept {S : Nat → Prop} {w w' : World} {base : Nat} {st : Option (List Int)} {a : Option Addr} {l c : Nat} {e : Int} (h : Ans w base st a l c e) (K : Kept S w w') (hS : ∀ k, S k → k < base ∨ w.heap.size ≤ k) : Ans w' base st a l c e :=
  ⟨ownsRow_block' h.row (fun k hk => K.block k (h.row.lt k hk).2 (fun hs => by have := hS k hs; have := h.row.lt k hk; omega)), h.len, h.err, h.bs⟩

theorem Ans.kept2 {S : Nat → Prop} {w w' : World} {base : Nat} {st : Option (List Int)} {a : Option Addr} {l c : Nat} {e : Int} (h : Ans w base st a l c e) (K : Kept S w w') (hS : ∀ k, S k → (Value.slice a l c).ownBlock ≠ some k) : Ans w' base st a l c e :=
  ⟨ownsRow_block' h.row (fun k hk => K.block k (h.row.lt k hk).2 (fun hs => hS k hs hk)), h.len, h.err, h.bs⟩

theorem blk {S : Nat → Prop} {w w' : World} {b : Nat} {o : Obj} (h : w.heap[b]? = some o) (K : Kept S w w') (hS : ¬ S b) : w'.heap[b]? = some o := (K.block b (Array.getElem?_eq_some_iff.1 h).1 hS).trans h

/-- What is lent reads as what it is a copy of. -/
theorem lent_bytes {w : World} {base g m cap : Nat} {raw : List Int} (ho : w.ownsRow base 5 1 (.slice (some ⟨g, 0, none⟩) (m + 4) cap) (m + 4) (lentOf raw)) (hl : raw.length = m) (hb : Bs raw) : BytesAt w (some ⟨g, 0, none⟩) m cap raw := by
  have hcap := lend_cap ho
  refine ⟨hl, by omega, fun h => (by cases h), ?_, hb⟩
  intro ad e j u hu
  cases e
  refine ho.cells rfl j u ?_
  unfold lentOf
  rw [List.getElem?_append_left]
  · exact hu
  · exact (List.getElem?_eq_some_iff.1 hu).1

theorem rowKept {w w' : World} {base n size : Nat} {e : TypeId} {v : Value} {xs : List Value} (h : w.ownsRow base e size v n xs) (K : Kept (fun _ => False) w w') : w'.ownsRow base e size v n xs :=
  ownsRow_block' h (fun k hk => K.block k (h.lt k hk).2 (fun h => h))

theorem lent_block {w : World} {base g m cap : Nat} {xs : List Value} (ho : w.ownsRow base 5 1 (.slice (some ⟨g, 0, none⟩) m cap) m xs) : base ≤ g ∧ g < w.heap.size := ho.lt g rfl

end Go.Proofs.Ytceocmhgbcimoaa
