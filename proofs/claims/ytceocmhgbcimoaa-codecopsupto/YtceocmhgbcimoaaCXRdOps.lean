/-
  Changes: the document's ReadOps.
-/
import Derived.Test.YtceocmhgbcimoaaCXEl
import Derived.Test.YtceocmhgbcimoaaCRdOps3
namespace Go.Proofs.Ytceocmhgbcimoaa
open Go.RowKit

/-- On the way of reading a list: w0 is the world ahead. -/
structure XL (w0 w : World) (a : Option Addr) (m c : Nat) (raw : List Int) (st : Except Nat Nat) (xs : List RdD) (v : Value) : Prop where
  rd : XAt w w0.heap.size a m c raw st
  row : w.ownsRow (w0.heap.size + 1) 166 3 v xs.length (opCells xs)
  kept : Kept (fun _ => False) w0 w
  old : raw ≠ [] → ∀ ad, a = some ad → ad.block < w0.heap.size

section
variable {w0 w w' : World} {a : Option Addr} {m c : Nat} {raw : List Int} {st : Except Nat Nat} {xs : List RdD} {v : Value}

/-- Behind the element's reading the list is as it was. -/
theorem XL.read {st' : Except Nat Nat} {cs zs : Array Value} (S : XL w0 w a m c raw st xs v) (h : XEl (w.alloc (.cells zs 166)) w' 166 w.heap.size w0.heap.size a m c raw st' cs) : XL w0 w' a m c raw st' xs v := by
  have hr := S.rd.lt
  have K : Kept (fun k => k = w0.heap.size) w w' := (Kept.alloc (fun k => k = w0.heap.size) w _).trans h.kept (fun k hk => by rcases hk with rfl | rfl; exact .inl rfl; exact .inr (Nat.le_refl _))
  refine ⟨h.rd, ownsRow_block' S.row (fun k hk => K.block k (S.row.lt k hk).2 (fun e => ?_)), S.kept.trans K (fun k hk => .inr (Nat.le_of_eq (Eq.symm hk))), S.old⟩
  have := (S.row.lt k hk).1
  have e' : k = w0.heap.size := e
  omega

/-- An element is put behind. -/
theorem XL.push {w3 : World} {v' : Value} {x : RdD} (S : XL w0 w a m c raw st xs v) (K : Kept (fun k => v.ownBlock = some k) w w3)
    (row : w3.ownsRow (w0.heap.size + 1) 166 3 v' (xs.length + 1) (opCells xs ++ [.string x.1, .string x.2.2, .bool x.2.1])) : XL w0 w3 a m c raw st (xs ++ [x]) v' := by
  have low : ∀ k, k ≤ w0.heap.size → ¬ v.ownBlock = some k := fun k hk e => by have := (S.row.lt k e).1; omega
  refine ⟨S.rd.kept K (low _ (Nat.le_refl _)) (fun h ad e => low _ (by have := S.old h ad e; omega)), ?_, S.kept.trans K (fun k hk => .inr (by have := (S.row.lt k hk).1; omega)), S.old⟩
  rw [List.length_append, opCells_append]
  exact row
end

/-- How far the reading is. -/
def LRel (full : Except Nat (List RdD × Nat)) (raw : List Int) (q : Nat) (xs : List RdD) : Except Nat Nat → Prop
  | .error pl => full = .error pl
  | .ok j => xs.length ≤ j ∧ full = restOf xs (rdMany rdOp q raw j)

def fullOf (n : Nat) (raw : List Int) : Except Nat Nat → Except Nat (List RdD × Nat)
  | .error pl => .error pl
  | .ok i => restOf [] (rdMany rdOp n raw i)

theorem rdOps_full (raw : List Int) : ∃ n : Nat, xval 0 (rdNum 0 4503599627370496 raw 0) = (n : Int) ∧ rdOps raw 0 = listRes n (fullOf n raw (xst (rdNum 0 4503599627370496 raw 0))) := by
  cases hd : rdNum 0 4503599627370496 raw 0 with
  | error pl => exact ⟨0, rfl, by simp [rdOps, rdBind, hd, xst, fullOf, listRes]⟩
  | ok y =>
    obtain ⟨n, i⟩ := y
    obtain ⟨n0, _, _⟩ := rdNum_ok hd
    obtain ⟨n, rfl⟩ := Int.eq_ofNat_of_zero_le n0
    refine ⟨n, rfl, ?_⟩
    simp only [rdOps, rdBind, hd, Int.toNat_natCast, xst, fullOf]
    cases rdMany rdOp n raw i <;> rfl

/-- One change by the document. -/
def xop (raw : List Int) (j : Nat) (k : ByteArray) (g : Bool) (v : ByteArray) : Except Nat Nat → Prop
  | .error pl => rdOp raw j = .error pl
  | .ok i => rdOp raw j = .ok ((k, g, v), i)

theorem xop_gone {raw : List Int} {j : Nat} (h : xval false (xnext rdFlag raw (xst (xnext rdText raw (.ok j)))) = true) : xop raw j (xval ⟨#[]⟩ (xnext rdText raw (.ok j))) true ⟨#[]⟩ (xst (xnext rdFlag raw (xst (xnext rdText raw (.ok j))))) := by
  cases h0 : rdText raw j with
  | error e => simp [xop, xnext, xst, rdOp, rdBind, h0]
  | ok y0 =>
    obtain ⟨k, i0⟩ := y0
    cases h1 : rdFlag raw i0 with
    | error e => simp [xop, xnext, xst, rdOp, rdBind, h0, h1]
    | ok y1 =>
      obtain ⟨g, i1⟩ := y1
      simp only [xnext, xst, xval, h0, h1] at h
      subst h
      simp [xop, xnext, xst, xval, rdOp, rdBind, rdOne, h0, h1]

theorem xop_set {raw : List Int} {j : Nat} (h : xval false (xnext rdFlag raw (xst (xnext rdText raw (.ok j)))) = false) : xop raw j (xval ⟨#[]⟩ (xnext rdText raw (.ok j))) false (xval ⟨#[]⟩ (xnext rdText raw (xst (xnext rdFlag raw (xst (xnext rdText raw (.ok j))))))) (xst (xnext rdText raw (xst (xnext rdFlag raw (xst (xnext rdText raw (.ok j))))))) := by
  cases h0 : rdText raw j with
  | error e => simp [xop, xnext, xst, rdOp, rdBind, h0]
  | ok y0 =>
    obtain ⟨k, i0⟩ := y0
    cases h1 : rdFlag raw i0 with
    | error e => simp [xop, xnext, xst, rdOp, rdBind, h0, h1]
    | ok y1 =>
      obtain ⟨g, i1⟩ := y1
      simp only [xnext, xst, xval, h0, h1] at h
      subst h
      cases h2 : rdText raw i1 with
      | error e => simp [xop, xnext, xst, rdOp, rdBind, h0, h1, h2]
      | ok y2 =>
        obtain ⟨u, i2⟩ := y2
        simp [xop, xnext, xst, xval, rdOp, rdBind, h0, h1, h2]

theorem LRel.next {full : Except Nat (List RdD × Nat)} {raw : List Int} {q j : Nat} {xs : List RdD} {k : ByteArray} {g : Bool} {v : ByteArray} {st : Except Nat Nat} (h : LRel full raw (q + 1) xs (.ok j)) (x : xop raw j k g v st) : LRel full raw q (xs ++ [(k, g, v)]) st := by
  obtain ⟨h1, h2⟩ := h
  cases st with
  | error pl => exact h2.trans (rest_err x)
  | ok i =>
    have := rdOp_pos x
    refine ⟨?_, h2.trans (rest_ok x)⟩
    rw [List.length_append]
    simp
    omega

/-- What is told at the end. -/
theorem XL.told {w0 w w5 : World} {a : Option Addr} {m c : Nat} {raw : List Int} {st : Except Nat Nat} {xs : List RdD} {v : Value} {n q : Nat} (S : XL w0 w a m c raw st xs v) (K : Kept (fun k => k = w0.heap.size) w w5) (h : LRel (fullOf n raw (xst (rdNum 0 4503599627370496 raw 0))) raw q xs st) (hr : rdOps raw 0 = listRes n (fullOf n raw (xst (rdNum 0 4503599627370496 raw 0)))) (hq : (∃ j, st = .ok j) → q = 0) :
    Kept (fun _ => False) w0 w5 ∧ (∀ pl, xend raw st = .error pl → OpsOut w5 w0.heap.size (.returned (.tuple #[.slice none 0 0, .int .i64 pl, .int .i64 2])) (rdWhole rdOps raw)) ∧ (∀ u, xend raw st = .ok u → OpsOut w5 w0.heap.size (.returned (.tuple #[v, .int .i64 0, .int .i64 0])) (rdWhole rdOps raw)) := by
  have hlt := S.rd.lt
  refine ⟨S.kept.trans K (fun k e => .inr (Nat.le_of_eq (Eq.symm e))), ?_, ?_⟩
  · intro pl he
    have : rdWhole rdOps raw = .error pl := by
      cases st with
      | error e =>
        obtain rfl : e = pl := by simpa [xend] using he
        have h' : fullOf n raw (xst (rdNum 0 4503599627370496 raw 0)) = .error e := h
        rw [h'] at hr
        exact ops_err hr
      | ok j =>
        obtain rfl := hq ⟨j, rfl⟩
        obtain ⟨_, h'⟩ := h
        simp only [rdMany, rdOne, restOf, List.append_nil] at h'
        rw [h'] at hr
        have := ops_ok (n := n) (xs := xs) (i := j) hr
        rw [this]
        unfold xend at he
        simp only [] at he
        split at he
        · rename_i hj
          simp only [Except.error.injEq] at he
          subst he
          simp [hj]
        · cases he
    rw [this]
    rfl
  · intro u he
    have : rdWhole rdOps raw = .ok ((n : Int), xs) := by
      cases st with
      | error e => cases he
      | ok j =>
        obtain rfl := hq ⟨j, rfl⟩
        obtain ⟨_, h'⟩ := h
        simp only [rdMany, rdOne, restOf, List.append_nil] at h'
        rw [h'] at hr
        have := ops_ok (n := n) (xs := xs) (i := j) hr
        rw [this]
        unfold xend at he
        simp only [] at he
        split at he
        · cases he
        · rename_i hj
          simp [hj]
    rw [this]
    refine ⟨v, rfl, ownsRow_mono (ownsRow_block' S.row (fun k hk => K.block k (S.row.lt k hk).2 (fun e => ?_))) (by omega)⟩
    have := (S.row.lt k hk).1
    have e' : k = w0.heap.size := e
    omega

end Go.Proofs.Ytceocmhgbcimoaa
