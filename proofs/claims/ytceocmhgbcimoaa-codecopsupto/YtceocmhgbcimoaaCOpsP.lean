/-
  Changes: what is written of them and what is read, as data.
-/
import Derived.Test.YtceocmhgbcimoaaCRdOps2
namespace Go.Proofs.Ytceocmhgbcimoaa
open Go.RowKit

def toRd (o : OpD) : RdD := (o.1, o.2.2, o.2.1)
def unRd (x : RdD) : OpD := (x.1, x.2.2, x.2.1)

theorem un_to (l : List OpD) : (l.map toRd).map unRd = l := by
  rw [List.map_map]
  exact List.map_id' l

def wrOpR (x : RdD) : Option (List Int) := wrOp x.1 x.2.2 x.2.1

def wrOpsR : Int × List RdD → Option (List Int) := wrBind (wrNum 0 4503599627370496) (fun n => wrMany wrOpR n.toNat)

theorem opsForm : Form rdOps wrOpsR := (numForm (by decide) (by decide)).bind (fun n _ => manyForm opForm n.toNat)

theorem wrMany_fold (l : List OpD) : ∀ s : Option (List Int), wrOps s l = put s (wrMany wrOpR l.length (l.map toRd)) := by
  induction l with
  | nil => intro s; exact (put_nil s).symm
  | cons o l ih =>
    intro s
    have e : wrMany wrOpR (l.length + 1) (toRd o :: l.map toRd) = put (wrOpR (toRd o)) (wrMany wrOpR l.length (l.map toRd)) := (put_bind wrOpR (wrMany wrOpR l.length) (toRd o, l.map toRd)).symm
    show wrOps (put s (wrOp o.1 o.2.1 o.2.2)) l = put s (wrMany wrOpR (l.length + 1) (toRd o :: l.map toRd))
    rw [ih, e, put_assoc]
    rfl

theorem wrOps_eq {n : Nat} {l : List OpD} (h : l.length = n) : wrOps (wrNum 0 4503599627370496 n) l = wrOpsR ((n : Int), l.map toRd) := by
  subst h
  rw [wrMany_fold]
  unfold wrOpsR wrBind put
  simp only [Int.toNat_natCast]
  cases wrNum 0 4503599627370496 (l.length : Int) with
  | none => rfl
  | some p => cases wrMany wrOpR l.length (l.map toRd) <;> rfl

theorem wrMany_len {α : Type} {W : α → Option (List Int)} : ∀ {n : Nat} {l : List α} {q : List Int}, wrMany W n l = some q → l.length = n
  | 0, [], _, _ => rfl
  | 0, x :: l, _, h => by cases h
  | n + 1, [], _, h => by cases h
  | n + 1, x :: l, q, h => by
    simp only [wrMany, wrBind] at h
    cases h1 : W x with
    | none => rw [h1] at h; cases h
    | some p =>
      rw [h1] at h
      cases h2 : wrMany W n l with
      | none => rw [h2] at h; cases h
      | some q2 => rw [List.length_cons, wrMany_len h2]

theorem text_size {s : ByteArray} {q : List Int} (h : wrText s = some q) : s.size + 1 ≤ q.length := by
  unfold wrText at h
  cases hw : wrNum 0 1048576 (s.size : Int) with
  | none => rw [hw] at h; cases h
  | some p =>
    rw [hw] at h
    simp only [Option.map_some, Option.some.injEq] at h
    subst h
    have : 1 ≤ p.length := by
      unfold wrNum at hw
      split at hw
      · cases hw
        rw [numB_length]; omega
      · cases hw
    rw [List.length_append, bts_length]
    omega

theorem op_size {k v : ByteArray} {g : Bool} {q : List Int} (h : wrOp k v g = some q) : k.size + v.size + 2 ≤ q.length := by
  obtain ⟨x, y, hx, hy, hq⟩ := put_len h
  obtain ⟨x1, x2, h1, h2, hx2⟩ := put_len hx
  have e1 := text_size h1
  have e2 : x2.length = 1 := by cases h2; rfl
  have e3 : v.size ≤ y.length := by
    cases g with
    | false => rw [if_neg (by decide)] at hy; have := text_size hy; omega
    | true =>
      rw [if_pos rfl] at hy
      split at hy
      · rename_i hv
        obtain rfl := toList_nil hv
        exact Nat.zero_le _
      · cases hy
  omega

theorem many_size : ∀ {n : Nat} {l : List RdD} {q : List Int}, wrMany wrOpR n l = some q → opsB (l.map unRd) ≤ 12 * q.length
  | 0, [], _, _ => Nat.zero_le _
  | 0, x :: l, _, h => by cases h
  | n + 1, [], _, h => by cases h
  | n + 1, x :: l, q, h => by
    have e : put (wrOpR x) (wrMany wrOpR n l) = some q := (put_bind wrOpR (wrMany wrOpR n) (x, l)).trans h
    obtain ⟨p, r, h1, h2, hq⟩ := put_len e
    have e1 := op_size h1
    have e2 := many_size h2
    show x.1.size + x.2.2.size + 24 + opsB (l.map unRd) ≤ 12 * q.length
    omega

/-- What was read is written so. -/
theorem ops_back {raw : List Int} {n : Int} {xs : List RdD} (hb : Bs raw) (h : rdWhole rdOps raw = .ok (n, xs)) : n = (xs.length : Int) ∧ wrOps (wrNum 0 4503599627370496 (xs.length : Int)) (xs.map unRd) = some raw ∧ opsB (xs.map unRd) ≤ 12 * raw.length := by
  have e := opsForm.again hb h
  have e' := e
  unfold wrOpsR wrBind at e'
  simp only [] at e'
  cases h1 : wrNum 0 4503599627370496 n with
  | none => rw [h1] at e'; cases e'
  | some p =>
    rw [h1] at e'
    simp only [] at e'
    cases h2 : wrMany wrOpR n.toNat xs with
    | none => rw [h2] at e'; cases e'
    | some q =>
      rw [h2] at e'
      simp only [Option.some.injEq] at e'
      have hl := wrMany_len h2
      have hn : 0 ≤ n := by
        unfold wrNum at h1
        split at h1
        · rename_i hh; exact hh.1
        · cases h1
      have en : n = (xs.length : Int) := by omega
      refine ⟨en, ?_, ?_⟩
      · rw [wrOps_eq (by rw [List.length_map]), List.map_map]
        rw [en] at e
        rw [show (toRd ∘ unRd) = id from rfl, List.map_id]
        exact e
      · have := many_size h2
        rw [← e', List.length_append]
        omega

/-- What is written is read as it. -/
theorem ops_fore {n : Nat} {l : List OpD} {q : List Int} (hn : l.length = n) (h : wrOps (wrNum 0 4503599627370496 n) l = some q) : rdWhole rdOps q = .ok ((n : Int), l.map toRd) := opsForm.whole (by rw [← wrOps_eq hn]; exact h)

theorem ops_len : ∀ {l : List OpD} {s : Option (List Int)} {q : List Int}, wrOps s l = some q → ∃ p, s = some p ∧ q.length ≤ p.length + opsB l
  | [], s, q, h => ⟨q, h, Nat.le_refl _⟩
  | o :: l, s, q, h => by
    obtain ⟨p, hp, hq⟩ := ops_len (l := l) (s := put s (wrOp o.1 o.2.1 o.2.2)) h
    obtain ⟨x, y, hx, hy, he⟩ := put_len hp
    have := op_len hy
    refine ⟨x, hx, ?_⟩
    show q.length ≤ x.length + (o.1.size + o.2.1.size + 24 + opsB l)
    omega

theorem opCells_get : ∀ {xs : List RdD} {i : Nat} {x : RdD}, xs[i]? = some x → ∀ j, j < 3 → (opCells xs)[i * 3 + j]? = [Value.string x.1, .string x.2.2, .bool x.2.1][j]?
  | [], i, x, h => by simp at h
  | y :: ys, 0, x, h => by
    intro j hj
    have : y = x := by simpa using h
    subst this
    show ([Value.string y.1, .string y.2.2, .bool y.2.1] ++ opCells ys)[0 * 3 + j]? = _
    rw [Nat.zero_mul, Nat.zero_add, List.getElem?_append_left (by simpa using hj)]
  | y :: ys, i + 1, x, h => by
    intro j hj
    have h' : ys[i]? = some x := by simpa using h
    show ([Value.string y.1, .string y.2.2, .bool y.2.1] ++ opCells ys)[(i + 1) * 3 + j]? = _
    rw [List.getElem?_append_right (by simp; omega)]
    have e : (i + 1) * 3 + j - [Value.string y.1, .string y.2.2, .bool y.2.1].length = i * 3 + j := by simp; omega
    rw [e]
    exact opCells_get h' j hj

/-- A row that is owned is a row of changes. -/
theorem OpsAt.ofRow {w : World} {base n : Nat} {v : Value} {xs : List RdD} (h : w.ownsRow base 166 3 v n (opCells xs)) (hn : xs.length = n) : ∃ a c, v = .slice a n c ∧ OpsAt w a n c (xs.map unRd) ∧ (∀ ad, a = some ad → 0 < n → base ≤ ad.block ∧ ad.block < w.heap.size) := by
  obtain ⟨a, c, rfl⟩ := ownsRow_shape h
  refine ⟨a, c, rfl, ?_, ?_⟩
  · refine ⟨by rw [List.length_map]; exact hn, ?_, ?_, ?_⟩
    · rcases h.2 with ⟨e, h0⟩ | ⟨g, cap, cur, e, _, _, h1, h2, h3, h4⟩
      · simp only [Value.slice.injEq] at e; omega
      · simp only [Value.slice.injEq] at e
        obtain ⟨_, _, rfl⟩ := e
        omega
    · intro ad e _
      subst e
      rcases h.2 with ⟨e, h0⟩ | ⟨g, cap, cur, e, _⟩
      · simp only [Value.slice.injEq] at e; cases e.1
      · simp only [Value.slice.injEq, Option.some.injEq] at e
        obtain ⟨rfl, _, rfl⟩ := e
        refine ⟨rfl, fun i o ho => ?_⟩
        obtain ⟨x, hx, rfl⟩ : ∃ x, xs[i]? = some x ∧ unRd x = o := by
          rw [List.getElem?_map] at ho
          cases hx : xs[i]? with
          | none => rw [hx] at ho; cases ho
          | some x => rw [hx] at ho; exact ⟨x, rfl, Option.some.inj ho⟩
        have hc : ∀ j u, (opCells xs)[j]? = some u → w.cell? ⟨g, 0 + j, none⟩ = some u := fun j u hu => by
          have := h.cells (g := g) rfl j u hu
          simpa [Addr.add_lit] using this
        have hcell : ∀ j, j < 3 → (opCells xs)[i * 3 + j]? = [Value.string x.1, .string x.2.2, .bool x.2.1][j]? := opCells_get hx
        refine ⟨hc (i * 3) _ ?_, ?_, ?_⟩
        · exact hcell 0 (by decide)
        · rw [Nat.add_assoc]; exact hc (i * 3 + 1) _ (hcell 1 (by decide))
        · rw [Nat.add_assoc]; exact hc (i * 3 + 2) _ (hcell 2 (by decide))
    · intro e
      subst e
      rcases h.2 with ⟨e, h0⟩ | ⟨g, cap, cur, e, _⟩
      · exact h0
      · simp only [Value.slice.injEq] at e; cases e.1
  · intro ad e h0
    subst e
    rcases h.2 with ⟨e, h0⟩ | ⟨g, cap, cur, e, _⟩
    · simp only [Value.slice.injEq] at e; cases e.1
    · simp only [Value.slice.injEq, Option.some.injEq] at e
      obtain ⟨rfl, _, rfl⟩ := e
      exact h.lt g rfl

end Go.Proofs.Ytceocmhgbcimoaa
