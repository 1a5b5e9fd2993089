/-
  Changes: read by the codec, one behind the other.
-/
import Derived.Test.YtceocmhgbcimoaaCRdOp
namespace Go.Proofs.Ytceocmhgbcimoaa
open Go.RowKit

abbrev RdD := ByteArray × Bool × ByteArray

/-- The cells of a row of changes. -/
def opCells (xs : List RdD) : List Value := xs.flatMap fun x => [.string x.1, .string x.2.2, .bool x.2.1]

theorem opCells_one (x : RdD) : opCells [x] = [.string x.1, .string x.2.2, .bool x.2.1] := rfl

theorem opCells_append (xs ys : List RdD) : opCells (xs ++ ys) = opCells xs ++ opCells ys := by
  unfold opCells
  rw [List.flatMap_append]

/-- On the way of reading a list: w0 is the world ahead, EL the list's block, r the reader's. -/
structure LSt (w0 w : World) (base EL r : Nat) (a : Option Addr) (m c : Nat) (raw : List Int) (at_ : Nat) (bad : Bool) (xs : List RdD) (v : Value) : Prop where
  rd : RAt w r a m c raw at_ bad
  lc : w.heap[EL]? = some (.cells #[v] 80 (0, 0))
  row : w.ownsRow base 166 3 v xs.length (opCells xs)
  kept : Kept (fun k => k = r ∨ k = EL ∨ base ≤ k) w0 w
  ne : EL ≠ r
  bE : EL < base
  br : r < base
  bw : base ≤ w.heap.size
  na : raw ≠ [] → ∀ ad, a = some ad → ad.block < base ∧ ad.block ≠ EL

section
variable {w0 w w' : World} {base EL r : Nat} {a : Option Addr} {m c : Nat} {raw : List Int} {at_ : Nat} {bad : Bool} {xs : List RdD} {v : Value}

theorem LSt.cell (S : LSt w0 w base EL r a m c raw at_ bad xs v) : w.cell? ⟨EL, 0, none⟩ = some v ∧ w.frozen? ⟨EL, 0, none⟩ = false := by
  constructor
  · simp [World.cell?, S.lc]
  · simp [World.frozen?, S.lc]

/-- An element's block is made; then it is read. -/
theorem LSt.el (S : LSt w0 w base EL r a m c raw at_ bad xs v) : ElSt (w.alloc (.cells #[.string ⟨#[]⟩, .string ⟨#[]⟩, .bool false] 166)) (w.alloc (.cells #[.string ⟨#[]⟩, .string ⟨#[]⟩, .bool false] 166)) 166 w.heap.size r a m c raw at_ bad #[.string ⟨#[]⟩, .string ⟨#[]⟩, .bool false] := by
  have hb := S.bw
  have hr := S.br
  refine ⟨S.rd.kept (Kept.alloc (fun _ => False) w _) (fun h => h) (fun _ _ _ h => h), by rw [heap_alloc_new], Kept.refl _ _, by omega, fun h ad e => by have := (S.na h ad e).1; omega⟩

/-- Behind the element's reading the list is as it was. -/
theorem LSt.read {at' : Nat} {bad' : Bool} {cs : Array Value} (S : LSt w0 w base EL r a m c raw at_ bad xs v) (h : ElSt (w.alloc (.cells #[.string ⟨#[]⟩, .string ⟨#[]⟩, .bool false] 166)) w' 166 w.heap.size r a m c raw at' bad' cs) : LSt w0 w' base EL r a m c raw at' bad' xs v := by
  have hb := S.bw
  have hr := S.br
  have hE := S.bE
  have K : Kept (fun k => k = r) w w' := (Kept.alloc (fun k => k = r) w _).trans h.kept (fun k hk => by rcases hk with rfl | rfl; exact .inl rfl; exact .inr (Nat.le_refl _))
  have hsz := K.size
  refine ⟨h.rd, (K.block EL (by omega) S.ne).trans S.lc, ownsRow_block' S.row (fun k hk => K.block k (S.row.lt k hk).2 (fun e => ?_)), S.kept.and (K.mono (fun _ h => .inl h)), S.ne, hE, hr, by omega, S.na⟩
  have := (S.row.lt k hk).1
  have e' : k = r := e
  omega
theorem LSt.step {at' : Nat} {bad' : Bool} (S : LSt w0 w base EL r a m c raw at_ bad xs v) (K : Kept (fun k => k = r) w w') (A : RAt w' r a m c raw at' bad') : LSt w0 w' base EL r a m c raw at' bad' xs v := by
  have hb := S.bw
  have hr := S.br
  have hE := S.bE
  have hsz := K.size
  refine ⟨A, (K.block EL (by omega) S.ne).trans S.lc, ownsRow_block' S.row (fun k hk => K.block k (S.row.lt k hk).2 (fun e => ?_)), S.kept.and (K.mono (fun _ h => .inl h)), S.ne, hE, hr, by omega, S.na⟩
  have := (S.row.lt k hk).1
  have e' : k = r := e
  omega
end

/-- Changes were read. -/
def ListSt (w0 w' : World) (base EL r : Nat) (a : Option Addr) (m c : Nat) (raw : List Int) (bad : Bool) (e : Ending) : Except Nat ((Int × List RdD) × Nat) → Prop
  | .error pl => e = .returned (.bool false) ∧ ∃ xs v, LSt w0 w' base EL r a m c raw pl true xs v
  | .ok ((_, xs), i) => e = .returned (.bool true) ∧ ∃ v, LSt w0 w' base EL r a m c raw i bad xs v

def rdOps : Rd (Int × List RdD) := rdBind (rdNum 0 4503599627370496) fun n => rdMany rdOp n.toNat

theorem rdOp_pos {raw : List Int} {i : Nat} {x : RdD} {j : Nat} (h : rdOp raw i = .ok (x, j)) : i < j := by
  unfold rdOp rdBind at h
  cases hd0 : rdText raw i with
  | error e => rw [hd0] at h; cases h
  | ok y0 =>
    obtain ⟨k, i0⟩ := y0
    have h0 : i < i0 := by
      unfold rdText at hd0
      cases hn : rdNum 0 1048576 raw i with
      | error e => rw [hn] at hd0; cases hd0
      | ok y =>
        obtain ⟨n, p⟩ := y
        rw [hn] at hd0
        simp only [] at hd0
        have := rdNum_pos hn
        split at hd0
        · cases hd0
        · simp only [Except.ok.injEq, Prod.mk.injEq] at hd0
          omega
    rw [hd0] at h
    simp only [] at h
    cases hd1 : rdFlag raw i0 with
    | error e => rw [hd1] at h; cases h
    | ok y1 =>
      obtain ⟨g, i1⟩ := y1
      have h1 : i1 = i0 + 1 := by
        unfold rdFlag at hd1
        split at hd1
        · cases hd1
        · split at hd1
          · cases hd1
          · simp only [Except.ok.injEq, Prod.mk.injEq] at hd1
            omega
      rw [hd1] at h
      simp only [] at h
      cases g with
      | true =>
        simp only [if_true, rdOne, Except.ok.injEq, Prod.mk.injEq] at h
        omega
      | false =>
        simp only [Bool.false_eq_true, if_false] at h
        cases hd2 : rdText raw i1 with
        | error e => rw [hd2] at h; cases h
        | ok y2 =>
          obtain ⟨u, i2⟩ := y2
          rw [hd2] at h
          simp only [Except.ok.injEq, Prod.mk.injEq] at h
          have h2 : i1 < i2 := by
            unfold rdText at hd2
            cases hn : rdNum 0 1048576 raw i1 with
            | error e => rw [hn] at hd2; cases hd2
            | ok y =>
              obtain ⟨n, p⟩ := y
              rw [hn] at hd2
              simp only [] at hd2
              have := rdNum_pos hn
              split at hd2
              · cases hd2
              · simp only [Except.ok.injEq, Prod.mk.injEq] at hd2
                omega
          omega

end Go.Proofs.Ytceocmhgbcimoaa
