/-
  A row of changes by value, opened.
-/
import Derived.Test.YtceocmhgbcimoaaCOps
import Derived.Test.YtceocmhgbcimoaaRows
import Derived.Lib.SmallJoins
import Derived.JoinedCond
import Derived.Deep.Slices
namespace Go.Proofs.Ytceocmhgbcimoaa
open Go.ChangeShapes Go.WideShapes Go.ChangeAt Go.RowKit

section
variable {H : Type} {enc : TypeId × Value → H} {P : Program} {w : World} {base : Nat} {spare : TypeId → Bool} {held : Bool}

theorem trod_struct3 {t : TypeId} {f0 f1 f2 : Field} {fuel : Nat} {cs : List Value} {x : DataW H × List MemPlace} (ht : P.underlying t = some (.struct #[f0, f1, f2])) (h : DataW.trod enc P w base spare held fuel t cs = some x) :
    ∃ (y0 y1 y2 : DataW H × List MemPlace) (n : Nat), x.1 = .agg [y0.1, y1.1, y2.1] ∧ DataW.trod enc P w base spare held n f0.type ((cs.drop f0.offset).take (P.cellsOf f0.type)) = some y0 ∧ DataW.trod enc P w base spare held n f1.type ((cs.drop f1.offset).take (P.cellsOf f1.type)) = some y1 ∧ DataW.trod enc P w base spare held n f2.type ((cs.drop f2.offset).take (P.cellsOf f2.type)) = some y2 := by
  obtain ⟨xs, n, _, rfl, hl, hlen, hf⟩ := DataW.trod_struct ht h
  match xs, hlen with
  | [y0, y1, y2], _ => exact ⟨y0, y1, y2, n, by simp, by simpa using hf 0 f0 rfl, by simpa using hf 1 f1 rfl, by simpa using hf 2 f2 rfl⟩

end

def opData (H : Type) (o : OpD) : DataW H := .agg [.lit (.string o.1.data.toList), .lit (.string o.2.1.data.toList), .lit (.bool o.2.2)]

set_option maxRecDepth 100000 in
theorem open_op {H : Type} {enc : TypeId × Value → H} {W : World} {base : Nat} {spare : TypeId → Bool} {held : Bool} {fuel : Nat} {cs : List Value} {x : DataW H × List MemPlace} (h : DataW.trod enc Try.prog W base spare held fuel 166 cs = some x) (hl : cs.length = 3) : ∃ o : OpD, cs = [.string o.1, .string o.2.1, .bool o.2.2] ∧ x.1 = opData H o := by
  match cs, hl with
  | [c0, c1, c2], _ =>
    have kS : Try.prog.cellsOf 9 = 1 := by kernel_rfl
    have kB : Try.prog.cellsOf 4 = 1 := by kernel_rfl
    obtain ⟨y0, y1, y2, n, hx, h0, h1, h2⟩ := trod_struct3 Try.underlying166 h
    have t0 : DataW.trod enc Try.prog W base spare held n 9 [c0] = some y0 := by simpa [kS] using h0
    have t1 : DataW.trod enc Try.prog W base spare held n 9 [c1] = some y1 := by simpa [kS] using h1
    have t2 : DataW.trod enc Try.prog W base spare held n 4 [c2] = some y2 := by simpa [kB] using h2
    obtain ⟨x0, e0, rfl, _⟩ := DataW.trod_string Try.underlying9 t0
    obtain ⟨x1, e1, rfl, _⟩ := DataW.trod_string Try.underlying9 t1
    obtain ⟨x2, e2, rfl⟩ := DataW.trod_bool Try.underlying4 t2
    simp only [List.cons.injEq, and_true] at e0 e1 e2
    subst e0 e1 e2
    exact ⟨(x0, x1, x2), rfl, hx⟩

theorem bulk_ops {H : Type} (l : List OpD) : opsB l ≤ 6 * Rows.uptoBulkAll (l.map (opData H)) ∧ 4 * l.length ≤ Rows.uptoBulkAll (l.map (opData H)) ∧ ∀ o ∈ l, o.1.size ≤ Rows.uptoBulkAll (l.map (opData H)) ∧ o.2.1.size ≤ Rows.uptoBulkAll (l.map (opData H)) := by
  induction l with
  | nil => exact ⟨Nat.zero_le _, Nat.zero_le _, fun o h => by cases h⟩
  | cons o l ih =>
    obtain ⟨h1, h2, h3⟩ := ih
    have e : Rows.uptoBulkAll ((o :: l).map (opData H)) = (o.1.size + o.2.1.size + 4) + Rows.uptoBulkAll (l.map (opData H)) := by
      have e1 : o.1.data.toList.length = o.1.size := Array.length_toList
      have e2 : o.2.1.data.toList.length = o.2.1.size := Array.length_toList
      simp only [List.map_cons, Rows.uptoBulkAll, opData, Rows.uptoBulk, e1, e2]
      omega
    rw [e]
    refine ⟨?_, ?_, ?_⟩
    · show o.1.size + o.2.1.size + 24 + opsB l ≤ _
      omega
    · rw [List.length_cons]; omega
    · intro q hq
      rcases List.mem_cons.1 hq with rfl | hq
      · omega
      · have := h3 q hq
        omega

theorem bulk_pre {H : Type} (l r : List (DataW H)) : Rows.uptoBulkAll (l ++ r) = Rows.uptoBulkAll l + Rows.uptoBulkAll r := by
  induction l with
  | nil => simp [Rows.uptoBulkAll]
  | cons x l ih => simp only [List.cons_append, Rows.uptoBulkAll, ih]; omega

set_option maxRecDepth 100000 in
theorem open_ops {H : Type} {enc : TypeId × Value → H} {W : World} {base : Nat} {spare : TypeId → Bool} {held : Bool} {v : Value} {d : DataW H} {p : List MemPlace} (h : DataW.Trod enc Try.prog W base spare held 80 v d p) (hv : ∃ a n c, v = .slice a n c) :
    ∃ a n c ops, v = .slice a n c ∧ OpsAt W a n c ops ∧ opsB ops ≤ 6 * Rows.uptoBulk d ∧ 4 * n ≤ Rows.uptoBulk d ∧ ∀ o ∈ ops, o.1.size ≤ Rows.uptoBulk d ∧ o.2.1.size ≤ Rows.uptoBulk d := by
  obtain ⟨a0, n0, c0, rfl⟩ := hv
  obtain ⟨fuel, hf⟩ := h
  have kO : Try.prog.cellsOf 166 = 3 := by kernel_rfl
  rcases Deep.open_slice Try.underlying80 hf with ⟨hcs, hx⟩ | ⟨a, len, cap, m, n, D, Pl, hcs, hb, hl, hm, hmm, hx, hel⟩
  · simp only [Value.cells, List.cons.injEq, and_true, Value.slice.injEq] at hcs
    obtain ⟨rfl, rfl, rfl⟩ := hcs
    exact ⟨none, 0, 0, [], rfl, ⟨rfl, Nat.le_refl _, fun _ e _ => (by cases e), fun _ => rfl⟩, Nat.zero_le _, Nat.zero_le _, fun o h => by cases h⟩
  · simp only [Value.cells, List.cons.injEq, and_true, Value.slice.injEq] at hcs
    obtain ⟨rfl, rfl, rfl⟩ := hcs
    have hlm : n0 ≤ m := by rw [hmm]; split <;> omega
    have each : ∀ i, i < n0 → ∃ o : OpD, D i = opData H o ∧ ∀ j, j < 3 → W.cell? (a.add (i * 3 + j)) = [Value.string o.1, .string o.2.1, .bool o.2.2][j]? := by
      intro i hi
      obtain ⟨cs', h1, h2⟩ := hel i (by omega)
      rw [kO] at h1
      obtain ⟨_, hlen, hcell⟩ := World.cells?_some h1
      obtain ⟨o, rfl, e⟩ := open_op h2 hlen
      refine ⟨o, e, fun j hj => ?_⟩
      rw [← Deep.add_add]
      exact hcell j hj
    haveI : Inhabited OpD := ⟨(⟨#[]⟩, ⟨#[]⟩, false)⟩
    obtain ⟨q, hq⟩ := Deep.choose_lt each
    have hmap : (List.range n0).map D = ((List.range n0).map q).map (opData H) := by
      rw [List.map_map]
      exact List.map_congr_left (fun i hi => (hq i (List.mem_range.1 hi)).1)
    have hd : d = .slice (((List.range n0).map q).map (opData H)) ((List.range (m - n0)).map fun j => D (n0 + j)) := by
      have := congrArg Prod.fst hx
      simp only [] at this
      rw [this, hmap]
    obtain ⟨b1, b2, b3⟩ := bulk_ops (H := H) ((List.range n0).map q)
    have hle : Rows.uptoBulkAll (((List.range n0).map q).map (opData H)) ≤ Rows.uptoBulk d := by rw [hd]; simp only [Rows.uptoBulk]; omega
    refine ⟨some a, n0, c0, (List.range n0).map q, rfl, ⟨by simp, hl, ?_, fun e => by cases e⟩, by omega, ?_, ?_⟩
    · intro ad e hn
      cases e
      have h00 := (hq 0 hn).2 0 (by decide)
      obtain ⟨b, off, rfl⟩ := addr_form (v := .string (q 0).1) h00
      refine ⟨rfl, fun i o ho => ?_⟩
      obtain ⟨hi, rfl⟩ : i < n0 ∧ q i = o := by
        rw [List.getElem?_map] at ho
        by_cases hi : i < n0
        · rw [List.getElem?_range hi] at ho
          exact ⟨hi, Option.some.inj ho⟩
        · rw [List.getElem?_eq_none (by simpa using hi)] at ho
          cases ho
      have hc := (hq i hi).2
      have g0 := hc 0 (by decide)
      have g1 := hc 1 (by decide)
      have g2 := hc 2 (by decide)
      rw [Addr.add_lit] at g0 g1 g2
      exact ⟨g0, by rw [Nat.add_assoc]; exact g1, by rw [Nat.add_assoc]; exact g2⟩
    · rw [List.length_map, List.length_range] at b2
      omega
    · intro o ho
      have := b3 o ho
      omega

end Go.Proofs.Ytceocmhgbcimoaa
