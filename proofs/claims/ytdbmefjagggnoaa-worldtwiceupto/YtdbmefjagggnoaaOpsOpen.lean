/-
  The calls of a law, by value, opened.
-/
import Derived.Test.YtdbmefjagggnoaaDoesAll
import Derived.Test.YtdbmefjagggnoaaRows
import Derived.Lib.SmallJoins
import Derived.JoinedCond
import Derived.Deep.Slices
namespace Go.Proofs.Ytdbmefjagggnoaa
open Go.ChangeShapes Go.WideShapes Go.ChangeAt Go.RowKit

theorem bulk_pos {H : Type} (d : DataW H) : 1 ≤ Rows.uptoBulk d := by
  cases d with
  | lit l => cases l <;> simp only [Rows.uptoBulk] <;> omega
  | _ => simp only [Rows.uptoBulk]; omega

theorem bulk_len {H : Type} (l : List (DataW H)) : l.length ≤ Rows.uptoBulkAll l := by
  induction l with
  | nil => exact Nat.zero_le _
  | cons x l ih =>
    have h2 := bulk_pos x
    simp only [List.length_cons, Rows.uptoBulkAll]
    omega

theorem bulk_mem {H : Type} {l : List (DataW H)} {d : DataW H} (h : d ∈ l) : Rows.uptoBulk d ≤ Rows.uptoBulkAll l := by
  induction l with
  | nil => cases h
  | cons x l ih =>
    simp only [Rows.uptoBulkAll]
    rcases List.mem_cons.1 h with rfl | h
    · omega
    · have := ih h
      omega

set_option maxRecDepth 100000 in
theorem open_cuts {H : Type} {enc : TypeId × Value → H} {W : World} {base : Nat} {spare : TypeId → Bool} {held : Bool} {fuel : Nat} {v : Value} {x : DataW H × List MemPlace} (hf : DataW.trod enc Try.prog W base spare held fuel 29 [v] = some x) :
    ∃ av cv cs, v = .slice av (List.length cs) cv ∧ IntsAt W (fun k => W.heap.size ≤ k) (.slice av (List.length cs) cv) cs ∧ List.length cs ≤ Rows.uptoBulk x.1 := by
  rcases Deep.open_slice1 Try.underlying29 (by kernel_rfl) hf with ⟨hcs, hx⟩ | ⟨a, len, cap, m, n, V, D, Pl, hcs, hb, hl, hm, hmm, hx, hel⟩
  · simp only [List.cons.injEq, and_true] at hcs
    subst hcs
    exact ⟨none, 0, [], rfl, ⟨none, 0, rfl, fun h => absurd rfl h⟩, Nat.zero_le _⟩
  · simp only [List.cons.injEq, and_true] at hcs
    subst hcs
    have hlm : len ≤ m := by rw [hmm]; split <;> omega
    have each : ∀ i, i < len → ∃ z : Int, V i = .int .i64 z := by
      intro i hi
      obtain ⟨_, h2⟩ := hel i (by omega)
      obtain ⟨z, e, _⟩ := DataW.trod_int Try.underlying3 h2
      simp only [List.cons.injEq, and_true] at e
      exact ⟨z, e⟩
    obtain ⟨q, hq⟩ := Deep.choose_lt each
    have hlen : ((List.range len).map q).length = len := by simp
    refine ⟨some a, cap, (List.range len).map q, by rw [hlen], ⟨some a, cap, rfl, fun hne => ?_⟩, ?_⟩
    · have h0 : 0 < len := by
        cases len with
        | zero => exact absurd rfl hne
        | succ k => omega
      have h00 := (hel 0 (by omega)).1
      obtain ⟨b, off, rfl⟩ := addr_form h00
      have hlt := World.block_lt_of_cell? W _ h00
      rw [Addr.add_lit] at hlt
      refine ⟨b, off, rfl, by rw [hlen]; exact hl, by simpa using hlt, fun j y hy => ?_⟩
      rw [List.getElem?_map] at hy
      by_cases hj : j < len
      · rw [List.getElem?_range hj] at hy
        have hc := (hel j (by omega)).1
        rw [hq j hj, Addr.add_lit] at hc
        simp only [Option.map_some, Option.some.injEq] at hy
        rw [← hy]
        exact hc
      · rw [List.getElem?_eq_none (by simpa using hj)] at hy
        cases hy
    · rw [hlen, hx]
      have h1 := bulk_len ((List.range len).map D)
      rw [List.length_map, List.length_range] at h1
      simp only [Rows.uptoBulk]
      omega

def opCells (x : OX) : List Value := [.int .i64 x.x0, .int .i64 x.x1, .int .i64 x.x2, .int .i64 x.x3, .slice x.ba x.bm x.bc, .slice x.av x.cs.length x.cv]

set_option maxRecDepth 100000 in
theorem open_opx {H : Type} {enc : TypeId × Value → H} {W : World} {base : Nat} {held : Bool} {fuel : Nat} {cs : List Value} {y : DataW H × List MemPlace} (h : DataW.trod enc Try.prog W base (fun _ => true) held fuel 31 cs = some y) (hl : cs.length = 6) :
    ∃ x : OX, cs = opCells x ∧ isI64 x.x1 ∧ isI64 x.x2 ∧ isI64 x.x3 ∧ BytesAt W x.ba x.bm x.bc x.bs ∧ IntsAt W (fun k => W.heap.size ≤ k) (.slice x.av x.cs.length x.cv) x.cs ∧ x.cs.length ≤ Rows.uptoBulk y.1 := by
  match cs, hl with
  | [c0, c1, c2, c3, c4, c5], _ =>
    have kI : Try.prog.cellsOf 3 = 1 := by kernel_rfl
    have kB : Try.prog.cellsOf 28 = 1 := by kernel_rfl
    have kC : Try.prog.cellsOf 29 = 1 := by kernel_rfl
    obtain ⟨ys, n, _, hx, hl, hlen, hf⟩ := DataW.trod_struct Try.underlying31 h
    match ys, hlen with
    | [z0, z1, z2, z3, z4, z5], _ =>
      have t0 : DataW.trod enc Try.prog W base (fun _ => true) held n 3 [c0] = some z0 := by simpa [kI] using hf 0 _ rfl
      have t1 : DataW.trod enc Try.prog W base (fun _ => true) held n 3 [c1] = some z1 := by simpa [kI] using hf 1 _ rfl
      have t2 : DataW.trod enc Try.prog W base (fun _ => true) held n 3 [c2] = some z2 := by simpa [kI] using hf 2 _ rfl
      have t3 : DataW.trod enc Try.prog W base (fun _ => true) held n 3 [c3] = some z3 := by simpa [kI] using hf 3 _ rfl
      have t4 : DataW.trod enc Try.prog W base (fun _ => true) held n 28 [c4] = some z4 := by simpa [kB] using hf 4 _ rfl
      have t5 : DataW.trod enc Try.prog W base (fun _ => true) held n 29 [c5] = some z5 := by simpa [kC] using hf 5 _ rfl
      obtain ⟨x0, e0, _, _⟩ := DataW.trod_int Try.underlying3 t0
      obtain ⟨x1, e1, _, w1⟩ := DataW.trod_int Try.underlying3 t1
      obtain ⟨x2, e2, _, w2⟩ := DataW.trod_int Try.underlying3 t2
      obtain ⟨x3, e3, _, w3⟩ := DataW.trod_int Try.underlying3 t3
      obtain ⟨ba, bm, bc, zs, e4, h4⟩ := isRow_open Try.underlying28 Try.underlying5 (by kernel_rfl) t4
      obtain ⟨av, cv, cs, e5, h5, l5⟩ := open_cuts t5
      simp only [List.cons.injEq, and_true] at e0 e1 e2 e3
      subst e0 e1 e2 e3 e4 e5
      refine ⟨⟨x0, x1, x2, x3, ba, bm, bc, zs.take bm, av, cv, cs⟩, rfl, w1, w2, w3, h4.bytes, h5, ?_⟩
      rw [hx]
      show cs.length ≤ _
      simp only [List.map_cons, List.map_nil, Rows.uptoBulk, Rows.uptoBulkAll]
      omega

set_option maxRecDepth 100000 in
theorem open_calls {H : Type} {enc : TypeId × Value → H} {W : World} {base : Nat} {held : Bool} {v : Value} {d : DataW H} {p : List MemPlace} (h : DataW.Trod enc Try.prog W base (fun _ => true) held 22 v d p) (hv : ∃ a n c, v = .slice a n c) (hd : Rows.uptoBulk d ≤ 4398046511104) :
    ∃ a n c xs, v = .slice a n c ∧ OpsAt W a n c xs := by
  obtain ⟨a0, n0, c0, rfl⟩ := hv
  obtain ⟨fuel, hf⟩ := h
  have kO : Try.prog.cellsOf 31 = 6 := by kernel_rfl
  rcases Deep.open_slice Try.underlying22 hf with ⟨hcs, hx⟩ | ⟨a, len, cap, m, n, D, Pl, hcs, hb, hl, hm, hmm, hx, hel⟩
  · simp only [Value.cells, List.cons.injEq, and_true, Value.slice.injEq] at hcs
    obtain ⟨rfl, rfl, rfl⟩ := hcs
    exact ⟨none, 0, 0, [], rfl, ⟨rfl, Nat.le_refl _, fun _ e _ => (by cases e), fun x h => (by cases h), fun _ => rfl⟩⟩
  · simp only [Value.cells, List.cons.injEq, and_true, Value.slice.injEq] at hcs
    obtain ⟨rfl, rfl, rfl⟩ := hcs
    have hlm : n0 ≤ m := by rw [hmm]; split <;> omega
    have hdd : d = .slice ((List.range n0).map D) ((List.range (m - n0)).map fun j => D (n0 + j)) := congrArg Prod.fst hx
    have each : ∀ i, i < n0 → ∃ x : OX, OpOk W W.heap.size x ∧ ∀ j, j < 6 → W.cell? (a.add (i * 6 + j)) = (opCells x)[j]? := by
      intro i hi
      obtain ⟨cs', h1, h2⟩ := hel i (by omega)
      rw [kO] at h1
      obtain ⟨_, hlen, hcell⟩ := World.cells?_some h1
      obtain ⟨x, rfl, i1, i2, i3, hby, hcu, hcl⟩ := open_opx h2 hlen
      have hbk : Rows.uptoBulk (D i) ≤ Rows.uptoBulk d := by
        have := bulk_mem (l := (List.range n0).map D) (List.mem_map.2 ⟨i, List.mem_range.2 hi, rfl⟩)
        rw [hdd]
        simp only [Rows.uptoBulk]
        omega
      refine ⟨x, ⟨i1, i2, i3, hby, fun hne ad e => hby.lt e hne, hcu, ?_⟩, fun j hj => ?_⟩
      · have hcl' : x.cs.length ≤ Rows.uptoBulk (D i) := hcl
        omega
      · rw [← Deep.add_add]
        exact hcell j hj
    haveI : Inhabited OX := ⟨⟨0, 0, 0, 0, none, 0, 0, [], none, 0, []⟩⟩
    obtain ⟨q, hq⟩ := Deep.choose_lt each
    refine ⟨some a, n0, c0, (List.range n0).map q, rfl, ⟨by simp, hl, ?_, ?_, fun e => by cases e⟩⟩
    · intro ad e hn
      cases e
      have h00 := (hq 0 hn).2 0 (by decide)
      obtain ⟨b, off, rfl⟩ := addr_form (v := .int .i64 (q 0).x0) h00
      refine ⟨rfl, fun i o ho => ?_⟩
      obtain ⟨hi, rfl⟩ : i < n0 ∧ q i = o := by
        rw [List.getElem?_map] at ho
        by_cases hi : i < n0
        · rw [List.getElem?_range hi] at ho
          exact ⟨hi, Option.some.inj ho⟩
        · rw [List.getElem?_eq_none (by simpa using hi)] at ho
          cases ho
      have hc := (hq i hi).2
      have g0 := hc 0 (by decide)
      have g1 := hc 1 (by decide)
      have g2 := hc 2 (by decide)
      have g3 := hc 3 (by decide)
      have g4 := hc 4 (by decide)
      have g5 := hc 5 (by decide)
      rw [Addr.add_lit] at g0 g1 g2 g3 g4 g5
      exact ⟨g0, by rw [Nat.add_assoc]; exact g1, by rw [Nat.add_assoc]; exact g2, by rw [Nat.add_assoc]; exact g3, by rw [Nat.add_assoc]; exact g4, by rw [Nat.add_assoc]; exact g5⟩
    · intro x hx
      obtain ⟨i, hi, rfl⟩ := List.mem_map.1 hx
      exact (hq i (List.mem_range.1 hi)).1

end Go.Proofs.Ytdbmefjagggnoaa
