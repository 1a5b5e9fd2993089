/-
  The calls of a net, by value, opened.
-/
import Derived.Test.YthpamcfemhimcaaNetPuts
import Derived.Test.YthpamcfemhimcaaRows
import Derived.Lib.SmallJoins
import Derived.Deep.Slices
namespace Go.Proofs.Ythpamcfemhimcaa
open Go.ChangeShapes Go.WideShapes Go.ChangeAt Go.RowKit

def putCells (x : QX) : List Value := [.int .i64 x.dd, .int .i64 x.ii, .int .i64 x.fr, .int .i64 x.to, .slice x.ba x.bm x.bc]

set_option maxRecDepth 100000 in
theorem open_putx {H : Type} {enc : TypeId × Value → H} {W : World} {base : Nat} {held : Bool} {fuel : Nat} {cs : List Value} {y : DataW H × List MemPlace} (h : DataW.trod enc Try.prog W base (fun _ => true) held fuel 31 cs = some y) (hl : cs.length = 5) :
    ∃ x : QX, cs = putCells x ∧ BytesAt W x.ba x.bm x.bc x.bs := by
  match cs, hl with
  | [c0, c1, c2, c3, c4], _ =>
    have kI : Try.prog.cellsOf 3 = 1 := by kernel_rfl
    have kB : Try.prog.cellsOf 27 = 1 := by kernel_rfl
    have kP : Try.prog.cellsOf 29 = 3 := by kernel_rfl
    obtain ⟨ys, n, _, hx, hl, hlen, hf⟩ := DataW.trod_struct Try.underlying31 h
    match ys, hlen with
    | [z0, z1, z2], _ =>
      have t0 : DataW.trod enc Try.prog W base (fun _ => true) held n 3 [c0] = some z0 := by simpa [kI] using hf 0 _ rfl
      have t1 : DataW.trod enc Try.prog W base (fun _ => true) held n 3 [c1] = some z1 := by simpa [kI] using hf 1 _ rfl
      have t2 : DataW.trod enc Try.prog W base (fun _ => true) held n 29 [c2, c3, c4] = some z2 := by simpa [kI, kP] using hf 2 _ rfl
      obtain ⟨ys2, n2, _, hx2, hl2, hlen2, hf2⟩ := DataW.trod_struct Try.underlying29 t2
      match ys2, hlen2 with
      | [q0, q1, q2], _ =>
        have s0 : DataW.trod enc Try.prog W base (fun _ => true) held n2 3 [c2] = some q0 := by simpa [kI] using hf2 0 _ rfl
        have s1 : DataW.trod enc Try.prog W base (fun _ => true) held n2 3 [c3] = some q1 := by simpa [kI] using hf2 1 _ rfl
        have s2 : DataW.trod enc Try.prog W base (fun _ => true) held n2 27 [c4] = some q2 := by simpa [kI, kB] using hf2 2 _ rfl
        obtain ⟨x0, e0, _, _⟩ := DataW.trod_int Try.underlying3 t0
        obtain ⟨x1, e1, _, _⟩ := DataW.trod_int Try.underlying3 t1
        obtain ⟨x2, e2, _, _⟩ := DataW.trod_int Try.underlying3 s0
        obtain ⟨x3, e3, _, _⟩ := DataW.trod_int Try.underlying3 s1
        obtain ⟨ba, bm, bc, zs, e4, h4⟩ := isRow_open Try.underlying27 Try.underlying5 (by kernel_rfl) s2
        simp only [List.cons.injEq, and_true] at e0 e1 e2 e3
        subst e0 e1 e2 e3 e4
        exact ⟨⟨x0, x1, x2, x3, ba, bm, bc, zs.take bm⟩, rfl, h4.bytes⟩

set_option maxRecDepth 100000 in
theorem open_puts {H : Type} {enc : TypeId × Value → H} {W : World} {base : Nat} {held : Bool} {v : Value} {d : DataW H} {p : List MemPlace} (h : DataW.Trod enc Try.prog W base (fun _ => true) held 22 v d p) (hv : ∃ a n c, v = .slice a n c) :
    ∃ a n c xs, v = .slice a n c ∧ QsAt W a n c xs := by
  obtain ⟨a0, n0, c0, rfl⟩ := hv
  obtain ⟨fuel, hf⟩ := h
  have kO : Try.prog.cellsOf 31 = 5 := by kernel_rfl
  rcases Deep.open_slice Try.underlying22 hf with ⟨hcs, hx⟩ | ⟨a, len, cap, m, n, D, Pl, hcs, hb, hl, hm, hmm, hx, hel⟩
  · simp only [Value.cells, List.cons.injEq, and_true, Value.slice.injEq] at hcs
    obtain ⟨rfl, rfl, rfl⟩ := hcs
    exact ⟨none, 0, 0, [], rfl, ⟨rfl, Nat.le_refl _, fun _ e _ => (by cases e), fun x h => (by cases h), fun _ => rfl⟩⟩
  · simp only [Value.cells, List.cons.injEq, and_true, Value.slice.injEq] at hcs
    obtain ⟨rfl, rfl, rfl⟩ := hcs
    have hlm : n0 ≤ m := by rw [hmm]; split <;> omega
    have each : ∀ i, i < n0 → ∃ x : QX, BytesAt W x.ba x.bm x.bc x.bs ∧ ∀ j, j < 5 → W.cell? (a.add (i * 5 + j)) = (putCells x)[j]? := by
      intro i hi
      obtain ⟨cs', h1, h2⟩ := hel i (by omega)
      rw [kO] at h1
      obtain ⟨_, hlen, hcell⟩ := World.cells?_some h1
      obtain ⟨x, rfl, hby⟩ := open_putx h2 hlen
      refine ⟨x, hby, fun j hj => ?_⟩
      rw [← Deep.add_add]
      exact hcell j hj
    haveI : Inhabited QX := ⟨⟨0, 0, 0, 0, none, 0, 0, []⟩⟩
    obtain ⟨q, hq⟩ := Deep.choose_lt each
    refine ⟨some a, n0, c0, (List.range n0).map q, rfl, ⟨by simp, hl, ?_, ?_, fun e => by cases e⟩⟩
    · intro ad e hn
      cases e
      have h00 := (hq 0 hn).2 0 (by decide)
      obtain ⟨b, off, rfl⟩ := addr_form (v := .int .i64 (q 0).dd) h00
      refine ⟨rfl, fun i o ho => ?_⟩
      obtain ⟨hi, rfl⟩ : i < n0 ∧ q i = o := by
        rw [List.getElem?_map] at ho
        by_cases hi : i < n0
        · rw [List.getElem?_range hi] at ho
          exact ⟨hi, Option.some.inj ho⟩
        · rw [List.getElem?_eq_none (by simpa using hi)] at ho
          cases ho
      have hc := (hq i hi).2
      have g0 := hc 0 (by decide)
      have g1 := hc 1 (by decide)
      have g2 := hc 2 (by decide)
      have g3 := hc 3 (by decide)
      have g4 := hc 4 (by decide)
      rw [Addr.add_lit] at g0 g1 g2 g3 g4
      exact ⟨g0, by rw [Nat.add_assoc]; exact g1, by rw [Nat.add_assoc]; exact g2, by rw [Nat.add_assoc]; exact g3, by rw [Nat.add_assoc]; exact g4⟩
    · intro x hx
      obtain ⟨i, hi, rfl⟩ := List.mem_map.1 hx
      exact (hq i (List.mem_range.1 hi)).1

end Go.Proofs.Ythpamcfemhimcaa
