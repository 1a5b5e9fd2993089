/-
  The calls that come in, of a net: where they lie.
-/
import Derived.Test.YthpamcfemhimcaaNetAll1
namespace Go.Proofs.Ythpamcfemhimcaa
open Go.RowKit

structure QX where
  dd : Int
  ii : Int
  fr : Int
  to : Int
  ba : Option Addr
  bm : Nat
  bc : Nat
  bs : List Int

/-- A call lies from a place on. -/
structure QCells (w : World) (b o : Nat) (x : QX) : Prop where
  c0 : w.cell? ⟨b, o, none⟩ = some (.int .i64 x.dd)
  c1 : w.cell? ⟨b, o + 1, none⟩ = some (.int .i64 x.ii)
  c2 : w.cell? ⟨b, o + 2, none⟩ = some (.int .i64 x.fr)
  c3 : w.cell? ⟨b, o + 3, none⟩ = some (.int .i64 x.to)
  c4 : w.cell? ⟨b, o + 4, none⟩ = some (.slice x.ba x.bm x.bc)

theorem QCells.below {w w' : World} {lo b o : Nat} {x : QX} (h : QCells w b o x) (hb : b < lo) (K : Below lo w w') : QCells w' b o x :=
  ⟨(K.cell (p := ⟨b, o, none⟩) hb).trans h.c0, (K.cell (p := ⟨b, o + 1, none⟩) hb).trans h.c1, (K.cell (p := ⟨b, o + 2, none⟩) hb).trans h.c2, (K.cell (p := ⟨b, o + 3, none⟩) hb).trans h.c3, (K.cell (p := ⟨b, o + 4, none⟩) hb).trans h.c4⟩

/-- The calls that come in. -/
structure QsAt (w : World) (a : Option Addr) (n c : Nat) (xs : List QX) : Prop where
  len : xs.length = n
  cap : n ≤ c
  cells : ∀ ad, a = some ad → 0 < n → ad.spot = none ∧ ∀ (i : Nat) (x : QX), xs[i]? = some x → QCells w ad.block (ad.off + i * 5) x
  ok : ∀ x ∈ xs, BytesAt w x.ba x.bm x.bc x.bs
  nil : a = none → n = 0

/-- The k-th call, in a world that has grown. -/
theorem QsAt.at {w wr : World} {a : Option Addr} {n c : Nat} {xs : List QX} (O : QsAt w a n c xs) (Bl : Below w.heap.size w wr) {k : Nat} (hk : k < n) :
    ∃ (x : QX) (b off : Nat), a = some ⟨b, off, none⟩ ∧ b < w.heap.size ∧ QCells wr b (off + k * 5) x ∧ BytesAt wr x.ba x.bm x.bc x.bs ∧ (x.bs ≠ [] → ∀ ad, x.ba = some ad → ad.block < w.heap.size) := by
  have hlen := O.len
  obtain ⟨x, hx⟩ : ∃ x, xs[k]? = some x := ⟨xs[k], List.getElem?_eq_getElem (by omega)⟩
  obtain ⟨b, off, rfl⟩ : ∃ b off, a = some ⟨b, off, none⟩ := by
    cases a with
    | none => have := O.nil rfl; omega
    | some ad =>
      obtain ⟨hsp, _⟩ := O.cells ad rfl (by omega)
      obtain ⟨b, off, sp⟩ := ad
      obtain rfl : sp = none := hsp
      exact ⟨b, off, rfl⟩
  have hce := (O.cells _ rfl (by omega)).2 k x hx
  have hbl : b < w.heap.size := World.block_lt_of_cell? w _ hce.c0
  have hb := O.ok x (List.mem_of_getElem? hx)
  have hlt : x.bs ≠ [] → ∀ ad, x.ba = some ad → ad.block < w.heap.size := fun hne ad e => hb.lt e hne
  exact ⟨x, b, off, rfl, hbl, hce.below hbl Bl, hb.below Bl hlt, hlt⟩

/-- A block of five cells. -/
theorem five {w : World} {d : Nat} {T : TypeId} {a b c e f : Value} (h : w.heap[d]? = some (.cells #[a, b, c, e, f] T (0, 0))) : w.cell? ⟨d, 0, none⟩ = some a ∧ w.cell? ⟨d, 1, none⟩ = some b ∧ w.cell? ⟨d, 2, none⟩ = some c ∧ w.cell? ⟨d, 3, none⟩ = some e ∧ w.cell? ⟨d, 4, none⟩ = some f := by
  simp [World.cell?, h]

theorem one {w : World} {d : Nat} {T : TypeId} {a : Value} (h : w.heap[d]? = some (.cells #[a] T (0, 0))) : w.cell? ⟨d, 0, none⟩ = some a ∧ w.frozen? ⟨d, 0, none⟩ = false := by
  simp [World.cell?, World.frozen?, h]

end Go.Proofs.Ythpamcfemhimcaa
