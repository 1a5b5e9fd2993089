/-
  Rows of ints and bytes that came in, or that are owned: read one by one, and as strings.
-/
import Derived.Test.YthpamcfemhimcaaLow
namespace Go.Proofs.Ythpamcfemhimcaa
open Go.ChangeShapes Go.WideShapes Go.ChangeAt Go.RowKit

theorem IsRow.ints {w : World} {a : Option Addr} {len cap : Nat} {zs : List Int} (h : IsRow .i64 w a len cap zs) (S : Nat → Prop) (hS : ∀ k, S k → w.heap.size ≤ k) : IntsAt w S (.slice a len cap) (zs.take len) := by
  rcases h with ⟨rfl, rfl, rfl, rfl⟩ | ⟨x, rfl, h1, h2, h3, hc, hw⟩
  · exact ⟨none, 0, rfl, fun h => absurd rfl h⟩
  · have hl : (zs.take len).length = len := by rw [List.length_take]; omega
    refine ⟨some x, cap, by rw [hl], fun hne => ?_⟩
    have hpos : 0 < len := by
      rcases Nat.eq_zero_or_pos len with e | e
      · rw [e] at hne; simp at hne
      · exact e
    obtain ⟨b, off, rfl⟩ := addr_form (hc 0 (by omega))
    have hb : b < w.heap.size := World.block_lt_of_cell? w _ (by have := hc 0 (by omega); simpa [Addr.add_lit] using this)
    refine ⟨b, off, rfl, by rw [hl]; exact h1, fun h => by have := hS b h; omega, fun j y hj => ?_⟩
    rw [List.getElem?_take] at hj
    split at hj
    · rename_i hjl
      have hz : j < zs.length := by omega
      have := hc j hz
      rw [Addr.add_lit, List.getD_eq_getElem?_getD, hj] at this
      exact this
    · cases hj

/-- Bytes that lie somewhere, turned into a string. -/
theorem BytesAt.str {w : World} {a : Option Addr} {m c : Nat} {b : List Int} (B : BytesAt w a m c b) : (convert 27 9 (.slice a m c)).run Try.prog w = .ok (.string (strOfNums b)) w := by
  cases a with
  | none =>
    have hm := B.nil rfl
    have hb : b = [] := List.eq_nil_of_length_eq_zero (by rw [B.len, hm])
    subst hb
    exact run_convert_bytes_nil w 27 5 Try.underlying27 Try.underlying5 m c 9 Try.underlying9
  | some ad =>
    cases hb : b with
    | nil =>
      subst hb
      have hm : m = 0 := B.len.symm
      subst hm
      rw [run_convert_bytes_string w _ _ 5 _ 0 c Try.underlying27 Try.underlying5 Try.underlying9]
      simp [Conv.bytesToString, loadCells]
      all_goals rfl
    | cons x r =>
      have h0 := B.cells ad rfl 0 (.int .u8 x) (by rw [hb]; rfl)
      obtain ⟨bk, off, rfl⟩ := addr_form h0
      rw [← hb]
      refine run_convert_bytes_arg w 27 5 Try.underlying27 Try.underlying5 bk off m c b B.len (fun i hi => ?_) 9 Try.underlying9
      have hil : i < b.length := by rw [B.len]; exact hi
      have := B.cells _ rfl i (.int .u8 (b.getD i 0)) (by rw [List.getElem?_map, List.getD_eq_getElem?_getD, List.getElem?_eq_getElem hil]; rfl)
      rw [Addr.add_lit] at this
      exact this

theorem BytesAt.at {w : World} {a : Option Addr} {m c : Nat} {b : List Int} (B : BytesAt w a m c b) {j : Nat} (hj : j < b.length) : ∃ ba oa, a = some ⟨ba, oa, none⟩ ∧ ∀ j, j < b.length → w.cell? ⟨ba, oa + j, none⟩ = some (.int .u8 (b.getD j 0)) := by
  have hlen := B.len
  cases a with
  | none => have := B.nil rfl; omega
  | some ad =>
    have hall : ∀ j, j < b.length → w.cell? (ad.add j) = some (.int .u8 (b.getD j 0)) := fun j hj => B.cells ad rfl j _ (by rw [List.getElem?_map, List.getD_eq_getElem?_getD, List.getElem?_eq_getElem hj]; rfl)
    obtain ⟨ba, oa, rfl⟩ := addr_form (hall 0 (by omega))
    exact ⟨ba, oa, rfl, fun j hj => by have := hall j hj; rw [Addr.add_lit] at this; exact this⟩

theorem BytesAt.ofRow {w : World} {base : Nat} {a : Option Addr} {c : Nat} {b : List Int} (h : w.ownsRow base 5 1 (.slice a b.length c) b.length (b.map (Value.int .u8))) (hb : ∀ x ∈ b, 0 ≤ x ∧ x ≤ 255) : BytesAt w a b.length c b := by
  rcases h.2 with ⟨e, h0⟩ | ⟨g, cap, cur, e, _, _, h1, _⟩
  · simp only [Value.slice.injEq] at e
    obtain ⟨rfl, _, rfl⟩ := e
    exact ⟨rfl, by omega, fun _ => h0, fun ad h => (by cases h), hb⟩
  · have h' := h
    simp only [Value.slice.injEq] at e
    obtain ⟨rfl, _, rfl⟩ := e
    exact ⟨rfl, h1, fun h => (by cases h), fun ad e => (by cases e; exact h'.cells rfl), hb⟩

end Go.Proofs.Ythpamcfemhimcaa
