/-
  A row of rows of bytes by value, opened.
-/
import Derived.Test.YtchdmlckicipcaaLawSplitL
import Derived.Test.YtchdmlckicipcaaRows
import Derived.Lib.SmallJoins
import Derived.JoinedCond
import Derived.Deep.Slices
namespace Go.Proofs.Ytchdmlckicipcaa
open Go.ChangeShapes Go.WideShapes Go.ChangeAt Go.RowKit

theorem bulk_pos {H : Type} (d : DataW H) : 1 ≤ Rows.uptoBulk d := by
  cases d with
  | lit l => cases l <;> simp only [Rows.uptoBulk] <;> omega
  | _ => simp only [Rows.uptoBulk]; omega

theorem bulk_len {H : Type} (l : List (DataW H)) (h : ∀ d ∈ l, 1 ≤ Rows.uptoBulk d) : l.length ≤ Rows.uptoBulkAll l := by
  induction l with
  | nil => exact Nat.zero_le _
  | cons x l ih =>
    have h1 := ih (fun d hd => h d (List.mem_cons_of_mem _ hd))
    have h2 := h x List.mem_cons_self
    simp only [List.length_cons, Rows.uptoBulkAll]
    omega

set_option maxRecDepth 100000 in
theorem open_lists {H : Type} {enc : TypeId × Value → H} {W : World} {base : Nat} {held : Bool} {v : Value} {d : DataW H} {p : List MemPlace} (h : DataW.Trod enc Try.prog W base (fun _ => true) held 22 v d p) (hv : ∃ a n c, v = .slice a n c) :
    ∃ a n c xs, v = .slice a n c ∧ LAt W a n c xs ∧ n ≤ Rows.uptoBulk d := by
  obtain ⟨a0, n0, c0, rfl⟩ := hv
  obtain ⟨fuel, hf⟩ := h
  rcases Deep.open_slice1 Try.underlying22 (by kernel_rfl) hf with ⟨hcs, hx⟩ | ⟨a, len, cap, m, n, V, D, Pl, hcs, hb, hl, hm, hmm, hx, hel⟩
  · simp only [Value.cells, List.cons.injEq, and_true, Value.slice.injEq] at hcs
    obtain ⟨rfl, rfl, rfl⟩ := hcs
    exact ⟨none, 0, 0, [], rfl, ⟨rfl, Nat.le_refl _, fun _ e _ => (by cases e), fun x h => (by cases h), fun _ => rfl⟩, Nat.zero_le _⟩
  · simp only [Value.cells, List.cons.injEq, and_true, Value.slice.injEq] at hcs
    obtain ⟨rfl, rfl, rfl⟩ := hcs
    have hlm : n0 ≤ m := by rw [hmm]; split <;> omega
    have each : ∀ i, i < n0 → ∃ x : PX, V i = .slice x.1 x.2.1 x.2.2.1 ∧ BytesAt W x.1 x.2.1 x.2.2.1 x.2.2.2 := by
      intro i hi
      obtain ⟨_, h2⟩ := hel i (by omega)
      obtain ⟨a1, l1, c1, zs, e, h⟩ := isRow_open Try.underlying23 Try.underlying5 (by kernel_rfl) h2
      exact ⟨(a1, l1, c1, zs.take l1), e, h.bytes⟩
    haveI : Inhabited PX := ⟨(none, 0, 0, [])⟩
    obtain ⟨q, hq⟩ := Deep.choose_lt each
    refine ⟨some a, n0, c0, (List.range n0).map q, rfl, ⟨by simp, hl, ?_, ?_, fun e => by cases e⟩, ?_⟩
    · intro ad e hn
      cases e
      have h00 := (hel 0 (by omega)).1
      have hv0 := (hq 0 hn).1
      rw [hv0] at h00
      obtain ⟨b, off, rfl⟩ := addr_form h00
      refine ⟨rfl, fun i x hx => ?_⟩
      obtain ⟨hi, rfl⟩ : i < n0 ∧ q i = x := by
        rw [List.getElem?_map] at hx
        by_cases hi : i < n0
        · rw [List.getElem?_range hi] at hx
          exact ⟨hi, Option.some.inj hx⟩
        · rw [List.getElem?_eq_none (by simpa using hi)] at hx
          cases hx
      have hc := (hel i (by omega)).1
      rw [(hq i hi).1, Addr.add_lit] at hc
      exact hc
    · intro x hx
      obtain ⟨i, hi, rfl⟩ := List.mem_map.1 hx
      exact (hq i (List.mem_range.1 hi)).2
    · have hd : d = .slice ((List.range n0).map D) ((List.range (m - n0)).map fun j => D (n0 + j)) := congrArg Prod.fst hx
      have h1 := bulk_len ((List.range n0).map D) (fun d _ => bulk_pos d)
      rw [List.length_map, List.length_range] at h1
      rw [hd]
      simp only [Rows.uptoBulk]
      omega

end Go.Proofs.Ytchdmlckicipcaa
