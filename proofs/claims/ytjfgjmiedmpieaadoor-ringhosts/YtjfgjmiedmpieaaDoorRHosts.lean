/-
  hosts: each once, in range, at most twelve.
-/
import Derived.Test.YtjfgjmiedmpieaaDoorRWakes
namespace Go.Proofs.YtjfgjmiedmpieaaDoor
open Go.RowKit Go.Sort

theorem Tryd.info3 : (Tryd.prog.info? 3).map (fun i => (i.zero, i.size, i.bytes)) = some (some (.int .i64 0), 1, 8) := by kernel_rfl

theorem intsOfRow {w : World} {base : Nat} {a : Option Addr} {n c : Nat} {l : List Int} (h : w.ownsRow base 3 1 (.slice a n c) n (l.map (Value.int .i64))) : IntsAt w a n c l := by
  have hl : l.length = n := by have := h.1; simpa using this
  rcases h.2 with ⟨e, h0⟩ | ⟨g, cap, cur, e, _, _, h1, _⟩
  · simp only [Value.slice.injEq] at e
    obtain ⟨rfl, _, rfl⟩ := e
    exact ⟨hl, by omega, fun _ => h0, fun ad h => (by cases h)⟩
  · have h' := h
    simp only [Value.slice.injEq] at e
    obtain ⟨rfl, _, rfl⟩ := e
    exact ⟨hl, h1, fun h => (by cases h), fun ad e j hj => (by cases e; exact h'.cells rfl j _ (by simp [hj]))⟩

theorem within_nat (w : World) (k : Int) (n : Nat) (h : 0 < n) (h2 : n ≤ 1000) :
    Calls Tryd.prog 16 #[.int .i64 k, .int .i64 (n : Int)] w fun e w' => ∃ r : Nat, r < n ∧ e = .returned (.int .i64 (r : Int)) ∧ w' = w :=
  (within_any w k n (by omega) (by omega)).mono fun e w' ⟨he, hw⟩ => by
    have h0 := Int.emod_nonneg k (show (n : Int) ≠ 0 by omega)
    have h1 := Int.emod_lt_of_pos k (show (0 : Int) < (n : Int) by omega)
    refine ⟨(k % (n : Int)).toNat, by omega, ?_, hw⟩
    rw [he, Int.toNat_of_nonneg h0]

theorem Right.add {l : List Int} {h : Int} (hr : Right l) (h0 : 0 ≤ h ∧ h < 16) (hn : h ∉ l) : Right (l ++ [h]) := by
  refine ⟨fun z hz => ?_, ?_⟩
  · rcases List.mem_append.1 hz with hz | hz
    · exact hr.1 z hz
    · rw [List.mem_singleton.1 hz]; exact h0
  · rw [List.nodup_append]
    exact ⟨hr.2, by simp, fun a ha b hb => by rw [List.mem_singleton.1 hb]; intro e; subst e; exact hn ha⟩

theorem mem_take_next {l : List Int} {h : Int} {j : Nat} (hj : j < l.length) : decide (h ∈ l.take (j + 1)) = (decide (h ∈ l.take j) || (l[j] == h)) := by
  have e : l.take (j + 1) = l.take j ++ [l[j]] := by rw [List.take_add_one, List.getElem?_eq_getElem hj]; rfl
  have hm : (h ∈ l.take (j + 1)) ↔ (h ∈ l.take j ∨ h = l[j]) := by rw [e, List.mem_append, List.mem_singleton]
  rw [decide_eq_decide.2 hm, Bool.decide_or]
  congr 1
  by_cases hh : h = l[j]
  · simp [← hh]
  · simp [hh]; exact fun e => hh e.symm


end Go.Proofs.YtjfgjmiedmpieaaDoor
