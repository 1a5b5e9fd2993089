/-
  Texts that are handed in to a law, and the law's cut of a text.
-/
import Derived.Test.YtdbplemcjnlfiaaGreatDoorFBld
import Derived.Test.YtdbplemcjnlfiaaGreatDoorFCard
import Derived.Deep.Strs
import Derived.Laws.Cover4
namespace Go.Proofs.YtdbplemcjnlfiaaGreatDoor
open Go.ChangeShapes Go.WideShapes Go.ChangeAt Go.RowKit Go.Deep

/-- Texts that are handed in. -/
def StrsAt (w : World) (a : Option Addr) (len : Nat) (S : Nat → ByteArray) : Prop :=
  len = 0 ∨ ∃ b o, a = some ⟨b, o, none⟩ ∧ ∀ i, i < len → w.cell? ⟨b, o + i, none⟩ = some (.string (S i)) ∧ (S i).size ≤ maxLen

theorem strs_open {H : Type} {enc : TypeId × Value → H} {P : Program} {w : World} {base : Nat} {held : Bool} {t e : TypeId} {fuel : Nat} {v : Value} {x : DataW H × List MemPlace} (ht : P.underlying t = some (.slice e)) (he : P.underlying e = some .string) (hc : P.cellsOf e = 1)
    (h : DataW.trod enc P w base (fun _ => true) held fuel t [v] = some x) : ∃ a len cap S, v = .slice a len cap ∧ len ≤ cap ∧ cap ≤ maxLen ∧ StrsAt w a len S := by
  rcases open_strs ht he hc h with ⟨hcs, _⟩ | ⟨a, l, c, m, S, hcs, _, hl, hm, hmm, _, hcell⟩
  · simp only [List.cons.injEq, and_true] at hcs
    exact ⟨_, _, _, fun _ => ByteArray.empty, hcs, Nat.le_refl _, Nat.zero_le _, .inl rfl⟩
  · simp only [List.cons.injEq, and_true] at hcs
    simp only [if_true] at hmm
    subst hmm
    rcases Nat.eq_zero_or_pos l with h0 | h0
    · exact ⟨_, _, _, S, hcs, hl, hm, .inl h0⟩
    · obtain ⟨b, o, rfl⟩ := addr_form (hcell 0 (by omega)).1
      exact ⟨_, _, _, S, hcs, hl, hm, .inr ⟨b, o, rfl, fun i hi => by have := hcell i (by omega); rw [Addr.add_lit] at this; exact this⟩⟩

theorem StrsAt.kept {w w' : World} {a : Option Addr} {len : Nat} {S : Nat → ByteArray} (h : StrsAt w a len S) (K : Kept (fun _ => False) w w') : StrsAt w' a len S := by
  rcases h with h0 | ⟨b, o, rfl, hc⟩
  · exact .inl h0
  · refine .inr ⟨b, o, rfl, fun i hi => ?_⟩
    have h := hc i hi
    rw [World.cell?_of_block (w := w) (K.block _ (World.block_lt_of_cell? w _ h.1) (fun h => h))]
    exact h

set_option maxRecDepth 100000 in
theorem short_any (w : World) (s : ByteArray) (hs : s.size ≤ maxLen) : ∃ l : List UInt8, l.length ≤ 1500 ∧ Calls Tryz.prog 12 #[.string s] w fun e w' => e = .returned (.string (mkB l)) ∧ w' = w := by
  unfold maxLen at hs
  by_cases h : 1500 < s.size
  · refine ⟨(s.extract 0 1500).data.toList, ?_, ?_⟩
    · have : (s.extract 0 1500).data.toList.length = (s.extract 0 1500).size := Array.length_toList
      rw [this, ByteArray.size_extract]
      omega
    · rw [mkB_of]
      have h1 : (s.size : Int) > 1500 := by omega
      have h2 : (1500 : Int) ≤ (s.size : Int) := by omega
      go_enter Tryz.func12, Tryz.ntmps12
      go_wp2
      go_ret
      exact ⟨rfl, rfl⟩
  · refine ⟨s.data.toList, ?_, ?_⟩
    · have : s.data.toList.length = s.size := Array.length_toList
      omega
    · rw [mkB_of]
      have h1 : ¬ (s.size : Int) > 1500 := by omega
      go_enter Tryz.func12, Tryz.ntmps12
      go_wp2
      go_ret
      exact ⟨rfl, rfl⟩

theorem wf_bounds {n : Int} (h : (Lit.int .i64 n).wf = true) : -9223372036854775808 ≤ n ∧ n ≤ 9223372036854775807 := by
  simp only [Lit.wf, Bool.and_eq_true, decide_eq_true_eq] at h
  exact ⟨h.1, h.2⟩

end Go.Proofs.YtdbplemcjnlfiaaGreatDoor
