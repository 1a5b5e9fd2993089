/-
  A call on each of two disks: they are the same behind it.
-/
import Derived.Test.YtdbmefjagggnoaaBoth
import Derived.Test.YtdbmefjagggnoaaRefCrash
namespace Go.Proofs.Ytdbmefjagggnoaa
open Go.RowKit Go.Maps Go.ChangeMaps Go.MapKept

section
variable {W w1 w2 : World} {lo d r : Nat} {S1 S2 S1' : Nat → Prop} {rs : RSt} {vL vF : Value} {M : List RM}

theorem Both.join (R : RefIn W S2 r rs vL vF M) (hd : ∀ k, S1 k → ¬ S2 k) (hlo : ∀ k, S1 k ∨ S2 k → lo ≤ k) (hw : lo ≤ W.heap.size) {n' L' bf' bq' j' : Nat} {st' : DSt} {rs' : RSt} {G' C' : Int → Nat}
    (D1 : DiskIn w1 S1' d n' L' st' bf' bq' G' C') (K1 : Kept S1 W w1) (hS1 : ∀ k, S1' k → S1 k ∨ W.heap.size ≤ k) (T : RefTo w1 S2 r rs' w2) (hs : Sim st' rs') (hb : RBd rs') (hn : Bnd j' n' L' rs') : Both w2 lo d r j' ∧ Below lo W w2 := by
  obtain ⟨S2', vL', vF', M', R2, K2, hS2⟩ := T
  have hz := K1.size
  have h12 : ∀ k, S1' k → ¬ S2 k := fun k h h2 => by
    rcases hS1 k h with h' | h'
    · exact hd k h' h2
    · have := R.bnd k h2; omega
  refine ⟨⟨n', L', st', rs', S1', bf', bq', G', C', S2', vL', vF', M', D1.kept K2 h12, R2, fun k h h2 => ?_, fun k h => ?_, by have := K2.size; omega, hs, hb, hn⟩, (K1.below hw (fun k h => hlo k (.inl h))).trans (K2.below (by omega) (fun k h => hlo k (.inr h)))⟩
  · rcases hS2 k h2 with h' | h'
    · exact h12 k h h'
    · have := D1.bnd k h; omega
  · rcases h with h | h
    · rcases hS1 k h with h' | h'
      · exact hlo k (.inl h')
      · omega
    · rcases hS2 k h with h' | h'
      · exact hlo k (.inr h')
      · omega

/-- .. and then something beside both is changed. -/
theorem Both.join3 {w3 : World} (R : RefIn W S2 r rs vL vF M) (hd : ∀ k, S1 k → ¬ S2 k) (hlo : ∀ k, S1 k ∨ S2 k → lo ≤ k) (hw : lo ≤ W.heap.size) {n' L' bf' bq' j' : Nat} {st' : DSt} {rs' : RSt} {G' C' : Int → Nat}
    (D1 : DiskIn w1 S1' d n' L' st' bf' bq' G' C') (K1 : Kept S1 W w1) (hS1 : ∀ k, S1' k → S1 k ∨ W.heap.size ≤ k) (T : RefTo w1 S2 r rs' w2) (hs : Sim st' rs') (hb : RBd rs') (hn : Bnd j' n' L' rs') {g : Nat} (hg1 : ¬ S1 g) (hg2 : ¬ S2 g) (hgw : g < W.heap.size) (hgl : lo ≤ g) (K3 : Kept (fun k => k = g) w2 w3) : Both w3 lo d r j' ∧ Below lo W w3 := by
  obtain ⟨S2', vL', vF', M', R2, K2, hS2⟩ := T
  have hz := K1.size
  have hz2 := K2.size
  have h12 : ∀ k, S1' k → ¬ S2 k := fun k h h2 => by
    rcases hS1 k h with h' | h'
    · exact hd k h' h2
    · have := R.bnd k h2; omega
  have hg1' : ∀ k, S1' k → ¬ k = g := fun k h e => by
    rcases hS1 k h with h' | h'
    · exact hg1 (e ▸ h')
    · omega
  have hg2' : ∀ k, S2' k → ¬ k = g := fun k h e => by
    rcases hS2 k h with h' | h'
    · exact hg2 (e ▸ h')
    · omega
  refine ⟨⟨n', L', st', rs', S1', bf', bq', G', C', S2', vL', vF', M', (D1.kept K2 h12).kept K3 hg1', R2.kept K3 hg2', fun k h h2 => ?_, fun k h => ?_, by have := K3.size; omega, hs, hb, hn⟩, ((K1.below hw (fun k h => hlo k (.inl h))).trans (K2.below (by omega) (fun k h => hlo k (.inr h)))).trans (K3.below (by omega) (fun k h => by omega))⟩
  · rcases hS2 k h2 with h' | h'
    · exact h12 k h h'
    · have := D1.bnd k h; omega
  · rcases h with h | h
    · rcases hS1 k h with h' | h'
      · exact hlo k (.inl h')
      · omega
    · rcases hS2 k h with h' | h'
      · exact hlo k (.inr h')
      · omega

theorem refTo_of (R : RefIn w2 S2 r rs vL vF M) (K : Kept S2 w1 w2) : RefTo w1 S2 r rs w2 := ⟨S2, vL, vF, M, R, K, fun _ h => .inl h⟩
end

end Go.Proofs.Ytdbmefjagggnoaa
