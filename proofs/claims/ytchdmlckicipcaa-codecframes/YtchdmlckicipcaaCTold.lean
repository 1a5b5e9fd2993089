/-
  A range over a function, whose rounds are told what they are handed: one round, and the loop.
-/
import Derived.Test.YtchdmlckicipcaaCFrames
namespace Go.Proofs.Ytchdmlckicipcaa
open Go.RowKit Go.Shelf

/-- One round: where the loop's record was ready and the body keeps it. -/
theorem yield_of {F : Fence} {m : Nat} {P : Program} {l : Nat} {r : Loop} {args tmps : Array Value} {ps : Array Tmp} {assign body : Code} {a1 : Act} {W : World} {R : Ending → World → Prop} (hl : W.heap[l]? = some (.loop r)) (hst : r.state = .ready) (ht : r.tmps = tmps) (hp : r.params = ps) (ha : r.assign = assign) (hb : r.body = body) (hsz : args.size = ps.size) (hfn : F.fn r.fn)
    (hA : ∀ K : Act → World → Prop, K a1 W → assign.wpIn (F.inRound l) m P (Exit.then K (fun _ _ _ => False)) { tmps := (ps.zip args).foldl (fun t (p, v) => t.setIfInBounds p v) tmps, defers := [] } W)
    (hB : body.wpIn (F.inRound l) m P (fun e _ V => V.heap[l]? = some (.loop { r with state := .busy }) ∧ ((e = .normal ∧ R (.returned (.bool true)) (V.putObj l (.loop { r with state := .ready, pending := none }))) ∨ (e = .ret ∧ R (.returned (.bool false)) (V.putObj l (.loop { r with state := .done, pending := some .ret }))))) a1 (W.putObj l (.loop { r with state := .busy }))) :
    YieldAt F m P l args W R := by
  subst ht hp ha hb
  refine ⟨_, _, _, _, run_yield hl hsz, roundIn_of_wpIn hfn (hA _ ⟨_, run_beginRound hl hst, wpIn_mono hB ?_⟩)⟩
  rintro e a3 V ⟨hb, ⟨rfl, h⟩ | ⟨rfl, h⟩⟩
  · exact ⟨_, _, run_endRound none hb, h⟩
  · exact ⟨_, _, run_endRound (some .ret) hb, h⟩

/-- The loop: the function that is ranged over is called with the loop's own yield. -/
theorem range_of {F : Fence} {n : Nat} {P : Program} {g : Operand} {ps : Array Tmp} {assign body : Code} {Q : Exit → Act → World → Prop} {a : Act} {w : World} (hro : F.round = none) (h1 : 1 ≤ n) {gf : Nat} {lb : Array Value} (hg : a.eval g = .func (.func gf) #[] lb) (hF : F.fn gf) (he : ∀ args w, (callFunc gf args).run P w = .ok (.enter gf args) w)
    (h : ∀ r : Loop, F.fn r.fn → r.state = .ready → r.pending = none → r.tmps = a.tmps → r.params = ps → r.assign = assign → r.body = body → CallsIn F (n - 1) P gf (#[.func (.yield (w.heap.size + 1)) #[] #[]] ++ lb) ((w.alloc (.deferred (some []))).alloc (.loop r)) fun e W => (∃ v, e = .returned v) ∧ ∃ r : Loop, W.heap[w.heap.size + 1]? = some (.loop r) ∧ r.state ≠ .busy ∧
      ((r.pending = none ∧ Q .normal { a with defers := { target := .collected w.heap.size, args := #[] } :: a.defers } (W.putObj (w.heap.size + 1) (.loop { r with state := .exhausted }))) ∨ (∃ c, r.pending = some c ∧ c.wpIn F n P Q { a with defers := { target := .collected w.heap.size, args := #[] } :: a.defers } (W.putObj (w.heap.size + 1) (.loop { r with state := .exhausted }))))) :
    (Code.rangeFunc g ps assign body).wpIn F n P Q a w := by
  refine wpIn_rangeFunc (fun fn hfn => ?_)
  refine ⟨w.heap.size + 1, [{ target := .collected w.heap.size, args := #[] }], _, { target := .fn (.func gf) lb, args := #[.func (.yield (w.heap.size + 1)) #[] #[]] }, ((w.alloc (.deferred (some []))).alloc (.loop { state := .ready, pending := none, fn, tmps := a.tmps, params := ps, assign, body, defers := w.heap.size })), gf, _, _, by rw [hro]; exact run_enterLoop_outer _ _ _ _ _, ?_, ?_, ?_, fun _ => h1, (h { state := .ready, pending := none, fn, tmps := a.tmps, params := ps, assign, body, defers := w.heap.size } hfn rfl rfl rfl rfl rfl rfl).mono ?_⟩
  · simp only [resolve, hg]
    simp [go_sem]
  · intro f hf
    simp [Target.leads] at hf
    exact hf ▸ hF
  · simp [invoke, go_sem, he]
  · rintro e W ⟨⟨v, rfl⟩, r, hr, hb, hq⟩
    have hend := run_endLoop (P := P) hr hb
    rcases hq with ⟨hp, q⟩ | ⟨c, hp, q⟩
    · rw [hp] at hend q
      exact ⟨none, _, hend, q⟩
    · rw [hp] at hend q
      exact ⟨some c, _, hend, q⟩

end Go.Proofs.Ytchdmlckicipcaa
