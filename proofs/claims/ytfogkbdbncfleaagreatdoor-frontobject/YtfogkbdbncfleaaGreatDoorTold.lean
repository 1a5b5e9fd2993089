/-
  A range over a function whose rounds are told what they are handed; the loop's variables may lie in blocks of their own.
-/
import Derived.RangeFuncNested
import Derived.RangeFuncBound
import Derived.RangeFuncCalls
import Derived.RangeFuncLeaves
import Derived.RangeFuncWrites
import Derived.Shelf.Abstract
import Derived.Shelf.RegionOpen
import Derived.WalkKit
import Derived.OwnWalkIn
import Derived.TacticsInMore
import Derived.LoopNIn
import Derived.LoopIn
import Derived.Deep.RegionHeld
import Derived.Test.YtfogkbdbncfleaaGreatDoorCBase
namespace Go.Proofs.YtfogkbdbncfleaaGreatDoor
open Go.RowKit Go.Shelf

/-- No operation is a defer statement. -/
def plainOp (o : Oper) : Bool := match o.op with
  | .defer _ => false
  | _ => true

theorem plainOp_ne {o : Oper} (h : plainOp o = true) (c : Call) : o.op ≠ .defer c := by
  intro e
  simp [plainOp, e] at h

theorem operIn_round {F : Fence} {n : Nat} {P : Program} {o : Oper} {a : Act} {w : World} {K : Act → World → Prop} {Q : Exit → Act → World → Prop} (l : Nat) (h : plainOp o = true) (hh : o.wpIn F n P a w K Q) : o.wpIn (F.inRound l) n P a w K Q := by
  unfold Oper.wpIn at *
  rw [Oper.semAt_plain F _ _ (plainOp_ne h)] at hh
  rw [Oper.semAt_plain (F.inRound l) _ _ (plainOp_ne h)]
  exact hh

theorem wpAnyIn_round {F : Fence} {n : Nat} {P : Program} {md : Region.Mode} {ops : Array Oper} {Q : Exit → Act → World → Prop} (l : Nat) (hp : ∀ (i : Nat) o, ops[i]? = some o → plainOp o = true) : ∀ (fuel : Nat) (listed : Array Bool) (a : Act) (w : World), wpAnyIn F n P md ops Q fuel listed a w → wpAnyIn (F.inRound l) n P md ops Q fuel listed a w
  | 0, _, _, _, h => h
  | fuel + 1, listed, a, w, h => by
    refine ⟨h.1, fun i hi => ?_⟩
    have h2 := wpOpIn_mono (fun a w hh => wpAnyIn_round l hp fuel (listed.setIfInBounds i true) a w hh) (h.2 i hi)
    unfold wpOpIn at h2 ⊢
    split
    · rename_i ho
      simpa [ho] using h2
    · rename_i o ho
      simp only [ho] at h2
      split
      · rename_i hw
        simp only [hw, if_true] at h2
        exact operIn_round l (hp i o ho) h2
      · rename_i hw
        simp only [hw] at h2
        exact h2

/-- A region that draws its order, within a round: one walk of the lexical order serves every order. -/
theorem region_round {F : Fence} {n : Nat} {P : Program} {id r : Nat} {Q : Exit → Act → World → Prop} {a : Act} {w : World} {l : List Oper} (hro : F.round = none) (hm : P.follows .mixedOrders = true) (hB : Region.lexB .any l.toArray = true) (hp : l.all plainOp = true)
    (h : wpQuietIn F n P l.toArray (fun w' => ∃ n, w' = w.drewN n) (fun a' => ∀ w', (∃ n, w' = w.drewN n) → Q .normal a' w') l a) : (Code.region id l.toArray true).wpIn (F.inRound r) n P Q a w := by
  simp only [Region.lexB, Bool.and_eq_true] at hB
  refine wpIn_region_any hm (wpAnyIn_round r ?_ _ _ _ _ (wpAnyIn_of_quiet (Q := fun a' => ∀ w', (∃ n, w' = w.drewN n) → Q .normal a' w') hro (fun _ w' hw' h => h w' hw') _ _ _ _ ⟨1, rfl⟩ ?_))
  · intro i o ho
    rw [List.all_eq_true] at hp
    exact hp o (List.mem_of_getElem? (by simpa using ho))
  · have := wpAnyQIn_lex (F := F) (n := n) (C := fun w' => ∃ n, w' = w.drewN n) (md := .any) hB.1 l 0 (Array.replicate l.toArray.size false) a (by simp) (by simpa using hB.2) h
    simpa using this

/-- One round: where the loop's record is ready ahead of it and behind the assignment, and the body keeps it. -/
theorem yield_gen {F : Fence} {m : Nat} {P : Program} {l : Nat} {r : Loop} {args tmps : Array Value} {ps : Array Tmp} {assign body : Code} {a1 : Act} {W W2 : World} {R : Ending → World → Prop} (hl : W.heap[l]? = some (.loop r)) (hst : r.state = .ready) (ht : r.tmps = tmps) (hp : r.params = ps) (ha : r.assign = assign) (hb : r.body = body) (hsz : args.size = ps.size) (hfn : F.fn r.fn) (hl2 : W2.heap[l]? = some (.loop r))
    (hA : ∀ K : Act → World → Prop, K a1 W2 → assign.wpIn (F.inRound l) m P (Exit.then K (fun _ _ _ => False)) { tmps := (ps.zip args).foldl (fun t (p, v) => t.setIfInBounds p v) tmps, defers := [] } W)
    (hB : body.wpIn (F.inRound l) m P (fun e _ V => V.heap[l]? = some (.loop { r with state := .busy }) ∧ ((e = .normal ∧ R (.returned (.bool true)) (V.putObj l (.loop { r with state := .ready, pending := none }))) ∨ (e = .ret ∧ R (.returned (.bool false)) (V.putObj l (.loop { r with state := .done, pending := some .ret }))))) a1 (W2.putObj l (.loop { r with state := .busy }))) :
    YieldAt F m P l args W R := by
  subst ht hp ha hb
  refine ⟨_, _, _, _, run_yield hl hsz, roundIn_of_wpIn hfn (hA _ ⟨_, run_beginRound hl2 hst, wpIn_mono hB ?_⟩)⟩
  rintro e a3 V ⟨hb, ⟨rfl, h⟩ | ⟨rfl, h⟩⟩
  · exact ⟨_, _, run_endRound none hb, h⟩
  · exact ⟨_, _, run_endRound (some .ret) hb, h⟩

/-- At the wide fence the depth is nothing. -/
theorem YieldAt.wide {m m' : Nat} {P : Program} {l : Nat} {args : Array Value} {W : World} {R : Ending → World → Prop} (h : YieldAt Fence.wide m P l args W R) : YieldAt Fence.wide m' P l args W R := by
  obtain ⟨fn, tmps, assign, body, hy, hR⟩ := h
  exact ⟨fn, tmps, assign, body, hy, hR.1, fun c cs _ => hR.2 c cs (room_wide _)⟩

theorem YieldAt.inRound {F : Fence} {m : Nat} {P : Program} {l : Nat} {args : Array Value} {W : World} {R : Ending → World → Prop} (k : Nat) (h : YieldAt F m P l args W R) : YieldAt (F.inRound k) m P l args W R := h

theorem Kept.putObj {S : Nat → Prop} (W : World) (l : Nat) (o : Obj) (h : S l) : Kept S W (W.putObj l o) :=
  ⟨rfl, rfl, rfl, by simp [World.putObj], fun b _ hs => World.putObj_heap_other (fun e => hs (e ▸ h))⟩

/-- The loop: the function that is ranged over is called with the loop's own yield. -/
theorem range_of {F : Fence} {n : Nat} {P : Program} {g : Operand} {ps : Array Tmp} {assign body : Code} {Q : Exit → Act → World → Prop} {a : Act} {w : World} (hro : F.round = none) (h1 : 1 ≤ n) {gf : Nat} {lb : Array Value} (hg : a.eval g = .func (.func gf) #[] lb) (hF : F.fn gf) (he : ∀ args w, (callFunc gf args).run P w = .ok (.enter gf args) w)
    (h : ∀ r : Loop, F.fn r.fn → r.state = .ready → r.pending = none → r.tmps = a.tmps → r.params = ps → r.assign = assign → r.body = body → CallsIn F (n - 1) P gf (#[.func (.yield (w.heap.size + 1)) #[] #[]] ++ lb) ((w.alloc (.deferred (some []))).alloc (.loop r)) fun e W => (∃ v, e = .returned v) ∧ ∃ r : Loop, W.heap[w.heap.size + 1]? = some (.loop r) ∧ r.state ≠ .busy ∧
      ((r.pending = none ∧ Q .normal { a with defers := { target := .collected w.heap.size, args := #[] } :: a.defers } (W.putObj (w.heap.size + 1) (.loop { r with state := .exhausted }))) ∨ (∃ c, r.pending = some c ∧ c.wpIn F n P Q { a with defers := { target := .collected w.heap.size, args := #[] } :: a.defers } (W.putObj (w.heap.size + 1) (.loop { r with state := .exhausted }))))) :
    (Code.rangeFunc g ps assign body).wpIn F n P Q a w := by
  refine wpIn_rangeFunc (fun fn hfn => ?_)
  refine ⟨w.heap.size + 1, [{ target := .collected w.heap.size, args := #[] }], _, { target := .fn (.func gf) lb, args := #[.func (.yield (w.heap.size + 1)) #[] #[]] }, ((w.alloc (.deferred (some []))).alloc (.loop { state := .ready, pending := none, fn, tmps := a.tmps, params := ps, assign, body, defers := w.heap.size })), gf, _, _, by rw [hro]; exact run_enterLoop_outer _ _ _ _ _, ?_, ?_, ?_, fun _ => h1, (h { state := .ready, pending := none, fn, tmps := a.tmps, params := ps, assign, body, defers := w.heap.size } hfn rfl rfl rfl rfl rfl rfl).mono ?_⟩
  · simp only [resolve, hg]
    simp [go_sem]
  · intro f hf
    simp [Target.leads] at hf
    exact hf ▸ hF
  · simp [invoke, go_sem, he]
  · rintro e W ⟨⟨v, rfl⟩, r, hr, hb, hq⟩
    have hend := run_endLoop (P := P) hr hb
    rcases hq with ⟨hp, q⟩ | ⟨c, hp, q⟩
    · rw [hp] at hend q
      exact ⟨none, _, hend, q⟩
    · rw [hp] at hend q
      exact ⟨some c, _, hend, q⟩

/-! A region that draws its order, within a round, by the laws of a region whose worlds meet a condition. -/

theorem operIn_wide {n : Nat} {P : Program} {o : Oper} {a : Act} {w : World} {K : Act → World → Prop} {Q : Exit → Act → World → Prop} (h : o.wp P a w K Q) : o.wpIn Fence.wide n P a w K Q := by
  refine ⟨fun _ _ => trivial, ?_⟩
  unfold Oper.wp at h
  show o.uponIn Fence.wide n P a K Q ((o.semAt none a.eval).run P w)
  rw [Oper.semAt_none]
  generalize (execOp a.eval o).run P w = res at *
  cases res with
  | ok nx w' =>
    cases nx with
    | enter f args => exact ⟨fun h => by simp [Fence.wide] at h, callsIn_wide.2 h⟩
    | row row args =>
      refine ⟨fun h => by simp [Fence.wide] at h, fun c cs _ => ?_⟩
      obtain ⟨v, w'', r, s⟩ := h c cs
      exact ⟨v, w'', r, stepsIn_wide.2 s⟩
    | _ => first | exact h | exact h.elim
  | halt hh w' =>
    cases hh <;> first | exact h | exact h.elim

theorem anyIn_wide {n : Nat} {P : Program} {md : Region.Mode} {ops : Array Oper} {Q : Exit → Act → World → Prop} (hQ : ¬ LetsOut Q) : ∀ (fuel : Nat) (listed : Array Bool) (a : Act) (w : World), wpAny P md ops Q fuel listed a w → wpAnyIn Fence.wide n P md ops Q fuel listed a w
  | 0, _, _, _, h => h
  | fuel + 1, listed, a, w, h => by
    refine ⟨h.1, fun i hi => ?_⟩
    have h2 := h.2 i hi
    unfold wpOp at h2
    unfold wpOpIn
    split
    · rename_i ho
      simp only [ho] at h2
      exact anyIn_wide hQ fuel _ a w h2
    · rename_i o ho
      simp only [ho] at h2
      split
      · rename_i hw
        simp only [hw, if_true] at h2
        rcases h2 with h2 | h2
        · exact operIn_wide (Oper.wp_mono (fun a w hh => anyIn_wide hQ fuel _ a w hh) h2)
        · exact absurd h2.2 hQ
      · rename_i hw
        simp only [hw] at h2
        exact ⟨fun _ _ => trivial, anyIn_wide hQ fuel _ _ w h2⟩

theorem region_round_held {n : Nat} {P : Program} {id r : Nat} {Q : Exit → Act → World → Prop} {a : Act} {w : World} {l : List Oper} (S : World → Prop) (hm : P.follows .mixedOrders = true) (hp : l.all plainOp = true) (hQ : ¬ LetsOut Q)
    (h : wpAnyH P .any l.toArray Q S l.toArray.size (Array.replicate l.toArray.size false) a w.drew) : (Code.region id l.toArray true).wpIn (Fence.wide.inRound r) n P Q a w := by
  refine wpIn_region_any hm (wpAnyIn_round r ?_ _ _ _ _ (anyIn_wide hQ _ _ _ _ (wpAny_of_held _ _ _ _ h)))
  intro i o ho
  rw [List.all_eq_true] at hp
  exact hp o (List.mem_of_getElem? (by simpa using ho))

/-- A post that no way out but the normal one meets. -/
def nrm (K : Act → World → Prop) : Exit → Act → World → Prop
  | .normal, a, w => K a w
  | _, _, _ => False

theorem wp_nrm {P : Program} {c : Code} {Q : Exit → Act → World → Prop} {a : Act} {w : World} (h : c.wp P (nrm (fun a w => Q .normal a w)) a w) : c.wp P Q a w :=
  Code.wp_mono (fun e a w h => by cases e <;> first | exact h | exact (h : False).elim) h

theorem wpIn_nrm {F : Fence} {n : Nat} {P : Program} {c : Code} {Q : Exit → Act → World → Prop} {a : Act} {w : World} (h : c.wpIn F n P (nrm (fun a w => Q .normal a w)) a w) : c.wpIn F n P Q a w :=
  wpIn_mono h (fun e a w h => by cases e <;> first | exact h | exact (h : False).elim)

theorem nrm_out (K : Act → World → Prop) : ¬ LetsOut (nrm K) := fun ⟨_, _, h⟩ => h

end Go.Proofs.YtfogkbdbncfleaaGreatDoor
