/-
  Calls within a region that draws its order (for utf8.Valid).
-/
import Derived.Test.YtfiaaaflpjpnjaaGreatDoorFWord
import Derived.Deep.RegionHeld3
import Derived.Deep.RegionLaw
namespace Go.Proofs.YtfiaaaflpjpnjaaGreatDoor
open Go.RowKit

def onlyN (K : Act → World → Prop) : Exit → Act → World → Prop
  | .normal, a, w => K a w
  | _, _, _ => False

theorem wp_onlyN {P : Program} {c : Code} {Q : Exit → Act → World → Prop} {a : Act} {w : World} (h : c.wp P (onlyN (fun a w => Q .normal a w)) a w) : c.wp P Q a w :=
  Code.wp_mono (fun e a w h => by cases e <;> first | exact h | exact h.elim) h

theorem step_call1f {P : Program} {ops : Array Oper} {o : Oper} {a : Act} (w : World) {K : Act → World → Prop} {Q : Exit → Act → World → Prop} {E : Prop}
    (hw : Region.wanted o (yielded ops a.tmps) = true) (f : Nat) (x : Operand) (t : TypeId) (hop : o.op = Op.call { callee := .value (.func f), args := #[x], argTypes := #[t] })
    (he : ∀ args w, (callFunc f args).run P w = .ok (.enter f args) w) (v : Value) (hx : a.eval x = v) {R : Ending → World → Prop} (hC : Calls P f #[v] w R)
    (hK : ∀ e w', R e w' → ∃ u, e = .returned u ∧ K (a.put o.dst u) w') :
    if Region.wanted o (yielded ops a.tmps) = true then Oper.wp P o a w K Q else E := by
  rw [if_pos hw]
  unfold Oper.wp
  have hf : a.eval (.func f) = .func (.func f) #[] #[] := rfl
  simp [execOp, hop, resolve, invoke, hf, hx, he, Deferred.ofValue]
  refine hC.mono ?_
  rintro e w' h
  obtain ⟨u, rfl, k⟩ := hK e w' h
  exact k

theorem step_call2f {P : Program} {ops : Array Oper} {o : Oper} {a : Act} (w : World) {K : Act → World → Prop} {Q : Exit → Act → World → Prop} {E : Prop}
    (hw : Region.wanted o (yielded ops a.tmps) = true) (f : Nat) (x y : Operand) (t t2 : TypeId) (hop : o.op = Op.call { callee := .value (.func f), args := #[x, y], argTypes := #[t, t2] })
    (he : ∀ args w, (callFunc f args).run P w = .ok (.enter f args) w) (v v2 : Value) (hx : a.eval x = v) (hy : a.eval y = v2) {R : Ending → World → Prop} (hC : Calls P f #[v, v2] w R)
    (hK : ∀ e w', R e w' → ∃ u, e = .returned u ∧ K (a.put o.dst u) w') :
    if Region.wanted o (yielded ops a.tmps) = true then Oper.wp P o a w K Q else E := by
  rw [if_pos hw]
  unfold Oper.wp
  have hf : a.eval (.func f) = .func (.func f) #[] #[] := rfl
  simp [execOp, hop, resolve, invoke, hf, hx, hy, he, Deferred.ofValue]
  refine hC.mono ?_
  rintro e w' h
  obtain ⟨u, rfl, k⟩ := hK e w' h
  exact k

end Go.Proofs.YtfiaaaflpjpnjaaGreatDoor
