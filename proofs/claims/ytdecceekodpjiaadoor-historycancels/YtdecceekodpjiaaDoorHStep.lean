/-
  Laws of single steps of regions that draw their order; a state as nine cells within a block.
-/
import Derived.Test.YtdecceekodpjiaaDoorHKept
import Derived.Deep.RegionHeld3
import Derived.Deep.RegionLaw
namespace Go.Proofs.YtdecceekodpjiaaDoor
open Go.RowKit

def onlyN (K : Act → World → Prop) : Exit → Act → World → Prop
  | .normal, a, w => K a w
  | _, _, _ => False

theorem wp_onlyN {P : Program} {c : Code} {Q : Exit → Act → World → Prop} {a : Act} {w : World} (h : c.wp P (onlyN (fun a w => Q .normal a w)) a w) : c.wp P Q a w :=
  Code.wp_mono (fun e a w h => by cases e <;> first | exact h | exact h.elim) h

/-- append(v, x...) onto a row that is owned, as a step of a region that draws. -/
theorem step_append_sr {P : Program} {ops : Array Oper} {o : Oper} {a : Act} (w : World) {K : Act → World → Prop} {Q : Exit → Act → World → Prop} {E : Prop}
    (hg : o.guard = none) (s x : Operand) (t : TypeId) (hop : o.op = Op.call { callee := Callee.builtin Builtin.append, args := #[s, x], argTypes := #[t, t] })
    (base : Nat) (e : TypeId) (i : TypeInfo) (z : Value) (size bytes : Nat) (ht : P.underlying t = some (.slice e)) (hi : P.info? e = some i) (hz : i.zero = some z)
    (hsize : i.size = size) (hby : i.bytes = bytes) (hzs : z.cells.size = size) (hsz : 0 < size)
    (v : Value) (n : Nat) (xs : List Value) (hs : a.eval s = v) (hown : w.ownsRow base e size v n xs) (xv : Value) (hx : a.eval x = xv) (m : Nat) (news : List Value) (hsrc : Src w size xv m news) (h1 : ∀ u ∈ news, u.oneCell' = true)
    (h63 : n + m ≤ maxLen) (hbytes : (n + m) * bytes ≤ 140737488355328) (hbase : base ≤ w.heap.size)
    (hK : ∀ a' cap w', w'.ownsRow base e size (.slice a' (n + m) cap) (n + m) (xs ++ news) → w.grownBy w' v.ownBlock → (Value.slice a' (n + m) cap = .slice none 0 0 ↔ v = .slice none 0 0 ∧ m = 0) → ((Value.slice a' (n + m) cap).ownBlock = v.ownBlock ∨ (Value.slice a' (n + m) cap).ownBlock = some w.heap.size) → K (a.put o.dst (.slice a' (n + m) cap)) w') :
    if Region.wanted o (yielded ops a.tmps) = true then Oper.wp P o a w K Q else E := by
  have hw : Region.wanted o (yielded ops a.tmps) = true := by simp [Region.wanted, hg]
  rw [if_pos hw]
  obtain ⟨v', w', hrun, h2, h3, h4, h5⟩ := run_append_src (P := P) w base t o.type e i z size bytes ht hi hz hsize hby hzs hsz v n xs hown xv m news hsrc h1 h63 hbytes hbase
  obtain ⟨a', cap, rfl⟩ := ownsRow_shape h2
  unfold Oper.wp
  simp [execOp, hop, resolve, invoke, builtin, hs, hx, hrun, Result.andThen]
  exact hK a' cap w' h2 h3 h4 h5

/-- A call of a Go function as a step of a region that draws. -/
theorem step_call1 {P : Program} {ops : Array Oper} {o : Oper} {a : Act} (w : World) {K : Act → World → Prop} {Q : Exit → Act → World → Prop} {E : Prop}
    (hg : o.guard = none) (f : Nat) (x : Operand) (t : TypeId) (hop : o.op = Op.call { callee := .value (.func f), args := #[x], argTypes := #[t] })
    (he : ∀ args w, (callFunc f args).run P w = .ok (.enter f args) w) (v : Value) (hx : a.eval x = v) {R : Ending → World → Prop} (hC : Calls P f #[v] w R)
    (hK : ∀ e w', R e w' → ∃ u, e = .returned u ∧ K (a.put o.dst u) w') :
    if Region.wanted o (yielded ops a.tmps) = true then Oper.wp P o a w K Q else E := by
  have hw : Region.wanted o (yielded ops a.tmps) = true := by simp [Region.wanted, hg]
  rw [if_pos hw]
  unfold Oper.wp
  have hf : a.eval (.func f) = .func (.func f) #[] #[] := rfl
  simp [execOp, hop, resolve, invoke, hf, hx, he, Deferred.ofValue]
  refine hC.mono ?_
  rintro e w' h
  obtain ⟨u, rfl, k⟩ := hK e w' h
  exact k

/-- Calls of Go functions with two and three arguments as steps of a region that draws. -/
theorem step_call2 {P : Program} {ops : Array Oper} {o : Oper} {a : Act} (w : World) {K : Act → World → Prop} {Q : Exit → Act → World → Prop} {E : Prop}
    (hw : Region.wanted o (yielded ops a.tmps) = true) (f : Nat) (x y : Operand) (t t2 : TypeId) (hop : o.op = Op.call { callee := .value (.func f), args := #[x, y], argTypes := #[t, t2] })
    (he : ∀ args w, (callFunc f args).run P w = .ok (.enter f args) w) (v v2 : Value) (hx : a.eval x = v) (hy : a.eval y = v2) {R : Ending → World → Prop} (hC : Calls P f #[v, v2] w R)
    (hK : ∀ e w', R e w' → ∃ u, e = .returned u ∧ K (a.put o.dst u) w') :
    if Region.wanted o (yielded ops a.tmps) = true then Oper.wp P o a w K Q else E := by
  rw [if_pos hw]
  unfold Oper.wp
  have hf : a.eval (.func f) = .func (.func f) #[] #[] := rfl
  simp [execOp, hop, resolve, invoke, hf, hx, hy, he, Deferred.ofValue]
  refine hC.mono ?_
  rintro e w' h
  obtain ⟨u, rfl, k⟩ := hK e w' h
  exact k

theorem step_call3 {P : Program} {ops : Array Oper} {o : Oper} {a : Act} (w : World) {K : Act → World → Prop} {Q : Exit → Act → World → Prop} {E : Prop}
    (hw : Region.wanted o (yielded ops a.tmps) = true) (f : Nat) (x y z : Operand) (t t2 t3 : TypeId) (hop : o.op = Op.call { callee := .value (.func f), args := #[x, y, z], argTypes := #[t, t2, t3] })
    (he : ∀ args w, (callFunc f args).run P w = .ok (.enter f args) w) (v v2 v3 : Value) (hx : a.eval x = v) (hy : a.eval y = v2) (hz : a.eval z = v3) {R : Ending → World → Prop} (hC : Calls P f #[v, v2, v3] w R)
    (hK : ∀ e w', R e w' → ∃ u, e = .returned u ∧ K (a.put o.dst u) w') :
    if Region.wanted o (yielded ops a.tmps) = true then Oper.wp P o a w K Q else E := by
  rw [if_pos hw]
  unfold Oper.wp
  have hf : a.eval (.func f) = .func (.func f) #[] #[] := rfl
  simp [execOp, hop, resolve, invoke, hf, hx, hy, hz, he, Deferred.ofValue]
  refine hC.mono ?_
  rintro e w' h
  obtain ⟨u, rfl, k⟩ := hK e w' h
  exact k

theorem step_call4 {P : Program} {ops : Array Oper} {o : Oper} {a : Act} (w : World) {K : Act → World → Prop} {Q : Exit → Act → World → Prop} {E : Prop}
    (hw : Region.wanted o (yielded ops a.tmps) = true) (f : Nat) (x y z p : Operand) (t t2 t3 t4 : TypeId) (hop : o.op = Op.call { callee := .value (.func f), args := #[x, y, z, p], argTypes := #[t, t2, t3, t4] })
    (he : ∀ args w, (callFunc f args).run P w = .ok (.enter f args) w) (v v2 v3 v4 : Value) (hx : a.eval x = v) (hy : a.eval y = v2) (hz : a.eval z = v3) (hp : a.eval p = v4) {R : Ending → World → Prop} (hC : Calls P f #[v, v2, v3, v4] w R)
    (hK : ∀ e w', R e w' → ∃ u, e = .returned u ∧ K (a.put o.dst u) w') :
    if Region.wanted o (yielded ops a.tmps) = true then Oper.wp P o a w K Q else E := by
  rw [if_pos hw]
  unfold Oper.wp
  have hf : a.eval (.func f) = .func (.func f) #[] #[] := rfl
  simp [execOp, hop, resolve, invoke, hf, hx, hy, hz, hp, he, Deferred.ofValue]
  refine hC.mono ?_
  rintro e w' h
  obtain ⟨u, rfl, k⟩ := hK e w' h
  exact k

/-- A state's nine values as a row. -/
def stL (s : St) (v6 v7 : Value) : List Value := [.string s.dfn, .string s.id, .string s.par, .string s.pnode, .int .i64 s.status, .string s.text, v6, v7, .int .i64 s.events]

theorem blk_at {w : World} {sb so : Nat} {T : TypeId} {pre l post : List Value} (h : w.heap[sb]? = some (.cells (pre ++ l ++ post).toArray T (0, 0))) (hso : pre.length = so) {j : Nat} {u : Value} (hu : l[j]? = some u) : w.cell? ⟨sb, so + j, none⟩ = some u ∧ w.frozen? ⟨sb, so + j, none⟩ = false := by
  have hj : j < l.length := (List.getElem?_eq_some_iff.1 hu).1
  subst hso
  unfold World.cell? World.frozen?
  rw [h]
  refine ⟨?_, by simp⟩
  simp only [List.getElem?_toArray]
  rw [List.append_assoc, List.getElem?_append_right (by omega), show pre.length + j - pre.length = j by omega, List.getElem?_append_left hj]
  exact hu

theorem blk_set {w : World} {sb so : Nat} {T : TypeId} {pre l post : List Value} (h : w.heap[sb]? = some (.cells (pre ++ l ++ post).toArray T (0, 0))) (hso : pre.length = so) {j : Nat} (hj : j < l.length) (v : Value) : (w.setCell ⟨sb, so + j, none⟩ v).heap[sb]? = some (.cells (pre ++ l.set j v ++ post).toArray T (0, 0)) := by
  subst hso
  have e : (pre ++ l ++ post).set (pre.length + j) v = pre ++ l.set j v ++ post := by
    rw [List.append_assoc, List.set_append_right _ _ (by omega), show pre.length + j - pre.length = j by omega, List.set_append_left _ _ hj, List.append_assoc]
  simp only [World.setCell, Array.getElem?_modify, h, if_true, Option.map_some]
  rw [List.setIfInBounds_toArray, e]
  rfl

theorem nineAt {w : World} {sb so : Nat} {T : TypeId} {pre post : List Value} {u0 u1 u2 u3 u4 u5 u6 u7 u8 : Value} (h : w.heap[sb]? = some (.cells (pre ++ [u0, u1, u2, u3, u4, u5, u6, u7, u8] ++ post).toArray T (0, 0))) (hso : pre.length = so) :
    (w.cell? ⟨sb, so, none⟩ = some u0 ∧ w.cell? ⟨sb, so + 1, none⟩ = some u1 ∧ w.cell? ⟨sb, so + 2, none⟩ = some u2 ∧ w.cell? ⟨sb, so + 3, none⟩ = some u3 ∧ w.cell? ⟨sb, so + 4, none⟩ = some u4 ∧ w.cell? ⟨sb, so + 5, none⟩ = some u5 ∧ w.cell? ⟨sb, so + 6, none⟩ = some u6 ∧ w.cell? ⟨sb, so + 7, none⟩ = some u7 ∧ w.cell? ⟨sb, so + 8, none⟩ = some u8) ∧
    (w.frozen? ⟨sb, so, none⟩ = false ∧ w.frozen? ⟨sb, so + 1, none⟩ = false ∧ w.frozen? ⟨sb, so + 2, none⟩ = false ∧ w.frozen? ⟨sb, so + 3, none⟩ = false ∧ w.frozen? ⟨sb, so + 4, none⟩ = false ∧ w.frozen? ⟨sb, so + 5, none⟩ = false ∧ w.frozen? ⟨sb, so + 6, none⟩ = false ∧ w.frozen? ⟨sb, so + 7, none⟩ = false ∧ w.frozen? ⟨sb, so + 8, none⟩ = false) :=
  ⟨⟨(blk_at h hso (j := 0) rfl).1, (blk_at h hso (j := 1) rfl).1, (blk_at h hso (j := 2) rfl).1, (blk_at h hso (j := 3) rfl).1, (blk_at h hso (j := 4) rfl).1, (blk_at h hso (j := 5) rfl).1, (blk_at h hso (j := 6) rfl).1, (blk_at h hso (j := 7) rfl).1, (blk_at h hso (j := 8) rfl).1⟩, (blk_at h hso (j := 0) rfl).2, (blk_at h hso (j := 1) rfl).2, (blk_at h hso (j := 2) rfl).2, (blk_at h hso (j := 3) rfl).2, (blk_at h hso (j := 4) rfl).2, (blk_at h hso (j := 5) rfl).2, (blk_at h hso (j := 6) rfl).2, (blk_at h hso (j := 7) rfl).2, (blk_at h hso (j := 8) rfl).2⟩

end Go.Proofs.YtdecceekodpjiaaDoor
