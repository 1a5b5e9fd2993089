/-
  FrontState: words, standings, digits; calls within a region that draws its order; texts laid behind each other.
-/
import Derived.Test.YtdbplemcjnlfiaaGreatDoorFQuoW
import Derived.Test.YtdbplemcjnlfiaaGreatDoorFRefQ
import Derived.Test.YtdbplemcjnlfiaaGreatDoorFRefD
import Derived.Test.YtdbplemcjnlfiaaGreatDoorFCard
import Derived.Lib.ItoaNum
import Derived.Deep.RegionHeld3
import Derived.Deep.RegionLaw
namespace Go.Proofs.YtdbplemcjnlfiaaGreatDoor
open Go.RowKit Go.Sort

def onlyN (K : Act → World → Prop) : Exit → Act → World → Prop
  | .normal, a, w => K a w
  | _, _, _ => False

theorem wp_onlyN {P : Program} {c : Code} {Q : Exit → Act → World → Prop} {a : Act} {w : World} (h : c.wp P (onlyN (fun a w => Q .normal a w)) a w) : c.wp P Q a w :=
  Code.wp_mono (fun e a w h => by cases e <;> first | exact h | exact h.elim) h

theorem step_call1f {P : Program} {ops : Array Oper} {o : Oper} {a : Act} (w : World) {K : Act → World → Prop} {Q : Exit → Act → World → Prop} {E : Prop}
    (hw : Region.wanted o (yielded ops a.tmps) = true) (f : Nat) (x : Operand) (t : TypeId) (hop : o.op = Op.call { callee := .value (.func f), args := #[x], argTypes := #[t] })
    (he : ∀ args w, (callFunc f args).run P w = .ok (.enter f args) w) (v : Value) (hx : a.eval x = v) {R : Ending → World → Prop} (hC : Calls P f #[v] w R)
    (hK : ∀ e w', R e w' → ∃ u, e = .returned u ∧ K (a.put o.dst u) w') :
    if Region.wanted o (yielded ops a.tmps) = true then Oper.wp P o a w K Q else E := by
  rw [if_pos hw]
  unfold Oper.wp
  have hf : a.eval (.func f) = .func (.func f) #[] #[] := rfl
  simp [execOp, hop, resolve, invoke, hf, hx, he, Deferred.ofValue]
  refine hC.mono ?_
  rintro e w' h
  obtain ⟨u, rfl, k⟩ := hK e w' h
  exact k

theorem step_call2f {P : Program} {ops : Array Oper} {o : Oper} {a : Act} (w : World) {K : Act → World → Prop} {Q : Exit → Act → World → Prop} {E : Prop}
    (hw : Region.wanted o (yielded ops a.tmps) = true) (f : Nat) (x y : Operand) (t t2 : TypeId) (hop : o.op = Op.call { callee := .value (.func f), args := #[x, y], argTypes := #[t, t2] })
    (he : ∀ args w, (callFunc f args).run P w = .ok (.enter f args) w) (v v2 : Value) (hx : a.eval x = v) (hy : a.eval y = v2) {R : Ending → World → Prop} (hC : Calls P f #[v, v2] w R)
    (hK : ∀ e w', R e w' → ∃ u, e = .returned u ∧ K (a.put o.dst u) w') :
    if Region.wanted o (yielded ops a.tmps) = true then Oper.wp P o a w K Q else E := by
  rw [if_pos hw]
  unfold Oper.wp
  have hf : a.eval (.func f) = .func (.func f) #[] #[] := rfl
  simp [execOp, hop, resolve, invoke, hf, hx, hy, he, Deferred.ofValue]
  refine hC.mono ?_
  rintro e w' h
  obtain ⟨u, rfl, k⟩ := hK e w' h
  exact k

theorem mkB_cat (a b : List UInt8) : mkB a ++ mkB b = mkB (a ++ b) := by
  apply ByteArray.ext
  rw [ByteArray.data_append]
  show a.toArray ++ b.toArray = (a ++ b).toArray
  simp

theorem run_cat (a b : List UInt8) (h : a.length + b.length ≤ 1000000000000000) : ∃ c, Hid (c = a ++ b) ∧ ∀ W, (Op.stringOp .add (mkB a) (mkB b)).run Tryz.prog W = .ok (.string (mkB c)) W := by
  refine ⟨a ++ b, hid rfl, fun W => ?_⟩
  unfold Op.stringOp
  dsimp only
  rw [if_neg (by rw [mkB_size, mkB_size]; simp [IntKind.max, IntKind.signed, IntKind.bits]; omega), mkB_cat]
  rfl

/-- A status in words. -/
def wordsL (n : Int) : List UInt8 := if n = 1 then [114, 117, 110, 110, 105, 110, 103] else if n = 2 then [100, 111, 110, 101] else if n = 3 then [98, 114, 111, 107, 101, 110] else if n = 4 then [99, 97, 110, 99, 101, 108, 101, 100] else [110, 111, 110, 101]

/-- How a node stands, in words. -/
def standL (n : Int) : List UInt8 := if n = 0 then [105, 100, 108, 101] else if n = 1 then [114, 101, 97, 100, 121] else if n = 2 then [98, 117, 115, 121] else if n = 3 then [111, 118, 101, 114] else if n = 4 then [98, 97, 100] else []

theorem wordsL_len (n : Int) : (wordsL n).length ≤ 10 := by unfold wordsL; (repeat' split) <;> simp
theorem standL_len (n : Int) : (standL n).length ≤ 10 := by unfold standL; (repeat' split) <;> simp

set_option maxRecDepth 100000 in
set_option maxHeartbeats 2000000 in
theorem words_any (w : World) (n : Int) : Calls Tryz.prog 28 #[.int .i64 n] w fun e w' => e = .returned (.string (mkB (wordsL n))) ∧ Kept (fun _ => False) w w' := by
  by_cases h1 : n = 1
  · subst h1
    go_enter Tryz.func28, Tryz.ntmps28
    go_wp2
    go_ret
    exact ⟨rfl, Kept.refl _ _⟩
  by_cases h2 : n = 2
  · subst h2
    go_enter Tryz.func28, Tryz.ntmps28
    go_wp2
    go_ret
    exact ⟨rfl, Kept.refl _ _⟩
  by_cases h3 : n = 3
  · subst h3
    go_enter Tryz.func28, Tryz.ntmps28
    go_wp2
    go_ret
    exact ⟨rfl, Kept.refl _ _⟩
  by_cases h4 : n = 4
  · subst h4
    go_enter Tryz.func28, Tryz.ntmps28
    go_wp2
    go_ret
    exact ⟨rfl, Kept.refl _ _⟩
  have e : wordsL n = [110, 111, 110, 101] := by unfold wordsL; rw [if_neg h1, if_neg h2, if_neg h3, if_neg h4]
  have f1 : (n == 1) = false := by rw [beq_eq_false_iff_ne]; exact h1
  have f2 : (n == 2) = false := by rw [beq_eq_false_iff_ne]; exact h2
  have f3 : (n == 3) = false := by rw [beq_eq_false_iff_ne]; exact h3
  have f4 : (n == 4) = false := by rw [beq_eq_false_iff_ne]; exact h4
  rw [e]
  clear h1 h2 h3 h4 e
  go_enter Tryz.func28, Tryz.ntmps28
  go_wp2
  go_ret
  exact ⟨rfl, Kept.refl _ _⟩

set_option maxRecDepth 100000 in
set_option maxHeartbeats 2000000 in
theorem refWords_any (w : World) (n : Int) : Calls Tryz.prog 33 #[.int .i64 n] w fun e w' => e = .returned (.string (mkB (wordsL n))) ∧ Kept (fun _ => False) w w' := by
  by_cases h1 : n = 1
  · subst h1
    go_enter Tryz.func33, Tryz.ntmps33
    go_wp2
    go_ret
    exact ⟨rfl, Kept.refl _ _⟩
  by_cases h2 : n = 2
  · subst h2
    go_enter Tryz.func33, Tryz.ntmps33
    go_wp2
    go_ret
    exact ⟨rfl, Kept.refl _ _⟩
  by_cases h3 : n = 3
  · subst h3
    go_enter Tryz.func33, Tryz.ntmps33
    go_wp2
    go_ret
    exact ⟨rfl, Kept.refl _ _⟩
  by_cases h4 : n = 4
  · subst h4
    go_enter Tryz.func33, Tryz.ntmps33
    go_wp2
    go_ret
    exact ⟨rfl, Kept.refl _ _⟩
  have e : wordsL n = [110, 111, 110, 101] := by unfold wordsL; rw [if_neg h1, if_neg h2, if_neg h3, if_neg h4]
  have f1 : (n == 1) = false := by rw [beq_eq_false_iff_ne]; exact h1
  have f2 : (n == 2) = false := by rw [beq_eq_false_iff_ne]; exact h2
  have f3 : (n == 3) = false := by rw [beq_eq_false_iff_ne]; exact h3
  have f4 : (n == 4) = false := by rw [beq_eq_false_iff_ne]; exact h4
  rw [e]
  clear h1 h2 h3 h4 e
  go_enter Tryz.func33, Tryz.ntmps33
  go_wp2
  go_ret
  exact ⟨rfl, Kept.refl _ _⟩

set_option maxRecDepth 100000 in
set_option maxHeartbeats 2000000 in
theorem standing_any (w : World) (n : Int) : Calls Tryz.prog 46 #[.int .i64 n] w fun e w' => e = .returned (.string (mkB (standL n))) ∧ Kept (fun _ => False) w w' := by
  by_cases h0 : n = 0
  · subst h0
    go_enter Tryz.func46, Tryz.ntmps46
    go_wp2
    go_ret
    exact ⟨rfl, Kept.refl _ _⟩
  by_cases h1 : n = 1
  · subst h1
    go_enter Tryz.func46, Tryz.ntmps46
    go_wp2
    go_ret
    exact ⟨rfl, Kept.refl _ _⟩
  by_cases h2 : n = 2
  · subst h2
    go_enter Tryz.func46, Tryz.ntmps46
    go_wp2
    go_ret
    exact ⟨rfl, Kept.refl _ _⟩
  by_cases h3 : n = 3
  · subst h3
    go_enter Tryz.func46, Tryz.ntmps46
    go_wp2
    go_ret
    exact ⟨rfl, Kept.refl _ _⟩
  by_cases h4 : n = 4
  · subst h4
    go_enter Tryz.func46, Tryz.ntmps46
    go_wp2
    go_ret
    exact ⟨rfl, Kept.refl _ _⟩
  have e : standL n = [] := by unfold standL; rw [if_neg h0, if_neg h1, if_neg h2, if_neg h3, if_neg h4]
  have f0 : (n == 0) = false := by rw [beq_eq_false_iff_ne]; exact h0
  have f1 : (n == 1) = false := by rw [beq_eq_false_iff_ne]; exact h1
  have f2 : (n == 2) = false := by rw [beq_eq_false_iff_ne]; exact h2
  have f3 : (n == 3) = false := by rw [beq_eq_false_iff_ne]; exact h3
  have f4 : (n == 4) = false := by rw [beq_eq_false_iff_ne]; exact h4
  rw [e]
  clear h0 h1 h2 h3 h4 e
  go_enter Tryz.func46, Tryz.ntmps46
  go_wp2
  go_ret
  exact ⟨rfl, Kept.refl _ _⟩

set_option maxRecDepth 100000 in
set_option maxHeartbeats 2000000 in
theorem refStanding_any (w : World) (n : Int) : Calls Tryz.prog 34 #[.int .i64 n] w fun e w' => e = .returned (.string (mkB (standL n))) ∧ Kept (fun _ => False) w w' := by
  by_cases h0 : n = 0
  · subst h0
    go_enter Tryz.func34, Tryz.ntmps34
    go_wp2
    go_ret
    exact ⟨rfl, Kept.alloc _ _ _⟩
  by_cases h1 : n = 1
  · subst h1
    go_enter Tryz.func34, Tryz.ntmps34
    go_wp2
    go_ret
    exact ⟨rfl, Kept.alloc _ _ _⟩
  by_cases h2 : n = 2
  · subst h2
    go_enter Tryz.func34, Tryz.ntmps34
    go_wp2
    go_ret
    exact ⟨rfl, Kept.alloc _ _ _⟩
  by_cases h3 : n = 3
  · subst h3
    go_enter Tryz.func34, Tryz.ntmps34
    go_wp2
    go_ret
    exact ⟨rfl, Kept.alloc _ _ _⟩
  by_cases h4 : n = 4
  · subst h4
    go_enter Tryz.func34, Tryz.ntmps34
    go_wp2
    go_ret
    exact ⟨rfl, Kept.alloc _ _ _⟩
  have e : standL n = [] := by unfold standL; rw [if_neg h0, if_neg h1, if_neg h2, if_neg h3, if_neg h4]
  rw [e]
  rcases (show n < 0 ∨ ¬ n < 0 ∧ n > 4 by omega) with h5 | ⟨h5, h6⟩
  · clear h0 h1 h2 h3 h4 e
    go_enter Tryz.func34, Tryz.ntmps34
    go_wp2
    go_ret
    exact ⟨rfl, Kept.alloc _ _ _⟩
  · clear h0 h1 h2 h3 h4 e
    go_enter Tryz.func34, Tryz.ntmps34
    go_wp2
    go_ret
    exact ⟨rfl, Kept.alloc _ _ _⟩

theorem kept_grow (w : World) (q : Nat) (os : Array Obj) : Kept (fun _ => False) w (grow (w.drewN q) os) :=
  ⟨rfl, rfl, rfl, by simp [grow], fun i hi _ => by
    show (w.heap ++ os)[i]? = w.heap[i]?
    rw [Array.getElem?_append_left hi]⟩

theorem itoa_any (w : World) (T : Pow10 w) (n : Int) (hlo : -9223372036854775808 ≤ n) (hhi : n ≤ 9223372036854775807) :
    Calls Tryz.prog 29 #[.int .i64 n] w fun e w' => e = .returned (.string (mkB (Lib.itoa n))) ∧ Kept (fun _ => False) w w' :=
  (Any.strconv_Itoa Tryz.itoaM n hlo hhi w T).mono fun e w' ⟨he, k, os, hw⟩ => ⟨he, by rw [hw]; exact kept_grow w k os⟩

theorem itoa_le (n : Int) (hlo : -9223372036854775808 ≤ n) (hhi : n ≤ 9223372036854775807) : (Lib.itoa n).length ≤ 20 := by
  unfold Lib.itoa
  split
  · have := digs_le 18 n.natAbs (by omega)
    simp only [List.length_cons]
    omega
  · have := digs_le 18 n.toNat (by omega)
    omega

end Go.Proofs.YtdbplemcjnlfiaaGreatDoor
