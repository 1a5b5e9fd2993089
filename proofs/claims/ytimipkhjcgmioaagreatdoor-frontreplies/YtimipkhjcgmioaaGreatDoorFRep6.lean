/-
  Quote and Reply against the document's, as a region that draws its order.
-/
import Derived.Test.YtimipkhjcgmioaaGreatDoorFSpo
import Derived.Deep.RegionHeld3
import Derived.Deep.RegionLaw
namespace Go.Proofs.YtimipkhjcgmioaaGreatDoor
open Go.RowKit

def onlyN (K : Act → World → Prop) : Exit → Act → World → Prop
  | .normal, a, w => K a w
  | _, _, _ => False

theorem wp_onlyN {P : Program} {c : Code} {Q : Exit → Act → World → Prop} {a : Act} {w : World} (h : c.wp P (onlyN (fun a w => Q .normal a w)) a w) : c.wp P Q a w :=
  Code.wp_mono (fun e a w h => by cases e <;> first | exact h | exact h.elim) h

theorem step_call1f {P : Program} {ops : Array Oper} {o : Oper} {a : Act} (w : World) {K : Act → World → Prop} {Q : Exit → Act → World → Prop} {E : Prop}
    (hw : Region.wanted o (yielded ops a.tmps) = true) (f : Nat) (x : Operand) (t : TypeId) (hop : o.op = Op.call { callee := .value (.func f), args := #[x], argTypes := #[t] })
    (he : ∀ args w, (callFunc f args).run P w = .ok (.enter f args) w) (v : Value) (hx : a.eval x = v) {R : Ending → World → Prop} (hC : Calls P f #[v] w R)
    (hK : ∀ e w', R e w' → ∃ u, e = .returned u ∧ K (a.put o.dst u) w') :
    if Region.wanted o (yielded ops a.tmps) = true then Oper.wp P o a w K Q else E := by
  rw [if_pos hw]
  unfold Oper.wp
  have hf : a.eval (.func f) = .func (.func f) #[] #[] := rfl
  simp [execOp, hop, resolve, invoke, hf, hx, he, Deferred.ofValue]
  refine hC.mono ?_
  rintro e w' h
  obtain ⟨u, rfl, k⟩ := hK e w' h
  exact k

theorem step_call2f {P : Program} {ops : Array Oper} {o : Oper} {a : Act} (w : World) {K : Act → World → Prop} {Q : Exit → Act → World → Prop} {E : Prop}
    (hw : Region.wanted o (yielded ops a.tmps) = true) (f : Nat) (x y : Operand) (t t2 : TypeId) (hop : o.op = Op.call { callee := .value (.func f), args := #[x, y], argTypes := #[t, t2] })
    (he : ∀ args w, (callFunc f args).run P w = .ok (.enter f args) w) (v v2 : Value) (hx : a.eval x = v) (hy : a.eval y = v2) {R : Ending → World → Prop} (hC : Calls P f #[v, v2] w R)
    (hK : ∀ e w', R e w' → ∃ u, e = .returned u ∧ K (a.put o.dst u) w') :
    if Region.wanted o (yielded ops a.tmps) = true then Oper.wp P o a w K Q else E := by
  rw [if_pos hw]
  unfold Oper.wp
  have hf : a.eval (.func f) = .func (.func f) #[] #[] := rfl
  simp [execOp, hop, resolve, invoke, hf, hx, hy, he, Deferred.ofValue]
  refine hC.mono ?_
  rintro e w' h
  obtain ⟨u, rfl, k⟩ := hK e w' h
  exact k

theorem step_conv {P : Program} {ops : Array Oper} {o : Oper} {a : Act} (w : World) {K : Act → World → Prop} {Q : Exit → Act → World → Prop} {E : Prop}
    (hw : Region.wanted o (yielded ops a.tmps) = true) (x : Operand) (t t2 : TypeId) (hop : o.op = Op.convert t t2 x) (v : Value) (hx : a.eval x = v) {u : Value} {w' : World} (hC : (convert t t2 v).run P w = .ok u w')
    (hK : K (a.put o.dst u) w') :
    if Region.wanted o (yielded ops a.tmps) = true then Oper.wp P o a w K Q else E := by
  rw [if_pos hw]
  unfold Oper.wp
  simp [execOp, hop, hx, hC, Result.andThen]
  exact hK

set_option maxRecDepth 100000 in
set_option maxHeartbeats 8000000 in
theorem replies6 {W : World} {st : Int} {g ln cp : Nat} {s qs rp : ByteArray} {ds : List Deferred} {u0 u2 u3 u4 u5 u6 u7 u10 u11 u12 u13 u14 u15 u16 u17 u18 u19 u20 u21 u22 u23 u24 u25 u26 u27 u28 u29 u30 u31 u32 u33 u34 u35 u36 u37 u38 u39 u40 u41 u42 u43 u44 u45 u46 u47 u48 u49 u50 u51 u52 u53 u54 u55 u56 u57 u58 u59 u60 u61 u62 u63 u64 u65 u66 u67 u68 u69 u70 u71 u72 u73 u74 u75 u76 u77 u78 u79 u80 u81 u82 u83 u84 u85 u86 u87 u88 u89 u90 u91 u92 u93 u94 u95 u96 u97 u98 u99 u100 u101 u102 u103 u104 u105 : Value} (K : Act → World → Prop)
    (x0 : ∀ V, Kept (fun _ => False) W V → (convert 23 9 (.slice (some ⟨g, 0, none⟩) ln cp)).run Tryz.prog V = .ok (.string rp) V)
    (hQ : Calls Tryz.prog 29 #[.string s] W.drew fun e w' => e = .returned (.string qs) ∧ Kept (fun _ => False) W.drew w')
    (hR : ∀ V, Calls Tryz.prog 32 #[.string s] V fun e w' => e = .returned (.string qs) ∧ Kept (fun _ => False) V w')
    (hA : ∀ V, Calls Tryz.prog 33 #[.int .i64 st, .string s] V fun e w' => ∃ a n c, e = .returned (.slice a n c) ∧ Kept (fun _ => False) V w' ∧ (convert 23 9 (.slice a n c)).run Tryz.prog w' = .ok (.string rp) w')
    (h : ∀ (v37 v38 v39 v40 v41 v42 v43 v44 v45 v46 v47 v48 v49 : Value) (w7 : World), Kept (fun _ => False) W w7 → K { tmps := #[u0, .int .i64 st, u2, u3, u4, u5, u6, u7, .string s, .slice (some ⟨g, 0, none⟩) ln cp, u10, u11, u12, u13, u14, u15, u16, u17, u18, u19, u20, u21, u22, u23, u24, u25, u26, u27, u28, u29, u30, u31, u32, u33, u34, u35, u36, v37, v38, v39, v40, v41, v42, v43, v44, v45, v46, v47, v48, v49, .bool false, u51, u52, u53, u54, u55, u56, u57, u58, u59, u60, u61, u62, u63, u64, u65, u66, u67, u68, u69, u70, u71, u72, u73, u74, u75, u76, u77, u78, u79, u80, u81, u82, u83, u84, u85, u86, u87, u88, u89, u90, u91, u92, u93, u94, u95, u96, u97, u98, u99, u100, u101, u102, u103, u104, u105], defers := ds } w7) :
    (Code.region 6 #[{ dst := some 37, op := Op.move (Operand.tmp 8), type := 9, pos := "law.go:135", after := #[], guard := none }, { dst := some 38, op := Op.call { callee := Callee.value (Operand.func 29), args := #[Operand.tmp 37], argTypes := #[9] }, type := 9, pos := "law.go:135", after := #[{ on := 0, ground := Ground.data }], guard := none }, { dst := some 39, op := Op.move (Operand.tmp 8), type := 9, pos := "law.go:135", after := #[], guard := none }, { dst := some 40, op := Op.call { callee := Callee.value (Operand.func 32), args := #[Operand.tmp 39], argTypes := #[9] }, type := 9, pos := "law.go:135", after := #[{ on := 2, ground := Ground.data }, { on := 1, ground := Ground.chain }], guard := none }, { dst := some 41, op := Op.binOp BinOp.neq 9 (Operand.tmp 38) (Operand.tmp 40) 9, type := 4, pos := "law.go:135", after := #[{ on := 1, ground := Ground.data }, { on := 3, ground := Ground.data }], guard := none }, { dst := some 42, op := Op.move (Operand.tmp 41), type := 4, pos := "law.go:135", after := #[{ on := 4, ground := Ground.data }, { on := 3, ground := Ground.chain }], guard := none }, { dst := some 43, op := Op.move (Operand.tmp 9), type := 23, pos := "law.go:135", after := #[{ on := 5, ground := Ground.guard }], guard := some (5, false) }, { dst := some 44, op := Op.convert 23 9 (Operand.tmp 43), type := 9, pos := "law.go:135", after := #[{ on := 6, ground := Ground.data }, { on := 5, ground := Ground.guard }], guard := some (5, false) }, { dst := some 45, op := Op.move (Operand.tmp 1), type := 3, pos := "law.go:135", after := #[{ on := 5, ground := Ground.guard }], guard := some (5, false) }, { dst := some 46, op := Op.move (Operand.tmp 8), type := 9, pos := "law.go:135", after := #[{ on := 5, ground := Ground.guard }], guard := some (5, false) }, { dst := some 47, op := Op.call { callee := Callee.value (Operand.func 33), args := #[Operand.tmp 45, Operand.tmp 46], argTypes := #[3, 9] }, type := 23, pos := "law.go:135", after := #[{ on := 8, ground := Ground.data }, { on := 9, ground := Ground.data }, { on := 5, ground := Ground.chain }, { on := 5, ground := Ground.guard }], guard := some (5, false) }, { dst := some 48, op := Op.convert 23 9 (Operand.tmp 47), type := 9, pos := "law.go:135", after := #[{ on := 10, ground := Ground.data }, { on := 5, ground := Ground.guard }], guard := some (5, false) }, { dst := some 49, op := Op.binOp BinOp.neq 9 (Operand.tmp 44) (Operand.tmp 48) 9, type := 4, pos := "law.go:135", after := #[{ on := 7, ground := Ground.data }, { on := 11, ground := Ground.data }, { on := 5, ground := Ground.guard }], guard := some (5, false) }, { dst := some 50, op := Op.pick (Operand.tmp 42) (Operand.const (Value.bool true)) (Operand.tmp 49), type := 4, pos := "law.go:135", after := #[{ on := 5, ground := Ground.data }, { on := 12, ground := Ground.data }], guard := none }] true).wp Tryz.prog (onlyN K) { tmps := #[u0, .int .i64 st, u2, u3, u4, u5, u6, u7, .string s, .slice (some ⟨g, 0, none⟩) ln cp, u10, u11, u12, u13, u14, u15, u16, u17, u18, u19, u20, u21, u22, u23, u24, u25, u26, u27, u28, u29, u30, u31, u32, u33, u34, u35, u36, u37, u38, u39, u40, u41, u42, u43, u44, u45, u46, u47, u48, u49, u50, u51, u52, u53, u54, u55, u56, u57, u58, u59, u60, u61, u62, u63, u64, u65, u66, u67, u68, u69, u70, u71, u72, u73, u74, u75, u76, u77, u78, u79, u80, u81, u82, u83, u84, u85, u86, u87, u88, u89, u90, u91, u92, u93, u94, u95, u96, u97, u98, u99, u100, u101, u102, u103, u104, u105], defers := ds } W := by
  have HH : Hid _ := h
  have KD := Kept.drew (fun _ => False) W
  have HS : Hid (∀ V, Kept (fun _ => False) W.drew V → (convert 23 9 (.slice (some ⟨g, 0, none⟩) ln cp)).run Tryz.prog V = .ok (.string rp) V) := fun V KV => x0 V (KD.and KV)
  have HKD : Hid (Kept (fun _ => False) W W.drew) := KD
  have hS0 := HS.out W.drew (Kept.refl _ _)
  have HR : Hid _ := hR
  have HA : Hid _ := hA
  have q1 : (qs.toList == qs.toList) = true := by simp
  have q2 : (rp.toList == rp.toList) = true := by simp
  clear h KD x0 hR hA
  refine wp_region_held_drew (S := fun V => (convert 23 9 (.slice (some ⟨g, 0, none⟩) ln cp)).run Tryz.prog V = .ok (.string rp) V) (by kernel_rfl) hS0 (fun _ => ?_)
  refine wpAnyH_take (i := 0) (oi := { dst := some 37, op := Op.move (Operand.tmp 8), type := 9, pos := "law.go:135", after := #[], guard := none }) (v := ?vv1) rfl (by kernel_rfl) (by kernel_rfl) (by kernel_rfl) (fun _ _ _ h => h) (Or.inl ⟨by rfl, ?hy1⟩) hS0 ?rest1
  case hy1 =>
    intro V hV
    obtain y0 := hV
    go_simp
    all_goals rfl
  simp only [Act.put, List.setIfInBounds_toArray, List.set_cons_zero, List.set_cons_succ]
  refine wpAnyH_take (i := 2) (oi := { dst := some 39, op := Op.move (Operand.tmp 8), type := 9, pos := "law.go:135", after := #[], guard := none }) (v := ?vv2) rfl (by kernel_rfl) (by kernel_rfl) (by kernel_rfl) (fun _ _ _ h => h) (Or.inl ⟨by rfl, ?hy2⟩) hS0 ?rest2
  case hy2 =>
    intro V hV
    obtain y0 := hV
    go_simp
    all_goals rfl
  simp only [Act.put, List.setIfInBounds_toArray, List.set_cons_zero, List.set_cons_succ]
  refine wpAnyH_ready (rs := [1]) (by kernel_rfl) (by simp) (AllReadyH.cons (o := { dst := some 38, op := Op.call { callee := Callee.value (Operand.func 29), args := #[Operand.tmp 37], argTypes := #[9] }, type := 9, pos := "law.go:135", after := #[{ on := 0, ground := Ground.data }], guard := none }) rfl (fun K' hK => ?_) AllReadyH.nil)
  refine step_call1f _ (by rfl) 29 _ _ (by rfl) (enters_of Tryz.func29 (by kernel_rfl) rfl) _ (by rfl) hQ ?_
  rintro e w5 ⟨rfl, K5⟩
  refine ⟨_, rfl, ?_⟩
  refine hK.out _ _ (HS.out _ K5) (fun _ => ?_)
  clear hK K'
  try (simp only [Act.put, List.setIfInBounds_toArray, List.set_cons_zero, List.set_cons_succ])
  refine wpAnyH_ready (rs := [3]) (by kernel_rfl) (by simp) (AllReadyH.cons (o := { dst := some 40, op := Op.call { callee := Callee.value (Operand.func 32), args := #[Operand.tmp 39], argTypes := #[9] }, type := 9, pos := "law.go:135", after := #[{ on := 2, ground := Ground.data }, { on := 1, ground := Ground.chain }], guard := none }) rfl (fun K' hK => ?_) AllReadyH.nil)
  refine step_call1f _ (by rfl) 32 _ _ (by rfl) (enters_of Tryz.func32 (by kernel_rfl) rfl) _ (by rfl) (HR.out _) ?_
  rintro e w6 ⟨rfl, K6'⟩
  have K6 := K5.and K6'
  clear K6'
  refine ⟨_, rfl, ?_⟩
  refine hK.out _ _ (HS.out _ K6) (fun _ => ?_)
  clear hK K'
  try (simp only [Act.put, List.setIfInBounds_toArray, List.set_cons_zero, List.set_cons_succ])
  refine wpAnyH_take (i := 4) (oi := { dst := some 41, op := Op.binOp BinOp.neq 9 (Operand.tmp 38) (Operand.tmp 40) 9, type := 4, pos := "law.go:135", after := #[{ on := 1, ground := Ground.data }, { on := 3, ground := Ground.data }], guard := none }) (v := ?vv3) rfl (by kernel_rfl) (by kernel_rfl) (by kernel_rfl) (fun _ _ _ h => h) (Or.inl ⟨by rfl, ?hy3⟩) (HS.out _ K6) ?rest3
  case hy3 =>
    intro V hV
    obtain y0 := hV
    go_simp
    all_goals rfl
  simp only [Act.put, List.setIfInBounds_toArray, List.set_cons_zero, List.set_cons_succ]
  refine wpAnyH_take (i := 5) (oi := { dst := some 42, op := Op.move (Operand.tmp 41), type := 4, pos := "law.go:135", after := #[{ on := 4, ground := Ground.data }, { on := 3, ground := Ground.chain }], guard := none }) (v := ?vv4) rfl (by kernel_rfl) (by kernel_rfl) (by kernel_rfl) (fun _ _ _ h => h) (Or.inl ⟨by rfl, ?hy4⟩) (HS.out _ K6) ?rest4
  case hy4 =>
    intro V hV
    obtain y0 := hV
    go_simp
    all_goals rfl
  simp only [Act.put, List.setIfInBounds_toArray, List.set_cons_zero, List.set_cons_succ]
  refine wpAnyH_take (i := 6) (oi := { dst := some 43, op := Op.move (Operand.tmp 9), type := 23, pos := "law.go:135", after := #[{ on := 5, ground := Ground.guard }], guard := some (5, false) }) (v := ?vv5) rfl (by kernel_rfl) (by kernel_rfl) (by kernel_rfl) (fun _ _ _ h => h) (Or.inl ⟨by rfl, ?hy5⟩) (HS.out _ K6) ?rest5
  case hy5 =>
    intro V hV
    obtain y0 := hV
    go_simp
    all_goals rfl
  simp only [Act.put, List.setIfInBounds_toArray, List.set_cons_zero, List.set_cons_succ]
  refine wpAnyH_take (i := 7) (oi := { dst := some 44, op := Op.convert 23 9 (Operand.tmp 43), type := 9, pos := "law.go:135", after := #[{ on := 6, ground := Ground.data }, { on := 5, ground := Ground.guard }], guard := some (5, false) }) (v := ?vv6) rfl (by kernel_rfl) (by kernel_rfl) (by kernel_rfl) (fun _ _ _ h => h) (Or.inl ⟨by rfl, ?hy6⟩) (HS.out _ K6) ?rest6
  case hy6 =>
    intro V hV
    obtain y0 := hV
    go_simp
    all_goals rfl
  simp only [Act.put, List.setIfInBounds_toArray, List.set_cons_zero, List.set_cons_succ]
  refine wpAnyH_take (i := 8) (oi := { dst := some 45, op := Op.move (Operand.tmp 1), type := 3, pos := "law.go:135", after := #[{ on := 5, ground := Ground.guard }], guard := some (5, false) }) (v := ?vv7) rfl (by kernel_rfl) (by kernel_rfl) (by kernel_rfl) (fun _ _ _ h => h) (Or.inl ⟨by rfl, ?hy7⟩) (HS.out _ K6) ?rest7
  case hy7 =>
    intro V hV
    obtain y0 := hV
    go_simp
    all_goals rfl
  simp only [Act.put, List.setIfInBounds_toArray, List.set_cons_zero, List.set_cons_succ]
  refine wpAnyH_take (i := 9) (oi := { dst := some 46, op := Op.move (Operand.tmp 8), type := 9, pos := "law.go:135", after := #[{ on := 5, ground := Ground.guard }], guard := some (5, false) }) (v := ?vv8) rfl (by kernel_rfl) (by kernel_rfl) (by kernel_rfl) (fun _ _ _ h => h) (Or.inl ⟨by rfl, ?hy8⟩) (HS.out _ K6) ?rest8
  case hy8 =>
    intro V hV
    obtain y0 := hV
    go_simp
    all_goals rfl
  simp only [Act.put, List.setIfInBounds_toArray, List.set_cons_zero, List.set_cons_succ]
  refine wpAnyH_ready (rs := [10]) (by kernel_rfl) (by simp) (AllReadyH.cons (o := { dst := some 47, op := Op.call { callee := Callee.value (Operand.func 33), args := #[Operand.tmp 45, Operand.tmp 46], argTypes := #[3, 9] }, type := 23, pos := "law.go:135", after := #[{ on := 8, ground := Ground.data }, { on := 9, ground := Ground.data }, { on := 5, ground := Ground.chain }, { on := 5, ground := Ground.guard }], guard := some (5, false) }) rfl (fun K' hK => ?_) AllReadyH.nil)
  refine step_call2f _ (by rfl) 33 _ _ _ _ (by rfl) (enters_of Tryz.func33 (by kernel_rfl) rfl) _ _ (by rfl) (by rfl) (HA.out _) ?_
  rintro e w7 ⟨a7, n7, c7, rfl, K7', x7⟩
  have K7 := K6.and K7'
  clear K7'
  refine ⟨_, rfl, ?_⟩
  refine hK.out _ _ (HS.out _ K7) (fun _ => ?_)
  clear hK K'
  try (simp only [Act.put, List.setIfInBounds_toArray, List.set_cons_zero, List.set_cons_succ])
  refine wpAnyH_ready (rs := [11]) (by kernel_rfl) (by simp) (AllReadyH.cons (o := { dst := some 48, op := Op.convert 23 9 (Operand.tmp 47), type := 9, pos := "law.go:135", after := #[{ on := 10, ground := Ground.data }, { on := 5, ground := Ground.guard }], guard := some (5, false) }) rfl (fun K' hK => ?_) AllReadyH.nil)
  refine step_conv _ (by rfl) _ _ _ (by rfl) _ (by rfl) x7 ?_
  refine hK.out _ _ (HS.out _ K7) (fun _ => ?_)
  clear hK K'
  try (simp only [Act.put, List.setIfInBounds_toArray, List.set_cons_zero, List.set_cons_succ])
  refine wpAnyH_take (i := 12) (oi := { dst := some 49, op := Op.binOp BinOp.neq 9 (Operand.tmp 44) (Operand.tmp 48) 9, type := 4, pos := "law.go:135", after := #[{ on := 7, ground := Ground.data }, { on := 11, ground := Ground.data }, { on := 5, ground := Ground.guard }], guard := some (5, false) }) (v := ?vv9) rfl (by kernel_rfl) (by kernel_rfl) (by kernel_rfl) (fun _ _ _ h => h) (Or.inl ⟨by rfl, ?hy9⟩) (HS.out _ K7) ?rest9
  case hy9 =>
    intro V hV
    obtain y0 := hV
    go_simp
    all_goals rfl
  simp only [Act.put, List.setIfInBounds_toArray, List.set_cons_zero, List.set_cons_succ]
  refine wpAnyH_take (i := 13) (oi := { dst := some 50, op := Op.pick (Operand.tmp 42) (Operand.const (Value.bool true)) (Operand.tmp 49), type := 4, pos := "law.go:135", after := #[{ on := 5, ground := Ground.data }, { on := 12, ground := Ground.data }], guard := none }) (v := ?vv10) rfl (by kernel_rfl) (by kernel_rfl) (by kernel_rfl) (fun _ _ _ h => h) (Or.inl ⟨by rfl, ?hy10⟩) (HS.out _ K7) ?rest10
  case hy10 =>
    intro V hV
    obtain y0 := hV
    go_simp
    all_goals rfl
  simp only [Act.put, List.setIfInBounds_toArray, List.set_cons_zero, List.set_cons_succ]
  refine wpAnyH_done (by kernel_rfl) ?_ _
  exact HH.out _ _ _ _ _ _ _ _ _ _ _ _ _ w7 (HKD.out.and K7)

end Go.Proofs.YtimipkhjcgmioaaGreatDoor
