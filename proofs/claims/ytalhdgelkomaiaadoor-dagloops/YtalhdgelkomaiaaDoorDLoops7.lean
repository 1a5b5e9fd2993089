/-
  Does a node lead to another one that it has not yet in its After: as a region that draws its order.
-/
import Derived.Test.YtalhdgelkomaiaaDoorDLeads
import Derived.Test.YtalhdgelkomaiaaDoorDLoops10
namespace Go.Proofs.YtalhdgelkomaiaaDoor
open Go.RowKit

/-- Calls of Go functions with two and three arguments as steps of a region that draws. -/
theorem step_call2 {P : Program} {ops : Array Oper} {o : Oper} {a : Act} (w : World) {K : Act → World → Prop} {Q : Exit → Act → World → Prop} {E : Prop}
    (hw : Region.wanted o (yielded ops a.tmps) = true) (f : Nat) (x y : Operand) (t t2 : TypeId) (hop : o.op = Op.call { callee := .value (.func f), args := #[x, y], argTypes := #[t, t2] })
    (he : ∀ args w, (callFunc f args).run P w = .ok (.enter f args) w) (v v2 : Value) (hx : a.eval x = v) (hy : a.eval y = v2) {R : Ending → World → Prop} (hC : Calls P f #[v, v2] w R)
    (hK : ∀ e w', R e w' → ∃ u, e = .returned u ∧ K (a.put o.dst u) w') :
    if Region.wanted o (yielded ops a.tmps) = true then Oper.wp P o a w K Q else E := by
  rw [if_pos hw]
  unfold Oper.wp
  have hf : a.eval (.func f) = .func (.func f) #[] #[] := rfl
  simp [execOp, hop, resolve, invoke, hf, hx, hy, he, Deferred.ofValue]
  refine hC.mono ?_
  rintro e w' h
  obtain ⟨u, rfl, k⟩ := hK e w' h
  exact k

theorem step_call3 {P : Program} {ops : Array Oper} {o : Oper} {a : Act} (w : World) {K : Act → World → Prop} {Q : Exit → Act → World → Prop} {E : Prop}
    (hw : Region.wanted o (yielded ops a.tmps) = true) (f : Nat) (x y z : Operand) (t t2 t3 : TypeId) (hop : o.op = Op.call { callee := .value (.func f), args := #[x, y, z], argTypes := #[t, t2, t3] })
    (he : ∀ args w, (callFunc f args).run P w = .ok (.enter f args) w) (v v2 v3 : Value) (hx : a.eval x = v) (hy : a.eval y = v2) (hz : a.eval z = v3) {R : Ending → World → Prop} (hC : Calls P f #[v, v2, v3] w R)
    (hK : ∀ e w', R e w' → ∃ u, e = .returned u ∧ K (a.put o.dst u) w') :
    if Region.wanted o (yielded ops a.tmps) = true then Oper.wp P o a w K Q else E := by
  rw [if_pos hw]
  unfold Oper.wp
  have hf : a.eval (.func f) = .func (.func f) #[] #[] := rfl
  simp [execOp, hop, resolve, invoke, hf, hx, hy, hz, he, Deferred.ofValue]
  refine hC.mono ?_
  rintro e w' h
  obtain ⟨u, rfl, k⟩ := hK e w' h
  exact k

set_option maxRecDepth 100000 in
set_option maxHeartbeats 8000000 in
theorem loops7F {W : World} {db b o n c p q cv : Nat} {av : Option Addr} {nm : ByteArray} {l : List ByteArray} {s : ByteArray} {ds : List Deferred} {u0 u1 u2 u4 u5 u6 u7 u8 u11 u12 u13 u14 u15 u16 u17 u18 u19 u20 u21 u22 u23 u24 u25 u26 u27 u28 u29 u30 u31 u32 u33 u34 u35 u36 u37 u38 u39 u40 u41 u42 u43 u44 u45 u46 u47 u48 u49 u50 u51 u52 u53 u54 u55 u56 u57 u58 u59 u60 u61 u62 u63 u64 u65 u66 u67 u68 u69 u70 u71 u72 u73 u74 u75 u76 u77 u78 u79 u80 u81 u82 u83 u84 u85 u86 u87 u88 u89 u90 u91 u92 u93 u94 u95 u96 u97 u98 u99 u100 u101 u102 u103 u104 u105 u106 u107 u108 u109 u110 u111 u112 u113 u114 : Value} (K : Act → World → Prop)
    (x0 : W.cell? ⟨db, 0, none⟩ = some (.string nm)) (x1 : W.cell? ⟨db, 1, none⟩ = some (.slice (some ⟨b, o, none⟩) n c)) (x2 : W.cell? ⟨b, o + p * 7 + 6, none⟩ = some (.slice av l.length cv)) (x3 : W.cell? ⟨b, o + q * 7, none⟩ = some (.string s)) (hp : p < n) (hq : q < n) (hn : n ≤ 1000)
    (hL : Calls Tryd.prog 19 #[.agg #[.string nm, .slice (some ⟨b, o, none⟩) n c], .int .i64 (p : Nat), .int .i64 (q : Nat)] W.drew fun e w' => e = .returned (.bool false) ∧ Kept (fun _ => False) W.drew w')
    (h : ∀ (v35 v36 v37 v38 v39 v40 v41 v42 v43 v44 v45 v46 v47 v48 v49 v50 v51 v52 v53 : Value) (w5 : World), Kept (fun _ => False) W w5 → K { tmps := #[u0, u1, u2, .pointer (some ⟨db, 0, none⟩), u4, u5, u6, u7, u8, .int .i64 (p : Nat), .int .i64 (q : Nat), u11, u12, u13, u14, u15, u16, u17, u18, u19, u20, u21, u22, u23, u24, u25, u26, u27, u28, u29, u30, u31, u32, u33, u34, v35, v36, v37, v38, v39, v40, v41, v42, v43, v44, v45, v46, v47, v48, v49, v50, v51, v52, v53, .bool true, u55, u56, u57, u58, u59, u60, u61, u62, u63, u64, u65, u66, u67, u68, u69, u70, u71, u72, u73, u74, u75, u76, u77, u78, u79, u80, u81, u82, u83, u84, u85, u86, u87, u88, u89, u90, u91, u92, u93, u94, u95, u96, u97, u98, u99, u100, u101, u102, u103, u104, u105, u106, u107, u108, u109, u110, u111, u112, u113, u114], defers := ds } w5) :
    (Code.region 7 #[{ dst := some 35, op := Op.load 26 (Operand.tmp 3), type := 26, pos := "more.go:19", after := #[], guard := none }, { dst := some 36, op := Op.move (Operand.tmp 9), type := 3, pos := "more.go:19", after := #[], guard := none }, { dst := some 37, op := Op.move (Operand.tmp 10), type := 3, pos := "more.go:19", after := #[], guard := none }, { dst := some 38, op := Op.call { callee := Callee.value (Operand.func 19), args := #[Operand.tmp 35, Operand.tmp 36, Operand.tmp 37], argTypes := #[26, 3, 3] }, type := 4, pos := "more.go:19", after := #[{ on := 0, ground := Ground.data }, { on := 1, ground := Ground.data }, { on := 2, ground := Ground.data }], guard := none }, { dst := some 39, op := Op.unOp UnOp.not 4 (Operand.tmp 38), type := 4, pos := "more.go:19", after := #[{ on := 3, ground := Ground.data }], guard := none }, { dst := some 40, op := Op.move (Operand.tmp 39), type := 4, pos := "more.go:19", after := #[{ on := 4, ground := Ground.data }, { on := 3, ground := Ground.chain }], guard := none }, { dst := some 41, op := Op.fieldAddr 26 (Operand.tmp 3) 1, type := 0, pos := "more.go:19", after := #[{ on := 5, ground := Ground.guard }], guard := some (5, false) }, { dst := some 42, op := Op.load 24 (Operand.tmp 41), type := 24, pos := "more.go:19", after := #[{ on := 6, ground := Ground.data }, { on := 5, ground := Ground.guard }], guard := some (5, false) }, { dst := some 43, op := Op.move (Operand.tmp 9), type := 3, pos := "more.go:19", after := #[{ on := 5, ground := Ground.guard }], guard := some (5, false) }, { dst := some 44, op := Op.indexAddr 24 (Operand.tmp 42) (Operand.tmp 43), type := 0, pos := "more.go:19", after := #[{ on := 7, ground := Ground.data }, { on := 8, ground := Ground.data }, { on := 5, ground := Ground.guard }], guard := some (5, false) }, { dst := some 45, op := Op.fieldAddr 47 (Operand.tmp 44) 6, type := 0, pos := "more.go:19", after := #[{ on := 9, ground := Ground.data }, { on := 5, ground := Ground.guard }], guard := some (5, false) }, { dst := some 46, op := Op.load 22 (Operand.tmp 45), type := 22, pos := "more.go:19", after := #[{ on := 10, ground := Ground.data }, { on := 5, ground := Ground.guard }], guard := some (5, false) }, { dst := some 47, op := Op.fieldAddr 26 (Operand.tmp 3) 1, type := 0, pos := "more.go:19", after := #[{ on := 5, ground := Ground.guard }], guard := some (5, false) }, { dst := some 48, op := Op.load 24 (Operand.tmp 47), type := 24, pos := "more.go:19", after := #[{ on := 12, ground := Ground.data }, { on := 5, ground := Ground.guard }], guard := some (5, false) }, { dst := some 49, op := Op.move (Operand.tmp 10), type := 3, pos := "more.go:19", after := #[{ on := 5, ground := Ground.guard }], guard := some (5, false) }, { dst := some 50, op := Op.indexAddr 24 (Operand.tmp 48) (Operand.tmp 49), type := 0, pos := "more.go:19", after := #[{ on := 13, ground := Ground.data }, { on := 14, ground := Ground.data }, { on := 5, ground := Ground.guard }], guard := some (5, false) }, { dst := some 51, op := Op.fieldAddr 47 (Operand.tmp 50) 0, type := 0, pos := "more.go:19", after := #[{ on := 15, ground := Ground.data }, { on := 5, ground := Ground.guard }], guard := some (5, false) }, { dst := some 52, op := Op.load 9 (Operand.tmp 51), type := 9, pos := "more.go:19", after := #[{ on := 16, ground := Ground.data }, { on := 5, ground := Ground.guard }], guard := some (5, false) }, { dst := some 53, op := Op.call { callee := Callee.value (Operand.func 20), args := #[Operand.tmp 46, Operand.tmp 52], argTypes := #[22, 9] }, type := 4, pos := "more.go:19", after := #[{ on := 11, ground := Ground.data }, { on := 17, ground := Ground.data }, { on := 5, ground := Ground.chain }, { on := 5, ground := Ground.guard }], guard := some (5, false) }, { dst := some 54, op := Op.pick (Operand.tmp 40) (Operand.const (Value.bool true)) (Operand.tmp 53), type := 4, pos := "more.go:19", after := #[{ on := 5, ground := Ground.data }, { on := 18, ground := Ground.data }], guard := none }] true).wp Tryd.prog (onlyN K) { tmps := #[u0, u1, u2, .pointer (some ⟨db, 0, none⟩), u4, u5, u6, u7, u8, .int .i64 (p : Nat), .int .i64 (q : Nat), u11, u12, u13, u14, u15, u16, u17, u18, u19, u20, u21, u22, u23, u24, u25, u26, u27, u28, u29, u30, u31, u32, u33, u34, u35, u36, u37, u38, u39, u40, u41, u42, u43, u44, u45, u46, u47, u48, u49, u50, u51, u52, u53, u54, u55, u56, u57, u58, u59, u60, u61, u62, u63, u64, u65, u66, u67, u68, u69, u70, u71, u72, u73, u74, u75, u76, u77, u78, u79, u80, u81, u82, u83, u84, u85, u86, u87, u88, u89, u90, u91, u92, u93, u94, u95, u96, u97, u98, u99, u100, u101, u102, u103, u104, u105, u106, u107, u108, u109, u110, u111, u112, u113, u114], defers := ds } W := by
  have HH : Hid _ := h
  have KD := Kept.drew (fun _ => False) W
  have HS : Hid (∀ V, Kept (fun _ => False) W.drew V → V.cell? ⟨db, 0, none⟩ = some (.string nm) ∧ V.cell? ⟨db, 1, none⟩ = some (.slice (some ⟨b, o, none⟩) n c) ∧ V.cell? ⟨b, o + p * 7 + 6, none⟩ = some (.slice av l.length cv) ∧ V.cell? ⟨b, o + q * 7, none⟩ = some (.string s)) := fun V KV => ⟨keepC (KD.and KV) x0 (fun _ _ h => h), keepC (KD.and KV) x1 (fun _ _ h => h), keepC (KD.and KV) x2 (fun _ _ h => h), keepC (KD.and KV) x3 (fun _ _ h => h)⟩
  have HKD : Hid (Kept (fun _ => False) W W.drew) := KD
  have hS0 := HS.out W.drew (Kept.refl _ _)
  have e1 : (p : Int) < (n : Int) := by omega
  have e2 : (q : Int) < (n : Int) := by omega
  have w1 : IntKind.i64.wrap (p : Int) = (p : Int) := by rw [IntKind.wrap_i64]; omega
  have w2 : IntKind.i64.wrap (q : Int) = (q : Int) := by rw [IntKind.wrap_i64]; omega
  clear h KD x0 x1 x2 x3
  refine wp_region_held_drew (S := fun V => V.cell? ⟨db, 0, none⟩ = some (.string nm) ∧ V.cell? ⟨db, 1, none⟩ = some (.slice (some ⟨b, o, none⟩) n c) ∧ V.cell? ⟨b, o + p * 7 + 6, none⟩ = some (.slice av l.length cv) ∧ V.cell? ⟨b, o + q * 7, none⟩ = some (.string s)) (by kernel_rfl) hS0 (fun _ => ?_)
  refine wpAnyH_take (i := 0) (oi := { dst := some 35, op := Op.load 26 (Operand.tmp 3), type := 26, pos := "more.go:19", after := #[], guard := none }) (v := ?vv1) rfl (by kernel_rfl) (by kernel_rfl) (by kernel_rfl) (fun _ _ _ h => h) (Or.inl ⟨by rfl, ?hy1⟩) hS0 ?rest1
  case hy1 =>
    intro V hV
    obtain ⟨y0, y1, y2, y3⟩ := hV
    go_simp
    all_goals rfl
  simp only [Act.put, List.setIfInBounds_toArray, List.set_cons_zero, List.set_cons_succ]
  refine wpAnyH_take (i := 1) (oi := { dst := some 36, op := Op.move (Operand.tmp 9), type := 3, pos := "more.go:19", after := #[], guard := none }) (v := ?vv2) rfl (by kernel_rfl) (by kernel_rfl) (by kernel_rfl) (fun _ _ _ h => h) (Or.inl ⟨by rfl, ?hy2⟩) hS0 ?rest2
  case hy2 =>
    intro V hV
    obtain ⟨y0, y1, y2, y3⟩ := hV
    go_simp
    all_goals rfl
  simp only [Act.put, List.setIfInBounds_toArray, List.set_cons_zero, List.set_cons_succ]
  refine wpAnyH_take (i := 2) (oi := { dst := some 37, op := Op.move (Operand.tmp 10), type := 3, pos := "more.go:19", after := #[], guard := none }) (v := ?vv3) rfl (by kernel_rfl) (by kernel_rfl) (by kernel_rfl) (fun _ _ _ h => h) (Or.inl ⟨by rfl, ?hy3⟩) hS0 ?rest3
  case hy3 =>
    intro V hV
    obtain ⟨y0, y1, y2, y3⟩ := hV
    go_simp
    all_goals rfl
  simp only [Act.put, List.setIfInBounds_toArray, List.set_cons_zero, List.set_cons_succ]
  refine wpAnyH_ready (rs := [3]) (by kernel_rfl) (by simp) (AllReadyH.cons (o := { dst := some 38, op := Op.call { callee := Callee.value (Operand.func 19), args := #[Operand.tmp 35, Operand.tmp 36, Operand.tmp 37], argTypes := #[26, 3, 3] }, type := 4, pos := "more.go:19", after := #[{ on := 0, ground := Ground.data }, { on := 1, ground := Ground.data }, { on := 2, ground := Ground.data }], guard := none }) rfl (fun K' hK => ?_) AllReadyH.nil)
  refine step_call3 _ (by rfl) 19 _ _ _ _ _ _ (by rfl) (enters_of Tryd.func19 (by kernel_rfl) rfl) _ _ _ (by rfl) (by rfl) (by rfl) hL ?_
  rintro e w5 ⟨rfl, K5⟩
  refine ⟨_, rfl, ?_⟩
  refine hK.out _ _ (HS.out _ K5) (fun _ => ?_)
  clear hK K'
  try (simp only [Act.put, List.setIfInBounds_toArray, List.set_cons_zero, List.set_cons_succ])
  refine wpAnyH_take (i := 4) (oi := { dst := some 39, op := Op.unOp UnOp.not 4 (Operand.tmp 38), type := 4, pos := "more.go:19", after := #[{ on := 3, ground := Ground.data }], guard := none }) (v := ?vv4) rfl (by kernel_rfl) (by kernel_rfl) (by kernel_rfl) (fun _ _ _ h => h) (Or.inl ⟨by rfl, ?hy4⟩) (HS.out _ K5) ?rest4
  case hy4 =>
    intro V hV
    obtain ⟨y0, y1, y2, y3⟩ := hV
    go_simp
    all_goals rfl
  simp only [Act.put, List.setIfInBounds_toArray, List.set_cons_zero, List.set_cons_succ]
  refine wpAnyH_take (i := 5) (oi := { dst := some 40, op := Op.move (Operand.tmp 39), type := 4, pos := "more.go:19", after := #[{ on := 4, ground := Ground.data }, { on := 3, ground := Ground.chain }], guard := none }) (v := ?vv5) rfl (by kernel_rfl) (by kernel_rfl) (by kernel_rfl) (fun _ _ _ h => h) (Or.inl ⟨by rfl, ?hy5⟩) (HS.out _ K5) ?rest5
  case hy5 =>
    intro V hV
    obtain ⟨y0, y1, y2, y3⟩ := hV
    go_simp
    all_goals rfl
  simp only [Act.put, List.setIfInBounds_toArray, List.set_cons_zero, List.set_cons_succ]
  refine wpAnyH_take (i := 6) (oi := { dst := some 41, op := Op.fieldAddr 26 (Operand.tmp 3) 1, type := 0, pos := "more.go:19", after := #[{ on := 5, ground := Ground.guard }], guard := some (5, false) }) (v := undef) rfl (by kernel_rfl) (by kernel_rfl) (by kernel_rfl) (fun _ _ _ h => h) (Or.inr ⟨by rfl, rfl⟩) (HS.out _ K5) ?rest6
  simp only [Act.put, List.setIfInBounds_toArray, List.set_cons_zero, List.set_cons_succ]
  refine wpAnyH_take (i := 7) (oi := { dst := some 42, op := Op.load 24 (Operand.tmp 41), type := 24, pos := "more.go:19", after := #[{ on := 6, ground := Ground.data }, { on := 5, ground := Ground.guard }], guard := some (5, false) }) (v := undef) rfl (by kernel_rfl) (by kernel_rfl) (by kernel_rfl) (fun _ _ _ h => h) (Or.inr ⟨by rfl, rfl⟩) (HS.out _ K5) ?rest7
  simp only [Act.put, List.setIfInBounds_toArray, List.set_cons_zero, List.set_cons_succ]
  refine wpAnyH_take (i := 8) (oi := { dst := some 43, op := Op.move (Operand.tmp 9), type := 3, pos := "more.go:19", after := #[{ on := 5, ground := Ground.guard }], guard := some (5, false) }) (v := undef) rfl (by kernel_rfl) (by kernel_rfl) (by kernel_rfl) (fun _ _ _ h => h) (Or.inr ⟨by rfl, rfl⟩) (HS.out _ K5) ?rest8
  simp only [Act.put, List.setIfInBounds_toArray, List.set_cons_zero, List.set_cons_succ]
  refine wpAnyH_take (i := 9) (oi := { dst := some 44, op := Op.indexAddr 24 (Operand.tmp 42) (Operand.tmp 43), type := 0, pos := "more.go:19", after := #[{ on := 7, ground := Ground.data }, { on := 8, ground := Ground.data }, { on := 5, ground := Ground.guard }], guard := some (5, false) }) (v := undef) rfl (by kernel_rfl) (by kernel_rfl) (by kernel_rfl) (fun _ _ _ h => h) (Or.inr ⟨by rfl, rfl⟩) (HS.out _ K5) ?rest9
  simp only [Act.put, List.setIfInBounds_toArray, List.set_cons_zero, List.set_cons_succ]
  refine wpAnyH_take (i := 10) (oi := { dst := some 45, op := Op.fieldAddr 47 (Operand.tmp 44) 6, type := 0, pos := "more.go:19", after := #[{ on := 9, ground := Ground.data }, { on := 5, ground := Ground.guard }], guard := some (5, false) }) (v := undef) rfl (by kernel_rfl) (by kernel_rfl) (by kernel_rfl) (fun _ _ _ h => h) (Or.inr ⟨by rfl, rfl⟩) (HS.out _ K5) ?rest10
  simp only [Act.put, List.setIfInBounds_toArray, List.set_cons_zero, List.set_cons_succ]
  refine wpAnyH_take (i := 11) (oi := { dst := some 46, op := Op.load 22 (Operand.tmp 45), type := 22, pos := "more.go:19", after := #[{ on := 10, ground := Ground.data }, { on := 5, ground := Ground.guard }], guard := some (5, false) }) (v := undef) rfl (by kernel_rfl) (by kernel_rfl) (by kernel_rfl) (fun _ _ _ h => h) (Or.inr ⟨by rfl, rfl⟩) (HS.out _ K5) ?rest11
  simp only [Act.put, List.setIfInBounds_toArray, List.set_cons_zero, List.set_cons_succ]
  refine wpAnyH_take (i := 12) (oi := { dst := some 47, op := Op.fieldAddr 26 (Operand.tmp 3) 1, type := 0, pos := "more.go:19", after := #[{ on := 5, ground := Ground.guard }], guard := some (5, false) }) (v := undef) rfl (by kernel_rfl) (by kernel_rfl) (by kernel_rfl) (fun _ _ _ h => h) (Or.inr ⟨by rfl, rfl⟩) (HS.out _ K5) ?rest12
  simp only [Act.put, List.setIfInBounds_toArray, List.set_cons_zero, List.set_cons_succ]
  refine wpAnyH_take (i := 13) (oi := { dst := some 48, op := Op.load 24 (Operand.tmp 47), type := 24, pos := "more.go:19", after := #[{ on := 12, ground := Ground.data }, { on := 5, ground := Ground.guard }], guard := some (5, false) }) (v := undef) rfl (by kernel_rfl) (by kernel_rfl) (by kernel_rfl) (fun _ _ _ h => h) (Or.inr ⟨by rfl, rfl⟩) (HS.out _ K5) ?rest13
  simp only [Act.put, List.setIfInBounds_toArray, List.set_cons_zero, List.set_cons_succ]
  refine wpAnyH_take (i := 14) (oi := { dst := some 49, op := Op.move (Operand.tmp 10), type := 3, pos := "more.go:19", after := #[{ on := 5, ground := Ground.guard }], guard := some (5, false) }) (v := undef) rfl (by kernel_rfl) (by kernel_rfl) (by kernel_rfl) (fun _ _ _ h => h) (Or.inr ⟨by rfl, rfl⟩) (HS.out _ K5) ?rest14
  simp only [Act.put, List.setIfInBounds_toArray, List.set_cons_zero, List.set_cons_succ]
  refine wpAnyH_take (i := 15) (oi := { dst := some 50, op := Op.indexAddr 24 (Operand.tmp 48) (Operand.tmp 49), type := 0, pos := "more.go:19", after := #[{ on := 13, ground := Ground.data }, { on := 14, ground := Ground.data }, { on := 5, ground := Ground.guard }], guard := some (5, false) }) (v := undef) rfl (by kernel_rfl) (by kernel_rfl) (by kernel_rfl) (fun _ _ _ h => h) (Or.inr ⟨by rfl, rfl⟩) (HS.out _ K5) ?rest15
  simp only [Act.put, List.setIfInBounds_toArray, List.set_cons_zero, List.set_cons_succ]
  refine wpAnyH_take (i := 16) (oi := { dst := some 51, op := Op.fieldAddr 47 (Operand.tmp 50) 0, type := 0, pos := "more.go:19", after := #[{ on := 15, ground := Ground.data }, { on := 5, ground := Ground.guard }], guard := some (5, false) }) (v := undef) rfl (by kernel_rfl) (by kernel_rfl) (by kernel_rfl) (fun _ _ _ h => h) (Or.inr ⟨by rfl, rfl⟩) (HS.out _ K5) ?rest16
  simp only [Act.put, List.setIfInBounds_toArray, List.set_cons_zero, List.set_cons_succ]
  refine wpAnyH_take (i := 17) (oi := { dst := some 52, op := Op.load 9 (Operand.tmp 51), type := 9, pos := "more.go:19", after := #[{ on := 16, ground := Ground.data }, { on := 5, ground := Ground.guard }], guard := some (5, false) }) (v := undef) rfl (by kernel_rfl) (by kernel_rfl) (by kernel_rfl) (fun _ _ _ h => h) (Or.inr ⟨by rfl, rfl⟩) (HS.out _ K5) ?rest17
  simp only [Act.put, List.setIfInBounds_toArray, List.set_cons_zero, List.set_cons_succ]
  refine wpAnyH_take (i := 18) (oi := { dst := some 53, op := Op.call { callee := Callee.value (Operand.func 20), args := #[Operand.tmp 46, Operand.tmp 52], argTypes := #[22, 9] }, type := 4, pos := "more.go:19", after := #[{ on := 11, ground := Ground.data }, { on := 17, ground := Ground.data }, { on := 5, ground := Ground.chain }, { on := 5, ground := Ground.guard }], guard := some (5, false) }) (v := undef) rfl (by kernel_rfl) (by kernel_rfl) (by kernel_rfl) (fun _ _ _ h => h) (Or.inr ⟨by rfl, rfl⟩) (HS.out _ K5) ?rest18
  simp only [Act.put, List.setIfInBounds_toArray, List.set_cons_zero, List.set_cons_succ]
  refine wpAnyH_take (i := 19) (oi := { dst := some 54, op := Op.pick (Operand.tmp 40) (Operand.const (Value.bool true)) (Operand.tmp 53), type := 4, pos := "more.go:19", after := #[{ on := 5, ground := Ground.data }, { on := 18, ground := Ground.data }], guard := none }) (v := ?vv19) rfl (by kernel_rfl) (by kernel_rfl) (by kernel_rfl) (fun _ _ _ h => h) (Or.inl ⟨by rfl, ?hy19⟩) (HS.out _ K5) ?rest19
  case hy19 =>
    intro V hV
    obtain ⟨y0, y1, y2, y3⟩ := hV
    go_simp
    all_goals rfl
  simp only [Act.put, List.setIfInBounds_toArray, List.set_cons_zero, List.set_cons_succ]
  refine wpAnyH_done (by kernel_rfl) ?_ _
  exact HH.out _ _ _ _ _ _ _ _ _ _ _ _ _ _ _ _ _ _ _ w5 (HKD.out.and K5)

set_option maxRecDepth 100000 in
set_option maxHeartbeats 8000000 in
theorem loops7T {W : World} {db b o n c p q cv : Nat} {av : Option Addr} {nm : ByteArray} {l : List ByteArray} {s : ByteArray} {r : Bool} {ds : List Deferred} {u0 u1 u2 u4 u5 u6 u7 u8 u11 u12 u13 u14 u15 u16 u17 u18 u19 u20 u21 u22 u23 u24 u25 u26 u27 u28 u29 u30 u31 u32 u33 u34 u35 u36 u37 u38 u39 u40 u41 u42 u43 u44 u45 u46 u47 u48 u49 u50 u51 u52 u53 u54 u55 u56 u57 u58 u59 u60 u61 u62 u63 u64 u65 u66 u67 u68 u69 u70 u71 u72 u73 u74 u75 u76 u77 u78 u79 u80 u81 u82 u83 u84 u85 u86 u87 u88 u89 u90 u91 u92 u93 u94 u95 u96 u97 u98 u99 u100 u101 u102 u103 u104 u105 u106 u107 u108 u109 u110 u111 u112 u113 u114 : Value} (K : Act → World → Prop)
    (x0 : W.cell? ⟨db, 0, none⟩ = some (.string nm)) (x1 : W.cell? ⟨db, 1, none⟩ = some (.slice (some ⟨b, o, none⟩) n c)) (x2 : W.cell? ⟨b, o + p * 7 + 6, none⟩ = some (.slice av l.length cv)) (x3 : W.cell? ⟨b, o + q * 7, none⟩ = some (.string s)) (hp : p < n) (hq : q < n) (hn : n ≤ 1000)
    (hL : Calls Tryd.prog 19 #[.agg #[.string nm, .slice (some ⟨b, o, none⟩) n c], .int .i64 (p : Nat), .int .i64 (q : Nat)] W.drew fun e w' => e = .returned (.bool true) ∧ Kept (fun _ => False) W.drew w')
    (hA : ∀ V, Kept (fun _ => False) W.drew V → Calls Tryd.prog 20 #[.slice av l.length cv, .string s] V fun e w' => e = .returned (.bool r) ∧ w' = V)
    (h : ∀ (v35 v36 v37 v38 v39 v40 v41 v42 v43 v44 v45 v46 v47 v48 v49 v50 v51 v52 v53 : Value) (w5 : World), Kept (fun _ => False) W w5 → K { tmps := #[u0, u1, u2, .pointer (some ⟨db, 0, none⟩), u4, u5, u6, u7, u8, .int .i64 (p : Nat), .int .i64 (q : Nat), u11, u12, u13, u14, u15, u16, u17, u18, u19, u20, u21, u22, u23, u24, u25, u26, u27, u28, u29, u30, u31, u32, u33, u34, v35, v36, v37, v38, v39, v40, v41, v42, v43, v44, v45, v46, v47, v48, v49, v50, v51, v52, v53, .bool r, u55, u56, u57, u58, u59, u60, u61, u62, u63, u64, u65, u66, u67, u68, u69, u70, u71, u72, u73, u74, u75, u76, u77, u78, u79, u80, u81, u82, u83, u84, u85, u86, u87, u88, u89, u90, u91, u92, u93, u94, u95, u96, u97, u98, u99, u100, u101, u102, u103, u104, u105, u106, u107, u108, u109, u110, u111, u112, u113, u114], defers := ds } w5) :
    (Code.region 7 #[{ dst := some 35, op := Op.load 26 (Operand.tmp 3), type := 26, pos := "more.go:19", after := #[], guard := none }, { dst := some 36, op := Op.move (Operand.tmp 9), type := 3, pos := "more.go:19", after := #[], guard := none }, { dst := some 37, op := Op.move (Operand.tmp 10), type := 3, pos := "more.go:19", after := #[], guard := none }, { dst := some 38, op := Op.call { callee := Callee.value (Operand.func 19), args := #[Operand.tmp 35, Operand.tmp 36, Operand.tmp 37], argTypes := #[26, 3, 3] }, type := 4, pos := "more.go:19", after := #[{ on := 0, ground := Ground.data }, { on := 1, ground := Ground.data }, { on := 2, ground := Ground.data }], guard := none }, { dst := some 39, op := Op.unOp UnOp.not 4 (Operand.tmp 38), type := 4, pos := "more.go:19", after := #[{ on := 3, ground := Ground.data }], guard := none }, { dst := some 40, op := Op.move (Operand.tmp 39), type := 4, pos := "more.go:19", after := #[{ on := 4, ground := Ground.data }, { on := 3, ground := Ground.chain }], guard := none }, { dst := some 41, op := Op.fieldAddr 26 (Operand.tmp 3) 1, type := 0, pos := "more.go:19", after := #[{ on := 5, ground := Ground.guard }], guard := some (5, false) }, { dst := some 42, op := Op.load 24 (Operand.tmp 41), type := 24, pos := "more.go:19", after := #[{ on := 6, ground := Ground.data }, { on := 5, ground := Ground.guard }], guard := some (5, false) }, { dst := some 43, op := Op.move (Operand.tmp 9), type := 3, pos := "more.go:19", after := #[{ on := 5, ground := Ground.guard }], guard := some (5, false) }, { dst := some 44, op := Op.indexAddr 24 (Operand.tmp 42) (Operand.tmp 43), type := 0, pos := "more.go:19", after := #[{ on := 7, ground := Ground.data }, { on := 8, ground := Ground.data }, { on := 5, ground := Ground.guard }], guard := some (5, false) }, { dst := some 45, op := Op.fieldAddr 47 (Operand.tmp 44) 6, type := 0, pos := "more.go:19", after := #[{ on := 9, ground := Ground.data }, { on := 5, ground := Ground.guard }], guard := some (5, false) }, { dst := some 46, op := Op.load 22 (Operand.tmp 45), type := 22, pos := "more.go:19", after := #[{ on := 10, ground := Ground.data }, { on := 5, ground := Ground.guard }], guard := some (5, false) }, { dst := some 47, op := Op.fieldAddr 26 (Operand.tmp 3) 1, type := 0, pos := "more.go:19", after := #[{ on := 5, ground := Ground.guard }], guard := some (5, false) }, { dst := some 48, op := Op.load 24 (Operand.tmp 47), type := 24, pos := "more.go:19", after := #[{ on := 12, ground := Ground.data }, { on := 5, ground := Ground.guard }], guard := some (5, false) }, { dst := some 49, op := Op.move (Operand.tmp 10), type := 3, pos := "more.go:19", after := #[{ on := 5, ground := Ground.guard }], guard := some (5, false) }, { dst := some 50, op := Op.indexAddr 24 (Operand.tmp 48) (Operand.tmp 49), type := 0, pos := "more.go:19", after := #[{ on := 13, ground := Ground.data }, { on := 14, ground := Ground.data }, { on := 5, ground := Ground.guard }], guard := some (5, false) }, { dst := some 51, op := Op.fieldAddr 47 (Operand.tmp 50) 0, type := 0, pos := "more.go:19", after := #[{ on := 15, ground := Ground.data }, { on := 5, ground := Ground.guard }], guard := some (5, false) }, { dst := some 52, op := Op.load 9 (Operand.tmp 51), type := 9, pos := "more.go:19", after := #[{ on := 16, ground := Ground.data }, { on := 5, ground := Ground.guard }], guard := some (5, false) }, { dst := some 53, op := Op.call { callee := Callee.value (Operand.func 20), args := #[Operand.tmp 46, Operand.tmp 52], argTypes := #[22, 9] }, type := 4, pos := "more.go:19", after := #[{ on := 11, ground := Ground.data }, { on := 17, ground := Ground.data }, { on := 5, ground := Ground.chain }, { on := 5, ground := Ground.guard }], guard := some (5, false) }, { dst := some 54, op := Op.pick (Operand.tmp 40) (Operand.const (Value.bool true)) (Operand.tmp 53), type := 4, pos := "more.go:19", after := #[{ on := 5, ground := Ground.data }, { on := 18, ground := Ground.data }], guard := none }] true).wp Tryd.prog (onlyN K) { tmps := #[u0, u1, u2, .pointer (some ⟨db, 0, none⟩), u4, u5, u6, u7, u8, .int .i64 (p : Nat), .int .i64 (q : Nat), u11, u12, u13, u14, u15, u16, u17, u18, u19, u20, u21, u22, u23, u24, u25, u26, u27, u28, u29, u30, u31, u32, u33, u34, u35, u36, u37, u38, u39, u40, u41, u42, u43, u44, u45, u46, u47, u48, u49, u50, u51, u52, u53, u54, u55, u56, u57, u58, u59, u60, u61, u62, u63, u64, u65, u66, u67, u68, u69, u70, u71, u72, u73, u74, u75, u76, u77, u78, u79, u80, u81, u82, u83, u84, u85, u86, u87, u88, u89, u90, u91, u92, u93, u94, u95, u96, u97, u98, u99, u100, u101, u102, u103, u104, u105, u106, u107, u108, u109, u110, u111, u112, u113, u114], defers := ds } W := by
  have HH : Hid _ := h
  have KD := Kept.drew (fun _ => False) W
  have HS : Hid (∀ V, Kept (fun _ => False) W.drew V → V.cell? ⟨db, 0, none⟩ = some (.string nm) ∧ V.cell? ⟨db, 1, none⟩ = some (.slice (some ⟨b, o, none⟩) n c) ∧ V.cell? ⟨b, o + p * 7 + 6, none⟩ = some (.slice av l.length cv) ∧ V.cell? ⟨b, o + q * 7, none⟩ = some (.string s)) := fun V KV => ⟨keepC (KD.and KV) x0 (fun _ _ h => h), keepC (KD.and KV) x1 (fun _ _ h => h), keepC (KD.and KV) x2 (fun _ _ h => h), keepC (KD.and KV) x3 (fun _ _ h => h)⟩
  have HKD : Hid (Kept (fun _ => False) W W.drew) := KD
  have hS0 := HS.out W.drew (Kept.refl _ _)
  have e1 : (p : Int) < (n : Int) := by omega
  have e2 : (q : Int) < (n : Int) := by omega
  have w1 : IntKind.i64.wrap (p : Int) = (p : Int) := by rw [IntKind.wrap_i64]; omega
  have w2 : IntKind.i64.wrap (q : Int) = (q : Int) := by rw [IntKind.wrap_i64]; omega
  have HA : Hid _ := hA
  clear hA
  clear h KD x0 x1 x2 x3
  refine wp_region_held_drew (S := fun V => V.cell? ⟨db, 0, none⟩ = some (.string nm) ∧ V.cell? ⟨db, 1, none⟩ = some (.slice (some ⟨b, o, none⟩) n c) ∧ V.cell? ⟨b, o + p * 7 + 6, none⟩ = some (.slice av l.length cv) ∧ V.cell? ⟨b, o + q * 7, none⟩ = some (.string s)) (by kernel_rfl) hS0 (fun _ => ?_)
  refine wpAnyH_take (i := 0) (oi := { dst := some 35, op := Op.load 26 (Operand.tmp 3), type := 26, pos := "more.go:19", after := #[], guard := none }) (v := ?vv1) rfl (by kernel_rfl) (by kernel_rfl) (by kernel_rfl) (fun _ _ _ h => h) (Or.inl ⟨by rfl, ?hy1⟩) hS0 ?rest1
  case hy1 =>
    intro V hV
    obtain ⟨y0, y1, y2, y3⟩ := hV
    go_simp
    all_goals rfl
  simp only [Act.put, List.setIfInBounds_toArray, List.set_cons_zero, List.set_cons_succ]
  refine wpAnyH_take (i := 1) (oi := { dst := some 36, op := Op.move (Operand.tmp 9), type := 3, pos := "more.go:19", after := #[], guard := none }) (v := ?vv2) rfl (by kernel_rfl) (by kernel_rfl) (by kernel_rfl) (fun _ _ _ h => h) (Or.inl ⟨by rfl, ?hy2⟩) hS0 ?rest2
  case hy2 =>
    intro V hV
    obtain ⟨y0, y1, y2, y3⟩ := hV
    go_simp
    all_goals rfl
  simp only [Act.put, List.setIfInBounds_toArray, List.set_cons_zero, List.set_cons_succ]
  refine wpAnyH_take (i := 2) (oi := { dst := some 37, op := Op.move (Operand.tmp 10), type := 3, pos := "more.go:19", after := #[], guard := none }) (v := ?vv3) rfl (by kernel_rfl) (by kernel_rfl) (by kernel_rfl) (fun _ _ _ h => h) (Or.inl ⟨by rfl, ?hy3⟩) hS0 ?rest3
  case hy3 =>
    intro V hV
    obtain ⟨y0, y1, y2, y3⟩ := hV
    go_simp
    all_goals rfl
  simp only [Act.put, List.setIfInBounds_toArray, List.set_cons_zero, List.set_cons_succ]
  refine wpAnyH_ready (rs := [3]) (by kernel_rfl) (by simp) (AllReadyH.cons (o := { dst := some 38, op := Op.call { callee := Callee.value (Operand.func 19), args := #[Operand.tmp 35, Operand.tmp 36, Operand.tmp 37], argTypes := #[26, 3, 3] }, type := 4, pos := "more.go:19", after := #[{ on := 0, ground := Ground.data }, { on := 1, ground := Ground.data }, { on := 2, ground := Ground.data }], guard := none }) rfl (fun K' hK => ?_) AllReadyH.nil)
  refine step_call3 _ (by rfl) 19 _ _ _ _ _ _ (by rfl) (enters_of Tryd.func19 (by kernel_rfl) rfl) _ _ _ (by rfl) (by rfl) (by rfl) hL ?_
  rintro e w5 ⟨rfl, K5⟩
  refine ⟨_, rfl, ?_⟩
  refine hK.out _ _ (HS.out _ K5) (fun _ => ?_)
  clear hK K'
  try (simp only [Act.put, List.setIfInBounds_toArray, List.set_cons_zero, List.set_cons_succ])
  refine wpAnyH_take (i := 4) (oi := { dst := some 39, op := Op.unOp UnOp.not 4 (Operand.tmp 38), type := 4, pos := "more.go:19", after := #[{ on := 3, ground := Ground.data }], guard := none }) (v := ?vv4) rfl (by kernel_rfl) (by kernel_rfl) (by kernel_rfl) (fun _ _ _ h => h) (Or.inl ⟨by rfl, ?hy4⟩) (HS.out _ K5) ?rest4
  case hy4 =>
    intro V hV
    obtain ⟨y0, y1, y2, y3⟩ := hV
    go_simp
    all_goals rfl
  simp only [Act.put, List.setIfInBounds_toArray, List.set_cons_zero, List.set_cons_succ]
  refine wpAnyH_take (i := 5) (oi := { dst := some 40, op := Op.move (Operand.tmp 39), type := 4, pos := "more.go:19", after := #[{ on := 4, ground := Ground.data }, { on := 3, ground := Ground.chain }], guard := none }) (v := ?vv5) rfl (by kernel_rfl) (by kernel_rfl) (by kernel_rfl) (fun _ _ _ h => h) (Or.inl ⟨by rfl, ?hy5⟩) (HS.out _ K5) ?rest5
  case hy5 =>
    intro V hV
    obtain ⟨y0, y1, y2, y3⟩ := hV
    go_simp
    all_goals rfl
  simp only [Act.put, List.setIfInBounds_toArray, List.set_cons_zero, List.set_cons_succ]
  refine wpAnyH_take (i := 6) (oi := { dst := some 41, op := Op.fieldAddr 26 (Operand.tmp 3) 1, type := 0, pos := "more.go:19", after := #[{ on := 5, ground := Ground.guard }], guard := some (5, false) }) (v := ?vv6) rfl (by kernel_rfl) (by kernel_rfl) (by kernel_rfl) (fun _ _ _ h => h) (Or.inl ⟨by rfl, ?hy6⟩) (HS.out _ K5) ?rest6
  case hy6 =>
    intro V hV
    obtain ⟨y0, y1, y2, y3⟩ := hV
    go_simp
    all_goals rfl
  simp only [Act.put, List.setIfInBounds_toArray, List.set_cons_zero, List.set_cons_succ]
  refine wpAnyH_take (i := 7) (oi := { dst := some 42, op := Op.load 24 (Operand.tmp 41), type := 24, pos := "more.go:19", after := #[{ on := 6, ground := Ground.data }, { on := 5, ground := Ground.guard }], guard := some (5, false) }) (v := ?vv7) rfl (by kernel_rfl) (by kernel_rfl) (by kernel_rfl) (fun _ _ _ h => h) (Or.inl ⟨by rfl, ?hy7⟩) (HS.out _ K5) ?rest7
  case hy7 =>
    intro V hV
    obtain ⟨y0, y1, y2, y3⟩ := hV
    go_simp
    all_goals rfl
  simp only [Act.put, List.setIfInBounds_toArray, List.set_cons_zero, List.set_cons_succ]
  refine wpAnyH_take (i := 8) (oi := { dst := some 43, op := Op.move (Operand.tmp 9), type := 3, pos := "more.go:19", after := #[{ on := 5, ground := Ground.guard }], guard := some (5, false) }) (v := ?vv8) rfl (by kernel_rfl) (by kernel_rfl) (by kernel_rfl) (fun _ _ _ h => h) (Or.inl ⟨by rfl, ?hy8⟩) (HS.out _ K5) ?rest8
  case hy8 =>
    intro V hV
    obtain ⟨y0, y1, y2, y3⟩ := hV
    go_simp
    all_goals rfl
  simp only [Act.put, List.setIfInBounds_toArray, List.set_cons_zero, List.set_cons_succ]
  refine wpAnyH_take (i := 9) (oi := { dst := some 44, op := Op.indexAddr 24 (Operand.tmp 42) (Operand.tmp 43), type := 0, pos := "more.go:19", after := #[{ on := 7, ground := Ground.data }, { on := 8, ground := Ground.data }, { on := 5, ground := Ground.guard }], guard := some (5, false) }) (v := ?vv9) rfl (by kernel_rfl) (by kernel_rfl) (by kernel_rfl) (fun _ _ _ h => h) (Or.inl ⟨by rfl, ?hy9⟩) (HS.out _ K5) ?rest9
  case hy9 =>
    intro V hV
    obtain ⟨y0, y1, y2, y3⟩ := hV
    go_simp
    all_goals rfl
  simp only [Act.put, List.setIfInBounds_toArray, List.set_cons_zero, List.set_cons_succ]
  refine wpAnyH_take (i := 10) (oi := { dst := some 45, op := Op.fieldAddr 47 (Operand.tmp 44) 6, type := 0, pos := "more.go:19", after := #[{ on := 9, ground := Ground.data }, { on := 5, ground := Ground.guard }], guard := some (5, false) }) (v := ?vv10) rfl (by kernel_rfl) (by kernel_rfl) (by kernel_rfl) (fun _ _ _ h => h) (Or.inl ⟨by rfl, ?hy10⟩) (HS.out _ K5) ?rest10
  case hy10 =>
    intro V hV
    obtain ⟨y0, y1, y2, y3⟩ := hV
    go_simp
    all_goals rfl
  simp only [Act.put, List.setIfInBounds_toArray, List.set_cons_zero, List.set_cons_succ]
  refine wpAnyH_take (i := 11) (oi := { dst := some 46, op := Op.load 22 (Operand.tmp 45), type := 22, pos := "more.go:19", after := #[{ on := 10, ground := Ground.data }, { on := 5, ground := Ground.guard }], guard := some (5, false) }) (v := ?vv11) rfl (by kernel_rfl) (by kernel_rfl) (by kernel_rfl) (fun _ _ _ h => h) (Or.inl ⟨by rfl, ?hy11⟩) (HS.out _ K5) ?rest11
  case hy11 =>
    intro V hV
    obtain ⟨y0, y1, y2, y3⟩ := hV
    go_simp
    all_goals rfl
  simp only [Act.put, List.setIfInBounds_toArray, List.set_cons_zero, List.set_cons_succ]
  refine wpAnyH_take (i := 12) (oi := { dst := some 47, op := Op.fieldAddr 26 (Operand.tmp 3) 1, type := 0, pos := "more.go:19", after := #[{ on := 5, ground := Ground.guard }], guard := some (5, false) }) (v := ?vv12) rfl (by kernel_rfl) (by kernel_rfl) (by kernel_rfl) (fun _ _ _ h => h) (Or.inl ⟨by rfl, ?hy12⟩) (HS.out _ K5) ?rest12
  case hy12 =>
    intro V hV
    obtain ⟨y0, y1, y2, y3⟩ := hV
    go_simp
    all_goals rfl
  simp only [Act.put, List.setIfInBounds_toArray, List.set_cons_zero, List.set_cons_succ]
  refine wpAnyH_take (i := 13) (oi := { dst := some 48, op := Op.load 24 (Operand.tmp 47), type := 24, pos := "more.go:19", after := #[{ on := 12, ground := Ground.data }, { on := 5, ground := Ground.guard }], guard := some (5, false) }) (v := ?vv13) rfl (by kernel_rfl) (by kernel_rfl) (by kernel_rfl) (fun _ _ _ h => h) (Or.inl ⟨by rfl, ?hy13⟩) (HS.out _ K5) ?rest13
  case hy13 =>
    intro V hV
    obtain ⟨y0, y1, y2, y3⟩ := hV
    go_simp
    all_goals rfl
  simp only [Act.put, List.setIfInBounds_toArray, List.set_cons_zero, List.set_cons_succ]
  refine wpAnyH_take (i := 14) (oi := { dst := some 49, op := Op.move (Operand.tmp 10), type := 3, pos := "more.go:19", after := #[{ on := 5, ground := Ground.guard }], guard := some (5, false) }) (v := ?vv14) rfl (by kernel_rfl) (by kernel_rfl) (by kernel_rfl) (fun _ _ _ h => h) (Or.inl ⟨by rfl, ?hy14⟩) (HS.out _ K5) ?rest14
  case hy14 =>
    intro V hV
    obtain ⟨y0, y1, y2, y3⟩ := hV
    go_simp
    all_goals rfl
  simp only [Act.put, List.setIfInBounds_toArray, List.set_cons_zero, List.set_cons_succ]
  refine wpAnyH_take (i := 15) (oi := { dst := some 50, op := Op.indexAddr 24 (Operand.tmp 48) (Operand.tmp 49), type := 0, pos := "more.go:19", after := #[{ on := 13, ground := Ground.data }, { on := 14, ground := Ground.data }, { on := 5, ground := Ground.guard }], guard := some (5, false) }) (v := ?vv15) rfl (by kernel_rfl) (by kernel_rfl) (by kernel_rfl) (fun _ _ _ h => h) (Or.inl ⟨by rfl, ?hy15⟩) (HS.out _ K5) ?rest15
  case hy15 =>
    intro V hV
    obtain ⟨y0, y1, y2, y3⟩ := hV
    go_simp
    all_goals rfl
  simp only [Act.put, List.setIfInBounds_toArray, List.set_cons_zero, List.set_cons_succ]
  refine wpAnyH_take (i := 16) (oi := { dst := some 51, op := Op.fieldAddr 47 (Operand.tmp 50) 0, type := 0, pos := "more.go:19", after := #[{ on := 15, ground := Ground.data }, { on := 5, ground := Ground.guard }], guard := some (5, false) }) (v := ?vv16) rfl (by kernel_rfl) (by kernel_rfl) (by kernel_rfl) (fun _ _ _ h => h) (Or.inl ⟨by rfl, ?hy16⟩) (HS.out _ K5) ?rest16
  case hy16 =>
    intro V hV
    obtain ⟨y0, y1, y2, y3⟩ := hV
    go_simp
    all_goals rfl
  simp only [Act.put, List.setIfInBounds_toArray, List.set_cons_zero, List.set_cons_succ]
  refine wpAnyH_take (i := 17) (oi := { dst := some 52, op := Op.load 9 (Operand.tmp 51), type := 9, pos := "more.go:19", after := #[{ on := 16, ground := Ground.data }, { on := 5, ground := Ground.guard }], guard := some (5, false) }) (v := ?vv17) rfl (by kernel_rfl) (by kernel_rfl) (by kernel_rfl) (fun _ _ _ h => h) (Or.inl ⟨by rfl, ?hy17⟩) (HS.out _ K5) ?rest17
  case hy17 =>
    intro V hV
    obtain ⟨y0, y1, y2, y3⟩ := hV
    go_simp
    all_goals rfl
  simp only [Act.put, List.setIfInBounds_toArray, List.set_cons_zero, List.set_cons_succ]
  refine wpAnyH_ready (rs := [18]) (by kernel_rfl) (by simp) (AllReadyH.cons (o := { dst := some 53, op := Op.call { callee := Callee.value (Operand.func 20), args := #[Operand.tmp 46, Operand.tmp 52], argTypes := #[22, 9] }, type := 4, pos := "more.go:19", after := #[{ on := 11, ground := Ground.data }, { on := 17, ground := Ground.data }, { on := 5, ground := Ground.chain }, { on := 5, ground := Ground.guard }], guard := some (5, false) }) rfl (fun K' hK => ?_) AllReadyH.nil)
  refine step_call2 _ (by rfl) 20 _ _ _ _ (by rfl) (enters_of Tryd.func20 (by kernel_rfl) rfl) _ _ (by rfl) (by rfl) (HA.out _ K5) ?_
  rintro e w6 ⟨rfl, hw⟩
  subst w6
  refine ⟨_, rfl, ?_⟩
  refine hK.out _ _ (HS.out _ K5) (fun _ => ?_)
  clear hK K'
  try (simp only [Act.put, List.setIfInBounds_toArray, List.set_cons_zero, List.set_cons_succ])
  refine wpAnyH_take (i := 19) (oi := { dst := some 54, op := Op.pick (Operand.tmp 40) (Operand.const (Value.bool true)) (Operand.tmp 53), type := 4, pos := "more.go:19", after := #[{ on := 5, ground := Ground.data }, { on := 18, ground := Ground.data }], guard := none }) (v := ?vv18) rfl (by kernel_rfl) (by kernel_rfl) (by kernel_rfl) (fun _ _ _ h => h) (Or.inl ⟨by rfl, ?hy18⟩) (HS.out _ K5) ?rest18
  case hy18 =>
    intro V hV
    obtain ⟨y0, y1, y2, y3⟩ := hV
    go_simp
    all_goals rfl
  simp only [Act.put, List.setIfInBounds_toArray, List.set_cons_zero, List.set_cons_succ]
  refine wpAnyH_done (by kernel_rfl) ?_ _
  exact HH.out _ _ _ _ _ _ _ _ _ _ _ _ _ _ _ _ _ _ _ w5 (HKD.out.and K5)

end Go.Proofs.YtalhdgelkomaiaaDoor
