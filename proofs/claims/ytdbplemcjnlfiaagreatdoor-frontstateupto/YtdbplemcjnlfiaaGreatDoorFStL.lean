/-
  FrontState: both States, held against each other (a region that draws its order).
-/
import Derived.Test.YtdbplemcjnlfiaaGreatDoorFStK
namespace Go.Proofs.YtdbplemcjnlfiaaGreatDoor
open Go.RowKit

theorem step_call0f {P : Program} {ops : Array Oper} {o : Oper} {a : Act} (w : World) {K : Act → World → Prop} {Q : Exit → Act → World → Prop} {E : Prop}
    (hw : Region.wanted o (yielded ops a.tmps) = true) (f : Nat) (hop : o.op = Op.call { callee := .value (.func f), args := #[], argTypes := #[] })
    (he : ∀ args w, (callFunc f args).run P w = .ok (.enter f args) w) {R : Ending → World → Prop} (hC : Calls P f #[] w R)
    (hK : ∀ e w', R e w' → ∃ u, e = .returned u ∧ K (a.put o.dst u) w') :
    if Region.wanted o (yielded ops a.tmps) = true then Oper.wp P o a w K Q else E := by
  rw [if_pos hw]
  unfold Oper.wp
  have hf : a.eval (.func f) = .func (.func f) #[] #[] := rfl
  simp [execOp, hop, resolve, invoke, hf, he, Deferred.ofValue]
  refine hC.mono ?_
  rintro e w' h
  obtain ⟨u, rfl, k⟩ := hK e w' h
  exact k

set_option maxRecDepth 100000 in
set_option maxHeartbeats 8000000 in
theorem law6 {W : World} {dn df id pa pn tx sx : ByteArray} {ad an ag : Option Addr} {ld cd ln cn lg cg gd gs : Nat} {st ev : Int} {ds : List Deferred} {u0 u1 u4 u5 u6 u7 u8 u9 u10 u11 u12 u13 u14 u15 u16 u17 u18 u19 u20 u21 u22 u23 u24 u25 u26 u27 u28 u29 u30 u31 u32 u33 u34 u35 u36 u37 u38 : Value} (K : Act → World → Prop)
    (hSt : ∀ V, Kept (fun _ => False) W V → V.cell? ⟨gd, 0, none⟩ = some (.string dn) ∧ V.cell? ⟨gd, 1, none⟩ = some (.slice ad ld cd) ∧ V.cell? ⟨gs, 0, none⟩ = some (.string df) ∧ V.cell? ⟨gs, 1, none⟩ = some (.string id) ∧ V.cell? ⟨gs, 2, none⟩ = some (.string pa) ∧ V.cell? ⟨gs, 3, none⟩ = some (.string pn) ∧ V.cell? ⟨gs, 4, none⟩ = some (.int .i64 st) ∧ V.cell? ⟨gs, 5, none⟩ = some (.string tx) ∧ V.cell? ⟨gs, 6, none⟩ = some (.slice an ln cn) ∧ V.cell? ⟨gs, 7, none⟩ = some (.slice ag lg cg) ∧ V.cell? ⟨gs, 8, none⟩ = some (.int .i64 ev))
    (h1 : ∀ V, Kept (fun _ => False) W V → Calls Tryz.prog 13 #[.agg #[.string dn, .slice ad ld cd], .agg #[.string df, .string id, .string pa, .string pn, .int .i64 st, .string tx, .slice an ln cn, .slice ag lg cg, .int .i64 ev]] V fun e w' => e = .returned (.string sx) ∧ Kept (fun _ => False) V w')
    (h2 : ∀ V, Kept (fun _ => False) W V → Calls Tryz.prog 14 #[.agg #[.string dn, .slice ad ld cd], .agg #[.string df, .string id, .string pa, .string pn, .int .i64 st, .string tx, .slice an ln cn, .slice ag lg cg, .int .i64 ev]] V fun e w' => e = .returned (.string sx) ∧ Kept (fun _ => False) V w')
    (h3 : ∀ V, Kept (fun _ => False) W V → Calls Tryz.prog 11 #[] V fun e w' => e = .returned (.bool true) ∧ Kept (fun _ => False) V w')
    (h : ∀ (v29 v30 v31 v32 v33 v34 v35 v36 v37 v38 : Value) (w9 : World), Kept (fun _ => False) W w9 → K { tmps := #[u0, u1, .pointer (some ⟨gd, 0, none⟩), .pointer (some ⟨gs, 0, none⟩), .bool true, u5, u6, u7, u8, u9, u10, u11, u12, u13, u14, u15, u16, u17, u18, u19, u20, u21, u22, u23, u24, u25, u26, u27, u28, v29, v30, v31, v32, v33, v34, v35, v36, v37, v38], defers := ds } w9) :
    (Code.region 6 #[{ dst := some 29, op := Op.load 38 (Operand.tmp 2), type := 38, pos := "law.go:164", after := #[], guard := none }, { dst := some 30, op := Op.load 42 (Operand.tmp 3), type := 42, pos := "law.go:164", after := #[], guard := none }, { dst := some 31, op := Op.call { callee := Callee.value (Operand.func 13), args := #[Operand.tmp 29, Operand.tmp 30], argTypes := #[38, 42] }, type := 9, pos := "law.go:164", after := #[{ on := 0, ground := Ground.data }, { on := 1, ground := Ground.data }], guard := none }, { dst := some 32, op := Op.load 38 (Operand.tmp 2), type := 38, pos := "law.go:164", after := #[], guard := none }, { dst := some 33, op := Op.load 42 (Operand.tmp 3), type := 42, pos := "law.go:164", after := #[], guard := none }, { dst := some 34, op := Op.call { callee := Callee.value (Operand.func 14), args := #[Operand.tmp 32, Operand.tmp 33], argTypes := #[38, 42] }, type := 9, pos := "law.go:164", after := #[{ on := 3, ground := Ground.data }, { on := 4, ground := Ground.data }, { on := 2, ground := Ground.chain }], guard := none }, { dst := some 35, op := Op.binOp BinOp.eql 9 (Operand.tmp 31) (Operand.tmp 34) 9, type := 4, pos := "law.go:164", after := #[{ on := 2, ground := Ground.data }, { on := 5, ground := Ground.data }], guard := none }, { dst := some 36, op := Op.move (Operand.tmp 35), type := 4, pos := "law.go:164", after := #[{ on := 6, ground := Ground.data }, { on := 5, ground := Ground.chain }], guard := none }, { dst := some 37, op := Op.call { callee := Callee.value (Operand.func 11), args := #[], argTypes := #[] }, type := 4, pos := "law.go:164", after := #[{ on := 7, ground := Ground.chain }, { on := 7, ground := Ground.guard }], guard := some (7, true) }, { dst := some 38, op := Op.pick (Operand.tmp 36) (Operand.tmp 37) (Operand.const (Value.bool false)), type := 4, pos := "law.go:164", after := #[{ on := 7, ground := Ground.data }, { on := 8, ground := Ground.data }], guard := none }, { dst := some 4, op := Op.assign (Operand.tmp 38), type := 4, pos := "law.go:164", after := #[{ on := 9, ground := Ground.data }, { on := 8, ground := Ground.chain }, { on := 0, ground := Ground.phase }, { on := 1, ground := Ground.phase }, { on := 2, ground := Ground.phase }, { on := 3, ground := Ground.phase }, { on := 4, ground := Ground.phase }, { on := 5, ground := Ground.phase }, { on := 6, ground := Ground.phase }, { on := 7, ground := Ground.phase }, { on := 8, ground := Ground.phase }, { on := 9, ground := Ground.phase }], guard := none }] true).wp Tryz.prog (onlyN K) { tmps := #[u0, u1, .pointer (some ⟨gd, 0, none⟩), .pointer (some ⟨gs, 0, none⟩), u4, u5, u6, u7, u8, u9, u10, u11, u12, u13, u14, u15, u16, u17, u18, u19, u20, u21, u22, u23, u24, u25, u26, u27, u28, u29, u30, u31, u32, u33, u34, u35, u36, u37, u38], defers := ds } W := by
  have HH := hid h
  have KD := Kept.drew (fun _ => False) W
  have HS := hid hSt
  have hS0 := hSt _ KD
  have H1 := hid h1
  have H2 := hid h2
  have H3 := hid h3
  have q1 : (sx.toList == sx.toList) = true := by simp
  clear h hSt h1 h2 h3
  refine wp_region_held_drew (S := fun V => V.cell? ⟨gd, 0, none⟩ = some (.string dn) ∧ V.cell? ⟨gd, 1, none⟩ = some (.slice ad ld cd) ∧ V.cell? ⟨gs, 0, none⟩ = some (.string df) ∧ V.cell? ⟨gs, 1, none⟩ = some (.string id) ∧ V.cell? ⟨gs, 2, none⟩ = some (.string pa) ∧ V.cell? ⟨gs, 3, none⟩ = some (.string pn) ∧ V.cell? ⟨gs, 4, none⟩ = some (.int .i64 st) ∧ V.cell? ⟨gs, 5, none⟩ = some (.string tx) ∧ V.cell? ⟨gs, 6, none⟩ = some (.slice an ln cn) ∧ V.cell? ⟨gs, 7, none⟩ = some (.slice ag lg cg) ∧ V.cell? ⟨gs, 8, none⟩ = some (.int .i64 ev)) (by kernel_rfl) hS0 (fun _ => ?_)
  refine wpAnyH_take (i := 0) (oi := { dst := some 29, op := Op.load 38 (Operand.tmp 2), type := 38, pos := "law.go:164", after := #[], guard := none }) (v := ?vv1) rfl (by kernel_rfl) (by kernel_rfl) (by kernel_rfl) (fun _ _ _ h => h) (Or.inl ⟨by rfl, ?hy1⟩) hS0 ?rest1
  case hy1 =>
    intro V hV
    obtain ⟨y0, y1, y2, y3, y4, y5, y6, y7, y8, y9, y10⟩ := hV
    go_simp
    all_goals rfl
  simp only [Act.put, List.setIfInBounds_toArray, List.set_cons_zero, List.set_cons_succ]
  refine wpAnyH_take (i := 1) (oi := { dst := some 30, op := Op.load 42 (Operand.tmp 3), type := 42, pos := "law.go:164", after := #[], guard := none }) (v := ?vv2) rfl (by kernel_rfl) (by kernel_rfl) (by kernel_rfl) (fun _ _ _ h => h) (Or.inl ⟨by rfl, ?hy2⟩) hS0 ?rest2
  case hy2 =>
    intro V hV
    obtain ⟨y0, y1, y2, y3, y4, y5, y6, y7, y8, y9, y10⟩ := hV
    go_simp
    all_goals rfl
  simp only [Act.put, List.setIfInBounds_toArray, List.set_cons_zero, List.set_cons_succ]
  refine wpAnyH_take (i := 3) (oi := { dst := some 32, op := Op.load 38 (Operand.tmp 2), type := 38, pos := "law.go:164", after := #[], guard := none }) (v := ?vv3) rfl (by kernel_rfl) (by kernel_rfl) (by kernel_rfl) (fun _ _ _ h => h) (Or.inl ⟨by rfl, ?hy3⟩) hS0 ?rest3
  case hy3 =>
    intro V hV
    obtain ⟨y0, y1, y2, y3, y4, y5, y6, y7, y8, y9, y10⟩ := hV
    go_simp
    all_goals rfl
  simp only [Act.put, List.setIfInBounds_toArray, List.set_cons_zero, List.set_cons_succ]
  refine wpAnyH_take (i := 4) (oi := { dst := some 33, op := Op.load 42 (Operand.tmp 3), type := 42, pos := "law.go:164", after := #[], guard := none }) (v := ?vv4) rfl (by kernel_rfl) (by kernel_rfl) (by kernel_rfl) (fun _ _ _ h => h) (Or.inl ⟨by rfl, ?hy4⟩) hS0 ?rest4
  case hy4 =>
    intro V hV
    obtain ⟨y0, y1, y2, y3, y4, y5, y6, y7, y8, y9, y10⟩ := hV
    go_simp
    all_goals rfl
  simp only [Act.put, List.setIfInBounds_toArray, List.set_cons_zero, List.set_cons_succ]
  refine wpAnyH_ready (rs := [2]) (by kernel_rfl) (by simp) (AllReadyH.cons (o := { dst := some 31, op := Op.call { callee := Callee.value (Operand.func 13), args := #[Operand.tmp 29, Operand.tmp 30], argTypes := #[38, 42] }, type := 9, pos := "law.go:164", after := #[{ on := 0, ground := Ground.data }, { on := 1, ground := Ground.data }], guard := none }) rfl (fun K' hK => ?_) AllReadyH.nil)
  refine step_call2f _ (by rfl) 13 _ _ _ _ (by rfl) (enters_of Tryz.func13 (by kernel_rfl) rfl) _ _ (by rfl) (by rfl) (H1.out _ KD) ?_
  rintro e w1 ⟨rfl, K1'⟩
  have K1 := KD.and K1'
  clear K1'
  refine ⟨_, rfl, ?_⟩
  refine hK.out _ _ (HS.out _ K1) (fun _ => ?_)
  clear hK K'
  try (simp only [Act.put, List.setIfInBounds_toArray, List.set_cons_zero, List.set_cons_succ])
  refine wpAnyH_ready (rs := [5]) (by kernel_rfl) (by simp) (AllReadyH.cons (o := { dst := some 34, op := Op.call { callee := Callee.value (Operand.func 14), args := #[Operand.tmp 32, Operand.tmp 33], argTypes := #[38, 42] }, type := 9, pos := "law.go:164", after := #[{ on := 3, ground := Ground.data }, { on := 4, ground := Ground.data }, { on := 2, ground := Ground.chain }], guard := none }) rfl (fun K' hK => ?_) AllReadyH.nil)
  refine step_call2f _ (by rfl) 14 _ _ _ _ (by rfl) (enters_of Tryz.func14 (by kernel_rfl) rfl) _ _ (by rfl) (by rfl) (H2.out _ K1) ?_
  rintro e w2 ⟨rfl, K2'⟩
  have K2 := K1.and K2'
  clear K2'
  refine ⟨_, rfl, ?_⟩
  refine hK.out _ _ (HS.out _ K2) (fun _ => ?_)
  clear hK K'
  try (simp only [Act.put, List.setIfInBounds_toArray, List.set_cons_zero, List.set_cons_succ])
  refine wpAnyH_take (i := 6) (oi := { dst := some 35, op := Op.binOp BinOp.eql 9 (Operand.tmp 31) (Operand.tmp 34) 9, type := 4, pos := "law.go:164", after := #[{ on := 2, ground := Ground.data }, { on := 5, ground := Ground.data }], guard := none }) (v := ?vv5) rfl (by kernel_rfl) (by kernel_rfl) (by kernel_rfl) (fun _ _ _ h => h) (Or.inl ⟨by rfl, ?hy5⟩) (HS.out _ K2) ?rest5
  case hy5 =>
    intro V hV
    obtain ⟨y0, y1, y2, y3, y4, y5, y6, y7, y8, y9, y10⟩ := hV
    go_simp
    all_goals rfl
  simp only [Act.put, List.setIfInBounds_toArray, List.set_cons_zero, List.set_cons_succ]
  refine wpAnyH_take (i := 7) (oi := { dst := some 36, op := Op.move (Operand.tmp 35), type := 4, pos := "law.go:164", after := #[{ on := 6, ground := Ground.data }, { on := 5, ground := Ground.chain }], guard := none }) (v := ?vv6) rfl (by kernel_rfl) (by kernel_rfl) (by kernel_rfl) (fun _ _ _ h => h) (Or.inl ⟨by rfl, ?hy6⟩) (HS.out _ K2) ?rest6
  case hy6 =>
    intro V hV
    obtain ⟨y0, y1, y2, y3, y4, y5, y6, y7, y8, y9, y10⟩ := hV
    go_simp
    all_goals rfl
  simp only [Act.put, List.setIfInBounds_toArray, List.set_cons_zero, List.set_cons_succ]
  refine wpAnyH_ready (rs := [8]) (by kernel_rfl) (by simp) (AllReadyH.cons (o := { dst := some 37, op := Op.call { callee := Callee.value (Operand.func 11), args := #[], argTypes := #[] }, type := 4, pos := "law.go:164", after := #[{ on := 7, ground := Ground.chain }, { on := 7, ground := Ground.guard }], guard := some (7, true) }) rfl (fun K' hK => ?_) AllReadyH.nil)
  refine step_call0f _ (by rfl) 11 (by rfl) (enters_of Tryz.func11 (by kernel_rfl) rfl) (H3.out _ K2) ?_
  rintro e w3 ⟨rfl, K3'⟩
  have K3 := K2.and K3'
  clear K3'
  refine ⟨_, rfl, ?_⟩
  refine hK.out _ _ (HS.out _ K3) (fun _ => ?_)
  clear hK K'
  try (simp only [Act.put, List.setIfInBounds_toArray, List.set_cons_zero, List.set_cons_succ])
  refine wpAnyH_take (i := 9) (oi := { dst := some 38, op := Op.pick (Operand.tmp 36) (Operand.tmp 37) (Operand.const (Value.bool false)), type := 4, pos := "law.go:164", after := #[{ on := 7, ground := Ground.data }, { on := 8, ground := Ground.data }], guard := none }) (v := ?vv7) rfl (by kernel_rfl) (by kernel_rfl) (by kernel_rfl) (fun _ _ _ h => h) (Or.inl ⟨by rfl, ?hy7⟩) (HS.out _ K3) ?rest7
  case hy7 =>
    intro V hV
    obtain ⟨y0, y1, y2, y3, y4, y5, y6, y7, y8, y9, y10⟩ := hV
    go_simp
    all_goals rfl
  simp only [Act.put, List.setIfInBounds_toArray, List.set_cons_zero, List.set_cons_succ]
  refine wpAnyH_take (i := 10) (oi := { dst := some 4, op := Op.assign (Operand.tmp 38), type := 4, pos := "law.go:164", after := #[{ on := 9, ground := Ground.data }, { on := 8, ground := Ground.chain }, { on := 0, ground := Ground.phase }, { on := 1, ground := Ground.phase }, { on := 2, ground := Ground.phase }, { on := 3, ground := Ground.phase }, { on := 4, ground := Ground.phase }, { on := 5, ground := Ground.phase }, { on := 6, ground := Ground.phase }, { on := 7, ground := Ground.phase }, { on := 8, ground := Ground.phase }, { on := 9, ground := Ground.phase }], guard := none }) (v := ?vv8) rfl (by kernel_rfl) (by kernel_rfl) (by kernel_rfl) (fun _ _ _ h => h) (Or.inl ⟨by rfl, ?hy8⟩) (HS.out _ K3) ?rest8
  case hy8 =>
    intro V hV
    obtain ⟨y0, y1, y2, y3, y4, y5, y6, y7, y8, y9, y10⟩ := hV
    go_simp
    all_goals rfl
  simp only [Act.put, List.setIfInBounds_toArray, List.set_cons_zero, List.set_cons_succ]
  refine wpAnyH_done (by kernel_rfl) ?_ _
  exact HH.out _ _ _ _ _ _ _ _ _ _ _ K3

end Go.Proofs.YtdbplemcjnlfiaaGreatDoor
