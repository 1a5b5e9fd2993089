/-
  front.State, its region 19, which draws its order.
-/
import Derived.Test.YtdbplemcjnlfiaaGreatDoorFStK
namespace Go.Proofs.YtdbplemcjnlfiaaGreatDoor
open Go.RowKit

set_option maxRecDepth 100000 in
set_option maxHeartbeats 8000000 in
theorem stP19 {W : World} {ds : List Deferred} {gd gs g bd od ld cd bn on ln cn j : Nat} {ns nt : Int} {nm nx : ByteArray} {q1 : List UInt8} {wl : Int} {Q : World → Prop} (hQ : ∀ V, Q V → V.cell? ⟨bd, od + j * 7, none⟩ = some (.string nm) ∧ V.cell? ⟨bn, on + j * 3, none⟩ = some (.int .i64 ns) ∧ V.cell? ⟨bn, on + j * 3 + 1, none⟩ = some (.int .i64 nt) ∧ V.cell? ⟨bn, on + j * 3 + 2, none⟩ = some (.string nx) ∧ V.cell? ⟨gd, 1, none⟩ = some (.slice (some ⟨bd, od, none⟩) ld cd) ∧ V.cell? ⟨gs, 6, none⟩ = some (.slice (some ⟨bn, on, none⟩) ln cn)) {u0 u1 u4 u5 u6 u7 u10 u11 u12 u13 u14 u15 u16 u17 u18 u19 u20 u21 u22 u23 u24 u25 u26 u27 u28 u29 u30 u31 u32 u33 u34 u35 u36 u37 u38 u39 u40 u41 u42 u43 u44 u45 u46 u47 u48 u49 u50 u51 u52 u53 u54 u55 u56 u57 u58 u59 u60 u61 u62 u63 u64 u65 u66 u67 u68 u69 u70 u71 u72 u73 u74 u75 u76 u77 u78 u79 u80 u81 u82 u83 u84 u85 u86 u87 u88 u89 u90 : Value} (K : Act → World → Prop)
    (hSt : ∀ V, Kept (fun _ => False) W V → V.cell? ⟨bd, od + j * 7, none⟩ = some (.string nm) ∧ V.cell? ⟨bn, on + j * 3, none⟩ = some (.int .i64 ns) ∧ V.cell? ⟨bn, on + j * 3 + 1, none⟩ = some (.int .i64 nt) ∧ V.cell? ⟨bn, on + j * 3 + 2, none⟩ = some (.string nx) ∧ V.cell? ⟨gd, 1, none⟩ = some (.slice (some ⟨bd, od, none⟩) ld cd) ∧ V.cell? ⟨gs, 6, none⟩ = some (.slice (some ⟨bn, on, none⟩) ln cn))
    (h1 : ∀ V, Kept (fun _ => False) W V → Calls Tryz.prog 30 #[.string nm, .agg #[.int .i64 ns, .int .i64 nt, .string nx]] V fun e w' => e = .returned (.string (mkB q1)) ∧ Kept (fun _ => False) V w')
    (h2 : ∀ V, Kept (fun _ => False) W V → Calls Tryz.prog 18 #[.pointer (some ⟨g, 0, none⟩), .string (mkB q1)] V fun e w' => e = .returned (.tuple #[.int .i64 wl, .nilIface]) ∧ Q w') (hj : (j : Int) < (ld : Int)) (hj2 : (j : Int) < (ln : Int))
    (h : ∀ (v75 v76 v77 v78 v79 v80 v81 v82 v83 v84 v85 v86 v87 : Value) (w9 : World), Q w9 → K { tmps := #[u0, u1, .pointer (some ⟨gd, 0, none⟩), .pointer (some ⟨gs, 0, none⟩), u4, u5, u6, u7, .pointer (some ⟨g, 0, none⟩), .int .i64 (j : Int), u10, u11, u12, u13, u14, u15, u16, u17, u18, u19, u20, u21, u22, u23, u24, u25, u26, u27, u28, u29, u30, u31, u32, u33, u34, u35, u36, u37, u38, u39, u40, u41, u42, u43, u44, u45, u46, u47, u48, u49, u50, u51, u52, u53, u54, u55, u56, u57, u58, u59, u60, u61, u62, u63, u64, u65, u66, u67, u68, u69, u70, u71, u72, u73, u74, v75, v76, v77, v78, v79, v80, v81, v82, v83, v84, v85, v86, v87, u88, u89, u90], defers := ds } w9) :
    (Code.region 19 #[{ dst := some 75, op := Op.fieldAddr 38 (Operand.tmp 2) 1, type := 0, pos := "reply.go:137", after := #[], guard := none }, { dst := some 76, op := Op.load 36 (Operand.tmp 75), type := 36, pos := "reply.go:137", after := #[{ on := 0, ground := Ground.data }], guard := none }, { dst := some 77, op := Op.move (Operand.tmp 9), type := 3, pos := "reply.go:137", after := #[], guard := none }, { dst := some 78, op := Op.indexAddr 36 (Operand.tmp 76) (Operand.tmp 77), type := 0, pos := "reply.go:137", after := #[{ on := 1, ground := Ground.data }, { on := 2, ground := Ground.data }], guard := none }, { dst := some 79, op := Op.fieldAddr 71 (Operand.tmp 78) 0, type := 0, pos := "reply.go:137", after := #[{ on := 3, ground := Ground.data }], guard := none }, { dst := some 80, op := Op.load 9 (Operand.tmp 79), type := 9, pos := "reply.go:137", after := #[{ on := 4, ground := Ground.data }], guard := none }, { dst := some 81, op := Op.fieldAddr 42 (Operand.tmp 3) 6, type := 0, pos := "reply.go:137", after := #[], guard := none }, { dst := some 82, op := Op.load 39 (Operand.tmp 81), type := 39, pos := "reply.go:137", after := #[{ on := 6, ground := Ground.data }], guard := none }, { dst := some 83, op := Op.move (Operand.tmp 9), type := 3, pos := "reply.go:137", after := #[], guard := none }, { dst := some 84, op := Op.indexAddr 39 (Operand.tmp 82) (Operand.tmp 83), type := 0, pos := "reply.go:137", after := #[{ on := 7, ground := Ground.data }, { on := 8, ground := Ground.data }], guard := none }, { dst := some 85, op := Op.load 67 (Operand.tmp 84), type := 67, pos := "reply.go:137", after := #[{ on := 9, ground := Ground.data }], guard := none }, { dst := some 86, op := Op.call { callee := Callee.value (Operand.func 30), args := #[Operand.tmp 80, Operand.tmp 85], argTypes := #[9, 67] }, type := 9, pos := "reply.go:137", after := #[{ on := 5, ground := Ground.data }, { on := 10, ground := Ground.data }], guard := none }, { dst := some 87, op := Op.call { callee := Callee.value (Operand.func 18), args := #[Operand.tmp 8, Operand.tmp 86], argTypes := #[49, 9] }, type := 55, pos := "reply.go:137", after := #[{ on := 11, ground := Ground.data }, { on := 11, ground := Ground.chain }], guard := none }] true).wp Tryz.prog (onlyN K) { tmps := #[u0, u1, .pointer (some ⟨gd, 0, none⟩), .pointer (some ⟨gs, 0, none⟩), u4, u5, u6, u7, .pointer (some ⟨g, 0, none⟩), .int .i64 (j : Int), u10, u11, u12, u13, u14, u15, u16, u17, u18, u19, u20, u21, u22, u23, u24, u25, u26, u27, u28, u29, u30, u31, u32, u33, u34, u35, u36, u37, u38, u39, u40, u41, u42, u43, u44, u45, u46, u47, u48, u49, u50, u51, u52, u53, u54, u55, u56, u57, u58, u59, u60, u61, u62, u63, u64, u65, u66, u67, u68, u69, u70, u71, u72, u73, u74, u75, u76, u77, u78, u79, u80, u81, u82, u83, u84, u85, u86, u87, u88, u89, u90], defers := ds } W := by
  have HH := hid h
  have KD := Kept.drew (fun _ => False) W
  have HS := hid hSt
  have hS0 := hSt _ KD
  have H1 := hid h1
  have H2 := hid h2
  have HQ := hid hQ
  clear h hSt h1 h2 hQ
  refine wp_region_held_drew (S := fun V => V.cell? ⟨bd, od + j * 7, none⟩ = some (.string nm) ∧ V.cell? ⟨bn, on + j * 3, none⟩ = some (.int .i64 ns) ∧ V.cell? ⟨bn, on + j * 3 + 1, none⟩ = some (.int .i64 nt) ∧ V.cell? ⟨bn, on + j * 3 + 2, none⟩ = some (.string nx) ∧ V.cell? ⟨gd, 1, none⟩ = some (.slice (some ⟨bd, od, none⟩) ld cd) ∧ V.cell? ⟨gs, 6, none⟩ = some (.slice (some ⟨bn, on, none⟩) ln cn)) (by kernel_rfl) hS0 (fun _ => ?_)
  refine wpAnyH_take (i := 0) (oi := { dst := some 75, op := Op.fieldAddr 38 (Operand.tmp 2) 1, type := 0, pos := "reply.go:137", after := #[], guard := none }) (v := ?vv1) rfl (by kernel_rfl) (by kernel_rfl) (by kernel_rfl) (fun _ _ _ h => h) (Or.inl ⟨by rfl, ?hy1⟩) hS0 ?rest1
  case hy1 =>
    intro V hV
    obtain ⟨y0, y1, y2, y3, y4, y5⟩ := hV
    go_simp
    all_goals rfl
  simp only [Act.put, List.setIfInBounds_toArray, List.set_cons_zero, List.set_cons_succ]
  refine wpAnyH_take (i := 1) (oi := { dst := some 76, op := Op.load 36 (Operand.tmp 75), type := 36, pos := "reply.go:137", after := #[{ on := 0, ground := Ground.data }], guard := none }) (v := ?vv2) rfl (by kernel_rfl) (by kernel_rfl) (by kernel_rfl) (fun _ _ _ h => h) (Or.inl ⟨by rfl, ?hy2⟩) hS0 ?rest2
  case hy2 =>
    intro V hV
    obtain ⟨y0, y1, y2, y3, y4, y5⟩ := hV
    go_simp
    all_goals rfl
  simp only [Act.put, List.setIfInBounds_toArray, List.set_cons_zero, List.set_cons_succ]
  refine wpAnyH_take (i := 2) (oi := { dst := some 77, op := Op.move (Operand.tmp 9), type := 3, pos := "reply.go:137", after := #[], guard := none }) (v := ?vv3) rfl (by kernel_rfl) (by kernel_rfl) (by kernel_rfl) (fun _ _ _ h => h) (Or.inl ⟨by rfl, ?hy3⟩) hS0 ?rest3
  case hy3 =>
    intro V hV
    obtain ⟨y0, y1, y2, y3, y4, y5⟩ := hV
    go_simp
    all_goals rfl
  simp only [Act.put, List.setIfInBounds_toArray, List.set_cons_zero, List.set_cons_succ]
  refine wpAnyH_take (i := 3) (oi := { dst := some 78, op := Op.indexAddr 36 (Operand.tmp 76) (Operand.tmp 77), type := 0, pos := "reply.go:137", after := #[{ on := 1, ground := Ground.data }, { on := 2, ground := Ground.data }], guard := none }) (v := ?vv4) rfl (by kernel_rfl) (by kernel_rfl) (by kernel_rfl) (fun _ _ _ h => h) (Or.inl ⟨by rfl, ?hy4⟩) hS0 ?rest4
  case hy4 =>
    intro V hV
    obtain ⟨y0, y1, y2, y3, y4, y5⟩ := hV
    go_simp
    all_goals rfl
  simp only [Act.put, List.setIfInBounds_toArray, List.set_cons_zero, List.set_cons_succ]
  refine wpAnyH_take (i := 4) (oi := { dst := some 79, op := Op.fieldAddr 71 (Operand.tmp 78) 0, type := 0, pos := "reply.go:137", after := #[{ on := 3, ground := Ground.data }], guard := none }) (v := ?vv5) rfl (by kernel_rfl) (by kernel_rfl) (by kernel_rfl) (fun _ _ _ h => h) (Or.inl ⟨by rfl, ?hy5⟩) hS0 ?rest5
  case hy5 =>
    intro V hV
    obtain ⟨y0, y1, y2, y3, y4, y5⟩ := hV
    go_simp
    all_goals rfl
  simp only [Act.put, List.setIfInBounds_toArray, List.set_cons_zero, List.set_cons_succ]
  refine wpAnyH_take (i := 5) (oi := { dst := some 80, op := Op.load 9 (Operand.tmp 79), type := 9, pos := "reply.go:137", after := #[{ on := 4, ground := Ground.data }], guard := none }) (v := ?vv6) rfl (by kernel_rfl) (by kernel_rfl) (by kernel_rfl) (fun _ _ _ h => h) (Or.inl ⟨by rfl, ?hy6⟩) hS0 ?rest6
  case hy6 =>
    intro V hV
    obtain ⟨y0, y1, y2, y3, y4, y5⟩ := hV
    go_simp
    all_goals rfl
  simp only [Act.put, List.setIfInBounds_toArray, List.set_cons_zero, List.set_cons_succ]
  refine wpAnyH_take (i := 6) (oi := { dst := some 81, op := Op.fieldAddr 42 (Operand.tmp 3) 6, type := 0, pos := "reply.go:137", after := #[], guard := none }) (v := ?vv7) rfl (by kernel_rfl) (by kernel_rfl) (by kernel_rfl) (fun _ _ _ h => h) (Or.inl ⟨by rfl, ?hy7⟩) hS0 ?rest7
  case hy7 =>
    intro V hV
    obtain ⟨y0, y1, y2, y3, y4, y5⟩ := hV
    go_simp
    all_goals rfl
  simp only [Act.put, List.setIfInBounds_toArray, List.set_cons_zero, List.set_cons_succ]
  refine wpAnyH_take (i := 7) (oi := { dst := some 82, op := Op.load 39 (Operand.tmp 81), type := 39, pos := "reply.go:137", after := #[{ on := 6, ground := Ground.data }], guard := none }) (v := ?vv8) rfl (by kernel_rfl) (by kernel_rfl) (by kernel_rfl) (fun _ _ _ h => h) (Or.inl ⟨by rfl, ?hy8⟩) hS0 ?rest8
  case hy8 =>
    intro V hV
    obtain ⟨y0, y1, y2, y3, y4, y5⟩ := hV
    go_simp
    all_goals rfl
  simp only [Act.put, List.setIfInBounds_toArray, List.set_cons_zero, List.set_cons_succ]
  refine wpAnyH_take (i := 8) (oi := { dst := some 83, op := Op.move (Operand.tmp 9), type := 3, pos := "reply.go:137", after := #[], guard := none }) (v := ?vv9) rfl (by kernel_rfl) (by kernel_rfl) (by kernel_rfl) (fun _ _ _ h => h) (Or.inl ⟨by rfl, ?hy9⟩) hS0 ?rest9
  case hy9 =>
    intro V hV
    obtain ⟨y0, y1, y2, y3, y4, y5⟩ := hV
    go_simp
    all_goals rfl
  simp only [Act.put, List.setIfInBounds_toArray, List.set_cons_zero, List.set_cons_succ]
  refine wpAnyH_take (i := 9) (oi := { dst := some 84, op := Op.indexAddr 39 (Operand.tmp 82) (Operand.tmp 83), type := 0, pos := "reply.go:137", after := #[{ on := 7, ground := Ground.data }, { on := 8, ground := Ground.data }], guard := none }) (v := ?vv10) rfl (by kernel_rfl) (by kernel_rfl) (by kernel_rfl) (fun _ _ _ h => h) (Or.inl ⟨by rfl, ?hy10⟩) hS0 ?rest10
  case hy10 =>
    intro V hV
    obtain ⟨y0, y1, y2, y3, y4, y5⟩ := hV
    go_simp
    all_goals rfl
  simp only [Act.put, List.setIfInBounds_toArray, List.set_cons_zero, List.set_cons_succ]
  refine wpAnyH_take (i := 10) (oi := { dst := some 85, op := Op.load 67 (Operand.tmp 84), type := 67, pos := "reply.go:137", after := #[{ on := 9, ground := Ground.data }], guard := none }) (v := ?vv11) rfl (by kernel_rfl) (by kernel_rfl) (by kernel_rfl) (fun _ _ _ h => h) (Or.inl ⟨by rfl, ?hy11⟩) hS0 ?rest11
  case hy11 =>
    intro V hV
    obtain ⟨y0, y1, y2, y3, y4, y5⟩ := hV
    go_simp
    all_goals rfl
  simp only [Act.put, List.setIfInBounds_toArray, List.set_cons_zero, List.set_cons_succ]
  refine wpAnyH_ready (rs := [11]) (by kernel_rfl) (by simp) (AllReadyH.cons (o := { dst := some 86, op := Op.call { callee := Callee.value (Operand.func 30), args := #[Operand.tmp 80, Operand.tmp 85], argTypes := #[9, 67] }, type := 9, pos := "reply.go:137", after := #[{ on := 5, ground := Ground.data }, { on := 10, ground := Ground.data }], guard := none }) rfl (fun K' hK => ?_) AllReadyH.nil)
  refine step_call2f _ (by rfl) 30 _ _ _ _ (by rfl) (enters_of Tryz.func30 (by kernel_rfl) rfl) _ _ (by rfl) (by rfl) (H1.out _ KD) ?_
  rintro e w1 ⟨rfl, K1'⟩
  have K1 := KD.and K1'
  clear K1'
  refine ⟨_, rfl, ?_⟩
  refine hK.out _ _ (HS.out _ K1) (fun _ => ?_)
  clear hK K'
  try (simp only [Act.put, List.setIfInBounds_toArray, List.set_cons_zero, List.set_cons_succ])
  refine wpAnyH_ready (rs := [12]) (by kernel_rfl) (by simp) (AllReadyH.cons (o := { dst := some 87, op := Op.call { callee := Callee.value (Operand.func 18), args := #[Operand.tmp 8, Operand.tmp 86], argTypes := #[49, 9] }, type := 55, pos := "reply.go:137", after := #[{ on := 11, ground := Ground.data }, { on := 11, ground := Ground.chain }], guard := none }) rfl (fun K' hK => ?_) AllReadyH.nil)
  refine step_call2f _ (by rfl) 18 _ _ _ _ (by rfl) (enters_of Tryz.func18 (by kernel_rfl) rfl) _ _ (by rfl) (by rfl) (H2.out _ K1) ?_
  rintro e w2 ⟨rfl, hq2⟩
  refine ⟨_, rfl, ?_⟩
  refine hK.out _ _ (HQ.out _ hq2) (fun _ => ?_)
  clear hK K'
  try (simp only [Act.put, List.setIfInBounds_toArray, List.set_cons_zero, List.set_cons_succ])
  refine wpAnyH_done (by kernel_rfl) ?_ _
  exact HH.out _ _ _ _ _ _ _ _ _ _ _ _ _ _ hq2

end Go.Proofs.YtdbplemcjnlfiaaGreatDoor
