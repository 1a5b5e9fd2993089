/-
  front.State, its region 12, which draws its order.
-/
import Derived.Test.YtdbplemcjnlfiaaGreatDoorFStK
namespace Go.Proofs.YtdbplemcjnlfiaaGreatDoor
open Go.RowKit

set_option maxRecDepth 100000 in
set_option maxHeartbeats 8000000 in
theorem stP12 {W : World} {ds : List Deferred} {gs g : Nat} {ov : Int} {an : Option Addr} {ln cn : Nat}{lf : Int} {q1 q2 p1 p2 p3 : List UInt8} {wl : Int} {Q : World → Prop} (hQ : ∀ V, Q V → V.cell? ⟨gs, 6, none⟩ = some (.slice an ln cn)) {u0 u1 u2 u4 u6 u7 u9 u10 u11 u12 u13 u14 u15 u16 u17 u18 u19 u20 u21 u22 u23 u24 u25 u26 u27 u28 u29 u30 u31 u32 u33 u34 u35 u36 u37 u38 u39 u40 u41 u42 u43 u44 u45 u46 u47 u48 u49 u50 u51 u52 u53 u54 u55 u56 u57 u58 u59 u60 u61 u62 u63 u64 u65 u66 u67 u68 u69 u70 u71 u72 u73 u74 u75 u76 u77 u78 u79 u80 u81 u82 u83 u84 u85 u86 u87 u88 u89 u90 : Value} (K : Act → World → Prop)
    (hSt : ∀ V, Kept (fun _ => False) W V → V.cell? ⟨gs, 6, none⟩ = some (.slice an ln cn))
    (h1 : ∀ V, Kept (fun _ => False) W V → Calls Tryz.prog 29 #[.int .i64 ov] V fun e w' => e = .returned (.string (mkB q1)) ∧ Kept (fun _ => False) V w')
    (r1 : ∀ V, (Op.stringOp .add ⟨#[44, 34, 111, 118, 101, 114, 34, 58]⟩ (mkB q1)).run Tryz.prog V = .ok (.string (mkB p1)) V)
    (r2 : ∀ V, (Op.stringOp .add (mkB p1) ⟨#[44, 34, 108, 101, 102, 116, 34, 58]⟩).run Tryz.prog V = .ok (.string (mkB p2)) V)
    (h2 : ∀ V, Kept (fun _ => False) W V → Calls Tryz.prog 29 #[.int .i64 lf] V fun e w' => e = .returned (.string (mkB q2)) ∧ Kept (fun _ => False) V w')
    (r3 : ∀ V, (Op.stringOp .add (mkB p2) (mkB q2)).run Tryz.prog V = .ok (.string (mkB p3)) V)
    (h3 : ∀ V, Kept (fun _ => False) W V → Calls Tryz.prog 18 #[.pointer (some ⟨g, 0, none⟩), .string (mkB p3)] V fun e w' => e = .returned (.tuple #[.int .i64 wl, .nilIface]) ∧ Q w') (hsub : IntKind.i64.wrap ((ln : Int) - ov) = lf)
    (h : ∀ (v49 v50 v51 v52 v53 v54 v55 v56 v57 v58 v59 v60 : Value) (w9 : World), Q w9 → K { tmps := #[u0, u1, u2, .pointer (some ⟨gs, 0, none⟩), u4, .int .i64 ov, u6, u7, .pointer (some ⟨g, 0, none⟩), u9, u10, u11, u12, u13, u14, u15, u16, u17, u18, u19, u20, u21, u22, u23, u24, u25, u26, u27, u28, u29, u30, u31, u32, u33, u34, u35, u36, u37, u38, u39, u40, u41, u42, u43, u44, u45, u46, u47, u48, v49, v50, v51, v52, v53, v54, v55, v56, v57, v58, v59, v60, u61, u62, u63, u64, u65, u66, u67, u68, u69, u70, u71, u72, u73, u74, u75, u76, u77, u78, u79, u80, u81, u82, u83, u84, u85, u86, u87, u88, u89, u90], defers := ds } w9) :
    (Code.region 12 #[{ dst := some 49, op := Op.move (Operand.tmp 5), type := 3, pos := "reply.go:131", after := #[], guard := none }, { dst := some 50, op := Op.call { callee := Callee.value (Operand.func 29), args := #[Operand.tmp 49], argTypes := #[3] }, type := 9, pos := "reply.go:131", after := #[{ on := 0, ground := Ground.data }], guard := none }, { dst := some 51, op := Op.binOp BinOp.add 9 (Operand.const (Value.string { data := #[44, 34, 111, 118, 101, 114, 34, 58] })) (Operand.tmp 50) 9, type := 9, pos := "reply.go:131", after := #[{ on := 1, ground := Ground.data }], guard := none }, { dst := some 52, op := Op.binOp BinOp.add 9 (Operand.tmp 51) (Operand.const (Value.string { data := #[44, 34, 108, 101, 102, 116, 34, 58] })) 9, type := 9, pos := "reply.go:131", after := #[{ on := 2, ground := Ground.data }], guard := none }, { dst := some 53, op := Op.fieldAddr 42 (Operand.tmp 3) 6, type := 0, pos := "reply.go:131", after := #[], guard := none }, { dst := some 54, op := Op.load 39 (Operand.tmp 53), type := 39, pos := "reply.go:131", after := #[{ on := 4, ground := Ground.data }], guard := none }, { dst := some 55, op := Op.call { callee := Callee.builtin Builtin.len, args := #[Operand.tmp 54], argTypes := #[39] }, type := 3, pos := "reply.go:131", after := #[{ on := 5, ground := Ground.data }], guard := none }, { dst := some 56, op := Op.move (Operand.tmp 5), type := 3, pos := "reply.go:131", after := #[], guard := none }, { dst := some 57, op := Op.binOp BinOp.sub 3 (Operand.tmp 55) (Operand.tmp 56) 3, type := 3, pos := "reply.go:131", after := #[{ on := 6, ground := Ground.data }, { on := 7, ground := Ground.data }], guard := none }, { dst := some 58, op := Op.call { callee := Callee.value (Operand.func 29), args := #[Operand.tmp 57], argTypes := #[3] }, type := 9, pos := "reply.go:131", after := #[{ on := 8, ground := Ground.data }, { on := 1, ground := Ground.chain }], guard := none }, { dst := some 59, op := Op.binOp BinOp.add 9 (Operand.tmp 52) (Operand.tmp 58) 9, type := 9, pos := "reply.go:131", after := #[{ on := 3, ground := Ground.data }, { on := 9, ground := Ground.data }], guard := none }, { dst := some 60, op := Op.call { callee := Callee.value (Operand.func 18), args := #[Operand.tmp 8, Operand.tmp 59], argTypes := #[49, 9] }, type := 55, pos := "reply.go:131", after := #[{ on := 10, ground := Ground.data }, { on := 9, ground := Ground.chain }], guard := none }] true).wp Tryz.prog (onlyN K) { tmps := #[u0, u1, u2, .pointer (some ⟨gs, 0, none⟩), u4, .int .i64 ov, u6, u7, .pointer (some ⟨g, 0, none⟩), u9, u10, u11, u12, u13, u14, u15, u16, u17, u18, u19, u20, u21, u22, u23, u24, u25, u26, u27, u28, u29, u30, u31, u32, u33, u34, u35, u36, u37, u38, u39, u40, u41, u42, u43, u44, u45, u46, u47, u48, u49, u50, u51, u52, u53, u54, u55, u56, u57, u58, u59, u60, u61, u62, u63, u64, u65, u66, u67, u68, u69, u70, u71, u72, u73, u74, u75, u76, u77, u78, u79, u80, u81, u82, u83, u84, u85, u86, u87, u88, u89, u90], defers := ds } W := by
  have HH := hid h
  have KD := Kept.drew (fun _ => False) W
  have HS := hid hSt
  have hS0 := hSt _ KD
  have H1 := hid h1
  have H2 := hid h2
  have H3 := hid h3
  have HQ := hid hQ
  clear h hSt h1 h2 h3 hQ
  refine wp_region_held_drew (S := fun V => V.cell? ⟨gs, 6, none⟩ = some (.slice an ln cn)) (by kernel_rfl) hS0 (fun _ => ?_)
  refine wpAnyH_take (i := 0) (oi := { dst := some 49, op := Op.move (Operand.tmp 5), type := 3, pos := "reply.go:131", after := #[], guard := none }) (v := ?vv1) rfl (by kernel_rfl) (by kernel_rfl) (by kernel_rfl) (fun _ _ _ h => h) (Or.inl ⟨by rfl, ?hy1⟩) hS0 ?rest1
  case hy1 =>
    intro V hV
    obtain y0 := hV
    go_simp
    all_goals rfl
  simp only [Act.put, List.setIfInBounds_toArray, List.set_cons_zero, List.set_cons_succ]
  refine wpAnyH_take (i := 4) (oi := { dst := some 53, op := Op.fieldAddr 42 (Operand.tmp 3) 6, type := 0, pos := "reply.go:131", after := #[], guard := none }) (v := ?vv2) rfl (by kernel_rfl) (by kernel_rfl) (by kernel_rfl) (fun _ _ _ h => h) (Or.inl ⟨by rfl, ?hy2⟩) hS0 ?rest2
  case hy2 =>
    intro V hV
    obtain y0 := hV
    go_simp
    all_goals rfl
  simp only [Act.put, List.setIfInBounds_toArray, List.set_cons_zero, List.set_cons_succ]
  refine wpAnyH_take (i := 5) (oi := { dst := some 54, op := Op.load 39 (Operand.tmp 53), type := 39, pos := "reply.go:131", after := #[{ on := 4, ground := Ground.data }], guard := none }) (v := ?vv3) rfl (by kernel_rfl) (by kernel_rfl) (by kernel_rfl) (fun _ _ _ h => h) (Or.inl ⟨by rfl, ?hy3⟩) hS0 ?rest3
  case hy3 =>
    intro V hV
    obtain y0 := hV
    go_simp
    all_goals rfl
  simp only [Act.put, List.setIfInBounds_toArray, List.set_cons_zero, List.set_cons_succ]
  refine wpAnyH_take (i := 6) (oi := { dst := some 55, op := Op.call { callee := Callee.builtin Builtin.len, args := #[Operand.tmp 54], argTypes := #[39] }, type := 3, pos := "reply.go:131", after := #[{ on := 5, ground := Ground.data }], guard := none }) (v := ?vv4) rfl (by kernel_rfl) (by kernel_rfl) (by kernel_rfl) (fun _ _ _ h => h) (Or.inl ⟨by rfl, ?hy4⟩) hS0 ?rest4
  case hy4 =>
    intro V hV
    obtain y0 := hV
    go_simp
    all_goals rfl
  simp only [Act.put, List.setIfInBounds_toArray, List.set_cons_zero, List.set_cons_succ]
  refine wpAnyH_take (i := 7) (oi := { dst := some 56, op := Op.move (Operand.tmp 5), type := 3, pos := "reply.go:131", after := #[], guard := none }) (v := ?vv5) rfl (by kernel_rfl) (by kernel_rfl) (by kernel_rfl) (fun _ _ _ h => h) (Or.inl ⟨by rfl, ?hy5⟩) hS0 ?rest5
  case hy5 =>
    intro V hV
    obtain y0 := hV
    go_simp
    all_goals rfl
  simp only [Act.put, List.setIfInBounds_toArray, List.set_cons_zero, List.set_cons_succ]
  refine wpAnyH_take (i := 8) (oi := { dst := some 57, op := Op.binOp BinOp.sub 3 (Operand.tmp 55) (Operand.tmp 56) 3, type := 3, pos := "reply.go:131", after := #[{ on := 6, ground := Ground.data }, { on := 7, ground := Ground.data }], guard := none }) (v := ?vv6) rfl (by kernel_rfl) (by kernel_rfl) (by kernel_rfl) (fun _ _ _ h => h) (Or.inl ⟨by rfl, ?hy6⟩) hS0 ?rest6
  case hy6 =>
    intro V hV
    obtain y0 := hV
    go_simp
    all_goals rfl
  simp only [Act.put, List.setIfInBounds_toArray, List.set_cons_zero, List.set_cons_succ]
  refine wpAnyH_ready (rs := [1]) (by kernel_rfl) (by simp) (AllReadyH.cons (o := { dst := some 50, op := Op.call { callee := Callee.value (Operand.func 29), args := #[Operand.tmp 49], argTypes := #[3] }, type := 9, pos := "reply.go:131", after := #[{ on := 0, ground := Ground.data }], guard := none }) rfl (fun K' hK => ?_) AllReadyH.nil)
  refine step_call1f _ (by rfl) 29 _ _ (by rfl) (enters_of Tryz.func29 (by kernel_rfl) rfl) _ (by rfl) (H1.out _ KD) ?_
  rintro e w1 ⟨rfl, K1'⟩
  have K1 := KD.and K1'
  clear K1'
  refine ⟨_, rfl, ?_⟩
  refine hK.out _ _ (HS.out _ K1) (fun _ => ?_)
  clear hK K'
  try (simp only [Act.put, List.setIfInBounds_toArray, List.set_cons_zero, List.set_cons_succ])
  refine wpAnyH_take (i := 2) (oi := { dst := some 51, op := Op.binOp BinOp.add 9 (Operand.const (Value.string { data := #[44, 34, 111, 118, 101, 114, 34, 58] })) (Operand.tmp 50) 9, type := 9, pos := "reply.go:131", after := #[{ on := 1, ground := Ground.data }], guard := none }) (v := ?vv7) rfl (by kernel_rfl) (by kernel_rfl) (by kernel_rfl) (fun _ _ _ h => h) (Or.inl ⟨by rfl, ?hy7⟩) (HS.out _ K1) ?rest7
  case hy7 =>
    intro V hV
    obtain y0 := hV
    go_simp
    all_goals rfl
  simp only [Act.put, List.setIfInBounds_toArray, List.set_cons_zero, List.set_cons_succ]
  refine wpAnyH_take (i := 3) (oi := { dst := some 52, op := Op.binOp BinOp.add 9 (Operand.tmp 51) (Operand.const (Value.string { data := #[44, 34, 108, 101, 102, 116, 34, 58] })) 9, type := 9, pos := "reply.go:131", after := #[{ on := 2, ground := Ground.data }], guard := none }) (v := ?vv8) rfl (by kernel_rfl) (by kernel_rfl) (by kernel_rfl) (fun _ _ _ h => h) (Or.inl ⟨by rfl, ?hy8⟩) (HS.out _ K1) ?rest8
  case hy8 =>
    intro V hV
    obtain y0 := hV
    go_simp
    all_goals rfl
  simp only [Act.put, List.setIfInBounds_toArray, List.set_cons_zero, List.set_cons_succ]
  refine wpAnyH_ready (rs := [9]) (by kernel_rfl) (by simp) (AllReadyH.cons (o := { dst := some 58, op := Op.call { callee := Callee.value (Operand.func 29), args := #[Operand.tmp 57], argTypes := #[3] }, type := 9, pos := "reply.go:131", after := #[{ on := 8, ground := Ground.data }, { on := 1, ground := Ground.chain }], guard := none }) rfl (fun K' hK => ?_) AllReadyH.nil)
  refine step_call1f _ (by rfl) 29 _ _ (by rfl) (enters_of Tryz.func29 (by kernel_rfl) rfl) _ (by rfl) (H2.out _ K1) ?_
  rintro e w2 ⟨rfl, K2'⟩
  have K2 := K1.and K2'
  clear K2'
  refine ⟨_, rfl, ?_⟩
  refine hK.out _ _ (HS.out _ K2) (fun _ => ?_)
  clear hK K'
  try (simp only [Act.put, List.setIfInBounds_toArray, List.set_cons_zero, List.set_cons_succ])
  refine wpAnyH_take (i := 10) (oi := { dst := some 59, op := Op.binOp BinOp.add 9 (Operand.tmp 52) (Operand.tmp 58) 9, type := 9, pos := "reply.go:131", after := #[{ on := 3, ground := Ground.data }, { on := 9, ground := Ground.data }], guard := none }) (v := ?vv9) rfl (by kernel_rfl) (by kernel_rfl) (by kernel_rfl) (fun _ _ _ h => h) (Or.inl ⟨by rfl, ?hy9⟩) (HS.out _ K2) ?rest9
  case hy9 =>
    intro V hV
    obtain y0 := hV
    go_simp
    all_goals rfl
  simp only [Act.put, List.setIfInBounds_toArray, List.set_cons_zero, List.set_cons_succ]
  refine wpAnyH_ready (rs := [11]) (by kernel_rfl) (by simp) (AllReadyH.cons (o := { dst := some 60, op := Op.call { callee := Callee.value (Operand.func 18), args := #[Operand.tmp 8, Operand.tmp 59], argTypes := #[49, 9] }, type := 55, pos := "reply.go:131", after := #[{ on := 10, ground := Ground.data }, { on := 9, ground := Ground.chain }], guard := none }) rfl (fun K' hK => ?_) AllReadyH.nil)
  refine step_call2f _ (by rfl) 18 _ _ _ _ (by rfl) (enters_of Tryz.func18 (by kernel_rfl) rfl) _ _ (by rfl) (by rfl) (H3.out _ K2) ?_
  rintro e w3 ⟨rfl, hq3⟩
  refine ⟨_, rfl, ?_⟩
  refine hK.out _ _ (HQ.out _ hq3) (fun _ => ?_)
  clear hK K'
  try (simp only [Act.put, List.setIfInBounds_toArray, List.set_cons_zero, List.set_cons_succ])
  refine wpAnyH_done (by kernel_rfl) ?_ _
  exact HH.out _ _ _ _ _ _ _ _ _ _ _ _ _ hq3

end Go.Proofs.YtdbplemcjnlfiaaGreatDoor
