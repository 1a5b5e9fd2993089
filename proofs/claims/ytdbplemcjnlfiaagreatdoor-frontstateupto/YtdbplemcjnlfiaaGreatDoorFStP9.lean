/-
  front.State, its region 9, which draws its order.
-/
import Derived.Test.YtdbplemcjnlfiaaGreatDoorFStK
namespace Go.Proofs.YtdbplemcjnlfiaaGreatDoor
open Go.RowKit

set_option maxRecDepth 100000 in
set_option maxHeartbeats 8000000 in
theorem stP9 {W : World} {ds : List Deferred} {gs g : Nat} {df id : ByteArray} {q1 q2 p1 p2 p3 : List UInt8} {wl : Int} {Q : World → Prop} (hQ : ∀ V, Q V → V.cell? ⟨gs, 0, none⟩ = some (.string df) ∧ V.cell? ⟨gs, 1, none⟩ = some (.string id)) {u0 u1 u2 u4 u5 u6 u7 u9 u10 u11 u12 u13 u14 u15 u16 u17 u18 u19 u20 u21 u22 u23 u24 u25 u26 u27 u28 u29 u30 u31 u32 u33 u34 u35 u36 u37 u38 u39 u40 u41 u42 u43 u44 u45 u46 u47 u48 u49 u50 u51 u52 u53 u54 u55 u56 u57 u58 u59 u60 u61 u62 u63 u64 u65 u66 u67 u68 u69 u70 u71 u72 u73 u74 u75 u76 u77 u78 u79 u80 u81 u82 u83 u84 u85 u86 u87 u88 u89 u90 : Value} (K : Act → World → Prop)
    (hSt : ∀ V, Kept (fun _ => False) W V → V.cell? ⟨gs, 0, none⟩ = some (.string df) ∧ V.cell? ⟨gs, 1, none⟩ = some (.string id))
    (h1 : ∀ V, Kept (fun _ => False) W V → Calls Tryz.prog 7 #[.string id] V fun e w' => e = .returned (.string (mkB q1)) ∧ Kept (fun _ => False) V w')
    (r1 : ∀ V, (Op.stringOp .add ⟨#[123, 34, 102, 108, 111, 119, 34, 58]⟩ (mkB q1)).run Tryz.prog V = .ok (.string (mkB p1)) V)
    (r2 : ∀ V, (Op.stringOp .add (mkB p1) ⟨#[44, 34, 100, 101, 102, 34, 58]⟩).run Tryz.prog V = .ok (.string (mkB p2)) V)
    (h2 : ∀ V, Kept (fun _ => False) W V → Calls Tryz.prog 7 #[.string df] V fun e w' => e = .returned (.string (mkB q2)) ∧ Kept (fun _ => False) V w')
    (r3 : ∀ V, (Op.stringOp .add (mkB p2) (mkB q2)).run Tryz.prog V = .ok (.string (mkB p3)) V)
    (h3 : ∀ V, Kept (fun _ => False) W V → Calls Tryz.prog 18 #[.pointer (some ⟨g, 0, none⟩), .string (mkB p3)] V fun e w' => e = .returned (.tuple #[.int .i64 wl, .nilIface]) ∧ Q w') 
    (h : ∀ (v23 v24 v25 v26 v27 v28 v29 v30 v31 v32 : Value) (w9 : World), Q w9 → K { tmps := #[u0, u1, u2, .pointer (some ⟨gs, 0, none⟩), u4, u5, u6, u7, .pointer (some ⟨g, 0, none⟩), u9, u10, u11, u12, u13, u14, u15, u16, u17, u18, u19, u20, u21, u22, v23, v24, v25, v26, v27, v28, v29, v30, v31, v32, u33, u34, u35, u36, u37, u38, u39, u40, u41, u42, u43, u44, u45, u46, u47, u48, u49, u50, u51, u52, u53, u54, u55, u56, u57, u58, u59, u60, u61, u62, u63, u64, u65, u66, u67, u68, u69, u70, u71, u72, u73, u74, u75, u76, u77, u78, u79, u80, u81, u82, u83, u84, u85, u86, u87, u88, u89, u90], defers := ds } w9) :
    (Code.region 9 #[{ dst := some 23, op := Op.fieldAddr 42 (Operand.tmp 3) 1, type := 0, pos := "reply.go:128", after := #[], guard := none }, { dst := some 24, op := Op.load 9 (Operand.tmp 23), type := 9, pos := "reply.go:128", after := #[{ on := 0, ground := Ground.data }], guard := none }, { dst := some 25, op := Op.call { callee := Callee.value (Operand.func 7), args := #[Operand.tmp 24], argTypes := #[9] }, type := 9, pos := "reply.go:128", after := #[{ on := 1, ground := Ground.data }], guard := none }, { dst := some 26, op := Op.binOp BinOp.add 9 (Operand.const (Value.string { data := #[123, 34, 102, 108, 111, 119, 34, 58] })) (Operand.tmp 25) 9, type := 9, pos := "reply.go:128", after := #[{ on := 2, ground := Ground.data }], guard := none }, { dst := some 27, op := Op.binOp BinOp.add 9 (Operand.tmp 26) (Operand.const (Value.string { data := #[44, 34, 100, 101, 102, 34, 58] })) 9, type := 9, pos := "reply.go:128", after := #[{ on := 3, ground := Ground.data }], guard := none }, { dst := some 28, op := Op.fieldAddr 42 (Operand.tmp 3) 0, type := 0, pos := "reply.go:128", after := #[], guard := none }, { dst := some 29, op := Op.load 9 (Operand.tmp 28), type := 9, pos := "reply.go:128", after := #[{ on := 5, ground := Ground.data }], guard := none }, { dst := some 30, op := Op.call { callee := Callee.value (Operand.func 7), args := #[Operand.tmp 29], argTypes := #[9] }, type := 9, pos := "reply.go:128", after := #[{ on := 6, ground := Ground.data }, { on := 2, ground := Ground.chain }], guard := none }, { dst := some 31, op := Op.binOp BinOp.add 9 (Operand.tmp 27) (Operand.tmp 30) 9, type := 9, pos := "reply.go:128", after := #[{ on := 4, ground := Ground.data }, { on := 7, ground := Ground.data }], guard := none }, { dst := some 32, op := Op.call { callee := Callee.value (Operand.func 18), args := #[Operand.tmp 8, Operand.tmp 31], argTypes := #[49, 9] }, type := 55, pos := "reply.go:128", after := #[{ on := 8, ground := Ground.data }, { on := 7, ground := Ground.chain }], guard := none }] true).wp Tryz.prog (onlyN K) { tmps := #[u0, u1, u2, .pointer (some ⟨gs, 0, none⟩), u4, u5, u6, u7, .pointer (some ⟨g, 0, none⟩), u9, u10, u11, u12, u13, u14, u15, u16, u17, u18, u19, u20, u21, u22, u23, u24, u25, u26, u27, u28, u29, u30, u31, u32, u33, u34, u35, u36, u37, u38, u39, u40, u41, u42, u43, u44, u45, u46, u47, u48, u49, u50, u51, u52, u53, u54, u55, u56, u57, u58, u59, u60, u61, u62, u63, u64, u65, u66, u67, u68, u69, u70, u71, u72, u73, u74, u75, u76, u77, u78, u79, u80, u81, u82, u83, u84, u85, u86, u87, u88, u89, u90], defers := ds } W := by
  have HH := hid h
  have KD := Kept.drew (fun _ => False) W
  have HS := hid hSt
  have hS0 := hSt _ KD
  have H1 := hid h1
  have H2 := hid h2
  have H3 := hid h3
  have HQ := hid hQ
  clear h hSt h1 h2 h3 hQ
  refine wp_region_held_drew (S := fun V => V.cell? ⟨gs, 0, none⟩ = some (.string df) ∧ V.cell? ⟨gs, 1, none⟩ = some (.string id)) (by kernel_rfl) hS0 (fun _ => ?_)
  refine wpAnyH_take (i := 0) (oi := { dst := some 23, op := Op.fieldAddr 42 (Operand.tmp 3) 1, type := 0, pos := "reply.go:128", after := #[], guard := none }) (v := ?vv1) rfl (by kernel_rfl) (by kernel_rfl) (by kernel_rfl) (fun _ _ _ h => h) (Or.inl ⟨by rfl, ?hy1⟩) hS0 ?rest1
  case hy1 =>
    intro V hV
    obtain ⟨y0, y1⟩ := hV
    go_simp
    all_goals rfl
  simp only [Act.put, List.setIfInBounds_toArray, List.set_cons_zero, List.set_cons_succ]
  refine wpAnyH_take (i := 1) (oi := { dst := some 24, op := Op.load 9 (Operand.tmp 23), type := 9, pos := "reply.go:128", after := #[{ on := 0, ground := Ground.data }], guard := none }) (v := ?vv2) rfl (by kernel_rfl) (by kernel_rfl) (by kernel_rfl) (fun _ _ _ h => h) (Or.inl ⟨by rfl, ?hy2⟩) hS0 ?rest2
  case hy2 =>
    intro V hV
    obtain ⟨y0, y1⟩ := hV
    go_simp
    all_goals rfl
  simp only [Act.put, List.setIfInBounds_toArray, List.set_cons_zero, List.set_cons_succ]
  refine wpAnyH_take (i := 5) (oi := { dst := some 28, op := Op.fieldAddr 42 (Operand.tmp 3) 0, type := 0, pos := "reply.go:128", after := #[], guard := none }) (v := ?vv3) rfl (by kernel_rfl) (by kernel_rfl) (by kernel_rfl) (fun _ _ _ h => h) (Or.inl ⟨by rfl, ?hy3⟩) hS0 ?rest3
  case hy3 =>
    intro V hV
    obtain ⟨y0, y1⟩ := hV
    go_simp
    all_goals rfl
  simp only [Act.put, List.setIfInBounds_toArray, List.set_cons_zero, List.set_cons_succ]
  refine wpAnyH_take (i := 6) (oi := { dst := some 29, op := Op.load 9 (Operand.tmp 28), type := 9, pos := "reply.go:128", after := #[{ on := 5, ground := Ground.data }], guard := none }) (v := ?vv4) rfl (by kernel_rfl) (by kernel_rfl) (by kernel_rfl) (fun _ _ _ h => h) (Or.inl ⟨by rfl, ?hy4⟩) hS0 ?rest4
  case hy4 =>
    intro V hV
    obtain ⟨y0, y1⟩ := hV
    go_simp
    all_goals rfl
  simp only [Act.put, List.setIfInBounds_toArray, List.set_cons_zero, List.set_cons_succ]
  refine wpAnyH_ready (rs := [2]) (by kernel_rfl) (by simp) (AllReadyH.cons (o := { dst := some 25, op := Op.call { callee := Callee.value (Operand.func 7), args := #[Operand.tmp 24], argTypes := #[9] }, type := 9, pos := "reply.go:128", after := #[{ on := 1, ground := Ground.data }], guard := none }) rfl (fun K' hK => ?_) AllReadyH.nil)
  refine step_call1f _ (by rfl) 7 _ _ (by rfl) (enters_of Tryz.func7 (by kernel_rfl) rfl) _ (by rfl) (H1.out _ KD) ?_
  rintro e w1 ⟨rfl, K1'⟩
  have K1 := KD.and K1'
  clear K1'
  refine ⟨_, rfl, ?_⟩
  refine hK.out _ _ (HS.out _ K1) (fun _ => ?_)
  clear hK K'
  try (simp only [Act.put, List.setIfInBounds_toArray, List.set_cons_zero, List.set_cons_succ])
  refine wpAnyH_take (i := 3) (oi := { dst := some 26, op := Op.binOp BinOp.add 9 (Operand.const (Value.string { data := #[123, 34, 102, 108, 111, 119, 34, 58] })) (Operand.tmp 25) 9, type := 9, pos := "reply.go:128", after := #[{ on := 2, ground := Ground.data }], guard := none }) (v := ?vv5) rfl (by kernel_rfl) (by kernel_rfl) (by kernel_rfl) (fun _ _ _ h => h) (Or.inl ⟨by rfl, ?hy5⟩) (HS.out _ K1) ?rest5
  case hy5 =>
    intro V hV
    obtain ⟨y0, y1⟩ := hV
    go_simp
    all_goals rfl
  simp only [Act.put, List.setIfInBounds_toArray, List.set_cons_zero, List.set_cons_succ]
  refine wpAnyH_take (i := 4) (oi := { dst := some 27, op := Op.binOp BinOp.add 9 (Operand.tmp 26) (Operand.const (Value.string { data := #[44, 34, 100, 101, 102, 34, 58] })) 9, type := 9, pos := "reply.go:128", after := #[{ on := 3, ground := Ground.data }], guard := none }) (v := ?vv6) rfl (by kernel_rfl) (by kernel_rfl) (by kernel_rfl) (fun _ _ _ h => h) (Or.inl ⟨by rfl, ?hy6⟩) (HS.out _ K1) ?rest6
  case hy6 =>
    intro V hV
    obtain ⟨y0, y1⟩ := hV
    go_simp
    all_goals rfl
  simp only [Act.put, List.setIfInBounds_toArray, List.set_cons_zero, List.set_cons_succ]
  refine wpAnyH_ready (rs := [7]) (by kernel_rfl) (by simp) (AllReadyH.cons (o := { dst := some 30, op := Op.call { callee := Callee.value (Operand.func 7), args := #[Operand.tmp 29], argTypes := #[9] }, type := 9, pos := "reply.go:128", after := #[{ on := 6, ground := Ground.data }, { on := 2, ground := Ground.chain }], guard := none }) rfl (fun K' hK => ?_) AllReadyH.nil)
  refine step_call1f _ (by rfl) 7 _ _ (by rfl) (enters_of Tryz.func7 (by kernel_rfl) rfl) _ (by rfl) (H2.out _ K1) ?_
  rintro e w2 ⟨rfl, K2'⟩
  have K2 := K1.and K2'
  clear K2'
  refine ⟨_, rfl, ?_⟩
  refine hK.out _ _ (HS.out _ K2) (fun _ => ?_)
  clear hK K'
  try (simp only [Act.put, List.setIfInBounds_toArray, List.set_cons_zero, List.set_cons_succ])
  refine wpAnyH_take (i := 8) (oi := { dst := some 31, op := Op.binOp BinOp.add 9 (Operand.tmp 27) (Operand.tmp 30) 9, type := 9, pos := "reply.go:128", after := #[{ on := 4, ground := Ground.data }, { on := 7, ground := Ground.data }], guard := none }) (v := ?vv7) rfl (by kernel_rfl) (by kernel_rfl) (by kernel_rfl) (fun _ _ _ h => h) (Or.inl ⟨by rfl, ?hy7⟩) (HS.out _ K2) ?rest7
  case hy7 =>
    intro V hV
    obtain ⟨y0, y1⟩ := hV
    go_simp
    all_goals rfl
  simp only [Act.put, List.setIfInBounds_toArray, List.set_cons_zero, List.set_cons_succ]
  refine wpAnyH_ready (rs := [9]) (by kernel_rfl) (by simp) (AllReadyH.cons (o := { dst := some 32, op := Op.call { callee := Callee.value (Operand.func 18), args := #[Operand.tmp 8, Operand.tmp 31], argTypes := #[49, 9] }, type := 55, pos := "reply.go:128", after := #[{ on := 8, ground := Ground.data }, { on := 7, ground := Ground.chain }], guard := none }) rfl (fun K' hK => ?_) AllReadyH.nil)
  refine step_call2f _ (by rfl) 18 _ _ _ _ (by rfl) (enters_of Tryz.func18 (by kernel_rfl) rfl) _ _ (by rfl) (by rfl) (H3.out _ K2) ?_
  rintro e w3 ⟨rfl, hq3⟩
  refine ⟨_, rfl, ?_⟩
  refine hK.out _ _ (HQ.out _ hq3) (fun _ => ?_)
  clear hK K'
  try (simp only [Act.put, List.setIfInBounds_toArray, List.set_cons_zero, List.set_cons_succ])
  refine wpAnyH_done (by kernel_rfl) ?_ _
  exact HH.out _ _ _ _ _ _ _ _ _ _ _ hq3

end Go.Proofs.YtdbplemcjnlfiaaGreatDoor
