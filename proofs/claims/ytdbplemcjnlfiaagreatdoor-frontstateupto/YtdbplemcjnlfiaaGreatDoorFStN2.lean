/-
  front.node, its region 2, which draws its order.
-/
import Derived.Test.YtdbplemcjnlfiaaGreatDoorFStK
namespace Go.Proofs.YtdbplemcjnlfiaaGreatDoor
open Go.RowKit

set_option maxRecDepth 100000 in
set_option maxHeartbeats 8000000 in
theorem stN2 {W : World} {ds : List Deferred} {gn : Nat} {ns nt : Int} {nx : ByteArray} {a0 : List UInt8} {q1 q2 p1 p2 p3 p4 p5 : List UInt8} {u0 u1 u2 u4 u6 u7 u8 u9 u10 u11 u12 u13 u14 u15 u16 u17 u18 u19 u20 u21 u22 u23 u24 u25 u26 : Value} (K : Act → World → Prop)
    (hSt : ∀ V, Kept (fun _ => False) W V → V.cell? ⟨gn, 0, none⟩ = some (.int .i64 ns) ∧ V.cell? ⟨gn, 1, none⟩ = some (.int .i64 nt) ∧ V.cell? ⟨gn, 2, none⟩ = some (.string nx))
    (r1 : ∀ V, (Op.stringOp .add (mkB a0) ⟨#[44, 34, 116, 114, 121, 34, 58]⟩).run Tryz.prog V = .ok (.string (mkB p1)) V)
    (h1 : ∀ V, Kept (fun _ => False) W V → Calls Tryz.prog 29 #[.int .i64 nt] V fun e w' => e = .returned (.string (mkB q1)) ∧ Kept (fun _ => False) V w')
    (r2 : ∀ V, (Op.stringOp .add (mkB p1) (mkB q1)).run Tryz.prog V = .ok (.string (mkB p2)) V)
    (r3 : ∀ V, (Op.stringOp .add (mkB p2) ⟨#[44, 34, 116, 101, 120, 116, 34, 58]⟩).run Tryz.prog V = .ok (.string (mkB p3)) V)
    (h2 : ∀ V, Kept (fun _ => False) W V → Calls Tryz.prog 7 #[.string nx] V fun e w' => e = .returned (.string (mkB q2)) ∧ Kept (fun _ => False) V w')
    (r4 : ∀ V, (Op.stringOp .add (mkB p3) (mkB q2)).run Tryz.prog V = .ok (.string (mkB p4)) V)
    (r5 : ∀ V, (Op.stringOp .add (mkB p4) ⟨#[125]⟩).run Tryz.prog V = .ok (.string (mkB p5)) V) 
    (h : ∀ (v15 v16 v17 v18 v19 v20 v21 v22 v23 v24 v25 v26 : Value) (w9 : World), Kept (fun _ => False) W w9 → K { tmps := #[u0, u1, u2, .pointer (some ⟨gn, 0, none⟩), .string (mkB p5), .string (mkB a0), u6, u7, u8, u9, u10, u11, u12, u13, u14, v15, v16, v17, v18, v19, v20, v21, v22, v23, v24, v25, v26], defers := ds } w9) :
    (Code.region 2 #[{ dst := some 15, op := Op.move (Operand.tmp 5), type := 9, pos := "reply.go:145", after := #[], guard := none }, { dst := some 16, op := Op.binOp BinOp.add 9 (Operand.tmp 15) (Operand.const (Value.string { data := #[44, 34, 116, 114, 121, 34, 58] })) 9, type := 9, pos := "reply.go:145", after := #[{ on := 0, ground := Ground.data }], guard := none }, { dst := some 17, op := Op.fieldAddr 67 (Operand.tmp 3) 1, type := 0, pos := "reply.go:145", after := #[], guard := none }, { dst := some 18, op := Op.load 3 (Operand.tmp 17), type := 3, pos := "reply.go:145", after := #[{ on := 2, ground := Ground.data }], guard := none }, { dst := some 19, op := Op.call { callee := Callee.value (Operand.func 29), args := #[Operand.tmp 18], argTypes := #[3] }, type := 9, pos := "reply.go:145", after := #[{ on := 3, ground := Ground.data }], guard := none }, { dst := some 20, op := Op.binOp BinOp.add 9 (Operand.tmp 16) (Operand.tmp 19) 9, type := 9, pos := "reply.go:145", after := #[{ on := 1, ground := Ground.data }, { on := 4, ground := Ground.data }], guard := none }, { dst := some 21, op := Op.binOp BinOp.add 9 (Operand.tmp 20) (Operand.const (Value.string { data := #[44, 34, 116, 101, 120, 116, 34, 58] })) 9, type := 9, pos := "reply.go:145", after := #[{ on := 5, ground := Ground.data }], guard := none }, { dst := some 22, op := Op.fieldAddr 67 (Operand.tmp 3) 2, type := 0, pos := "reply.go:145", after := #[], guard := none }, { dst := some 23, op := Op.load 9 (Operand.tmp 22), type := 9, pos := "reply.go:145", after := #[{ on := 7, ground := Ground.data }], guard := none }, { dst := some 24, op := Op.call { callee := Callee.value (Operand.func 7), args := #[Operand.tmp 23], argTypes := #[9] }, type := 9, pos := "reply.go:145", after := #[{ on := 8, ground := Ground.data }, { on := 4, ground := Ground.chain }], guard := none }, { dst := some 25, op := Op.binOp BinOp.add 9 (Operand.tmp 21) (Operand.tmp 24) 9, type := 9, pos := "reply.go:145", after := #[{ on := 6, ground := Ground.data }, { on := 9, ground := Ground.data }], guard := none }, { dst := some 26, op := Op.binOp BinOp.add 9 (Operand.tmp 25) (Operand.const (Value.string { data := #[125] })) 9, type := 9, pos := "reply.go:145", after := #[{ on := 10, ground := Ground.data }], guard := none }, { dst := some 4, op := Op.assign (Operand.tmp 26), type := 9, pos := "reply.go:145", after := #[{ on := 11, ground := Ground.data }, { on := 9, ground := Ground.chain }, { on := 0, ground := Ground.phase }, { on := 1, ground := Ground.phase }, { on := 2, ground := Ground.phase }, { on := 3, ground := Ground.phase }, { on := 4, ground := Ground.phase }, { on := 5, ground := Ground.phase }, { on := 6, ground := Ground.phase }, { on := 7, ground := Ground.phase }, { on := 8, ground := Ground.phase }, { on := 9, ground := Ground.phase }, { on := 10, ground := Ground.phase }, { on := 11, ground := Ground.phase }], guard := none }] true).wp Tryz.prog (onlyN K) { tmps := #[u0, u1, u2, .pointer (some ⟨gn, 0, none⟩), u4, .string (mkB a0), u6, u7, u8, u9, u10, u11, u12, u13, u14, u15, u16, u17, u18, u19, u20, u21, u22, u23, u24, u25, u26], defers := ds } W := by
  have HH := hid h
  have KD := Kept.drew (fun _ => False) W
  have HS := hid hSt
  have hS0 := hSt _ KD
  have H1 := hid h1
  have H2 := hid h2
  clear h hSt h1 h2
  refine wp_region_held_drew (S := fun V => V.cell? ⟨gn, 0, none⟩ = some (.int .i64 ns) ∧ V.cell? ⟨gn, 1, none⟩ = some (.int .i64 nt) ∧ V.cell? ⟨gn, 2, none⟩ = some (.string nx)) (by kernel_rfl) hS0 (fun _ => ?_)
  refine wpAnyH_take (i := 0) (oi := { dst := some 15, op := Op.move (Operand.tmp 5), type := 9, pos := "reply.go:145", after := #[], guard := none }) (v := ?vv1) rfl (by kernel_rfl) (by kernel_rfl) (by kernel_rfl) (fun _ _ _ h => h) (Or.inl ⟨by rfl, ?hy1⟩) hS0 ?rest1
  case hy1 =>
    intro V hV
    obtain ⟨y0, y1, y2⟩ := hV
    go_simp
    all_goals rfl
  simp only [Act.put, List.setIfInBounds_toArray, List.set_cons_zero, List.set_cons_succ]
  refine wpAnyH_take (i := 1) (oi := { dst := some 16, op := Op.binOp BinOp.add 9 (Operand.tmp 15) (Operand.const (Value.string { data := #[44, 34, 116, 114, 121, 34, 58] })) 9, type := 9, pos := "reply.go:145", after := #[{ on := 0, ground := Ground.data }], guard := none }) (v := ?vv2) rfl (by kernel_rfl) (by kernel_rfl) (by kernel_rfl) (fun _ _ _ h => h) (Or.inl ⟨by rfl, ?hy2⟩) hS0 ?rest2
  case hy2 =>
    intro V hV
    obtain ⟨y0, y1, y2⟩ := hV
    go_simp
    all_goals rfl
  simp only [Act.put, List.setIfInBounds_toArray, List.set_cons_zero, List.set_cons_succ]
  refine wpAnyH_take (i := 2) (oi := { dst := some 17, op := Op.fieldAddr 67 (Operand.tmp 3) 1, type := 0, pos := "reply.go:145", after := #[], guard := none }) (v := ?vv3) rfl (by kernel_rfl) (by kernel_rfl) (by kernel_rfl) (fun _ _ _ h => h) (Or.inl ⟨by rfl, ?hy3⟩) hS0 ?rest3
  case hy3 =>
    intro V hV
    obtain ⟨y0, y1, y2⟩ := hV
    go_simp
    all_goals rfl
  simp only [Act.put, List.setIfInBounds_toArray, List.set_cons_zero, List.set_cons_succ]
  refine wpAnyH_take (i := 3) (oi := { dst := some 18, op := Op.load 3 (Operand.tmp 17), type := 3, pos := "reply.go:145", after := #[{ on := 2, ground := Ground.data }], guard := none }) (v := ?vv4) rfl (by kernel_rfl) (by kernel_rfl) (by kernel_rfl) (fun _ _ _ h => h) (Or.inl ⟨by rfl, ?hy4⟩) hS0 ?rest4
  case hy4 =>
    intro V hV
    obtain ⟨y0, y1, y2⟩ := hV
    go_simp
    all_goals rfl
  simp only [Act.put, List.setIfInBounds_toArray, List.set_cons_zero, List.set_cons_succ]
  refine wpAnyH_take (i := 7) (oi := { dst := some 22, op := Op.fieldAddr 67 (Operand.tmp 3) 2, type := 0, pos := "reply.go:145", after := #[], guard := none }) (v := ?vv5) rfl (by kernel_rfl) (by kernel_rfl) (by kernel_rfl) (fun _ _ _ h => h) (Or.inl ⟨by rfl, ?hy5⟩) hS0 ?rest5
  case hy5 =>
    intro V hV
    obtain ⟨y0, y1, y2⟩ := hV
    go_simp
    all_goals rfl
  simp only [Act.put, List.setIfInBounds_toArray, List.set_cons_zero, List.set_cons_succ]
  refine wpAnyH_take (i := 8) (oi := { dst := some 23, op := Op.load 9 (Operand.tmp 22), type := 9, pos := "reply.go:145", after := #[{ on := 7, ground := Ground.data }], guard := none }) (v := ?vv6) rfl (by kernel_rfl) (by kernel_rfl) (by kernel_rfl) (fun _ _ _ h => h) (Or.inl ⟨by rfl, ?hy6⟩) hS0 ?rest6
  case hy6 =>
    intro V hV
    obtain ⟨y0, y1, y2⟩ := hV
    go_simp
    all_goals rfl
  simp only [Act.put, List.setIfInBounds_toArray, List.set_cons_zero, List.set_cons_succ]
  refine wpAnyH_ready (rs := [4]) (by kernel_rfl) (by simp) (AllReadyH.cons (o := { dst := some 19, op := Op.call { callee := Callee.value (Operand.func 29), args := #[Operand.tmp 18], argTypes := #[3] }, type := 9, pos := "reply.go:145", after := #[{ on := 3, ground := Ground.data }], guard := none }) rfl (fun K' hK => ?_) AllReadyH.nil)
  refine step_call1f _ (by rfl) 29 _ _ (by rfl) (enters_of Tryz.func29 (by kernel_rfl) rfl) _ (by rfl) (H1.out _ KD) ?_
  rintro e w1 ⟨rfl, K1'⟩
  have K1 := KD.and K1'
  clear K1'
  refine ⟨_, rfl, ?_⟩
  refine hK.out _ _ (HS.out _ K1) (fun _ => ?_)
  clear hK K'
  try (simp only [Act.put, List.setIfInBounds_toArray, List.set_cons_zero, List.set_cons_succ])
  refine wpAnyH_take (i := 5) (oi := { dst := some 20, op := Op.binOp BinOp.add 9 (Operand.tmp 16) (Operand.tmp 19) 9, type := 9, pos := "reply.go:145", after := #[{ on := 1, ground := Ground.data }, { on := 4, ground := Ground.data }], guard := none }) (v := ?vv7) rfl (by kernel_rfl) (by kernel_rfl) (by kernel_rfl) (fun _ _ _ h => h) (Or.inl ⟨by rfl, ?hy7⟩) (HS.out _ K1) ?rest7
  case hy7 =>
    intro V hV
    obtain ⟨y0, y1, y2⟩ := hV
    go_simp
    all_goals rfl
  simp only [Act.put, List.setIfInBounds_toArray, List.set_cons_zero, List.set_cons_succ]
  refine wpAnyH_take (i := 6) (oi := { dst := some 21, op := Op.binOp BinOp.add 9 (Operand.tmp 20) (Operand.const (Value.string { data := #[44, 34, 116, 101, 120, 116, 34, 58] })) 9, type := 9, pos := "reply.go:145", after := #[{ on := 5, ground := Ground.data }], guard := none }) (v := ?vv8) rfl (by kernel_rfl) (by kernel_rfl) (by kernel_rfl) (fun _ _ _ h => h) (Or.inl ⟨by rfl, ?hy8⟩) (HS.out _ K1) ?rest8
  case hy8 =>
    intro V hV
    obtain ⟨y0, y1, y2⟩ := hV
    go_simp
    all_goals rfl
  simp only [Act.put, List.setIfInBounds_toArray, List.set_cons_zero, List.set_cons_succ]
  refine wpAnyH_ready (rs := [9]) (by kernel_rfl) (by simp) (AllReadyH.cons (o := { dst := some 24, op := Op.call { callee := Callee.value (Operand.func 7), args := #[Operand.tmp 23], argTypes := #[9] }, type := 9, pos := "reply.go:145", after := #[{ on := 8, ground := Ground.data }, { on := 4, ground := Ground.chain }], guard := none }) rfl (fun K' hK => ?_) AllReadyH.nil)
  refine step_call1f _ (by rfl) 7 _ _ (by rfl) (enters_of Tryz.func7 (by kernel_rfl) rfl) _ (by rfl) (H2.out _ K1) ?_
  rintro e w2 ⟨rfl, K2'⟩
  have K2 := K1.and K2'
  clear K2'
  refine ⟨_, rfl, ?_⟩
  refine hK.out _ _ (HS.out _ K2) (fun _ => ?_)
  clear hK K'
  try (simp only [Act.put, List.setIfInBounds_toArray, List.set_cons_zero, List.set_cons_succ])
  refine wpAnyH_take (i := 10) (oi := { dst := some 25, op := Op.binOp BinOp.add 9 (Operand.tmp 21) (Operand.tmp 24) 9, type := 9, pos := "reply.go:145", after := #[{ on := 6, ground := Ground.data }, { on := 9, ground := Ground.data }], guard := none }) (v := ?vv9) rfl (by kernel_rfl) (by kernel_rfl) (by kernel_rfl) (fun _ _ _ h => h) (Or.inl ⟨by rfl, ?hy9⟩) (HS.out _ K2) ?rest9
  case hy9 =>
    intro V hV
    obtain ⟨y0, y1, y2⟩ := hV
    go_simp
    all_goals rfl
  simp only [Act.put, List.setIfInBounds_toArray, List.set_cons_zero, List.set_cons_succ]
  refine wpAnyH_take (i := 11) (oi := { dst := some 26, op := Op.binOp BinOp.add 9 (Operand.tmp 25) (Operand.const (Value.string { data := #[125] })) 9, type := 9, pos := "reply.go:145", after := #[{ on := 10, ground := Ground.data }], guard := none }) (v := ?vv10) rfl (by kernel_rfl) (by kernel_rfl) (by kernel_rfl) (fun _ _ _ h => h) (Or.inl ⟨by rfl, ?hy10⟩) (HS.out _ K2) ?rest10
  case hy10 =>
    intro V hV
    obtain ⟨y0, y1, y2⟩ := hV
    go_simp
    all_goals rfl
  simp only [Act.put, List.setIfInBounds_toArray, List.set_cons_zero, List.set_cons_succ]
  refine wpAnyH_take (i := 12) (oi := { dst := some 4, op := Op.assign (Operand.tmp 26), type := 9, pos := "reply.go:145", after := #[{ on := 11, ground := Ground.data }, { on := 9, ground := Ground.chain }, { on := 0, ground := Ground.phase }, { on := 1, ground := Ground.phase }, { on := 2, ground := Ground.phase }, { on := 3, ground := Ground.phase }, { on := 4, ground := Ground.phase }, { on := 5, ground := Ground.phase }, { on := 6, ground := Ground.phase }, { on := 7, ground := Ground.phase }, { on := 8, ground := Ground.phase }, { on := 9, ground := Ground.phase }, { on := 10, ground := Ground.phase }, { on := 11, ground := Ground.phase }], guard := none }) (v := ?vv11) rfl (by kernel_rfl) (by kernel_rfl) (by kernel_rfl) (fun _ _ _ h => h) (Or.inl ⟨by rfl, ?hy11⟩) (HS.out _ K2) ?rest11
  case hy11 =>
    intro V hV
    obtain ⟨y0, y1, y2⟩ := hV
    go_simp
    all_goals rfl
  simp only [Act.put, List.setIfInBounds_toArray, List.set_cons_zero, List.set_cons_succ]
  refine wpAnyH_done (by kernel_rfl) ?_ _
  exact HH.out _ _ _ _ _ _ _ _ _ _ _ _ _ (K2)

end Go.Proofs.YtdbplemcjnlfiaaGreatDoor
