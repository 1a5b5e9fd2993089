/-
  front.node, its region 1, which draws its order.
-/
import Derived.Test.YtdbplemcjnlfiaaGreatDoorFStK
namespace Go.Proofs.YtdbplemcjnlfiaaGreatDoor
open Go.RowKit

set_option maxRecDepth 100000 in
set_option maxHeartbeats 8000000 in
theorem stN1 {W : World} {ds : List Deferred} {gn : Nat} {ns nt : Int} {nm nx : ByteArray} {q1 q2 q3 p1 p2 p3 : List UInt8} {u1 u2 u4 u5 u6 u7 u8 u9 u10 u11 u12 u13 u14 u15 u16 u17 u18 u19 u20 u21 u22 u23 u24 u25 u26 : Value} (K : Act → World → Prop)
    (hSt : ∀ V, Kept (fun _ => False) W V → V.cell? ⟨gn, 0, none⟩ = some (.int .i64 ns) ∧ V.cell? ⟨gn, 1, none⟩ = some (.int .i64 nt) ∧ V.cell? ⟨gn, 2, none⟩ = some (.string nx))
    (h1 : ∀ V, Kept (fun _ => False) W V → Calls Tryz.prog 7 #[.string nm] V fun e w' => e = .returned (.string (mkB q1)) ∧ Kept (fun _ => False) V w')
    (r1 : ∀ V, (Op.stringOp .add ⟨#[123, 34, 110, 97, 109, 101, 34, 58]⟩ (mkB q1)).run Tryz.prog V = .ok (.string (mkB p1)) V)
    (r2 : ∀ V, (Op.stringOp .add (mkB p1) ⟨#[44, 34, 115, 116, 97, 116, 117, 115, 34, 58]⟩).run Tryz.prog V = .ok (.string (mkB p2)) V)
    (h2 : ∀ V, Kept (fun _ => False) W V → Calls Tryz.prog 46 #[.int .i64 ns] V fun e w' => e = .returned (.string (mkB q2)) ∧ Kept (fun _ => False) V w')
    (h3 : ∀ V, Kept (fun _ => False) W V → Calls Tryz.prog 7 #[.string (mkB q2)] V fun e w' => e = .returned (.string (mkB q3)) ∧ Kept (fun _ => False) V w')
    (r3 : ∀ V, (Op.stringOp .add (mkB p2) (mkB q3)).run Tryz.prog V = .ok (.string (mkB p3)) V) 
    (h : ∀ (v6 v7 v8 v9 v10 v11 v12 v13 v14 : Value) (w9 : World), Kept (fun _ => False) W w9 → K { tmps := #[.string nm, u1, u2, .pointer (some ⟨gn, 0, none⟩), u4, .string (mkB p3), v6, v7, v8, v9, v10, v11, v12, v13, v14, u15, u16, u17, u18, u19, u20, u21, u22, u23, u24, u25, u26], defers := ds } w9) :
    (Code.region 1 #[{ dst := some 6, op := Op.move (Operand.tmp 0), type := 9, pos := "reply.go:144", after := #[], guard := none }, { dst := some 7, op := Op.call { callee := Callee.value (Operand.func 7), args := #[Operand.tmp 6], argTypes := #[9] }, type := 9, pos := "reply.go:144", after := #[{ on := 0, ground := Ground.data }], guard := none }, { dst := some 8, op := Op.binOp BinOp.add 9 (Operand.const (Value.string { data := #[123, 34, 110, 97, 109, 101, 34, 58] })) (Operand.tmp 7) 9, type := 9, pos := "reply.go:144", after := #[{ on := 1, ground := Ground.data }], guard := none }, { dst := some 9, op := Op.binOp BinOp.add 9 (Operand.tmp 8) (Operand.const (Value.string { data := #[44, 34, 115, 116, 97, 116, 117, 115, 34, 58] })) 9, type := 9, pos := "reply.go:144", after := #[{ on := 2, ground := Ground.data }], guard := none }, { dst := some 10, op := Op.fieldAddr 67 (Operand.tmp 3) 0, type := 0, pos := "reply.go:144", after := #[], guard := none }, { dst := some 11, op := Op.load 3 (Operand.tmp 10), type := 3, pos := "reply.go:144", after := #[{ on := 4, ground := Ground.data }], guard := none }, { dst := some 12, op := Op.call { callee := Callee.value (Operand.func 46), args := #[Operand.tmp 11], argTypes := #[3] }, type := 9, pos := "reply.go:144", after := #[{ on := 5, ground := Ground.data }, { on := 1, ground := Ground.chain }], guard := none }, { dst := some 13, op := Op.call { callee := Callee.value (Operand.func 7), args := #[Operand.tmp 12], argTypes := #[9] }, type := 9, pos := "reply.go:144", after := #[{ on := 6, ground := Ground.data }, { on := 6, ground := Ground.chain }], guard := none }, { dst := some 14, op := Op.binOp BinOp.add 9 (Operand.tmp 9) (Operand.tmp 13) 9, type := 9, pos := "reply.go:144", after := #[{ on := 3, ground := Ground.data }, { on := 7, ground := Ground.data }], guard := none }, { dst := some 5, op := Op.assign (Operand.tmp 14), type := 9, pos := "reply.go:144", after := #[{ on := 8, ground := Ground.data }, { on := 7, ground := Ground.chain }, { on := 0, ground := Ground.phase }, { on := 1, ground := Ground.phase }, { on := 2, ground := Ground.phase }, { on := 3, ground := Ground.phase }, { on := 4, ground := Ground.phase }, { on := 5, ground := Ground.phase }, { on := 6, ground := Ground.phase }, { on := 7, ground := Ground.phase }, { on := 8, ground := Ground.phase }], guard := none }] true).wp Tryz.prog (onlyN K) { tmps := #[.string nm, u1, u2, .pointer (some ⟨gn, 0, none⟩), u4, u5, u6, u7, u8, u9, u10, u11, u12, u13, u14, u15, u16, u17, u18, u19, u20, u21, u22, u23, u24, u25, u26], defers := ds } W := by
  have HH := hid h
  have KD := Kept.drew (fun _ => False) W
  have HS := hid hSt
  have hS0 := hSt _ KD
  have H1 := hid h1
  have H2 := hid h2
  have H3 := hid h3
  clear h hSt h1 h2 h3
  refine wp_region_held_drew (S := fun V => V.cell? ⟨gn, 0, none⟩ = some (.int .i64 ns) ∧ V.cell? ⟨gn, 1, none⟩ = some (.int .i64 nt) ∧ V.cell? ⟨gn, 2, none⟩ = some (.string nx)) (by kernel_rfl) hS0 (fun _ => ?_)
  refine wpAnyH_take (i := 0) (oi := { dst := some 6, op := Op.move (Operand.tmp 0), type := 9, pos := "reply.go:144", after := #[], guard := none }) (v := ?vv1) rfl (by kernel_rfl) (by kernel_rfl) (by kernel_rfl) (fun _ _ _ h => h) (Or.inl ⟨by rfl, ?hy1⟩) hS0 ?rest1
  case hy1 =>
    intro V hV
    obtain ⟨y0, y1, y2⟩ := hV
    go_simp
    all_goals rfl
  simp only [Act.put, List.setIfInBounds_toArray, List.set_cons_zero, List.set_cons_succ]
  refine wpAnyH_take (i := 4) (oi := { dst := some 10, op := Op.fieldAddr 67 (Operand.tmp 3) 0, type := 0, pos := "reply.go:144", after := #[], guard := none }) (v := ?vv2) rfl (by kernel_rfl) (by kernel_rfl) (by kernel_rfl) (fun _ _ _ h => h) (Or.inl ⟨by rfl, ?hy2⟩) hS0 ?rest2
  case hy2 =>
    intro V hV
    obtain ⟨y0, y1, y2⟩ := hV
    go_simp
    all_goals rfl
  simp only [Act.put, List.setIfInBounds_toArray, List.set_cons_zero, List.set_cons_succ]
  refine wpAnyH_take (i := 5) (oi := { dst := some 11, op := Op.load 3 (Operand.tmp 10), type := 3, pos := "reply.go:144", after := #[{ on := 4, ground := Ground.data }], guard := none }) (v := ?vv3) rfl (by kernel_rfl) (by kernel_rfl) (by kernel_rfl) (fun _ _ _ h => h) (Or.inl ⟨by rfl, ?hy3⟩) hS0 ?rest3
  case hy3 =>
    intro V hV
    obtain ⟨y0, y1, y2⟩ := hV
    go_simp
    all_goals rfl
  simp only [Act.put, List.setIfInBounds_toArray, List.set_cons_zero, List.set_cons_succ]
  refine wpAnyH_ready (rs := [1]) (by kernel_rfl) (by simp) (AllReadyH.cons (o := { dst := some 7, op := Op.call { callee := Callee.value (Operand.func 7), args := #[Operand.tmp 6], argTypes := #[9] }, type := 9, pos := "reply.go:144", after := #[{ on := 0, ground := Ground.data }], guard := none }) rfl (fun K' hK => ?_) AllReadyH.nil)
  refine step_call1f _ (by rfl) 7 _ _ (by rfl) (enters_of Tryz.func7 (by kernel_rfl) rfl) _ (by rfl) (H1.out _ KD) ?_
  rintro e w1 ⟨rfl, K1'⟩
  have K1 := KD.and K1'
  clear K1'
  refine ⟨_, rfl, ?_⟩
  refine hK.out _ _ (HS.out _ K1) (fun _ => ?_)
  clear hK K'
  try (simp only [Act.put, List.setIfInBounds_toArray, List.set_cons_zero, List.set_cons_succ])
  refine wpAnyH_take (i := 2) (oi := { dst := some 8, op := Op.binOp BinOp.add 9 (Operand.const (Value.string { data := #[123, 34, 110, 97, 109, 101, 34, 58] })) (Operand.tmp 7) 9, type := 9, pos := "reply.go:144", after := #[{ on := 1, ground := Ground.data }], guard := none }) (v := ?vv4) rfl (by kernel_rfl) (by kernel_rfl) (by kernel_rfl) (fun _ _ _ h => h) (Or.inl ⟨by rfl, ?hy4⟩) (HS.out _ K1) ?rest4
  case hy4 =>
    intro V hV
    obtain ⟨y0, y1, y2⟩ := hV
    go_simp
    all_goals rfl
  simp only [Act.put, List.setIfInBounds_toArray, List.set_cons_zero, List.set_cons_succ]
  refine wpAnyH_take (i := 3) (oi := { dst := some 9, op := Op.binOp BinOp.add 9 (Operand.tmp 8) (Operand.const (Value.string { data := #[44, 34, 115, 116, 97, 116, 117, 115, 34, 58] })) 9, type := 9, pos := "reply.go:144", after := #[{ on := 2, ground := Ground.data }], guard := none }) (v := ?vv5) rfl (by kernel_rfl) (by kernel_rfl) (by kernel_rfl) (fun _ _ _ h => h) (Or.inl ⟨by rfl, ?hy5⟩) (HS.out _ K1) ?rest5
  case hy5 =>
    intro V hV
    obtain ⟨y0, y1, y2⟩ := hV
    go_simp
    all_goals rfl
  simp only [Act.put, List.setIfInBounds_toArray, List.set_cons_zero, List.set_cons_succ]
  refine wpAnyH_ready (rs := [6]) (by kernel_rfl) (by simp) (AllReadyH.cons (o := { dst := some 12, op := Op.call { callee := Callee.value (Operand.func 46), args := #[Operand.tmp 11], argTypes := #[3] }, type := 9, pos := "reply.go:144", after := #[{ on := 5, ground := Ground.data }, { on := 1, ground := Ground.chain }], guard := none }) rfl (fun K' hK => ?_) AllReadyH.nil)
  refine step_call1f _ (by rfl) 46 _ _ (by rfl) (enters_of Tryz.func46 (by kernel_rfl) rfl) _ (by rfl) (H2.out _ K1) ?_
  rintro e w2 ⟨rfl, K2'⟩
  have K2 := K1.and K2'
  clear K2'
  refine ⟨_, rfl, ?_⟩
  refine hK.out _ _ (HS.out _ K2) (fun _ => ?_)
  clear hK K'
  try (simp only [Act.put, List.setIfInBounds_toArray, List.set_cons_zero, List.set_cons_succ])
  refine wpAnyH_ready (rs := [7]) (by kernel_rfl) (by simp) (AllReadyH.cons (o := { dst := some 13, op := Op.call { callee := Callee.value (Operand.func 7), args := #[Operand.tmp 12], argTypes := #[9] }, type := 9, pos := "reply.go:144", after := #[{ on := 6, ground := Ground.data }, { on := 6, ground := Ground.chain }], guard := none }) rfl (fun K' hK => ?_) AllReadyH.nil)
  refine step_call1f _ (by rfl) 7 _ _ (by rfl) (enters_of Tryz.func7 (by kernel_rfl) rfl) _ (by rfl) (H3.out _ K2) ?_
  rintro e w3 ⟨rfl, K3'⟩
  have K3 := K2.and K3'
  clear K3'
  refine ⟨_, rfl, ?_⟩
  refine hK.out _ _ (HS.out _ K3) (fun _ => ?_)
  clear hK K'
  try (simp only [Act.put, List.setIfInBounds_toArray, List.set_cons_zero, List.set_cons_succ])
  refine wpAnyH_take (i := 8) (oi := { dst := some 14, op := Op.binOp BinOp.add 9 (Operand.tmp 9) (Operand.tmp 13) 9, type := 9, pos := "reply.go:144", after := #[{ on := 3, ground := Ground.data }, { on := 7, ground := Ground.data }], guard := none }) (v := ?vv6) rfl (by kernel_rfl) (by kernel_rfl) (by kernel_rfl) (fun _ _ _ h => h) (Or.inl ⟨by rfl, ?hy6⟩) (HS.out _ K3) ?rest6
  case hy6 =>
    intro V hV
    obtain ⟨y0, y1, y2⟩ := hV
    go_simp
    all_goals rfl
  simp only [Act.put, List.setIfInBounds_toArray, List.set_cons_zero, List.set_cons_succ]
  refine wpAnyH_take (i := 9) (oi := { dst := some 5, op := Op.assign (Operand.tmp 14), type := 9, pos := "reply.go:144", after := #[{ on := 8, ground := Ground.data }, { on := 7, ground := Ground.chain }, { on := 0, ground := Ground.phase }, { on := 1, ground := Ground.phase }, { on := 2, ground := Ground.phase }, { on := 3, ground := Ground.phase }, { on := 4, ground := Ground.phase }, { on := 5, ground := Ground.phase }, { on := 6, ground := Ground.phase }, { on := 7, ground := Ground.phase }, { on := 8, ground := Ground.phase }], guard := none }) (v := ?vv7) rfl (by kernel_rfl) (by kernel_rfl) (by kernel_rfl) (fun _ _ _ h => h) (Or.inl ⟨by rfl, ?hy7⟩) (HS.out _ K3) ?rest7
  case hy7 =>
    intro V hV
    obtain ⟨y0, y1, y2⟩ := hV
    go_simp
    all_goals rfl
  simp only [Act.put, List.setIfInBounds_toArray, List.set_cons_zero, List.set_cons_succ]
  refine wpAnyH_done (by kernel_rfl) ?_ _
  exact HH.out _ _ _ _ _ _ _ _ _ _ (K3)

end Go.Proofs.YtdbplemcjnlfiaaGreatDoor
