/-
  beginWait: its regions that draw their order.
-/
import Derived.Test.YtdecceekodpjiaaDoorHBreak
namespace Go.Proofs.YtdecceekodpjiaaDoor
open Go.RowKit

set_option maxRecDepth 100000 in
set_option maxHeartbeats 8000000 in
theorem bw1 {W : World} {sb nb : Nat} {arg : ByteArray} {q0 q1 q2 q3 q4 q5 q6 q7 q8 : Value} {z : Value} {ds : List Deferred} {u1 u2 u4 u5 u6 u7 u8 u9 u10 u11 u12 u13 u14 u15 u16 u17 u18 u19 u20 u21 u22 u23 u24 u25 u26 u27 u28 u29 u30 u31 u32 : Value} (K : Act → World → Prop)
    (x0 : W.cell? ⟨sb, 2, none⟩ = some (q0)) (x1 : W.cell? ⟨sb, 3, none⟩ = some (q1)) (x2 : W.cell? ⟨sb, 4, none⟩ = some (q2)) (x3 : W.cell? ⟨sb, 5, none⟩ = some (q3)) (x4 : W.cell? ⟨sb, 6, none⟩ = some (q4)) (x5 : W.cell? ⟨sb, 7, none⟩ = some (q5)) (x6 : W.cell? ⟨sb, 8, none⟩ = some (q6)) (x7 : W.cell? ⟨sb, 9, none⟩ = some (q7)) (x8 : W.cell? ⟨sb, 10, none⟩ = some (q8)) (x9 : W.cell? ⟨nb, 2, none⟩ = some (.string arg))
    (hC : Calls Tryd.prog 71 #[.agg #[q0, q1, q2, q3, q4, q5, q6, q7, q8], .string arg] W.drew fun e w' => e = .returned z ∧ Kept (fun _ => False) W.drew w')
    (h : ∀ (v5 v6 v7 v8 v9 v10 v11 : Value) (w5 : World), Kept (fun _ => False) W w5 → K { tmps := #[.pointer (some ⟨sb, 0, none⟩), u1, u2, .pointer (some ⟨nb, 0, none⟩), z, v5, v6, v7, v8, v9, v10, v11, u12, u13, u14, u15, u16, u17, u18, u19, u20, u21, u22, u23, u24, u25, u26, u27, u28, u29, u30, u31, u32], defers := ds } w5) :
    (Code.region 1 #[{ dst := some 5, op := Op.move (Operand.tmp 0), type := 70, pos := "goon.go:79", after := #[], guard := none }, { dst := some 6, op := Op.nilCheck (Operand.tmp 5), type := 0, pos := "goon.go:79", after := #[{ on := 0, ground := Ground.data }], guard := none }, { dst := some 7, op := Op.fieldAddr 73 (Operand.tmp 6) 1, type := 0, pos := "goon.go:79", after := #[{ on := 1, ground := Ground.data }], guard := none }, { dst := some 8, op := Op.load 39 (Operand.tmp 7), type := 39, pos := "goon.go:79", after := #[{ on := 2, ground := Ground.data }], guard := none }, { dst := some 9, op := Op.fieldAddr 32 (Operand.tmp 3) 2, type := 0, pos := "goon.go:79", after := #[], guard := none }, { dst := some 10, op := Op.load 9 (Operand.tmp 9), type := 9, pos := "goon.go:79", after := #[{ on := 4, ground := Ground.data }], guard := none }, { dst := some 11, op := Op.call { callee := Callee.value (Operand.func 71), args := #[Operand.tmp 8, Operand.tmp 10], argTypes := #[39, 9] }, type := 3, pos := "goon.go:79", after := #[{ on := 3, ground := Ground.data }, { on := 5, ground := Ground.data }], guard := none }, { dst := some 4, op := Op.assign (Operand.tmp 11), type := 3, pos := "goon.go:79", after := #[{ on := 6, ground := Ground.data }, { on := 6, ground := Ground.chain }, { on := 0, ground := Ground.phase }, { on := 1, ground := Ground.phase }, { on := 2, ground := Ground.phase }, { on := 3, ground := Ground.phase }, { on := 4, ground := Ground.phase }, { on := 5, ground := Ground.phase }, { on := 6, ground := Ground.phase }], guard := none }] true).wp Tryd.prog (onlyN K) { tmps := #[.pointer (some ⟨sb, 0, none⟩), u1, u2, .pointer (some ⟨nb, 0, none⟩), u4, u5, u6, u7, u8, u9, u10, u11, u12, u13, u14, u15, u16, u17, u18, u19, u20, u21, u22, u23, u24, u25, u26, u27, u28, u29, u30, u31, u32], defers := ds } W := by
  have HH : Hid _ := h
  have KD := Kept.drew (fun _ => False) W
  have HS : Hid (∀ V, Kept (fun _ => False) W.drew V → V.cell? ⟨sb, 2, none⟩ = some (q0) ∧ V.cell? ⟨sb, 3, none⟩ = some (q1) ∧ V.cell? ⟨sb, 4, none⟩ = some (q2) ∧ V.cell? ⟨sb, 5, none⟩ = some (q3) ∧ V.cell? ⟨sb, 6, none⟩ = some (q4) ∧ V.cell? ⟨sb, 7, none⟩ = some (q5) ∧ V.cell? ⟨sb, 8, none⟩ = some (q6) ∧ V.cell? ⟨sb, 9, none⟩ = some (q7) ∧ V.cell? ⟨sb, 10, none⟩ = some (q8) ∧ V.cell? ⟨nb, 2, none⟩ = some (.string arg)) := fun V KV => ⟨keepC (KD.and KV) x0 (fun _ _ h => h), keepC (KD.and KV) x1 (fun _ _ h => h), keepC (KD.and KV) x2 (fun _ _ h => h), keepC (KD.and KV) x3 (fun _ _ h => h), keepC (KD.and KV) x4 (fun _ _ h => h), keepC (KD.and KV) x5 (fun _ _ h => h), keepC (KD.and KV) x6 (fun _ _ h => h), keepC (KD.and KV) x7 (fun _ _ h => h), keepC (KD.and KV) x8 (fun _ _ h => h), keepC (KD.and KV) x9 (fun _ _ h => h)⟩
  have HKD : Hid (Kept (fun _ => False) W W.drew) := KD
  have hS0 := HS.out W.drew (Kept.refl _ _)
  clear h KD x0 x1 x2 x3 x4 x5 x6 x7 x8 x9
  refine wp_region_held_drew (S := fun V => V.cell? ⟨sb, 2, none⟩ = some (q0) ∧ V.cell? ⟨sb, 3, none⟩ = some (q1) ∧ V.cell? ⟨sb, 4, none⟩ = some (q2) ∧ V.cell? ⟨sb, 5, none⟩ = some (q3) ∧ V.cell? ⟨sb, 6, none⟩ = some (q4) ∧ V.cell? ⟨sb, 7, none⟩ = some (q5) ∧ V.cell? ⟨sb, 8, none⟩ = some (q6) ∧ V.cell? ⟨sb, 9, none⟩ = some (q7) ∧ V.cell? ⟨sb, 10, none⟩ = some (q8) ∧ V.cell? ⟨nb, 2, none⟩ = some (.string arg)) (by kernel_rfl) hS0 (fun _ => ?_)
  refine wpAnyH_take (i := 0) (oi := { dst := some 5, op := Op.move (Operand.tmp 0), type := 70, pos := "goon.go:79", after := #[], guard := none }) (v := ?vv1) rfl (by kernel_rfl) (by kernel_rfl) (by kernel_rfl) (fun _ _ _ h => h) (Or.inl ⟨by rfl, ?hy1⟩) hS0 ?rest1
  case hy1 =>
    intro V hV
    obtain ⟨y0, y1, y2, y3, y4, y5, y6, y7, y8, y9⟩ := hV
    go_simp
    all_goals rfl
  simp only [Act.put, List.setIfInBounds_toArray, List.set_cons_zero, List.set_cons_succ]
  refine wpAnyH_take (i := 1) (oi := { dst := some 6, op := Op.nilCheck (Operand.tmp 5), type := 0, pos := "goon.go:79", after := #[{ on := 0, ground := Ground.data }], guard := none }) (v := ?vv2) rfl (by kernel_rfl) (by kernel_rfl) (by kernel_rfl) (fun _ _ _ h => h) (Or.inl ⟨by rfl, ?hy2⟩) hS0 ?rest2
  case hy2 =>
    intro V hV
    obtain ⟨y0, y1, y2, y3, y4, y5, y6, y7, y8, y9⟩ := hV
    go_simp
    all_goals rfl
  simp only [Act.put, List.setIfInBounds_toArray, List.set_cons_zero, List.set_cons_succ]
  refine wpAnyH_take (i := 2) (oi := { dst := some 7, op := Op.fieldAddr 73 (Operand.tmp 6) 1, type := 0, pos := "goon.go:79", after := #[{ on := 1, ground := Ground.data }], guard := none }) (v := ?vv3) rfl (by kernel_rfl) (by kernel_rfl) (by kernel_rfl) (fun _ _ _ h => h) (Or.inl ⟨by rfl, ?hy3⟩) hS0 ?rest3
  case hy3 =>
    intro V hV
    obtain ⟨y0, y1, y2, y3, y4, y5, y6, y7, y8, y9⟩ := hV
    go_simp
    all_goals rfl
  simp only [Act.put, List.setIfInBounds_toArray, List.set_cons_zero, List.set_cons_succ]
  refine wpAnyH_take (i := 3) (oi := { dst := some 8, op := Op.load 39 (Operand.tmp 7), type := 39, pos := "goon.go:79", after := #[{ on := 2, ground := Ground.data }], guard := none }) (v := ?vv4) rfl (by kernel_rfl) (by kernel_rfl) (by kernel_rfl) (fun _ _ _ h => h) (Or.inl ⟨by rfl, ?hy4⟩) hS0 ?rest4
  case hy4 =>
    intro V hV
    obtain ⟨y0, y1, y2, y3, y4, y5, y6, y7, y8, y9⟩ := hV
    go_simp
    all_goals rfl
  simp only [Act.put, List.setIfInBounds_toArray, List.set_cons_zero, List.set_cons_succ]
  refine wpAnyH_take (i := 4) (oi := { dst := some 9, op := Op.fieldAddr 32 (Operand.tmp 3) 2, type := 0, pos := "goon.go:79", after := #[], guard := none }) (v := ?vv5) rfl (by kernel_rfl) (by kernel_rfl) (by kernel_rfl) (fun _ _ _ h => h) (Or.inl ⟨by rfl, ?hy5⟩) hS0 ?rest5
  case hy5 =>
    intro V hV
    obtain ⟨y0, y1, y2, y3, y4, y5, y6, y7, y8, y9⟩ := hV
    go_simp
    all_goals rfl
  simp only [Act.put, List.setIfInBounds_toArray, List.set_cons_zero, List.set_cons_succ]
  refine wpAnyH_take (i := 5) (oi := { dst := some 10, op := Op.load 9 (Operand.tmp 9), type := 9, pos := "goon.go:79", after := #[{ on := 4, ground := Ground.data }], guard := none }) (v := ?vv6) rfl (by kernel_rfl) (by kernel_rfl) (by kernel_rfl) (fun _ _ _ h => h) (Or.inl ⟨by rfl, ?hy6⟩) hS0 ?rest6
  case hy6 =>
    intro V hV
    obtain ⟨y0, y1, y2, y3, y4, y5, y6, y7, y8, y9⟩ := hV
    go_simp
    all_goals rfl
  simp only [Act.put, List.setIfInBounds_toArray, List.set_cons_zero, List.set_cons_succ]
  refine wpAnyH_ready (rs := [6]) (by kernel_rfl) (by simp) (AllReadyH.cons (o := { dst := some 11, op := Op.call { callee := Callee.value (Operand.func 71), args := #[Operand.tmp 8, Operand.tmp 10], argTypes := #[39, 9] }, type := 3, pos := "goon.go:79", after := #[{ on := 3, ground := Ground.data }, { on := 5, ground := Ground.data }], guard := none }) rfl (fun K' hK => ?_) AllReadyH.nil)
  refine step_call2 _ (by rfl) 71 _ _ _ _ (by rfl) (enters_of Tryd.func71 (by kernel_rfl) rfl) _ _ (by rfl) (by rfl) hC ?_
  rintro e w5 ⟨rfl, K5⟩
  refine ⟨_, rfl, ?_⟩
  refine hK.out _ _ (HS.out _ K5) (fun _ => ?_)
  clear hK K'
  try (simp only [Act.put, List.setIfInBounds_toArray, List.set_cons_zero, List.set_cons_succ])
  refine wpAnyH_take (i := 7) (oi := { dst := some 4, op := Op.assign (Operand.tmp 11), type := 3, pos := "goon.go:79", after := #[{ on := 6, ground := Ground.data }, { on := 6, ground := Ground.chain }, { on := 0, ground := Ground.phase }, { on := 1, ground := Ground.phase }, { on := 2, ground := Ground.phase }, { on := 3, ground := Ground.phase }, { on := 4, ground := Ground.phase }, { on := 5, ground := Ground.phase }, { on := 6, ground := Ground.phase }], guard := none }) (v := ?vv7) rfl (by kernel_rfl) (by kernel_rfl) (by kernel_rfl) (fun _ _ _ h => h) (Or.inl ⟨by rfl, ?hy7⟩) (HS.out _ K5) ?rest7
  case hy7 =>
    intro V hV
    obtain ⟨y0, y1, y2, y3, y4, y5, y6, y7, y8, y9⟩ := hV
    go_simp
    all_goals rfl
  simp only [Act.put, List.setIfInBounds_toArray, List.set_cons_zero, List.set_cons_succ]
  refine wpAnyH_done (by kernel_rfl) ?_ _
  exact HH.out _ _ _ _ _ _ _ w5 (HKD.out.and K5)

set_option maxRecDepth 100000 in
set_option maxHeartbeats 8000000 in
theorem bw4 {W : World} {R : World → Prop} {sb nb g n7 c7 k : Nat} {x tx : ByteArray} {ds : List Deferred} {u1 u2 u5 u6 u7 u8 u9 u10 u11 u12 u13 u14 u15 u16 u17 u18 u19 u20 u21 u22 u23 u24 u25 u26 u27 u28 u29 u30 u31 u32 : Value} (K : Act → World → Prop)
    (x0 : W.cell? ⟨nb, 0, none⟩ = some (.string x)) (x1 : W.cell? ⟨sb, 9, none⟩ = some (.slice (some ⟨g, 0, none⟩) n7 c7)) (x2 : W.cell? ⟨g, k * 2 + 1, none⟩ = some (.string tx)) (hk : k < n7)
    (hT : Calls Tryd.prog 34 #[.pointer (some ⟨sb, 0, none⟩), .agg #[.int .i64 12, .string x, .string tx, .int .i64 1], .slice none 0 0] W.drew fun e w' => e = .returned (.tuple #[]) ∧ R w')
    (h : ∀ (v19 v20 v21 v22 v23 v24 v25 v26 v27 v28 v29 v30 v31 v32 : Value) (w9 : World), R w9 → K { tmps := #[.pointer (some ⟨sb, 0, none⟩), u1, u2, .pointer (some ⟨nb, 0, none⟩), .int .i64 (k : Nat), u5, u6, u7, u8, u9, u10, u11, u12, u13, u14, u15, u16, u17, u18, v19, v20, v21, v22, v23, v24, v25, v26, v27, v28, v29, v30, v31, v32], defers := ds } w9) :
    (Code.region 4 #[{ dst := some 19, op := Op.move (Operand.tmp 0), type := 70, pos := "goon.go:84", after := #[], guard := none }, { dst := some 20, op := Op.fieldAddr 32 (Operand.tmp 3) 0, type := 0, pos := "goon.go:84", after := #[], guard := none }, { dst := some 21, op := Op.load 9 (Operand.tmp 20), type := 9, pos := "goon.go:84", after := #[{ on := 1, ground := Ground.data }], guard := none }, { dst := some 22, op := Op.move (Operand.tmp 0), type := 70, pos := "goon.go:84", after := #[], guard := none }, { dst := some 23, op := Op.nilCheck (Operand.tmp 22), type := 0, pos := "goon.go:84", after := #[{ on := 3, ground := Ground.data }], guard := none }, { dst := some 24, op := Op.fieldAddr 73 (Operand.tmp 23) 1, type := 0, pos := "goon.go:84", after := #[{ on := 4, ground := Ground.data }], guard := none }, { dst := some 25, op := Op.fieldAddr 39 (Operand.tmp 24) 7, type := 0, pos := "goon.go:84", after := #[{ on := 5, ground := Ground.data }], guard := none }, { dst := some 26, op := Op.load 37 (Operand.tmp 25), type := 37, pos := "goon.go:84", after := #[{ on := 6, ground := Ground.data }], guard := none }, { dst := some 27, op := Op.move (Operand.tmp 4), type := 3, pos := "goon.go:84", after := #[], guard := none }, { dst := some 28, op := Op.indexAddr 37 (Operand.tmp 26) (Operand.tmp 27), type := 0, pos := "goon.go:84", after := #[{ on := 7, ground := Ground.data }, { on := 8, ground := Ground.data }], guard := none }, { dst := some 29, op := Op.fieldAddr 78 (Operand.tmp 28) 1, type := 0, pos := "goon.go:84", after := #[{ on := 9, ground := Ground.data }], guard := none }, { dst := some 30, op := Op.load 9 (Operand.tmp 29), type := 9, pos := "goon.go:84", after := #[{ on := 10, ground := Ground.data }], guard := none }, { dst := some 31, op := Op.build 59 #[(0, Operand.const (Value.int IntKind.i64 12)), (1, Operand.tmp 21), (2, Operand.tmp 30), (3, Operand.const (Value.int IntKind.i64 1))], type := 59, pos := "goon.go:84", after := #[{ on := 2, ground := Ground.data }, { on := 11, ground := Ground.data }], guard := none }, { dst := some 32, op := Op.call { callee := Callee.value (Operand.func 34), args := #[Operand.tmp 19, Operand.tmp 31, Operand.const (Value.slice none 0 0)], argTypes := #[70, 59, 40] }, type := 0, pos := "goon.go:84", after := #[{ on := 0, ground := Ground.data }, { on := 12, ground := Ground.data }], guard := none }] true).wp Tryd.prog (onlyN K) { tmps := #[.pointer (some ⟨sb, 0, none⟩), u1, u2, .pointer (some ⟨nb, 0, none⟩), .int .i64 (k : Nat), u5, u6, u7, u8, u9, u10, u11, u12, u13, u14, u15, u16, u17, u18, u19, u20, u21, u22, u23, u24, u25, u26, u27, u28, u29, u30, u31, u32], defers := ds } W := by
  have HH : Hid _ := h
  have r0 : W.drew.cell? ⟨nb, 0, none⟩ = some (.string x) := x0
  have r1 : W.drew.cell? ⟨sb, 9, none⟩ = some (.slice (some ⟨g, 0, none⟩) n7 c7) := x1
  have r2 : W.drew.cell? ⟨g, k * 2 + 1, none⟩ = some (.string tx) := x2
  have e1 : (k : Int) < (n7 : Int) := by omega
  clear h x0 x1 x2
  go_region_law
    (first
      | (refine step_call3 _ (by rfl) 34 _ _ _ _ _ _ (by rfl) (enters_of Tryd.func34 (by kernel_rfl) rfl) _ _ _ (by rfl) (by rfl) (by rfl) hT ?_; rintro e w9 ⟨rfl, R9⟩; refine ⟨_, rfl, ?_⟩)
      | fail)
  all_goals exact HH.out _ _ _ _ _ _ _ _ _ _ _ _ _ _ w9 R9

end Go.Proofs.YtdecceekodpjiaaDoor
