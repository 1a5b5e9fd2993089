/-
  tell: its regions that draw their order.
-/
import Derived.Test.YtdecceekodpjiaaDoorHStep
namespace Go.Proofs.YtdecceekodpjiaaDoor
open Go.RowKit

theorem Tryd.info50 : (Tryd.prog.info? 50).map (fun i => (i.zero, i.size, i.bytes)) = some (some (.agg #[.int .i64 0, .complex .f64 0 0, .string ⟨#[]⟩, .string ⟨#[]⟩, .int .i64 0, .int .i64 0, .int .i64 0, .string ⟨#[]⟩, .string ⟨#[]⟩, .string ⟨#[]⟩, .string ⟨#[]⟩, .string ⟨#[]⟩, .int .i64 0]), 13, 168) := by kernel_rfl

set_option maxRecDepth 100000 in
set_option maxHeartbeats 8000000 in
theorem tl1 {W : World} {R : World → Prop} {sb eb : Nat} {d0 d1 e0 e1 e2 e3 : Value} {r : Bool} {ds : List Deferred} {u1 u2 u3 u5 u6 u7 u8 u9 u10 u11 u12 u13 u14 u15 u16 u17 u18 u19 u20 u21 u22 u23 u24 u25 u26 u27 u28 u29 u30 u31 u32 u33 u34 u35 u36 u37 u38 u39 u40 u41 u42 u43 u44 u45 u46 u47 u48 u49 u50 : Value} (K : Act → World → Prop)
    (x0 : W.cell? ⟨sb, 0, none⟩ = some (d0)) (x1 : W.cell? ⟨sb, 1, none⟩ = some (d1)) (x2 : W.cell? ⟨eb, 0, none⟩ = some (e0)) (x3 : W.cell? ⟨eb, 1, none⟩ = some (e1)) (x4 : W.cell? ⟨eb, 2, none⟩ = some (e2)) (x5 : W.cell? ⟨eb, 3, none⟩ = some (e3))
    (hC : Calls Tryd.prog 46 #[.agg #[d0, d1], .pointer (some ⟨sb, 2, none⟩), .agg #[e0, e1, e2, e3]] W.drew fun e w' => e = .returned (.bool r) ∧ R w') (hR : ∀ V, R V → V.cell? ⟨sb, 0, none⟩ = some (d0) ∧ V.cell? ⟨sb, 1, none⟩ = some (d1) ∧ V.cell? ⟨eb, 0, none⟩ = some (e0) ∧ V.cell? ⟨eb, 1, none⟩ = some (e1) ∧ V.cell? ⟨eb, 2, none⟩ = some (e2) ∧ V.cell? ⟨eb, 3, none⟩ = some (e3))
    (h : ∀ (v8 v9 v10 v11 v12 v13 v14 v15 v16 : Value) (w5 : World), R w5 → K { tmps := #[.pointer (some ⟨sb, 0, none⟩), u1, u2, u3, .pointer (some ⟨eb, 0, none⟩), u5, u6, u7, v8, v9, v10, v11, v12, v13, v14, v15, v16, .bool (!r), u18, u19, u20, u21, u22, u23, u24, u25, u26, u27, u28, u29, u30, u31, u32, u33, u34, u35, u36, u37, u38, u39, u40, u41, u42, u43, u44, u45, u46, u47, u48, u49, u50], defers := ds } w5) :
    (Code.region 1 #[{ dst := some 8, op := Op.move (Operand.tmp 0), type := 70, pos := "step.go:64", after := #[], guard := none }, { dst := some 9, op := Op.nilCheck (Operand.tmp 8), type := 0, pos := "step.go:64", after := #[{ on := 0, ground := Ground.data }], guard := none }, { dst := some 10, op := Op.fieldAddr 73 (Operand.tmp 9) 0, type := 0, pos := "step.go:64", after := #[{ on := 1, ground := Ground.data }], guard := none }, { dst := some 11, op := Op.load 28 (Operand.tmp 10), type := 28, pos := "step.go:64", after := #[{ on := 2, ground := Ground.data }], guard := none }, { dst := some 12, op := Op.move (Operand.tmp 0), type := 70, pos := "step.go:64", after := #[], guard := none }, { dst := some 13, op := Op.nilCheck (Operand.tmp 12), type := 0, pos := "step.go:64", after := #[{ on := 4, ground := Ground.data }], guard := none }, { dst := some 14, op := Op.fieldAddr 73 (Operand.tmp 13) 1, type := 0, pos := "step.go:64", after := #[{ on := 5, ground := Ground.data }], guard := none }, { dst := some 15, op := Op.load 59 (Operand.tmp 4), type := 59, pos := "step.go:64", after := #[], guard := none }, { dst := some 16, op := Op.call { callee := Callee.value (Operand.func 46), args := #[Operand.tmp 11, Operand.tmp 14, Operand.tmp 15], argTypes := #[28, 98, 59] }, type := 4, pos := "step.go:64", after := #[{ on := 3, ground := Ground.data }, { on := 6, ground := Ground.data }, { on := 7, ground := Ground.data }], guard := none }, { dst := some 17, op := Op.unOp UnOp.not 4 (Operand.tmp 16), type := 4, pos := "step.go:64", after := #[{ on := 8, ground := Ground.data }], guard := none }] true).wp Tryd.prog (onlyN K) { tmps := #[.pointer (some ⟨sb, 0, none⟩), u1, u2, u3, .pointer (some ⟨eb, 0, none⟩), u5, u6, u7, u8, u9, u10, u11, u12, u13, u14, u15, u16, u17, u18, u19, u20, u21, u22, u23, u24, u25, u26, u27, u28, u29, u30, u31, u32, u33, u34, u35, u36, u37, u38, u39, u40, u41, u42, u43, u44, u45, u46, u47, u48, u49, u50], defers := ds } W := by
  have HH : Hid _ := h
  have HR : Hid (∀ V, R V → V.cell? ⟨sb, 0, none⟩ = some (d0) ∧ V.cell? ⟨sb, 1, none⟩ = some (d1) ∧ V.cell? ⟨eb, 0, none⟩ = some (e0) ∧ V.cell? ⟨eb, 1, none⟩ = some (e1) ∧ V.cell? ⟨eb, 2, none⟩ = some (e2) ∧ V.cell? ⟨eb, 3, none⟩ = some (e3)) := hR
  have hS0 : W.drew.cell? ⟨sb, 0, none⟩ = some (d0) ∧ W.drew.cell? ⟨sb, 1, none⟩ = some (d1) ∧ W.drew.cell? ⟨eb, 0, none⟩ = some (e0) ∧ W.drew.cell? ⟨eb, 1, none⟩ = some (e1) ∧ W.drew.cell? ⟨eb, 2, none⟩ = some (e2) ∧ W.drew.cell? ⟨eb, 3, none⟩ = some (e3) := ⟨x0, x1, x2, x3, x4, x5⟩
  clear h hR x0 x1 x2 x3 x4 x5
  refine wp_region_held_drew (S := fun V => V.cell? ⟨sb, 0, none⟩ = some (d0) ∧ V.cell? ⟨sb, 1, none⟩ = some (d1) ∧ V.cell? ⟨eb, 0, none⟩ = some (e0) ∧ V.cell? ⟨eb, 1, none⟩ = some (e1) ∧ V.cell? ⟨eb, 2, none⟩ = some (e2) ∧ V.cell? ⟨eb, 3, none⟩ = some (e3)) (by kernel_rfl) hS0 (fun _ => ?_)
  refine wpAnyH_take (i := 0) (oi := { dst := some 8, op := Op.move (Operand.tmp 0), type := 70, pos := "step.go:64", after := #[], guard := none }) (v := ?vv1) rfl (by kernel_rfl) (by kernel_rfl) (by kernel_rfl) (fun _ _ _ h => h) (Or.inl ⟨by rfl, ?hy1⟩) hS0 ?rest1
  case hy1 =>
    intro V hV
    obtain ⟨y0, y1, y2, y3, y4, y5⟩ := hV
    go_simp
    all_goals rfl
  simp only [Act.put, List.setIfInBounds_toArray, List.set_cons_zero, List.set_cons_succ]
  refine wpAnyH_take (i := 1) (oi := { dst := some 9, op := Op.nilCheck (Operand.tmp 8), type := 0, pos := "step.go:64", after := #[{ on := 0, ground := Ground.data }], guard := none }) (v := ?vv2) rfl (by kernel_rfl) (by kernel_rfl) (by kernel_rfl) (fun _ _ _ h => h) (Or.inl ⟨by rfl, ?hy2⟩) hS0 ?rest2
  case hy2 =>
    intro V hV
    obtain ⟨y0, y1, y2, y3, y4, y5⟩ := hV
    go_simp
    all_goals rfl
  simp only [Act.put, List.setIfInBounds_toArray, List.set_cons_zero, List.set_cons_succ]
  refine wpAnyH_take (i := 2) (oi := { dst := some 10, op := Op.fieldAddr 73 (Operand.tmp 9) 0, type := 0, pos := "step.go:64", after := #[{ on := 1, ground := Ground.data }], guard := none }) (v := ?vv3) rfl (by kernel_rfl) (by kernel_rfl) (by kernel_rfl) (fun _ _ _ h => h) (Or.inl ⟨by rfl, ?hy3⟩) hS0 ?rest3
  case hy3 =>
    intro V hV
    obtain ⟨y0, y1, y2, y3, y4, y5⟩ := hV
    go_simp
    all_goals rfl
  simp only [Act.put, List.setIfInBounds_toArray, List.set_cons_zero, List.set_cons_succ]
  refine wpAnyH_take (i := 3) (oi := { dst := some 11, op := Op.load 28 (Operand.tmp 10), type := 28, pos := "step.go:64", after := #[{ on := 2, ground := Ground.data }], guard := none }) (v := ?vv4) rfl (by kernel_rfl) (by kernel_rfl) (by kernel_rfl) (fun _ _ _ h => h) (Or.inl ⟨by rfl, ?hy4⟩) hS0 ?rest4
  case hy4 =>
    intro V hV
    obtain ⟨y0, y1, y2, y3, y4, y5⟩ := hV
    go_simp
    all_goals rfl
  simp only [Act.put, List.setIfInBounds_toArray, List.set_cons_zero, List.set_cons_succ]
  refine wpAnyH_take (i := 4) (oi := { dst := some 12, op := Op.move (Operand.tmp 0), type := 70, pos := "step.go:64", after := #[], guard := none }) (v := ?vv5) rfl (by kernel_rfl) (by kernel_rfl) (by kernel_rfl) (fun _ _ _ h => h) (Or.inl ⟨by rfl, ?hy5⟩) hS0 ?rest5
  case hy5 =>
    intro V hV
    obtain ⟨y0, y1, y2, y3, y4, y5⟩ := hV
    go_simp
    all_goals rfl
  simp only [Act.put, List.setIfInBounds_toArray, List.set_cons_zero, List.set_cons_succ]
  refine wpAnyH_take (i := 5) (oi := { dst := some 13, op := Op.nilCheck (Operand.tmp 12), type := 0, pos := "step.go:64", after := #[{ on := 4, ground := Ground.data }], guard := none }) (v := ?vv6) rfl (by kernel_rfl) (by kernel_rfl) (by kernel_rfl) (fun _ _ _ h => h) (Or.inl ⟨by rfl, ?hy6⟩) hS0 ?rest6
  case hy6 =>
    intro V hV
    obtain ⟨y0, y1, y2, y3, y4, y5⟩ := hV
    go_simp
    all_goals rfl
  simp only [Act.put, List.setIfInBounds_toArray, List.set_cons_zero, List.set_cons_succ]
  refine wpAnyH_take (i := 6) (oi := { dst := some 14, op := Op.fieldAddr 73 (Operand.tmp 13) 1, type := 0, pos := "step.go:64", after := #[{ on := 5, ground := Ground.data }], guard := none }) (v := ?vv7) rfl (by kernel_rfl) (by kernel_rfl) (by kernel_rfl) (fun _ _ _ h => h) (Or.inl ⟨by rfl, ?hy7⟩) hS0 ?rest7
  case hy7 =>
    intro V hV
    obtain ⟨y0, y1, y2, y3, y4, y5⟩ := hV
    go_simp
    all_goals rfl
  simp only [Act.put, List.setIfInBounds_toArray, List.set_cons_zero, List.set_cons_succ]
  refine wpAnyH_take (i := 7) (oi := { dst := some 15, op := Op.load 59 (Operand.tmp 4), type := 59, pos := "step.go:64", after := #[], guard := none }) (v := ?vv8) rfl (by kernel_rfl) (by kernel_rfl) (by kernel_rfl) (fun _ _ _ h => h) (Or.inl ⟨by rfl, ?hy8⟩) hS0 ?rest8
  case hy8 =>
    intro V hV
    obtain ⟨y0, y1, y2, y3, y4, y5⟩ := hV
    go_simp
    all_goals rfl
  simp only [Act.put, List.setIfInBounds_toArray, List.set_cons_zero, List.set_cons_succ]
  refine wpAnyH_ready (rs := [8]) (by kernel_rfl) (by simp) (AllReadyH.cons (o := { dst := some 16, op := Op.call { callee := Callee.value (Operand.func 46), args := #[Operand.tmp 11, Operand.tmp 14, Operand.tmp 15], argTypes := #[28, 98, 59] }, type := 4, pos := "step.go:64", after := #[{ on := 3, ground := Ground.data }, { on := 6, ground := Ground.data }, { on := 7, ground := Ground.data }], guard := none }) rfl (fun K' hK => ?_) AllReadyH.nil)
  refine step_call3 _ (by rfl) 46 _ _ _ _ _ _ (by rfl) (enters_of Tryd.func46 (by kernel_rfl) rfl) _ _ _ (by rfl) (by rfl) (by rfl) hC ?_
  rintro e w5 ⟨rfl, R5⟩
  refine ⟨_, rfl, ?_⟩
  refine hK.out _ _ (HR.out _ R5) (fun _ => ?_)
  clear hK K'
  try (simp only [Act.put, List.setIfInBounds_toArray, List.set_cons_zero, List.set_cons_succ])
  refine wpAnyH_take (i := 9) (oi := { dst := some 17, op := Op.unOp UnOp.not 4 (Operand.tmp 16), type := 4, pos := "step.go:64", after := #[{ on := 8, ground := Ground.data }], guard := none }) (v := ?vv9) rfl (by kernel_rfl) (by kernel_rfl) (by kernel_rfl) (fun _ _ _ h => h) (Or.inl ⟨by rfl, ?hy9⟩) (HR.out _ R5) ?rest9
  case hy9 =>
    intro V hV
    obtain ⟨y0, y1, y2, y3, y4, y5⟩ := hV
    go_simp
    all_goals rfl
  simp only [Act.put, List.setIfInBounds_toArray, List.set_cons_zero, List.set_cons_succ]
  refine wpAnyH_done (by kernel_rfl) ?_ _
  exact HH.out _ _ _ _ _ _ _ _ _ w5 R5

set_option maxRecDepth 100000 in
set_option maxHeartbeats 8000000 in
theorem tl2 {W : World} {sb eb k c7 : Nat} {a7 : Option Addr} {ek ez : Int} {en et : ByteArray} {xs : List Value} {ds : List Deferred} {u1 u2 u3 u5 u6 u7 u8 u9 u10 u11 u12 u13 u14 u15 u16 u17 u18 u19 u20 u21 u22 u23 u24 u25 u26 u27 u28 u29 u30 u31 u32 u33 u34 u35 u36 u37 u38 u39 u40 u41 u42 u43 u44 u45 u46 u47 u48 u49 u50 : Value} (K : Act → World → Prop)
    (x0 : W.cell? ⟨sb, 12, none⟩ = some (.slice a7 k c7)) (xz : W.frozen? ⟨sb, 12, none⟩ = false) (x1 : W.cell? ⟨eb, 0, none⟩ = some (.int .i64 ek)) (x2 : W.cell? ⟨eb, 1, none⟩ = some (.string en)) (x3 : W.cell? ⟨eb, 2, none⟩ = some (.string et)) (x4 : W.cell? ⟨eb, 3, none⟩ = some (.int .i64 ez)) (hne : ∀ g, (Value.slice a7 k c7).ownBlock = some g → g ≠ sb) (hk : k ≤ 1000000000) (hR : W.ownsRow 0 59 4 (.slice a7 k c7) k xs)
    (h : ∀ (v18 v19 v20 v21 v22 v23 v24 v25 v26 v27 : Value) (a4 : Option Addr) (c4 : Nat) (w4 : World), w4.ownsRow 0 59 4 (.slice a4 (k + 1) c4) (k + 1) (xs ++ [.int .i64 ek, .string en, .string et, .int .i64 ez]) → ((Value.slice a4 (k + 1) c4).ownBlock = (Value.slice a7 k c7).ownBlock ∨ ∃ g, (Value.slice a4 (k + 1) c4).ownBlock = some g ∧ W.heap.size ≤ g) → Kept (fun j => (Value.slice a7 k c7).ownBlock = some j) W w4 → K { tmps := #[.pointer (some ⟨sb, 0, none⟩), u1, u2, u3, .pointer (some ⟨eb, 0, none⟩), u5, u6, u7, u8, u9, u10, u11, u12, u13, u14, u15, u16, u17, v18, v19, v20, v21, v22, v23, v24, v25, v26, v27, u28, u29, u30, u31, u32, u33, u34, u35, u36, u37, u38, u39, u40, u41, u42, u43, u44, u45, u46, u47, u48, u49, u50], defers := ds } (w4.setCell ⟨sb, 12, none⟩ (.slice a4 (k + 1) c4))) :
    (Code.region 2 #[{ dst := some 18, op := Op.move (Operand.tmp 0), type := 70, pos := "step.go:67", after := #[], guard := none }, { dst := some 19, op := Op.move (Operand.tmp 0), type := 70, pos := "step.go:67", after := #[], guard := none }, { dst := some 20, op := Op.nilCheck (Operand.tmp 19), type := 0, pos := "step.go:67", after := #[{ on := 1, ground := Ground.data }], guard := none }, { dst := some 21, op := Op.fieldAddr 73 (Operand.tmp 20) 3, type := 0, pos := "step.go:67", after := #[{ on := 2, ground := Ground.data }], guard := none }, { dst := some 22, op := Op.load 35 (Operand.tmp 21), type := 35, pos := "step.go:67", after := #[{ on := 3, ground := Ground.data }], guard := none }, { dst := some 23, op := Op.load 59 (Operand.tmp 4), type := 59, pos := "step.go:67", after := #[], guard := none }, { dst := some 24, op := Op.buildSlice 35 1 #[(0, Operand.tmp 23)], type := 35, pos := "step.go:67", after := #[{ on := 5, ground := Ground.data }], guard := none }, { dst := some 25, op := Op.call { callee := Callee.builtin Builtin.append, args := #[Operand.tmp 22, Operand.tmp 24], argTypes := #[35, 35] }, type := 35, pos := "step.go:67", after := #[{ on := 4, ground := Ground.data }, { on := 6, ground := Ground.data }], guard := none }, { dst := some 26, op := Op.nilCheck (Operand.tmp 18), type := 0, pos := "step.go:67", after := #[{ on := 0, ground := Ground.data }, { on := 0, ground := Ground.phase }, { on := 1, ground := Ground.phase }, { on := 2, ground := Ground.phase }, { on := 3, ground := Ground.phase }, { on := 4, ground := Ground.phase }, { on := 5, ground := Ground.phase }, { on := 6, ground := Ground.phase }, { on := 7, ground := Ground.phase }], guard := none }, { dst := some 27, op := Op.fieldAddr 73 (Operand.tmp 26) 3, type := 0, pos := "step.go:67", after := #[{ on := 8, ground := Ground.data }, { on := 0, ground := Ground.phase }, { on := 1, ground := Ground.phase }, { on := 2, ground := Ground.phase }, { on := 3, ground := Ground.phase }, { on := 4, ground := Ground.phase }, { on := 5, ground := Ground.phase }, { on := 6, ground := Ground.phase }, { on := 7, ground := Ground.phase }], guard := none }, { dst := none, op := Op.store 35 (Operand.tmp 27) (Operand.tmp 25), type := 0, pos := "step.go:67", after := #[{ on := 9, ground := Ground.data }, { on := 7, ground := Ground.data }, { on := 7, ground := Ground.chain }, { on := 0, ground := Ground.phase }, { on := 1, ground := Ground.phase }, { on := 2, ground := Ground.phase }, { on := 3, ground := Ground.phase }, { on := 4, ground := Ground.phase }, { on := 5, ground := Ground.phase }, { on := 6, ground := Ground.phase }, { on := 7, ground := Ground.phase }], guard := none }] true).wp Tryd.prog (onlyN K) { tmps := #[.pointer (some ⟨sb, 0, none⟩), u1, u2, u3, .pointer (some ⟨eb, 0, none⟩), u5, u6, u7, u8, u9, u10, u11, u12, u13, u14, u15, u16, u17, u18, u19, u20, u21, u22, u23, u24, u25, u26, u27, u28, u29, u30, u31, u32, u33, u34, u35, u36, u37, u38, u39, u40, u41, u42, u43, u44, u45, u46, u47, u48, u49, u50], defers := ds } W := by
  obtain ⟨j0, hj0, hy0, hy1, hy2⟩ := info_parts Tryd.info59
  have HH : Hid _ := h
  have KD := Kept.drew (fun j => (Value.slice a7 k c7).ownBlock = some j) W
  have hlt := World.block_lt_of_cell? W _ x0
  have HC : Hid (∀ V, Kept (fun j => (Value.slice a7 k c7).ownBlock = some j) W.drew V → V.cell? ⟨sb, 12, none⟩ = some (.slice a7 k c7) ∧ V.frozen? ⟨sb, 12, none⟩ = false) := fun V KV => by
    have hb := (KD.and KV).block sb hlt (fun e => hne sb e rfl)
    exact ⟨(World.cell?_of_block (w := W) hb).trans x0, by rw [← xz]; unfold World.frozen?; rw [hb]⟩
  have HR : Hid (W.drew.ownsRow 0 59 4 (.slice a7 k c7) k xs) := hR
  have HKD : Hid (Kept (fun j => (Value.slice a7 k c7).ownBlock = some j) W W.drew) := KD
  have r0 : W.drew.cell? ⟨sb, 12, none⟩ = some (.slice a7 k c7) := x0
  have r1 : W.drew.cell? ⟨eb, 0, none⟩ = some (.int .i64 ek) := x1
  have r2 : W.drew.cell? ⟨eb, 1, none⟩ = some (.string en) := x2
  have r3 : W.drew.cell? ⟨eb, 2, none⟩ = some (.string et) := x3
  have r4 : W.drew.cell? ⟨eb, 3, none⟩ = some (.int .i64 ez) := x4
  have r99 : (W.alloc (.cells #[.int .i64 ek, .string en, .string et, .int .i64 ez] 59)).cell? ⟨sb, 12, none⟩ = some (.slice a7 k c7) := keepC (Kept.alloc (fun _ => False) _ _) x0 (fun _ _ h => h)
  clear h KD x0 x1 x2 x3 x4 xz hR
  go_region_law
    (first
      | (refine step_append_sr _ (by rfl) _ _ 35 (by rfl) 0 59 j0 _ 4 48 Tryd.underlying35 hj0 hy0 hy1 hy2 rfl (by decide) (.slice a7 k c7) k xs (by rfl) (HR.out.alloc _) _ (by rfl) 1 [.int .i64 ek, .string en, .string et, .int .i64 ez] (.inl ⟨_, 1, rfl, rfl, World.news_of_block (heap_alloc_new _ _)⟩) (evF_one [⟨ek, en, et, ez⟩]) (by unfold maxLen; omega) (by omega) (Nat.zero_le _) ?_; intro a4 c4 w4 ho4 hg4 _ hl4; have K4 : Kept (fun j => (Value.slice a7 k c7).ownBlock = some j) W.drew w4 := (Kept.alloc _ _ _).and (Kept.grown hg4 (fun j e => e)); obtain ⟨z0, z1⟩ := HC.out w4 K4)
      | fail)
  all_goals exact HH.out _ _ _ _ _ _ _ _ _ _ a4 c4 w4 ho4 (hl4.imp id (fun e => ⟨_, e, by show W.heap.size ≤ (W.alloc _).heap.size; rw [World.size_alloc]; omega⟩)) (HKD.out.and K4)

set_option maxRecDepth 100000 in
set_option maxHeartbeats 8000000 in
theorem tl7 {W : World} {sb tb k c7 : Nat} {a7 : Option Addr} {tk tt ta mk ms : Int} {tf tn mt mf mn ma mx : ByteArray} {xs : List Value} {ds : List Deferred} {u1 u2 u3 u4 u5 u6 u8 u9 u10 u11 u12 u13 u14 u15 u16 u17 u18 u19 u20 u21 u22 u23 u24 u25 u26 u27 u28 u29 u30 u31 u32 u33 u34 u35 u36 u37 u38 u39 u40 u41 u42 u43 u44 u45 u46 u47 u48 u49 u50 : Value} (K : Act → World → Prop)
    (x0 : W.cell? ⟨sb, 13, none⟩ = some (.slice a7 k c7)) (xz : W.frozen? ⟨sb, 13, none⟩ = false) (x1 : W.cell? ⟨tb, 0, none⟩ = some (.int .i64 tk)) (x2 : W.cell? ⟨tb, 1, none⟩ = some (.complex .f64 0 0)) (x3 : W.cell? ⟨tb, 2, none⟩ = some (.string tf)) (x4 : W.cell? ⟨tb, 3, none⟩ = some (.string tn)) (x5 : W.cell? ⟨tb, 4, none⟩ = some (.int .i64 tt)) (x6 : W.cell? ⟨tb, 5, none⟩ = some (.int .i64 ta)) (x7 : W.cell? ⟨tb, 6, none⟩ = some (.int .i64 mk)) (x8 : W.cell? ⟨tb, 7, none⟩ = some (.string mt)) (x9 : W.cell? ⟨tb, 8, none⟩ = some (.string mf)) (x10 : W.cell? ⟨tb, 9, none⟩ = some (.string mn)) (x11 : W.cell? ⟨tb, 10, none⟩ = some (.string ma)) (x12 : W.cell? ⟨tb, 11, none⟩ = some (.string mx)) (x13 : W.cell? ⟨tb, 12, none⟩ = some (.int .i64 ms)) (hne : ∀ g, (Value.slice a7 k c7).ownBlock = some g → g ≠ sb) (hk : k ≤ 1000000000) (hR : W.ownsRow 0 50 13 (.slice a7 k c7) k xs)
    (h : ∀ (v40 v41 v42 v43 v44 v45 v46 v47 v48 v49 : Value) (a4 : Option Addr) (c4 : Nat) (w4 : World), w4.ownsRow 0 50 13 (.slice a4 (k + 1) c4) (k + 1) (xs ++ [.int .i64 tk, .complex .f64 0 0, .string tf, .string tn, .int .i64 tt, .int .i64 ta, .int .i64 mk, .string mt, .string mf, .string mn, .string ma, .string mx, .int .i64 ms]) → ((Value.slice a4 (k + 1) c4).ownBlock = (Value.slice a7 k c7).ownBlock ∨ ∃ g, (Value.slice a4 (k + 1) c4).ownBlock = some g ∧ W.heap.size ≤ g) → Kept (fun j => (Value.slice a7 k c7).ownBlock = some j) W w4 → K { tmps := #[.pointer (some ⟨sb, 0, none⟩), u1, u2, u3, u4, u5, u6, .pointer (some ⟨tb, 0, none⟩), u8, u9, u10, u11, u12, u13, u14, u15, u16, u17, u18, u19, u20, u21, u22, u23, u24, u25, u26, u27, u28, u29, u30, u31, u32, u33, u34, u35, u36, u37, u38, u39, v40, v41, v42, v43, v44, v45, v46, v47, v48, v49, u50], defers := ds } (w4.setCell ⟨sb, 13, none⟩ (.slice a4 (k + 1) c4))) :
    (Code.region 7 #[{ dst := some 40, op := Op.move (Operand.tmp 0), type := 70, pos := "step.go:70", after := #[], guard := none }, { dst := some 41, op := Op.move (Operand.tmp 0), type := 70, pos := "step.go:70", after := #[], guard := none }, { dst := some 42, op := Op.nilCheck (Operand.tmp 41), type := 0, pos := "step.go:70", after := #[{ on := 1, ground := Ground.data }], guard := none }, { dst := some 43, op := Op.fieldAddr 73 (Operand.tmp 42) 4, type := 0, pos := "step.go:70", after := #[{ on := 2, ground := Ground.data }], guard := none }, { dst := some 44, op := Op.load 40 (Operand.tmp 43), type := 40, pos := "step.go:70", after := #[{ on := 3, ground := Ground.data }], guard := none }, { dst := some 45, op := Op.load 50 (Operand.tmp 7), type := 50, pos := "step.go:70", after := #[], guard := none }, { dst := some 46, op := Op.buildSlice 40 1 #[(0, Operand.tmp 45)], type := 40, pos := "step.go:70", after := #[{ on := 5, ground := Ground.data }], guard := none }, { dst := some 47, op := Op.call { callee := Callee.builtin Builtin.append, args := #[Operand.tmp 44, Operand.tmp 46], argTypes := #[40, 40] }, type := 40, pos := "step.go:70", after := #[{ on := 4, ground := Ground.data }, { on := 6, ground := Ground.data }], guard := none }, { dst := some 48, op := Op.nilCheck (Operand.tmp 40), type := 0, pos := "step.go:70", after := #[{ on := 0, ground := Ground.data }, { on := 0, ground := Ground.phase }, { on := 1, ground := Ground.phase }, { on := 2, ground := Ground.phase }, { on := 3, ground := Ground.phase }, { on := 4, ground := Ground.phase }, { on := 5, ground := Ground.phase }, { on := 6, ground := Ground.phase }, { on := 7, ground := Ground.phase }], guard := none }, { dst := some 49, op := Op.fieldAddr 73 (Operand.tmp 48) 4, type := 0, pos := "step.go:70", after := #[{ on := 8, ground := Ground.data }, { on := 0, ground := Ground.phase }, { on := 1, ground := Ground.phase }, { on := 2, ground := Ground.phase }, { on := 3, ground := Ground.phase }, { on := 4, ground := Ground.phase }, { on := 5, ground := Ground.phase }, { on := 6, ground := Ground.phase }, { on := 7, ground := Ground.phase }], guard := none }, { dst := none, op := Op.store 40 (Operand.tmp 49) (Operand.tmp 47), type := 0, pos := "step.go:70", after := #[{ on := 9, ground := Ground.data }, { on := 7, ground := Ground.data }, { on := 7, ground := Ground.chain }, { on := 0, ground := Ground.phase }, { on := 1, ground := Ground.phase }, { on := 2, ground := Ground.phase }, { on := 3, ground := Ground.phase }, { on := 4, ground := Ground.phase }, { on := 5, ground := Ground.phase }, { on := 6, ground := Ground.phase }, { on := 7, ground := Ground.phase }], guard := none }] true).wp Tryd.prog (onlyN K) { tmps := #[.pointer (some ⟨sb, 0, none⟩), u1, u2, u3, u4, u5, u6, .pointer (some ⟨tb, 0, none⟩), u8, u9, u10, u11, u12, u13, u14, u15, u16, u17, u18, u19, u20, u21, u22, u23, u24, u25, u26, u27, u28, u29, u30, u31, u32, u33, u34, u35, u36, u37, u38, u39, u40, u41, u42, u43, u44, u45, u46, u47, u48, u49, u50], defers := ds } W := by
  obtain ⟨j0, hj0, hy0, hy1, hy2⟩ := info_parts Tryd.info50
  have HH : Hid _ := h
  have KD := Kept.drew (fun j => (Value.slice a7 k c7).ownBlock = some j) W
  have hlt := World.block_lt_of_cell? W _ x0
  have HC : Hid (∀ V, Kept (fun j => (Value.slice a7 k c7).ownBlock = some j) W.drew V → V.cell? ⟨sb, 13, none⟩ = some (.slice a7 k c7) ∧ V.frozen? ⟨sb, 13, none⟩ = false) := fun V KV => by
    have hb := (KD.and KV).block sb hlt (fun e => hne sb e rfl)
    exact ⟨(World.cell?_of_block (w := W) hb).trans x0, by rw [← xz]; unfold World.frozen?; rw [hb]⟩
  have HR : Hid (W.drew.ownsRow 0 50 13 (.slice a7 k c7) k xs) := hR
  have HKD : Hid (Kept (fun j => (Value.slice a7 k c7).ownBlock = some j) W W.drew) := KD
  have r0 : W.drew.cell? ⟨sb, 13, none⟩ = some (.slice a7 k c7) := x0
  have r1 : W.drew.cell? ⟨tb, 0, none⟩ = some (.int .i64 tk) := x1
  have r2 : W.drew.cell? ⟨tb, 1, none⟩ = some (.complex .f64 0 0) := x2
  have r3 : W.drew.cell? ⟨tb, 2, none⟩ = some (.string tf) := x3
  have r4 : W.drew.cell? ⟨tb, 3, none⟩ = some (.string tn) := x4
  have r5 : W.drew.cell? ⟨tb, 4, none⟩ = some (.int .i64 tt) := x5
  have r6 : W.drew.cell? ⟨tb, 5, none⟩ = some (.int .i64 ta) := x6
  have r7 : W.drew.cell? ⟨tb, 6, none⟩ = some (.int .i64 mk) := x7
  have r8 : W.drew.cell? ⟨tb, 7, none⟩ = some (.string mt) := x8
  have r9 : W.drew.cell? ⟨tb, 8, none⟩ = some (.string mf) := x9
  have r10 : W.drew.cell? ⟨tb, 9, none⟩ = some (.string mn) := x10
  have r11 : W.drew.cell? ⟨tb, 10, none⟩ = some (.string ma) := x11
  have r12 : W.drew.cell? ⟨tb, 11, none⟩ = some (.string mx) := x12
  have r13 : W.drew.cell? ⟨tb, 12, none⟩ = some (.int .i64 ms) := x13
  have r99 : (W.alloc (.cells #[.int .i64 tk, .complex .f64 0 0, .string tf, .string tn, .int .i64 tt, .int .i64 ta, .int .i64 mk, .string mt, .string mf, .string mn, .string ma, .string mx, .int .i64 ms] 50)).cell? ⟨sb, 13, none⟩ = some (.slice a7 k c7) := keepC (Kept.alloc (fun _ => False) _ _) x0 (fun _ _ h => h)
  clear h KD x0 x1 x2 x3 x4 x5 x6 x7 x8 x9 x10 x11 x12 x13 xz hR
  go_region_law
    (first
      | (refine step_append_sr _ (by rfl) _ _ 40 (by rfl) 0 50 j0 _ 13 168 Tryd.underlying40 hj0 hy0 hy1 hy2 rfl (by decide) (.slice a7 k c7) k xs (by rfl) (HR.out.alloc _) _ (by rfl) 1 [.int .i64 tk, .complex .f64 0 0, .string tf, .string tn, .int .i64 tt, .int .i64 ta, .int .i64 mk, .string mt, .string mf, .string mn, .string ma, .string mx, .int .i64 ms] (.inl ⟨_, 1, rfl, rfl, World.news_of_block (heap_alloc_new _ _)⟩) (tkF_one [⟨tk, tf, tn, tt, ta, ⟨mk, mt, mf, mn, ma, mx, ms⟩⟩]) (by unfold maxLen; omega) (by omega) (Nat.zero_le _) ?_; intro a4 c4 w4 ho4 hg4 _ hl4; have K4 : Kept (fun j => (Value.slice a7 k c7).ownBlock = some j) W.drew w4 := (Kept.alloc _ _ _).and (Kept.grown hg4 (fun j e => e)); obtain ⟨z0, z1⟩ := HC.out w4 K4)
      | fail)
  all_goals exact HH.out _ _ _ _ _ _ _ _ _ _ a4 c4 w4 ho4 (hl4.imp id (fun e => ⟨_, e, by show W.heap.size ≤ (W.alloc _).heap.size; rw [World.size_alloc]; omega⟩)) (HKD.out.and K4)

end Go.Proofs.YtdecceekodpjiaaDoor
