/-
  end: its regions that draw their order.
-/
import Derived.Test.YtfjekjbkifmpfaaDoorG12
namespace Go.Proofs.YtfjekjbkifmpfaaDoor
open Go.RowKit

set_option maxRecDepth 100000 in
set_option maxHeartbeats 8000000 in
theorem en1 {W : World} {sb : Nat} {d0 d1 : Value} {q0 q1 q2 q3 q4 q5 q6 q7 q8 : Value} {z : Value} {ds : List Deferred} {u1 u2 u3 u4 u5 u6 u7 u8 u9 u10 u11 u12 u13 u14 u15 u16 u17 u18 u19 u20 u21 u22 u23 u24 u25 u26 u27 u28 u29 u30 u31 u32 u33 u34 u35 u36 u37 u38 u39 u40 u41 u42 u43 u44 u45 u46 u47 u48 u49 u50 u51 u52 u53 u54 u55 u56 u57 u58 u59 u60 u61 u62 u63 u64 u65 u66 u67 u68 u69 u70 u71 u72 u73 u74 u75 u76 u77 u78 u79 u80 u81 u82 u83 u84 u85 u86 u87 : Value} (K : Act → World → Prop)
    (x0 : W.cell? ⟨sb, 0, none⟩ = some (d0)) (x1 : W.cell? ⟨sb, 1, none⟩ = some (d1)) (x2 : W.cell? ⟨sb, 2, none⟩ = some (q0)) (x3 : W.cell? ⟨sb, 3, none⟩ = some (q1)) (x4 : W.cell? ⟨sb, 4, none⟩ = some (q2)) (x5 : W.cell? ⟨sb, 5, none⟩ = some (q3)) (x6 : W.cell? ⟨sb, 6, none⟩ = some (q4)) (x7 : W.cell? ⟨sb, 7, none⟩ = some (q5)) (x8 : W.cell? ⟨sb, 8, none⟩ = some (q6)) (x9 : W.cell? ⟨sb, 9, none⟩ = some (q7)) (x10 : W.cell? ⟨sb, 10, none⟩ = some (q8))
    (hC : Calls Tryd.prog 44 #[.agg #[d0, d1], .agg #[q0, q1, q2, q3, q4, q5, q6, q7, q8]] W.drew fun e w' => e = .returned z ∧ Kept (fun _ => False) W.drew w')
    (h : ∀ (v9 v10 v11 v12 v13 v14 v15 v16 : Value) (w5 : World), Kept (fun _ => False) W w5 → K { tmps := #[.pointer (some ⟨sb, 0, none⟩), u1, u2, u3, u4, u5, u6, u7, u8, v9, v10, v11, v12, v13, v14, v15, v16, z, .int .i64 0, u19, u20, u21, u22, u23, u24, u25, u26, u27, u28, u29, u30, u31, u32, u33, u34, u35, u36, u37, u38, u39, u40, u41, u42, u43, u44, u45, u46, u47, u48, u49, u50, u51, u52, u53, u54, u55, u56, u57, u58, u59, u60, u61, u62, u63, u64, u65, u66, u67, u68, u69, u70, u71, u72, u73, u74, u75, u76, u77, u78, u79, u80, u81, u82, u83, u84, u85, u86, u87], defers := ds } w5) :
    (Code.region 1 #[{ dst := some 9, op := Op.move (Operand.tmp 0), type := 94, pos := "goon.go:101", after := #[], guard := none }, { dst := some 10, op := Op.nilCheck (Operand.tmp 9), type := 0, pos := "goon.go:101", after := #[{ on := 0, ground := Ground.data }], guard := none }, { dst := some 11, op := Op.fieldAddr 96 (Operand.tmp 10) 0, type := 0, pos := "goon.go:101", after := #[{ on := 1, ground := Ground.data }], guard := none }, { dst := some 12, op := Op.load 24 (Operand.tmp 11), type := 24, pos := "goon.go:101", after := #[{ on := 2, ground := Ground.data }], guard := none }, { dst := some 13, op := Op.move (Operand.tmp 0), type := 94, pos := "goon.go:101", after := #[], guard := none }, { dst := some 14, op := Op.nilCheck (Operand.tmp 13), type := 0, pos := "goon.go:101", after := #[{ on := 4, ground := Ground.data }], guard := none }, { dst := some 15, op := Op.fieldAddr 96 (Operand.tmp 14) 1, type := 0, pos := "goon.go:101", after := #[{ on := 5, ground := Ground.data }], guard := none }, { dst := some 16, op := Op.load 33 (Operand.tmp 15), type := 33, pos := "goon.go:101", after := #[{ on := 6, ground := Ground.data }], guard := none }, { dst := some 17, op := Op.call { callee := Callee.value (Operand.func 44), args := #[Operand.tmp 12, Operand.tmp 16], argTypes := #[24, 33] }, type := 3, pos := "goon.go:101", after := #[{ on := 3, ground := Ground.data }, { on := 7, ground := Ground.data }], guard := none }, { dst := some 18, op := Op.move (Operand.const (Value.int IntKind.i64 0)), type := 3, pos := "goon.go:101", after := #[], guard := none }] true).wp Tryd.prog (onlyN K) { tmps := #[.pointer (some ⟨sb, 0, none⟩), u1, u2, u3, u4, u5, u6, u7, u8, u9, u10, u11, u12, u13, u14, u15, u16, u17, u18, u19, u20, u21, u22, u23, u24, u25, u26, u27, u28, u29, u30, u31, u32, u33, u34, u35, u36, u37, u38, u39, u40, u41, u42, u43, u44, u45, u46, u47, u48, u49, u50, u51, u52, u53, u54, u55, u56, u57, u58, u59, u60, u61, u62, u63, u64, u65, u66, u67, u68, u69, u70, u71, u72, u73, u74, u75, u76, u77, u78, u79, u80, u81, u82, u83, u84, u85, u86, u87], defers := ds } W := by
  have HH : Hid _ := h
  have KD := Kept.drew (fun _ => False) W
  have HS : Hid (∀ V, Kept (fun _ => False) W.drew V → V.cell? ⟨sb, 0, none⟩ = some (d0) ∧ V.cell? ⟨sb, 1, none⟩ = some (d1) ∧ V.cell? ⟨sb, 2, none⟩ = some (q0) ∧ V.cell? ⟨sb, 3, none⟩ = some (q1) ∧ V.cell? ⟨sb, 4, none⟩ = some (q2) ∧ V.cell? ⟨sb, 5, none⟩ = some (q3) ∧ V.cell? ⟨sb, 6, none⟩ = some (q4) ∧ V.cell? ⟨sb, 7, none⟩ = some (q5) ∧ V.cell? ⟨sb, 8, none⟩ = some (q6) ∧ V.cell? ⟨sb, 9, none⟩ = some (q7) ∧ V.cell? ⟨sb, 10, none⟩ = some (q8)) := fun V KV => ⟨keepC (KD.and KV) x0 (fun _ _ h => h), keepC (KD.and KV) x1 (fun _ _ h => h), keepC (KD.and KV) x2 (fun _ _ h => h), keepC (KD.and KV) x3 (fun _ _ h => h), keepC (KD.and KV) x4 (fun _ _ h => h), keepC (KD.and KV) x5 (fun _ _ h => h), keepC (KD.and KV) x6 (fun _ _ h => h), keepC (KD.and KV) x7 (fun _ _ h => h), keepC (KD.and KV) x8 (fun _ _ h => h), keepC (KD.and KV) x9 (fun _ _ h => h), keepC (KD.and KV) x10 (fun _ _ h => h)⟩
  have HKD : Hid (Kept (fun _ => False) W W.drew) := KD
  have hS0 := HS.out W.drew (Kept.refl _ _)
  clear h KD x0 x1 x2 x3 x4 x5 x6 x7 x8 x9 x10
  refine wp_region_held_drew (S := fun V => V.cell? ⟨sb, 0, none⟩ = some (d0) ∧ V.cell? ⟨sb, 1, none⟩ = some (d1) ∧ V.cell? ⟨sb, 2, none⟩ = some (q0) ∧ V.cell? ⟨sb, 3, none⟩ = some (q1) ∧ V.cell? ⟨sb, 4, none⟩ = some (q2) ∧ V.cell? ⟨sb, 5, none⟩ = some (q3) ∧ V.cell? ⟨sb, 6, none⟩ = some (q4) ∧ V.cell? ⟨sb, 7, none⟩ = some (q5) ∧ V.cell? ⟨sb, 8, none⟩ = some (q6) ∧ V.cell? ⟨sb, 9, none⟩ = some (q7) ∧ V.cell? ⟨sb, 10, none⟩ = some (q8)) (by kernel_rfl) hS0 (fun _ => ?_)
  refine wpAnyH_take (i := 0) (oi := { dst := some 9, op := Op.move (Operand.tmp 0), type := 94, pos := "goon.go:101", after := #[], guard := none }) (v := ?vv1) rfl (by kernel_rfl) (by kernel_rfl) (by kernel_rfl) (fun _ _ _ h => h) (Or.inl ⟨by rfl, ?hy1⟩) hS0 ?rest1
  case hy1 =>
    intro V hV
    obtain ⟨y0, y1, y2, y3, y4, y5, y6, y7, y8, y9, y10⟩ := hV
    go_simp
    all_goals rfl
  simp only [Act.put, List.setIfInBounds_toArray, List.set_cons_zero, List.set_cons_succ]
  refine wpAnyH_take (i := 1) (oi := { dst := some 10, op := Op.nilCheck (Operand.tmp 9), type := 0, pos := "goon.go:101", after := #[{ on := 0, ground := Ground.data }], guard := none }) (v := ?vv2) rfl (by kernel_rfl) (by kernel_rfl) (by kernel_rfl) (fun _ _ _ h => h) (Or.inl ⟨by rfl, ?hy2⟩) hS0 ?rest2
  case hy2 =>
    intro V hV
    obtain ⟨y0, y1, y2, y3, y4, y5, y6, y7, y8, y9, y10⟩ := hV
    go_simp
    all_goals rfl
  simp only [Act.put, List.setIfInBounds_toArray, List.set_cons_zero, List.set_cons_succ]
  refine wpAnyH_take (i := 2) (oi := { dst := some 11, op := Op.fieldAddr 96 (Operand.tmp 10) 0, type := 0, pos := "goon.go:101", after := #[{ on := 1, ground := Ground.data }], guard := none }) (v := ?vv3) rfl (by kernel_rfl) (by kernel_rfl) (by kernel_rfl) (fun _ _ _ h => h) (Or.inl ⟨by rfl, ?hy3⟩) hS0 ?rest3
  case hy3 =>
    intro V hV
    obtain ⟨y0, y1, y2, y3, y4, y5, y6, y7, y8, y9, y10⟩ := hV
    go_simp
    all_goals rfl
  simp only [Act.put, List.setIfInBounds_toArray, List.set_cons_zero, List.set_cons_succ]
  refine wpAnyH_take (i := 3) (oi := { dst := some 12, op := Op.load 24 (Operand.tmp 11), type := 24, pos := "goon.go:101", after := #[{ on := 2, ground := Ground.data }], guard := none }) (v := ?vv4) rfl (by kernel_rfl) (by kernel_rfl) (by kernel_rfl) (fun _ _ _ h => h) (Or.inl ⟨by rfl, ?hy4⟩) hS0 ?rest4
  case hy4 =>
    intro V hV
    obtain ⟨y0, y1, y2, y3, y4, y5, y6, y7, y8, y9, y10⟩ := hV
    go_simp
    all_goals rfl
  simp only [Act.put, List.setIfInBounds_toArray, List.set_cons_zero, List.set_cons_succ]
  refine wpAnyH_take (i := 4) (oi := { dst := some 13, op := Op.move (Operand.tmp 0), type := 94, pos := "goon.go:101", after := #[], guard := none }) (v := ?vv5) rfl (by kernel_rfl) (by kernel_rfl) (by kernel_rfl) (fun _ _ _ h => h) (Or.inl ⟨by rfl, ?hy5⟩) hS0 ?rest5
  case hy5 =>
    intro V hV
    obtain ⟨y0, y1, y2, y3, y4, y5, y6, y7, y8, y9, y10⟩ := hV
    go_simp
    all_goals rfl
  simp only [Act.put, List.setIfInBounds_toArray, List.set_cons_zero, List.set_cons_succ]
  refine wpAnyH_take (i := 5) (oi := { dst := some 14, op := Op.nilCheck (Operand.tmp 13), type := 0, pos := "goon.go:101", after := #[{ on := 4, ground := Ground.data }], guard := none }) (v := ?vv6) rfl (by kernel_rfl) (by kernel_rfl) (by kernel_rfl) (fun _ _ _ h => h) (Or.inl ⟨by rfl, ?hy6⟩) hS0 ?rest6
  case hy6 =>
    intro V hV
    obtain ⟨y0, y1, y2, y3, y4, y5, y6, y7, y8, y9, y10⟩ := hV
    go_simp
    all_goals rfl
  simp only [Act.put, List.setIfInBounds_toArray, List.set_cons_zero, List.set_cons_succ]
  refine wpAnyH_take (i := 6) (oi := { dst := some 15, op := Op.fieldAddr 96 (Operand.tmp 14) 1, type := 0, pos := "goon.go:101", after := #[{ on := 5, ground := Ground.data }], guard := none }) (v := ?vv7) rfl (by kernel_rfl) (by kernel_rfl) (by kernel_rfl) (fun _ _ _ h => h) (Or.inl ⟨by rfl, ?hy7⟩) hS0 ?rest7
  case hy7 =>
    intro V hV
    obtain ⟨y0, y1, y2, y3, y4, y5, y6, y7, y8, y9, y10⟩ := hV
    go_simp
    all_goals rfl
  simp only [Act.put, List.setIfInBounds_toArray, List.set_cons_zero, List.set_cons_succ]
  refine wpAnyH_take (i := 7) (oi := { dst := some 16, op := Op.load 33 (Operand.tmp 15), type := 33, pos := "goon.go:101", after := #[{ on := 6, ground := Ground.data }], guard := none }) (v := ?vv8) rfl (by kernel_rfl) (by kernel_rfl) (by kernel_rfl) (fun _ _ _ h => h) (Or.inl ⟨by rfl, ?hy8⟩) hS0 ?rest8
  case hy8 =>
    intro V hV
    obtain ⟨y0, y1, y2, y3, y4, y5, y6, y7, y8, y9, y10⟩ := hV
    go_simp
    all_goals rfl
  simp only [Act.put, List.setIfInBounds_toArray, List.set_cons_zero, List.set_cons_succ]
  refine wpAnyH_take (i := 9) (oi := { dst := some 18, op := Op.move (Operand.const (Value.int IntKind.i64 0)), type := 3, pos := "goon.go:101", after := #[], guard := none }) (v := ?vv9) rfl (by kernel_rfl) (by kernel_rfl) (by kernel_rfl) (fun _ _ _ h => h) (Or.inl ⟨by rfl, ?hy9⟩) hS0 ?rest9
  case hy9 =>
    intro V hV
    obtain ⟨y0, y1, y2, y3, y4, y5, y6, y7, y8, y9, y10⟩ := hV
    go_simp
    all_goals rfl
  simp only [Act.put, List.setIfInBounds_toArray, List.set_cons_zero, List.set_cons_succ]
  refine wpAnyH_ready (rs := [8]) (by kernel_rfl) (by simp) (AllReadyH.cons (o := { dst := some 17, op := Op.call { callee := Callee.value (Operand.func 44), args := #[Operand.tmp 12, Operand.tmp 16], argTypes := #[24, 33] }, type := 3, pos := "goon.go:101", after := #[{ on := 3, ground := Ground.data }, { on := 7, ground := Ground.data }], guard := none }) rfl (fun K' hK => ?_) AllReadyH.nil)
  refine step_call2 _ (by rfl) 44 _ _ _ _ (by rfl) (enters_of Tryd.func44 (by kernel_rfl) rfl) _ _ (by rfl) (by rfl) hC ?_
  rintro e w5 ⟨rfl, K5⟩
  refine ⟨_, rfl, ?_⟩
  refine hK.out _ _ (HS.out _ K5) (fun _ => ?_)
  clear hK K'
  try (simp only [Act.put, List.setIfInBounds_toArray, List.set_cons_zero, List.set_cons_succ])
  refine wpAnyH_done (by kernel_rfl) ?_ _
  exact HH.out _ _ _ _ _ _ _ _ w5 (HKD.out.and K5)

set_option maxRecDepth 100000 in
set_option maxHeartbeats 8000000 in
theorem en9 {W : World} {B sb k c7 : Nat} {a7 : Option Addr} {t : Tk} {tx : ByteArray} {pr pn : ByteArray} {st : Int} {xs : List Value} {ds : List Deferred} {u3 u4 u5 u7 u8 u9 u10 u11 u12 u13 u14 u15 u16 u17 u18 u19 u20 u21 u22 u23 u24 u25 u26 u27 u28 u29 u30 u31 u32 u33 u34 u35 u36 u37 u38 u39 u40 u41 u42 u43 u44 u45 u46 u47 u48 u49 u50 u51 u52 u53 u54 u55 u56 u57 u58 u59 u60 u61 u62 u63 u64 u65 u66 u67 u68 u69 u70 u71 u72 u73 u74 u75 u76 u77 u78 u79 u80 u81 u82 u83 u84 u85 u86 u87 : Value} (K : Act → World → Prop)
    (x0 : W.cell? ⟨sb, 4, none⟩ = some (.string pr)) (x1 : W.cell? ⟨sb, 5, none⟩ = some (.string pn)) (hB : B ≤ W.heap.size) (hk : k ≤ 1000000000) (hR : W.ownsRow B 78 13 (.slice a7 k c7) k xs)
    (hM : ∀ V, Kept (fun _ => False) W V → Calls Tryd.prog 98 #[.pointer (some ⟨sb, 0, none⟩), .agg #[.int .i64 2, .string pr, .string ⟨#[]⟩, .string pn, .string ⟨#[]⟩, .string tx, .int .i64 st]] V fun e w' => e = .returned (.agg #[.int .i64 t.kind, .complex .f64 0 0, .string t.flow, .string t.node, .int .i64 t.tr, .int .i64 t.tm, .int .i64 t.mail.kind, .string t.mail.dst, .string t.mail.src, .string t.mail.node, .string t.mail.name, .string t.mail.text, .int .i64 t.mail.status]) ∧ Kept (fun _ => False) V w')
    (h : ∀ (v64 v65 v66 v67 v68 v69 v70 v71 v72 v73 v74 v75 v76 v77 v78 v79 v80 v81 : Value) (a4 : Option Addr) (c4 : Nat) (w4 : World), w4.ownsRow B 78 13 (.slice a4 (k + 1) c4) (k + 1) (xs ++ tkC t) → Kept (fun j => B ≤ j) W w4 → K { tmps := #[.pointer (some ⟨sb, 0, none⟩), .int .i64 st, .string tx, u3, u4, u5, .slice a4 (k + 1) c4, u7, u8, u9, u10, u11, u12, u13, u14, u15, u16, u17, u18, u19, u20, u21, u22, u23, u24, u25, u26, u27, u28, u29, u30, u31, u32, u33, u34, u35, u36, u37, u38, u39, u40, u41, u42, u43, u44, u45, u46, u47, u48, u49, u50, u51, u52, u53, u54, u55, u56, u57, u58, u59, u60, u61, u62, u63, v64, v65, v66, v67, v68, v69, v70, v71, v72, v73, v74, v75, v76, v77, v78, v79, v80, v81, u82, u83, u84, u85, u86, u87], defers := ds } w4) :
    (Code.region 9 #[{ dst := some 64, op := Op.move (Operand.tmp 6), type := 56, pos := "goon.go:108", after := #[], guard := none }, { dst := some 65, op := Op.move (Operand.tmp 0), type := 94, pos := "goon.go:108", after := #[], guard := none }, { dst := some 66, op := Op.move (Operand.tmp 0), type := 94, pos := "goon.go:108", after := #[], guard := none }, { dst := some 67, op := Op.nilCheck (Operand.tmp 66), type := 0, pos := "goon.go:108", after := #[{ on := 2, ground := Ground.data }], guard := none }, { dst := some 68, op := Op.fieldAddr 96 (Operand.tmp 67) 1, type := 0, pos := "goon.go:108", after := #[{ on := 3, ground := Ground.data }], guard := none }, { dst := some 69, op := Op.fieldAddr 33 (Operand.tmp 68) 2, type := 0, pos := "goon.go:108", after := #[{ on := 4, ground := Ground.data }], guard := none }, { dst := some 70, op := Op.load 9 (Operand.tmp 69), type := 9, pos := "goon.go:108", after := #[{ on := 5, ground := Ground.data }], guard := none }, { dst := some 71, op := Op.move (Operand.tmp 0), type := 94, pos := "goon.go:108", after := #[], guard := none }, { dst := some 72, op := Op.nilCheck (Operand.tmp 71), type := 0, pos := "goon.go:108", after := #[{ on := 7, ground := Ground.data }], guard := none }, { dst := some 73, op := Op.fieldAddr 96 (Operand.tmp 72) 1, type := 0, pos := "goon.go:108", after := #[{ on := 8, ground := Ground.data }], guard := none }, { dst := some 74, op := Op.fieldAddr 33 (Operand.tmp 73) 3, type := 0, pos := "goon.go:108", after := #[{ on := 9, ground := Ground.data }], guard := none }, { dst := some 75, op := Op.load 9 (Operand.tmp 74), type := 9, pos := "goon.go:108", after := #[{ on := 10, ground := Ground.data }], guard := none }, { dst := some 76, op := Op.move (Operand.tmp 2), type := 9, pos := "goon.go:108", after := #[], guard := none }, { dst := some 77, op := Op.move (Operand.tmp 1), type := 3, pos := "goon.go:108", after := #[], guard := none }, { dst := some 78, op := Op.build 76 #[(0, Operand.const (Value.int IntKind.i64 2)), (1, Operand.tmp 70), (3, Operand.tmp 75), (5, Operand.tmp 76), (6, Operand.tmp 77)], type := 76, pos := "goon.go:108", after := #[{ on := 6, ground := Ground.data }, { on := 11, ground := Ground.data }, { on := 12, ground := Ground.data }, { on := 13, ground := Ground.data }], guard := none }, { dst := some 79, op := Op.call { callee := Callee.value (Operand.func 98), args := #[Operand.tmp 65, Operand.tmp 78], argTypes := #[94, 76] }, type := 78, pos := "goon.go:108", after := #[{ on := 1, ground := Ground.data }, { on := 14, ground := Ground.data }], guard := none }, { dst := some 80, op := Op.buildSlice 56 1 #[(0, Operand.tmp 79)], type := 56, pos := "goon.go:108", after := #[{ on := 15, ground := Ground.data }], guard := none }, { dst := some 81, op := Op.call { callee := Callee.builtin Builtin.append, args := #[Operand.tmp 64, Operand.tmp 80], argTypes := #[56, 56] }, type := 56, pos := "goon.go:108", after := #[{ on := 0, ground := Ground.data }, { on := 16, ground := Ground.data }, { on := 15, ground := Ground.chain }], guard := none }, { dst := some 6, op := Op.assign (Operand.tmp 81), type := 56, pos := "goon.go:108", after := #[{ on := 17, ground := Ground.data }, { on := 17, ground := Ground.chain }, { on := 0, ground := Ground.phase }, { on := 1, ground := Ground.phase }, { on := 2, ground := Ground.phase }, { on := 3, ground := Ground.phase }, { on := 4, ground := Ground.phase }, { on := 5, ground := Ground.phase }, { on := 6, ground := Ground.phase }, { on := 7, ground := Ground.phase }, { on := 8, ground := Ground.phase }, { on := 9, ground := Ground.phase }, { on := 10, ground := Ground.phase }, { on := 11, ground := Ground.phase }, { on := 12, ground := Ground.phase }, { on := 13, ground := Ground.phase }, { on := 14, ground := Ground.phase }, { on := 15, ground := Ground.phase }, { on := 16, ground := Ground.phase }, { on := 17, ground := Ground.phase }], guard := none }] true).wp Tryd.prog (onlyN K) { tmps := #[.pointer (some ⟨sb, 0, none⟩), .int .i64 st, .string tx, u3, u4, u5, .slice a7 k c7, u7, u8, u9, u10, u11, u12, u13, u14, u15, u16, u17, u18, u19, u20, u21, u22, u23, u24, u25, u26, u27, u28, u29, u30, u31, u32, u33, u34, u35, u36, u37, u38, u39, u40, u41, u42, u43, u44, u45, u46, u47, u48, u49, u50, u51, u52, u53, u54, u55, u56, u57, u58, u59, u60, u61, u62, u63, u64, u65, u66, u67, u68, u69, u70, u71, u72, u73, u74, u75, u76, u77, u78, u79, u80, u81, u82, u83, u84, u85, u86, u87], defers := ds } W := by
  obtain ⟨j0, hj0, hy0, hy1, hy2⟩ := info_parts Tryd.info78
  have HH : Hid _ := h
  have KD := Kept.drew (fun _ => False) W
  have HKD : Hid (Kept (fun _ => False) W W.drew) := KD
  have HR : Hid (∀ V, Kept (fun _ => False) W V → V.ownsRow B 78 13 (.slice a7 k c7) k xs ∧ B ≤ V.heap.size) := fun V KV => ⟨ownsRow_keep hR (fun g hg => KV.block g (ownsRow_blk hR hg) (fun h => h)), Nat.le_trans hB KV.size⟩
  have HB : Hid (∀ g, (Value.slice a7 k c7).ownBlock = some g → B ≤ g) := fun g hg => (hR.lt g hg).1
  have r0 : W.drew.cell? ⟨sb, 4, none⟩ = some (.string pr) := x0
  have r1 : W.drew.cell? ⟨sb, 5, none⟩ = some (.string pn) := x1
  clear h KD hR hB x0 x1
  go_region_law
    (first
      | (refine step_call2 _ (by rfl) 98 _ _ _ _ (by rfl) (enters_of Tryd.func98 (by kernel_rfl) rfl) _ _ (by rfl) (by rfl) (hM _ HKD.out) ?_; rintro e w2 ⟨rfl, K2⟩; refine ⟨_, rfl, ?_⟩)
      | (refine step_append_sr _ (by rfl) _ _ 56 (by rfl) B 78 j0 _ 13 168 Tryd.underlying56 hj0 hy0 hy1 hy2 rfl (by decide) (.slice a7 k c7) k xs (by rfl) ((HR.out w2 (HKD.out.and K2)).1.alloc _) _ (by rfl) 1 (tkC t) (.inl ⟨_, 1, rfl, rfl, World.news_of_block (heap_alloc_new _ _)⟩) (fun u hu => tkF_one [t] u (by simpa [tkF] using hu)) (by unfold maxLen; omega) (by omega) (Nat.le_trans (HR.out w2 (HKD.out.and K2)).2 (Kept.alloc (fun _ => False) _ _).size) ?_; intro a4 c4 w4 ho4 hg4 _ hl4; have K4 : Kept (fun j => B ≤ j) W w4 := ((HKD.out.and K2).mono (fun _ h => h.elim)).and ((Kept.alloc _ _ _).and (Kept.grown hg4 (fun j e => HB.out j e))))
      | fail)
  all_goals exact HH.out _ _ _ _ _ _ _ _ _ _ _ _ _ _ _ _ _ _ a4 c4 w4 ho4 K4

set_option maxRecDepth 100000 in
set_option maxHeartbeats 8000000 in
theorem en6 {W : World} {B sb k c7 : Nat} {a7 : Option Addr} {t : Tk} {tx : ByteArray} {nb : Nat} {x y : ByteArray} {xs : List Value} {ds : List Deferred} {u1 u3 u4 u5 u7 u9 u10 u11 u12 u13 u14 u15 u16 u17 u18 u19 u20 u21 u22 u23 u24 u25 u26 u27 u28 u29 u30 u31 u32 u33 u34 u35 u36 u37 u38 u39 u40 u41 u42 u43 u44 u45 u46 u47 u48 u49 u50 u51 u52 u53 u54 u55 u56 u57 u58 u59 u60 u61 u62 u63 u64 u65 u66 u67 u68 u69 u70 u71 u72 u73 u74 u75 u76 u77 u78 u79 u80 u81 u82 u83 u84 u85 u86 u87 : Value} (K : Act → World → Prop)
    (x0 : W.cell? ⟨nb, 0, none⟩ = some (.string x)) (hN : ∀ V, Kept (fun _ => False) W V → Calls Tryd.prog 99 #[.pointer (some ⟨sb, 0, none⟩), .string x] V fun e w' => e = .returned (.string y) ∧ w' = V) (hB : B ≤ W.heap.size) (hk : k ≤ 1000000000) (hR : W.ownsRow B 78 13 (.slice a7 k c7) k xs)
    (hM : ∀ V, Kept (fun _ => False) W V → Calls Tryd.prog 98 #[.pointer (some ⟨sb, 0, none⟩), .agg #[.int .i64 4, .string y, .string ⟨#[]⟩, .string x, .string ⟨#[]⟩, .string tx, .int .i64 0]] V fun e w' => e = .returned (.agg #[.int .i64 t.kind, .complex .f64 0 0, .string t.flow, .string t.node, .int .i64 t.tr, .int .i64 t.tm, .int .i64 t.mail.kind, .string t.mail.dst, .string t.mail.src, .string t.mail.node, .string t.mail.name, .string t.mail.text, .int .i64 t.mail.status]) ∧ Kept (fun _ => False) V w')
    (h : ∀ (v44 v45 v46 v47 v48 v49 v50 v51 v52 v53 v54 v55 v56 : Value) (a4 : Option Addr) (c4 : Nat) (w4 : World), w4.ownsRow B 78 13 (.slice a4 (k + 1) c4) (k + 1) (xs ++ tkC t) → Kept (fun j => B ≤ j) W w4 → K { tmps := #[.pointer (some ⟨sb, 0, none⟩), u1, .string tx, u3, u4, u5, .slice a4 (k + 1) c4, u7, .pointer (some ⟨nb, 0, none⟩), u9, u10, u11, u12, u13, u14, u15, u16, u17, u18, u19, u20, u21, u22, u23, u24, u25, u26, u27, u28, u29, u30, u31, u32, u33, u34, u35, u36, u37, u38, u39, u40, u41, u42, u43, v44, v45, v46, v47, v48, v49, v50, v51, v52, v53, v54, v55, v56, u57, u58, u59, u60, u61, u62, u63, u64, u65, u66, u67, u68, u69, u70, u71, u72, u73, u74, u75, u76, u77, u78, u79, u80, u81, u82, u83, u84, u85, u86, u87], defers := ds } w4) :
    (Code.region 6 #[{ dst := some 44, op := Op.move (Operand.tmp 6), type := 56, pos := "goon.go:104", after := #[], guard := none }, { dst := some 45, op := Op.move (Operand.tmp 0), type := 94, pos := "goon.go:104", after := #[], guard := none }, { dst := some 46, op := Op.move (Operand.tmp 0), type := 94, pos := "goon.go:104", after := #[], guard := none }, { dst := some 47, op := Op.fieldAddr 64 (Operand.tmp 8) 0, type := 0, pos := "goon.go:104", after := #[], guard := none }, { dst := some 48, op := Op.load 9 (Operand.tmp 47), type := 9, pos := "goon.go:104", after := #[{ on := 3, ground := Ground.data }], guard := none }, { dst := some 49, op := Op.call { callee := Callee.value (Operand.func 99), args := #[Operand.tmp 46, Operand.tmp 48], argTypes := #[94, 9] }, type := 9, pos := "goon.go:104", after := #[{ on := 2, ground := Ground.data }, { on := 4, ground := Ground.data }], guard := none }, { dst := some 50, op := Op.fieldAddr 64 (Operand.tmp 8) 0, type := 0, pos := "goon.go:104", after := #[], guard := none }, { dst := some 51, op := Op.load 9 (Operand.tmp 50), type := 9, pos := "goon.go:104", after := #[{ on := 6, ground := Ground.data }], guard := none }, { dst := some 52, op := Op.move (Operand.tmp 2), type := 9, pos := "goon.go:104", after := #[], guard := none }, { dst := some 53, op := Op.build 76 #[(0, Operand.const (Value.int IntKind.i64 4)), (1, Operand.tmp 49), (3, Operand.tmp 51), (5, Operand.tmp 52)], type := 76, pos := "goon.go:104", after := #[{ on := 5, ground := Ground.data }, { on := 7, ground := Ground.data }, { on := 8, ground := Ground.data }], guard := none }, { dst := some 54, op := Op.call { callee := Callee.value (Operand.func 98), args := #[Operand.tmp 45, Operand.tmp 53], argTypes := #[94, 76] }, type := 78, pos := "goon.go:104", after := #[{ on := 1, ground := Ground.data }, { on := 9, ground := Ground.data }, { on := 5, ground := Ground.chain }], guard := none }, { dst := some 55, op := Op.buildSlice 56 1 #[(0, Operand.tmp 54)], type := 56, pos := "goon.go:104", after := #[{ on := 10, ground := Ground.data }], guard := none }, { dst := some 56, op := Op.call { callee := Callee.builtin Builtin.append, args := #[Operand.tmp 44, Operand.tmp 55], argTypes := #[56, 56] }, type := 56, pos := "goon.go:104", after := #[{ on := 0, ground := Ground.data }, { on := 11, ground := Ground.data }, { on := 10, ground := Ground.chain }], guard := none }, { dst := some 6, op := Op.assign (Operand.tmp 56), type := 56, pos := "goon.go:104", after := #[{ on := 12, ground := Ground.data }, { on := 12, ground := Ground.chain }, { on := 0, ground := Ground.phase }, { on := 1, ground := Ground.phase }, { on := 2, ground := Ground.phase }, { on := 3, ground := Ground.phase }, { on := 4, ground := Ground.phase }, { on := 5, ground := Ground.phase }, { on := 6, ground := Ground.phase }, { on := 7, ground := Ground.phase }, { on := 8, ground := Ground.phase }, { on := 9, ground := Ground.phase }, { on := 10, ground := Ground.phase }, { on := 11, ground := Ground.phase }, { on := 12, ground := Ground.phase }], guard := none }] true).wp Tryd.prog (onlyN K) { tmps := #[.pointer (some ⟨sb, 0, none⟩), u1, .string tx, u3, u4, u5, .slice a7 k c7, u7, .pointer (some ⟨nb, 0, none⟩), u9, u10, u11, u12, u13, u14, u15, u16, u17, u18, u19, u20, u21, u22, u23, u24, u25, u26, u27, u28, u29, u30, u31, u32, u33, u34, u35, u36, u37, u38, u39, u40, u41, u42, u43, u44, u45, u46, u47, u48, u49, u50, u51, u52, u53, u54, u55, u56, u57, u58, u59, u60, u61, u62, u63, u64, u65, u66, u67, u68, u69, u70, u71, u72, u73, u74, u75, u76, u77, u78, u79, u80, u81, u82, u83, u84, u85, u86, u87], defers := ds } W := by
  obtain ⟨j0, hj0, hy0, hy1, hy2⟩ := info_parts Tryd.info78
  have HH : Hid _ := h
  have KD := Kept.drew (fun _ => False) W
  have HKD : Hid (Kept (fun _ => False) W W.drew) := KD
  have HR : Hid (∀ V, Kept (fun _ => False) W V → V.ownsRow B 78 13 (.slice a7 k c7) k xs ∧ B ≤ V.heap.size) := fun V KV => ⟨ownsRow_keep hR (fun g hg => KV.block g (ownsRow_blk hR hg) (fun h => h)), Nat.le_trans hB KV.size⟩
  have HB : Hid (∀ g, (Value.slice a7 k c7).ownBlock = some g → B ≤ g) := fun g hg => (hR.lt g hg).1
  have r0 : W.drew.cell? ⟨nb, 0, none⟩ = some (.string x) := x0
  clear h KD hR hB x0
  go_region_law
    (first
      | (refine step_call2 _ (by rfl) 99 _ _ _ _ (by rfl) (enters_of Tryd.func99 (by kernel_rfl) rfl) _ _ (by rfl) (by rfl) (hN _ HKD.out) ?_; rintro e w1 ⟨rfl, hw1⟩; subst w1; refine ⟨_, rfl, ?_⟩)
      | (refine step_call2 _ (by rfl) 98 _ _ _ _ (by rfl) (enters_of Tryd.func98 (by kernel_rfl) rfl) _ _ (by rfl) (by rfl) (hM _ HKD.out) ?_; rintro e w2 ⟨rfl, K2⟩; refine ⟨_, rfl, ?_⟩)
      | (refine step_append_sr _ (by rfl) _ _ 56 (by rfl) B 78 j0 _ 13 168 Tryd.underlying56 hj0 hy0 hy1 hy2 rfl (by decide) (.slice a7 k c7) k xs (by rfl) ((HR.out w2 (HKD.out.and K2)).1.alloc _) _ (by rfl) 1 (tkC t) (.inl ⟨_, 1, rfl, rfl, World.news_of_block (heap_alloc_new _ _)⟩) (fun u hu => tkF_one [t] u (by simpa [tkF] using hu)) (by unfold maxLen; omega) (by omega) (Nat.le_trans (HR.out w2 (HKD.out.and K2)).2 (Kept.alloc (fun _ => False) _ _).size) ?_; intro a4 c4 w4 ho4 hg4 _ hl4; have K4 : Kept (fun j => B ≤ j) W w4 := ((HKD.out.and K2).mono (fun _ h => h.elim)).and ((Kept.alloc _ _ _).and (Kept.grown hg4 (fun j e => HB.out j e))))
      | fail)
  all_goals exact HH.out _ _ _ _ _ _ _ _ _ _ _ _ _ a4 c4 w4 ho4 K4

end Go.Proofs.YtfjekjbkifmpfaaDoor
