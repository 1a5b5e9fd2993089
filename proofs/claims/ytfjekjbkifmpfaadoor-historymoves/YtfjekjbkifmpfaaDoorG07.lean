/-
  play's input: its regions that draw their order.
-/
import Derived.Test.YtfjekjbkifmpfaaDoorG04
import Derived.Test.YtfjekjbkifmpfaaDoorG02
namespace Go.Proofs.YtfjekjbkifmpfaaDoor.Rf
open Go.RowKit

set_option maxRecDepth 100000 in
set_option maxHeartbeats 8000000 in
theorem pl2 {W : World} {pb ib : Nat} {d0 d1 q0 q1 q2 q3 q4 q5 q6 q7 q8 i0 i1 i2 i3 i4 i5 i6 i7 i8 : Value} {t : St} {z : Int} {Q : Nat → World → Value → Value → Value → Value → Prop} {ds : List Deferred} {u1 u2 u4 u5 u6 u7 u8 u9 u10 u11 u12 u13 u14 u15 u16 u17 u18 u19 u20 u21 u22 u23 u24 u25 u26 u27 u28 u29 u30 u31 u32 u33 u34 u35 u36 u37 u38 u39 u40 u41 u42 u43 u44 u45 u46 u47 u48 u49 u50 u51 u52 u53 u54 u55 u56 u57 u58 u59 u60 u61 u62 u63 u64 u65 u66 u67 u68 u69 u70 u71 u72 u73 u74 u75 u76 u77 u78 u79 u80 u81 u82 u83 u84 u85 u86 u87 u88 u89 u90 u91 u92 u93 u94 u95 u96 u97 u98 : Value} (K : Act → World → Prop)
    (x0 : W.cell? ⟨pb, 0, none⟩ = some (d0)) (x1 : W.cell? ⟨pb, 1, none⟩ = some (d1)) (x2 : W.cell? ⟨pb, 2, none⟩ = some (q0)) (x3 : W.cell? ⟨pb, 3, none⟩ = some (q1)) (x4 : W.cell? ⟨pb, 4, none⟩ = some (q2)) (x5 : W.cell? ⟨pb, 5, none⟩ = some (q3)) (x6 : W.cell? ⟨pb, 6, none⟩ = some (q4)) (x7 : W.cell? ⟨pb, 7, none⟩ = some (q5)) (x8 : W.cell? ⟨pb, 8, none⟩ = some (q6)) (x9 : W.cell? ⟨pb, 9, none⟩ = some (q7)) (x10 : W.cell? ⟨pb, 10, none⟩ = some (q8)) (x11 : W.cell? ⟨ib, 0, none⟩ = some (i0)) (x12 : W.cell? ⟨ib, 1, none⟩ = some (i1)) (x13 : W.cell? ⟨ib, 2, none⟩ = some (i2)) (x14 : W.cell? ⟨ib, 3, none⟩ = some (i3)) (x15 : W.cell? ⟨ib, 4, none⟩ = some (i4)) (x16 : W.cell? ⟨ib, 5, none⟩ = some (i5)) (x17 : W.cell? ⟨ib, 6, none⟩ = some (i6)) (x18 : W.cell? ⟨ib, 7, none⟩ = some (i7)) (x19 : W.cell? ⟨ib, 8, none⟩ = some (i8))
    (hC : ∀ V, Kept (fun _ => False) W.drew V → Calls Tryd.prog 22 #[.agg #[d0, d1], .agg #[q0, q1, q2, q3, q4, q5, q6, q7, q8], .agg #[i0, i1, i2, i3, i4, i5, i6, i7, i8]] V fun e w' => ∃ (ve : Value) (a6 : Option Addr) (c6 : Nat) (a7 : Option Addr) (c7 : Nat) (vt : Value), e = .returned (.tuple #[ve, .agg #[.string t.dfn, .string t.id, .string t.par, .string t.pnode, .int .i64 t.status, .string t.text, .slice a6 t.nodes.length c6, .slice a7 t.sigs.length c7, .int .i64 t.events], vt, .int .i64 z]) ∧ Q V.heap.size w' ve (.slice a6 t.nodes.length c6) (.slice a7 t.sigs.length c7) vt ∧ Kept (fun _ => False) V w')
    (hQ : ∀ B w1 w2 ve p6 p7 vt mb, Q B w1 ve p6 p7 vt → mb < B ∨ w1.heap.size ≤ mb → Kept (fun j => j = mb) w1 w2 → Q B w2 ve p6 p7 vt)
    (h : ∀ (v18 v19 v20 v21 v22 v23 v24 v25 v26 v27 v28 v29 v30 v31 v32 : Value) (mb B : Nat) (ve : Value) (a6 : Option Addr) (c6 : Nat) (a7 : Option Addr) (c7 : Nat) (vt : Value) (W' : World), W.heap.size ≤ mb → W.heap.size ≤ B → W'.heap[mb]? = some (.cells #[.string t.dfn, .string t.id, .string t.par, .string t.pnode, .int .i64 t.status, .string t.text, .slice a6 t.nodes.length c6, .slice a7 t.sigs.length c7, .int .i64 t.events] 33 (0, 0)) → Q B W' ve (.slice a6 t.nodes.length c6) (.slice a7 t.sigs.length c7) vt → Kept (fun _ => False) W W' → K { tmps := #[.pointer (some ⟨pb, 0, none⟩), u1, u2, .pointer (some ⟨ib, 0, none⟩), u4, u5, ve, .pointer (some ⟨mb, 0, none⟩), vt, .int .i64 z, u10, u11, u12, u13, u14, u15, u16, u17, v18, v19, v20, v21, v22, v23, v24, v25, v26, v27, v28, v29, v30, v31, v32, u33, u34, u35, u36, u37, u38, u39, u40, u41, u42, u43, u44, u45, u46, u47, u48, u49, u50, u51, u52, u53, u54, u55, u56, u57, u58, u59, u60, u61, u62, u63, u64, u65, u66, u67, u68, u69, u70, u71, u72, u73, u74, u75, u76, u77, u78, u79, u80, u81, u82, u83, u84, u85, u86, u87, u88, u89, u90, u91, u92, u93, u94, u95, u96, u97, u98], defers := ds } W') :
    (Code.region 2 #[{ dst := some 19, op := Op.move (Operand.tmp 0), type := 29, pos := "law.go:61", after := #[], guard := none }, { dst := some 20, op := Op.nilCheck (Operand.tmp 19), type := 0, pos := "law.go:61", after := #[{ on := 0, ground := Ground.data }], guard := none }, { dst := some 21, op := Op.fieldAddr 36 (Operand.tmp 20) 0, type := 0, pos := "law.go:61", after := #[{ on := 1, ground := Ground.data }], guard := none }, { dst := some 22, op := Op.load 24 (Operand.tmp 21), type := 24, pos := "law.go:61", after := #[{ on := 2, ground := Ground.data }], guard := none }, { dst := some 23, op := Op.move (Operand.tmp 0), type := 29, pos := "law.go:61", after := #[], guard := none }, { dst := some 24, op := Op.nilCheck (Operand.tmp 23), type := 0, pos := "law.go:61", after := #[{ on := 4, ground := Ground.data }], guard := none }, { dst := some 25, op := Op.fieldAddr 36 (Operand.tmp 24) 1, type := 0, pos := "law.go:61", after := #[{ on := 5, ground := Ground.data }], guard := none }, { dst := some 26, op := Op.load 33 (Operand.tmp 25), type := 33, pos := "law.go:61", after := #[{ on := 6, ground := Ground.data }], guard := none }, { dst := some 27, op := Op.load 39 (Operand.tmp 3), type := 39, pos := "law.go:61", after := #[], guard := none }, { dst := some 28, op := Op.call { callee := Callee.value (Operand.func 22), args := #[Operand.tmp 22, Operand.tmp 26, Operand.tmp 27], argTypes := #[24, 33, 39] }, type := 57, pos := "law.go:61", after := #[{ on := 3, ground := Ground.data }, { on := 7, ground := Ground.data }, { on := 8, ground := Ground.data }], guard := none }, { dst := some 18, op := Op.move (Operand.tmp 28), type := 57, pos := "law.go:61", after := #[{ on := 9, ground := Ground.data }], guard := none }, { dst := some 29, op := Op.extract (Operand.tmp 18) 0, type := 34, pos := "law.go:61", after := #[{ on := 10, ground := Ground.data }], guard := none }, { dst := some 30, op := Op.extract (Operand.tmp 18) 1, type := 33, pos := "law.go:61", after := #[{ on := 10, ground := Ground.data }, { on := 16, ground := Ground.gcOnly Departure.lateStores }], guard := none }, { dst := some 31, op := Op.extract (Operand.tmp 18) 2, type := 56, pos := "law.go:61", after := #[{ on := 10, ground := Ground.data }, { on := 17, ground := Ground.gcOnly Departure.lateStores }], guard := none }, { dst := some 32, op := Op.extract (Operand.tmp 18) 3, type := 42, pos := "law.go:61", after := #[{ on := 10, ground := Ground.data }, { on := 18, ground := Ground.gcOnly Departure.lateStores }], guard := none }, { dst := some 7, op := Op.alloc 33, type := 0, pos := "law.go:61", after := #[], guard := none }, { dst := some 6, op := Op.assign (Operand.tmp 29), type := 34, pos := "law.go:61", after := #[{ on := 11, ground := Ground.data }, { on := 9, ground := Ground.chain }, { on := 0, ground := Ground.phase }, { on := 1, ground := Ground.phase }, { on := 2, ground := Ground.phase }, { on := 3, ground := Ground.phase }, { on := 4, ground := Ground.phase }, { on := 5, ground := Ground.phase }, { on := 6, ground := Ground.phase }, { on := 7, ground := Ground.phase }, { on := 8, ground := Ground.phase }, { on := 9, ground := Ground.phase }, { on := 10, ground := Ground.phase }, { on := 11, ground := Ground.phase }, { on := 12, ground := Ground.textOnly Departure.lateStores }, { on := 13, ground := Ground.textOnly Departure.lateStores }, { on := 14, ground := Ground.textOnly Departure.lateStores }, { on := 15, ground := Ground.phase }], guard := none }, { dst := none, op := Op.store 33 (Operand.tmp 7) (Operand.tmp 30), type := 0, pos := "law.go:61", after := #[{ on := 15, ground := Ground.data }, { on := 12, ground := Ground.data }, { on := 16, ground := Ground.chain }, { on := 0, ground := Ground.phase }, { on := 1, ground := Ground.phase }, { on := 2, ground := Ground.phase }, { on := 3, ground := Ground.phase }, { on := 4, ground := Ground.phase }, { on := 5, ground := Ground.phase }, { on := 6, ground := Ground.phase }, { on := 7, ground := Ground.phase }, { on := 8, ground := Ground.phase }, { on := 9, ground := Ground.phase }, { on := 10, ground := Ground.phase }, { on := 11, ground := Ground.phase }, { on := 12, ground := Ground.phase }, { on := 13, ground := Ground.textOnly Departure.lateStores }, { on := 14, ground := Ground.textOnly Departure.lateStores }, { on := 15, ground := Ground.phase }, { on := 16, ground := Ground.phase }], guard := none }, { dst := some 8, op := Op.assign (Operand.tmp 31), type := 56, pos := "law.go:61", after := #[{ on := 13, ground := Ground.data }, { on := 17, ground := Ground.chain }, { on := 0, ground := Ground.phase }, { on := 1, ground := Ground.phase }, { on := 2, ground := Ground.phase }, { on := 3, ground := Ground.phase }, { on := 4, ground := Ground.phase }, { on := 5, ground := Ground.phase }, { on := 6, ground := Ground.phase }, { on := 7, ground := Ground.phase }, { on := 8, ground := Ground.phase }, { on := 9, ground := Ground.phase }, { on := 10, ground := Ground.phase }, { on := 11, ground := Ground.phase }, { on := 12, ground := Ground.phase }, { on := 13, ground := Ground.phase }, { on := 14, ground := Ground.textOnly Departure.lateStores }, { on := 15, ground := Ground.phase }, { on := 16, ground := Ground.phase }, { on := 17, ground := Ground.phase }], guard := none }, { dst := some 9, op := Op.assign (Operand.tmp 32), type := 42, pos := "law.go:61", after := #[{ on := 14, ground := Ground.data }, { on := 18, ground := Ground.chain }, { on := 0, ground := Ground.phase }, { on := 1, ground := Ground.phase }, { on := 2, ground := Ground.phase }, { on := 3, ground := Ground.phase }, { on := 4, ground := Ground.phase }, { on := 5, ground := Ground.phase }, { on := 6, ground := Ground.phase }, { on := 7, ground := Ground.phase }, { on := 8, ground := Ground.phase }, { on := 9, ground := Ground.phase }, { on := 10, ground := Ground.phase }, { on := 11, ground := Ground.phase }, { on := 12, ground := Ground.phase }, { on := 13, ground := Ground.phase }, { on := 14, ground := Ground.phase }, { on := 15, ground := Ground.phase }, { on := 16, ground := Ground.phase }, { on := 17, ground := Ground.phase }, { on := 18, ground := Ground.phase }], guard := none }] true).wp Tryd.prog (onlyN K) { tmps := #[.pointer (some ⟨pb, 0, none⟩), u1, u2, .pointer (some ⟨ib, 0, none⟩), u4, u5, u6, u7, u8, u9, u10, u11, u12, u13, u14, u15, u16, u17, u18, u19, u20, u21, u22, u23, u24, u25, u26, u27, u28, u29, u30, u31, u32, u33, u34, u35, u36, u37, u38, u39, u40, u41, u42, u43, u44, u45, u46, u47, u48, u49, u50, u51, u52, u53, u54, u55, u56, u57, u58, u59, u60, u61, u62, u63, u64, u65, u66, u67, u68, u69, u70, u71, u72, u73, u74, u75, u76, u77, u78, u79, u80, u81, u82, u83, u84, u85, u86, u87, u88, u89, u90, u91, u92, u93, u94, u95, u96, u97, u98], defers := ds } W := by
  have HH : Hid _ := h
  have KD := Kept.drew (fun _ => False) W
  have HS : Hid (∀ V, Kept (fun _ => False) W.drew V → V.cell? ⟨pb, 0, none⟩ = some (d0) ∧ V.cell? ⟨pb, 1, none⟩ = some (d1) ∧ V.cell? ⟨pb, 2, none⟩ = some (q0) ∧ V.cell? ⟨pb, 3, none⟩ = some (q1) ∧ V.cell? ⟨pb, 4, none⟩ = some (q2) ∧ V.cell? ⟨pb, 5, none⟩ = some (q3) ∧ V.cell? ⟨pb, 6, none⟩ = some (q4) ∧ V.cell? ⟨pb, 7, none⟩ = some (q5) ∧ V.cell? ⟨pb, 8, none⟩ = some (q6) ∧ V.cell? ⟨pb, 9, none⟩ = some (q7) ∧ V.cell? ⟨pb, 10, none⟩ = some (q8) ∧ V.cell? ⟨ib, 0, none⟩ = some (i0) ∧ V.cell? ⟨ib, 1, none⟩ = some (i1) ∧ V.cell? ⟨ib, 2, none⟩ = some (i2) ∧ V.cell? ⟨ib, 3, none⟩ = some (i3) ∧ V.cell? ⟨ib, 4, none⟩ = some (i4) ∧ V.cell? ⟨ib, 5, none⟩ = some (i5) ∧ V.cell? ⟨ib, 6, none⟩ = some (i6) ∧ V.cell? ⟨ib, 7, none⟩ = some (i7) ∧ V.cell? ⟨ib, 8, none⟩ = some (i8)) := fun V KV => ⟨keepC (KD.and KV) x0 (fun _ _ h => h), keepC (KD.and KV) x1 (fun _ _ h => h), keepC (KD.and KV) x2 (fun _ _ h => h), keepC (KD.and KV) x3 (fun _ _ h => h), keepC (KD.and KV) x4 (fun _ _ h => h), keepC (KD.and KV) x5 (fun _ _ h => h), keepC (KD.and KV) x6 (fun _ _ h => h), keepC (KD.and KV) x7 (fun _ _ h => h), keepC (KD.and KV) x8 (fun _ _ h => h), keepC (KD.and KV) x9 (fun _ _ h => h), keepC (KD.and KV) x10 (fun _ _ h => h), keepC (KD.and KV) x11 (fun _ _ h => h), keepC (KD.and KV) x12 (fun _ _ h => h), keepC (KD.and KV) x13 (fun _ _ h => h), keepC (KD.and KV) x14 (fun _ _ h => h), keepC (KD.and KV) x15 (fun _ _ h => h), keepC (KD.and KV) x16 (fun _ _ h => h), keepC (KD.and KV) x17 (fun _ _ h => h), keepC (KD.and KV) x18 (fun _ _ h => h), keepC (KD.and KV) x19 (fun _ _ h => h)⟩
  have HKD : Hid (Kept (fun _ => False) W W.drew) := KD
  have hS0 := HS.out W.drew (Kept.refl _ _)
  clear h KD x0 x1 x2 x3 x4 x5 x6 x7 x8 x9 x10 x11 x12 x13 x14 x15 x16 x17 x18 x19
  refine wp_region_held_drew (S := fun V => V.cell? ⟨pb, 0, none⟩ = some (d0) ∧ V.cell? ⟨pb, 1, none⟩ = some (d1) ∧ V.cell? ⟨pb, 2, none⟩ = some (q0) ∧ V.cell? ⟨pb, 3, none⟩ = some (q1) ∧ V.cell? ⟨pb, 4, none⟩ = some (q2) ∧ V.cell? ⟨pb, 5, none⟩ = some (q3) ∧ V.cell? ⟨pb, 6, none⟩ = some (q4) ∧ V.cell? ⟨pb, 7, none⟩ = some (q5) ∧ V.cell? ⟨pb, 8, none⟩ = some (q6) ∧ V.cell? ⟨pb, 9, none⟩ = some (q7) ∧ V.cell? ⟨pb, 10, none⟩ = some (q8) ∧ V.cell? ⟨ib, 0, none⟩ = some (i0) ∧ V.cell? ⟨ib, 1, none⟩ = some (i1) ∧ V.cell? ⟨ib, 2, none⟩ = some (i2) ∧ V.cell? ⟨ib, 3, none⟩ = some (i3) ∧ V.cell? ⟨ib, 4, none⟩ = some (i4) ∧ V.cell? ⟨ib, 5, none⟩ = some (i5) ∧ V.cell? ⟨ib, 6, none⟩ = some (i6) ∧ V.cell? ⟨ib, 7, none⟩ = some (i7) ∧ V.cell? ⟨ib, 8, none⟩ = some (i8)) (by kernel_rfl) hS0 (fun _ => ?_)
  generalize W.drew = V0 at *
  refine wpAnyH_take (i := 0) (oi := { dst := some 19, op := Op.move (Operand.tmp 0), type := 29, pos := "law.go:61", after := #[], guard := none }) (v := ?vv1) rfl (by kernel_rfl) (by kernel_rfl) (by kernel_rfl) (fun _ _ _ h => h) (Or.inl ⟨by rfl, ?hy1⟩) hS0 ?rest1
  case hy1 =>
    intro V hV
    obtain ⟨y0, y1, y2, y3, y4, y5, y6, y7, y8, y9, y10, y11, y12, y13, y14, y15, y16, y17, y18, y19⟩ := hV
    go_simp
    all_goals rfl
  simp only [Act.put, List.setIfInBounds_toArray, List.set_cons_zero, List.set_cons_succ]
  refine wpAnyH_take (i := 1) (oi := { dst := some 20, op := Op.nilCheck (Operand.tmp 19), type := 0, pos := "law.go:61", after := #[{ on := 0, ground := Ground.data }], guard := none }) (v := ?vv2) rfl (by kernel_rfl) (by kernel_rfl) (by kernel_rfl) (fun _ _ _ h => h) (Or.inl ⟨by rfl, ?hy2⟩) hS0 ?rest2
  case hy2 =>
    intro V hV
    obtain ⟨y0, y1, y2, y3, y4, y5, y6, y7, y8, y9, y10, y11, y12, y13, y14, y15, y16, y17, y18, y19⟩ := hV
    go_simp
    all_goals rfl
  simp only [Act.put, List.setIfInBounds_toArray, List.set_cons_zero, List.set_cons_succ]
  refine wpAnyH_take (i := 2) (oi := { dst := some 21, op := Op.fieldAddr 36 (Operand.tmp 20) 0, type := 0, pos := "law.go:61", after := #[{ on := 1, ground := Ground.data }], guard := none }) (v := ?vv3) rfl (by kernel_rfl) (by kernel_rfl) (by kernel_rfl) (fun _ _ _ h => h) (Or.inl ⟨by rfl, ?hy3⟩) hS0 ?rest3
  case hy3 =>
    intro V hV
    obtain ⟨y0, y1, y2, y3, y4, y5, y6, y7, y8, y9, y10, y11, y12, y13, y14, y15, y16, y17, y18, y19⟩ := hV
    go_simp
    all_goals rfl
  simp only [Act.put, List.setIfInBounds_toArray, List.set_cons_zero, List.set_cons_succ]
  refine wpAnyH_take (i := 3) (oi := { dst := some 22, op := Op.load 24 (Operand.tmp 21), type := 24, pos := "law.go:61", after := #[{ on := 2, ground := Ground.data }], guard := none }) (v := ?vv4) rfl (by kernel_rfl) (by kernel_rfl) (by kernel_rfl) (fun _ _ _ h => h) (Or.inl ⟨by rfl, ?hy4⟩) hS0 ?rest4
  case hy4 =>
    intro V hV
    obtain ⟨y0, y1, y2, y3, y4, y5, y6, y7, y8, y9, y10, y11, y12, y13, y14, y15, y16, y17, y18, y19⟩ := hV
    go_simp
    all_goals rfl
  simp only [Act.put, List.setIfInBounds_toArray, List.set_cons_zero, List.set_cons_succ]
  refine wpAnyH_take (i := 4) (oi := { dst := some 23, op := Op.move (Operand.tmp 0), type := 29, pos := "law.go:61", after := #[], guard := none }) (v := ?vv5) rfl (by kernel_rfl) (by kernel_rfl) (by kernel_rfl) (fun _ _ _ h => h) (Or.inl ⟨by rfl, ?hy5⟩) hS0 ?rest5
  case hy5 =>
    intro V hV
    obtain ⟨y0, y1, y2, y3, y4, y5, y6, y7, y8, y9, y10, y11, y12, y13, y14, y15, y16, y17, y18, y19⟩ := hV
    go_simp
    all_goals rfl
  simp only [Act.put, List.setIfInBounds_toArray, List.set_cons_zero, List.set_cons_succ]
  refine wpAnyH_take (i := 5) (oi := { dst := some 24, op := Op.nilCheck (Operand.tmp 23), type := 0, pos := "law.go:61", after := #[{ on := 4, ground := Ground.data }], guard := none }) (v := ?vv6) rfl (by kernel_rfl) (by kernel_rfl) (by kernel_rfl) (fun _ _ _ h => h) (Or.inl ⟨by rfl, ?hy6⟩) hS0 ?rest6
  case hy6 =>
    intro V hV
    obtain ⟨y0, y1, y2, y3, y4, y5, y6, y7, y8, y9, y10, y11, y12, y13, y14, y15, y16, y17, y18, y19⟩ := hV
    go_simp
    all_goals rfl
  simp only [Act.put, List.setIfInBounds_toArray, List.set_cons_zero, List.set_cons_succ]
  refine wpAnyH_take (i := 6) (oi := { dst := some 25, op := Op.fieldAddr 36 (Operand.tmp 24) 1, type := 0, pos := "law.go:61", after := #[{ on := 5, ground := Ground.data }], guard := none }) (v := ?vv7) rfl (by kernel_rfl) (by kernel_rfl) (by kernel_rfl) (fun _ _ _ h => h) (Or.inl ⟨by rfl, ?hy7⟩) hS0 ?rest7
  case hy7 =>
    intro V hV
    obtain ⟨y0, y1, y2, y3, y4, y5, y6, y7, y8, y9, y10, y11, y12, y13, y14, y15, y16, y17, y18, y19⟩ := hV
    go_simp
    all_goals rfl
  simp only [Act.put, List.setIfInBounds_toArray, List.set_cons_zero, List.set_cons_succ]
  refine wpAnyH_take (i := 7) (oi := { dst := some 26, op := Op.load 33 (Operand.tmp 25), type := 33, pos := "law.go:61", after := #[{ on := 6, ground := Ground.data }], guard := none }) (v := ?vv8) rfl (by kernel_rfl) (by kernel_rfl) (by kernel_rfl) (fun _ _ _ h => h) (Or.inl ⟨by rfl, ?hy8⟩) hS0 ?rest8
  case hy8 =>
    intro V hV
    obtain ⟨y0, y1, y2, y3, y4, y5, y6, y7, y8, y9, y10, y11, y12, y13, y14, y15, y16, y17, y18, y19⟩ := hV
    go_simp
    all_goals rfl
  simp only [Act.put, List.setIfInBounds_toArray, List.set_cons_zero, List.set_cons_succ]
  refine wpAnyH_take (i := 8) (oi := { dst := some 27, op := Op.load 39 (Operand.tmp 3), type := 39, pos := "law.go:61", after := #[], guard := none }) (v := ?vv9) rfl (by kernel_rfl) (by kernel_rfl) (by kernel_rfl) (fun _ _ _ h => h) (Or.inl ⟨by rfl, ?hy9⟩) hS0 ?rest9
  case hy9 =>
    intro V hV
    obtain ⟨y0, y1, y2, y3, y4, y5, y6, y7, y8, y9, y10, y11, y12, y13, y14, y15, y16, y17, y18, y19⟩ := hV
    go_simp
    all_goals rfl
  simp only [Act.put, List.setIfInBounds_toArray, List.set_cons_zero, List.set_cons_succ]
  refine wpAnyH_ready (rs := [9, 15]) (by kernel_rfl) (by simp) (AllReadyH.cons (o := { dst := some 28, op := Op.call { callee := Callee.value (Operand.func 22), args := #[Operand.tmp 22, Operand.tmp 26, Operand.tmp 27], argTypes := #[24, 33, 39] }, type := 57, pos := "law.go:61", after := #[{ on := 3, ground := Ground.data }, { on := 7, ground := Ground.data }, { on := 8, ground := Ground.data }], guard := none }) rfl (fun K' hK => ?_) (AllReadyH.cons (o := { dst := some 7, op := Op.alloc 33, type := 0, pos := "law.go:61", after := #[], guard := none }) rfl (fun K' hK => ?_) AllReadyH.nil))
  · refine step_call3 _ (by rfl) 22 _ _ _ _ _ _ (by rfl) (enters_of Tryd.func22 (by kernel_rfl) rfl) _ _ _ (by rfl) (by rfl) (by rfl) (hC _ (Kept.refl (fun _ => False) V0)) ?_
    rintro e w9 ⟨ve, a6, c6, a7, c7, vt, rfl, Q9, K9⟩
    have L9 := ((Kept.refl (fun _ => False) V0)).and K9
    have hB9 : V0.heap.size ≤ V0.heap.size := ((Kept.refl (fun _ => False) V0)).size
    refine ⟨_, rfl, ?_⟩
    refine hK.out _ _ (HS.out _ L9) (fun _ => ?_)
    clear hK K'
    try (simp only [Act.put, List.setIfInBounds_toArray, List.set_cons_zero, List.set_cons_succ])
    refine wpAnyH_take (i := 10) (oi := { dst := some 18, op := Op.move (Operand.tmp 28), type := 57, pos := "law.go:61", after := #[{ on := 9, ground := Ground.data }], guard := none }) (v := ?vv10) rfl (by kernel_rfl) (by kernel_rfl) (by kernel_rfl) (fun _ _ _ h => h) (Or.inl ⟨by rfl, ?hy10⟩) (HS.out _ L9) ?rest10
    case hy10 =>
      intro V hV
      obtain ⟨y0, y1, y2, y3, y4, y5, y6, y7, y8, y9, y10, y11, y12, y13, y14, y15, y16, y17, y18, y19⟩ := hV
      go_simp
      all_goals rfl
    simp only [Act.put, List.setIfInBounds_toArray, List.set_cons_zero, List.set_cons_succ]
    refine wpAnyH_take (i := 11) (oi := { dst := some 29, op := Op.extract (Operand.tmp 18) 0, type := 34, pos := "law.go:61", after := #[{ on := 10, ground := Ground.data }], guard := none }) (v := ?vv11) rfl (by kernel_rfl) (by kernel_rfl) (by kernel_rfl) (fun _ _ _ h => h) (Or.inl ⟨by rfl, ?hy11⟩) (HS.out _ L9) ?rest11
    case hy11 =>
      intro V hV
      obtain ⟨y0, y1, y2, y3, y4, y5, y6, y7, y8, y9, y10, y11, y12, y13, y14, y15, y16, y17, y18, y19⟩ := hV
      go_simp
      all_goals rfl
    simp only [Act.put, List.setIfInBounds_toArray, List.set_cons_zero, List.set_cons_succ]
    refine wpAnyH_take (i := 12) (oi := { dst := some 30, op := Op.extract (Operand.tmp 18) 1, type := 33, pos := "law.go:61", after := #[{ on := 10, ground := Ground.data }, { on := 16, ground := Ground.gcOnly Departure.lateStores }], guard := none }) (v := ?vv12) rfl (by kernel_rfl) (by kernel_rfl) (by kernel_rfl) (fun _ _ _ h => h) (Or.inl ⟨by rfl, ?hy12⟩) (HS.out _ L9) ?rest12
    case hy12 =>
      intro V hV
      obtain ⟨y0, y1, y2, y3, y4, y5, y6, y7, y8, y9, y10, y11, y12, y13, y14, y15, y16, y17, y18, y19⟩ := hV
      go_simp
      all_goals rfl
    simp only [Act.put, List.setIfInBounds_toArray, List.set_cons_zero, List.set_cons_succ]
    refine wpAnyH_take (i := 13) (oi := { dst := some 31, op := Op.extract (Operand.tmp 18) 2, type := 56, pos := "law.go:61", after := #[{ on := 10, ground := Ground.data }, { on := 17, ground := Ground.gcOnly Departure.lateStores }], guard := none }) (v := ?vv13) rfl (by kernel_rfl) (by kernel_rfl) (by kernel_rfl) (fun _ _ _ h => h) (Or.inl ⟨by rfl, ?hy13⟩) (HS.out _ L9) ?rest13
    case hy13 =>
      intro V hV
      obtain ⟨y0, y1, y2, y3, y4, y5, y6, y7, y8, y9, y10, y11, y12, y13, y14, y15, y16, y17, y18, y19⟩ := hV
      go_simp
      all_goals rfl
    simp only [Act.put, List.setIfInBounds_toArray, List.set_cons_zero, List.set_cons_succ]
    refine wpAnyH_take (i := 14) (oi := { dst := some 32, op := Op.extract (Operand.tmp 18) 3, type := 42, pos := "law.go:61", after := #[{ on := 10, ground := Ground.data }, { on := 18, ground := Ground.gcOnly Departure.lateStores }], guard := none }) (v := ?vv14) rfl (by kernel_rfl) (by kernel_rfl) (by kernel_rfl) (fun _ _ _ h => h) (Or.inl ⟨by rfl, ?hy14⟩) (HS.out _ L9) ?rest14
    case hy14 =>
      intro V hV
      obtain ⟨y0, y1, y2, y3, y4, y5, y6, y7, y8, y9, y10, y11, y12, y13, y14, y15, y16, y17, y18, y19⟩ := hV
      go_simp
      all_goals rfl
    simp only [Act.put, List.setIfInBounds_toArray, List.set_cons_zero, List.set_cons_succ]
    refine wpAnyH_ready (rs := [15]) (by kernel_rfl) (by simp) (AllReadyH.cons (o := { dst := some 7, op := Op.alloc 33, type := 0, pos := "law.go:61", after := #[], guard := none }) rfl (fun K' hK => ?_) AllReadyH.nil)
    have hmb : (w9.alloc (.cells #[.string ⟨#[]⟩, .string ⟨#[]⟩, .string ⟨#[]⟩, .string ⟨#[]⟩, .int .i64 0, .string ⟨#[]⟩, .slice none 0 0, .slice none 0 0, .int .i64 0] 33)).heap[w9.heap.size]? = some (.cells #[.string ⟨#[]⟩, .string ⟨#[]⟩, .string ⟨#[]⟩, .string ⟨#[]⟩, .int .i64 0, .string ⟨#[]⟩, .slice none 0 0, .slice none 0 0, .int .i64 0] 33 (0, 0)) := heap_alloc_new _ _
    have KA0 : Kept (fun _ => False) w9 (w9.alloc (.cells #[.string ⟨#[]⟩, .string ⟨#[]⟩, .string ⟨#[]⟩, .string ⟨#[]⟩, .int .i64 0, .string ⟨#[]⟩, .slice none 0 0, .slice none 0 0, .int .i64 0] 33)) := Kept.alloc _ _ _
    have KA := (L9).and KA0
    go_simp
    refine hK.out _ _ (HS.out _ KA) (fun _ => ?_)
    generalize w9.alloc (.cells #[.string ⟨#[]⟩, .string ⟨#[]⟩, .string ⟨#[]⟩, .string ⟨#[]⟩, .int .i64 0, .string ⟨#[]⟩, .slice none 0 0, .slice none 0 0, .int .i64 0] 33) = V6 at *
    obtain ⟨mb, hmbe⟩ : ∃ mb, mb = w9.heap.size := ⟨_, rfl⟩
    rw [← hmbe] at hmb ⊢
    have hz : V0.heap.size ≤ mb := by rw [hmbe]; exact (L9).size
    have hmC : mb < V0.heap.size ∨ w9.heap.size ≤ mb := .inr (Nat.le_of_eq hmbe.symm)
    have K90 : Kept (fun j => j = mb) w9 V6 := KA0.mono (fun _ h => h.elim)
    clear hmbe KA0
    clear hK K'
    try (simp only [Act.put, List.setIfInBounds_toArray, List.set_cons_zero, List.set_cons_succ])
    refine wpAnyH_take (i := 16) (oi := { dst := some 6, op := Op.assign (Operand.tmp 29), type := 34, pos := "law.go:61", after := #[{ on := 11, ground := Ground.data }, { on := 9, ground := Ground.chain }, { on := 0, ground := Ground.phase }, { on := 1, ground := Ground.phase }, { on := 2, ground := Ground.phase }, { on := 3, ground := Ground.phase }, { on := 4, ground := Ground.phase }, { on := 5, ground := Ground.phase }, { on := 6, ground := Ground.phase }, { on := 7, ground := Ground.phase }, { on := 8, ground := Ground.phase }, { on := 9, ground := Ground.phase }, { on := 10, ground := Ground.phase }, { on := 11, ground := Ground.phase }, { on := 12, ground := Ground.textOnly Departure.lateStores }, { on := 13, ground := Ground.textOnly Departure.lateStores }, { on := 14, ground := Ground.textOnly Departure.lateStores }, { on := 15, ground := Ground.phase }], guard := none }) (v := ?vv15) rfl (by kernel_rfl) (by kernel_rfl) (by kernel_rfl) (fun _ _ _ h => h) (Or.inl ⟨by rfl, ?hy15⟩) (HS.out _ KA) ?rest15
    case hy15 =>
      intro V hV
      obtain ⟨y0, y1, y2, y3, y4, y5, y6, y7, y8, y9, y10, y11, y12, y13, y14, y15, y16, y17, y18, y19⟩ := hV
      go_simp
      all_goals rfl
    simp only [Act.put, List.setIfInBounds_toArray, List.set_cons_zero, List.set_cons_succ]
    refine wpAnyH_ready (rs := [17]) (by kernel_rfl) (by simp) (AllReadyH.cons (o := { dst := none, op := Op.store 33 (Operand.tmp 7) (Operand.tmp 30), type := 0, pos := "law.go:61", after := #[{ on := 15, ground := Ground.data }, { on := 12, ground := Ground.data }, { on := 16, ground := Ground.chain }, { on := 0, ground := Ground.phase }, { on := 1, ground := Ground.phase }, { on := 2, ground := Ground.phase }, { on := 3, ground := Ground.phase }, { on := 4, ground := Ground.phase }, { on := 5, ground := Ground.phase }, { on := 6, ground := Ground.phase }, { on := 7, ground := Ground.phase }, { on := 8, ground := Ground.phase }, { on := 9, ground := Ground.phase }, { on := 10, ground := Ground.phase }, { on := 11, ground := Ground.phase }, { on := 12, ground := Ground.phase }, { on := 13, ground := Ground.textOnly Departure.lateStores }, { on := 14, ground := Ground.textOnly Departure.lateStores }, { on := 15, ground := Ground.phase }, { on := 16, ground := Ground.phase }], guard := none }) rfl (fun K' hK => ?_) AllReadyH.nil)
    obtain ⟨⟨p0, p1, p2, p3, p4, p5, p6, p7, p8⟩, f0, f1, f2, f3, f4, f5, f6, f7, f8⟩ := nine hmb
    have HM := hid (put9 hmb (.string t.dfn) (.string t.id) (.string t.par) (.string t.pnode) (.int .i64 t.status) (.string t.text) (.slice a6 t.nodes.length c6) (.slice a7 t.sigs.length c7) (.int .i64 t.events))
    have KS := kept9 (S := fun j => j = mb) V6 rfl (.string t.dfn) (.string t.id) (.string t.par) (.string t.pnode) (.int .i64 t.status) (.string t.text) (.slice a6 t.nodes.length c6) (.slice a7 t.sigs.length c7) (.int .i64 t.events)
    have QS := hid (hQ _ _ _ _ _ _ _ _ Q9 hmC (K90.and KS))
    have KF := (KA).trans KS (fun j h => .inr (by subst h; exact hz))
    go_simp
    refine hK.out _ _ (HS.out _ KF) (fun _ => ?_)
    have HKF := hid (HKD.out.and KF)
    clear p0 p1 p2 p3 p4 p5 p6 p7 p8 f0 f1 f2 f3 f4 f5 f6 f7 f8 KS
    clear hK K'
    try (simp only [Act.put, List.setIfInBounds_toArray, List.set_cons_zero, List.set_cons_succ])
    refine wpAnyH_take (i := 18) (oi := { dst := some 8, op := Op.assign (Operand.tmp 31), type := 56, pos := "law.go:61", after := #[{ on := 13, ground := Ground.data }, { on := 17, ground := Ground.chain }, { on := 0, ground := Ground.phase }, { on := 1, ground := Ground.phase }, { on := 2, ground := Ground.phase }, { on := 3, ground := Ground.phase }, { on := 4, ground := Ground.phase }, { on := 5, ground := Ground.phase }, { on := 6, ground := Ground.phase }, { on := 7, ground := Ground.phase }, { on := 8, ground := Ground.phase }, { on := 9, ground := Ground.phase }, { on := 10, ground := Ground.phase }, { on := 11, ground := Ground.phase }, { on := 12, ground := Ground.phase }, { on := 13, ground := Ground.phase }, { on := 14, ground := Ground.textOnly Departure.lateStores }, { on := 15, ground := Ground.phase }, { on := 16, ground := Ground.phase }, { on := 17, ground := Ground.phase }], guard := none }) (v := ?vv16) rfl (by kernel_rfl) (by kernel_rfl) (by kernel_rfl) (fun _ _ _ h => h) (Or.inl ⟨by rfl, ?hy16⟩) (HS.out _ KF) ?rest16
    case hy16 =>
      intro V hV
      obtain ⟨y0, y1, y2, y3, y4, y5, y6, y7, y8, y9, y10, y11, y12, y13, y14, y15, y16, y17, y18, y19⟩ := hV
      go_simp
      all_goals rfl
    simp only [Act.put, List.setIfInBounds_toArray, List.set_cons_zero, List.set_cons_succ]
    refine wpAnyH_take (i := 19) (oi := { dst := some 9, op := Op.assign (Operand.tmp 32), type := 42, pos := "law.go:61", after := #[{ on := 14, ground := Ground.data }, { on := 18, ground := Ground.chain }, { on := 0, ground := Ground.phase }, { on := 1, ground := Ground.phase }, { on := 2, ground := Ground.phase }, { on := 3, ground := Ground.phase }, { on := 4, ground := Ground.phase }, { on := 5, ground := Ground.phase }, { on := 6, ground := Ground.phase }, { on := 7, ground := Ground.phase }, { on := 8, ground := Ground.phase }, { on := 9, ground := Ground.phase }, { on := 10, ground := Ground.phase }, { on := 11, ground := Ground.phase }, { on := 12, ground := Ground.phase }, { on := 13, ground := Ground.phase }, { on := 14, ground := Ground.phase }, { on := 15, ground := Ground.phase }, { on := 16, ground := Ground.phase }, { on := 17, ground := Ground.phase }, { on := 18, ground := Ground.phase }], guard := none }) (v := ?vv17) rfl (by kernel_rfl) (by kernel_rfl) (by kernel_rfl) (fun _ _ _ h => h) (Or.inl ⟨by rfl, ?hy17⟩) (HS.out _ KF) ?rest17
    case hy17 =>
      intro V hV
      obtain ⟨y0, y1, y2, y3, y4, y5, y6, y7, y8, y9, y10, y11, y12, y13, y14, y15, y16, y17, y18, y19⟩ := hV
      go_simp
      all_goals rfl
    simp only [Act.put, List.setIfInBounds_toArray, List.set_cons_zero, List.set_cons_succ]
    refine wpAnyH_done (by kernel_rfl) ?_ _
    exact HH.out _ _ _ _ _ _ _ _ _ _ _ _ _ _ _ mb _ ve a6 c6 a7 c7 vt _ (Nat.le_trans HKD.out.size hz) (Nat.le_trans HKD.out.size hB9) HM.out QS.out HKF.out
  · have hmb : (V0.alloc (.cells #[.string ⟨#[]⟩, .string ⟨#[]⟩, .string ⟨#[]⟩, .string ⟨#[]⟩, .int .i64 0, .string ⟨#[]⟩, .slice none 0 0, .slice none 0 0, .int .i64 0] 33)).heap[V0.heap.size]? = some (.cells #[.string ⟨#[]⟩, .string ⟨#[]⟩, .string ⟨#[]⟩, .string ⟨#[]⟩, .int .i64 0, .string ⟨#[]⟩, .slice none 0 0, .slice none 0 0, .int .i64 0] 33 (0, 0)) := heap_alloc_new _ _
    have KA0 : Kept (fun _ => False) V0 (V0.alloc (.cells #[.string ⟨#[]⟩, .string ⟨#[]⟩, .string ⟨#[]⟩, .string ⟨#[]⟩, .int .i64 0, .string ⟨#[]⟩, .slice none 0 0, .slice none 0 0, .int .i64 0] 33)) := Kept.alloc _ _ _
    have KA := ((Kept.refl (fun _ => False) V0)).and KA0
    go_simp
    refine hK.out _ _ (HS.out _ KA) (fun _ => ?_)
    generalize V0.alloc (.cells #[.string ⟨#[]⟩, .string ⟨#[]⟩, .string ⟨#[]⟩, .string ⟨#[]⟩, .int .i64 0, .string ⟨#[]⟩, .slice none 0 0, .slice none 0 0, .int .i64 0] 33) = V6 at *
    obtain ⟨mb, hmbe⟩ : ∃ mb, mb = V0.heap.size := ⟨_, rfl⟩
    rw [← hmbe] at hmb ⊢
    have hz : V0.heap.size ≤ mb := by rw [hmbe]; exact ((Kept.refl (fun _ => False) V0)).size
    clear hmbe KA0
    clear hK K'
    try (simp only [Act.put, List.setIfInBounds_toArray, List.set_cons_zero, List.set_cons_succ])
    refine wpAnyH_ready (rs := [9]) (by kernel_rfl) (by simp) (AllReadyH.cons (o := { dst := some 28, op := Op.call { callee := Callee.value (Operand.func 22), args := #[Operand.tmp 22, Operand.tmp 26, Operand.tmp 27], argTypes := #[24, 33, 39] }, type := 57, pos := "law.go:61", after := #[{ on := 3, ground := Ground.data }, { on := 7, ground := Ground.data }, { on := 8, ground := Ground.data }], guard := none }) rfl (fun K' hK => ?_) AllReadyH.nil)
    refine step_call3 _ (by rfl) 22 _ _ _ _ _ _ (by rfl) (enters_of Tryd.func22 (by kernel_rfl) rfl) _ _ _ (by rfl) (by rfl) (by rfl) (hC _ KA) ?_
    rintro e w9 ⟨ve, a6, c6, a7, c7, vt, rfl, Q9, K9⟩
    have L9 := (KA).and K9
    have hB9 : V0.heap.size ≤ V6.heap.size := (KA).size
    have hmC : mb < V6.heap.size ∨ w9.heap.size ≤ mb := .inl (Array.getElem?_eq_some_iff.1 hmb).1
    replace hmb := (K9.block _ (Array.getElem?_eq_some_iff.1 hmb).1 (fun h => h)).trans hmb
    have K90 : Kept (fun j => j = mb) w9 w9 := Kept.refl _ _
    refine ⟨_, rfl, ?_⟩
    refine hK.out _ _ (HS.out _ L9) (fun _ => ?_)
    clear hK K'
    try (simp only [Act.put, List.setIfInBounds_toArray, List.set_cons_zero, List.set_cons_succ])
    refine wpAnyH_take (i := 10) (oi := { dst := some 18, op := Op.move (Operand.tmp 28), type := 57, pos := "law.go:61", after := #[{ on := 9, ground := Ground.data }], guard := none }) (v := ?vv18) rfl (by kernel_rfl) (by kernel_rfl) (by kernel_rfl) (fun _ _ _ h => h) (Or.inl ⟨by rfl, ?hy18⟩) (HS.out _ L9) ?rest18
    case hy18 =>
      intro V hV
      obtain ⟨y0, y1, y2, y3, y4, y5, y6, y7, y8, y9, y10, y11, y12, y13, y14, y15, y16, y17, y18, y19⟩ := hV
      go_simp
      all_goals rfl
    simp only [Act.put, List.setIfInBounds_toArray, List.set_cons_zero, List.set_cons_succ]
    refine wpAnyH_take (i := 11) (oi := { dst := some 29, op := Op.extract (Operand.tmp 18) 0, type := 34, pos := "law.go:61", after := #[{ on := 10, ground := Ground.data }], guard := none }) (v := ?vv19) rfl (by kernel_rfl) (by kernel_rfl) (by kernel_rfl) (fun _ _ _ h => h) (Or.inl ⟨by rfl, ?hy19⟩) (HS.out _ L9) ?rest19
    case hy19 =>
      intro V hV
      obtain ⟨y0, y1, y2, y3, y4, y5, y6, y7, y8, y9, y10, y11, y12, y13, y14, y15, y16, y17, y18, y19⟩ := hV
      go_simp
      all_goals rfl
    simp only [Act.put, List.setIfInBounds_toArray, List.set_cons_zero, List.set_cons_succ]
    refine wpAnyH_take (i := 12) (oi := { dst := some 30, op := Op.extract (Operand.tmp 18) 1, type := 33, pos := "law.go:61", after := #[{ on := 10, ground := Ground.data }, { on := 16, ground := Ground.gcOnly Departure.lateStores }], guard := none }) (v := ?vv20) rfl (by kernel_rfl) (by kernel_rfl) (by kernel_rfl) (fun _ _ _ h => h) (Or.inl ⟨by rfl, ?hy20⟩) (HS.out _ L9) ?rest20
    case hy20 =>
      intro V hV
      obtain ⟨y0, y1, y2, y3, y4, y5, y6, y7, y8, y9, y10, y11, y12, y13, y14, y15, y16, y17, y18, y19⟩ := hV
      go_simp
      all_goals rfl
    simp only [Act.put, List.setIfInBounds_toArray, List.set_cons_zero, List.set_cons_succ]
    refine wpAnyH_take (i := 13) (oi := { dst := some 31, op := Op.extract (Operand.tmp 18) 2, type := 56, pos := "law.go:61", after := #[{ on := 10, ground := Ground.data }, { on := 17, ground := Ground.gcOnly Departure.lateStores }], guard := none }) (v := ?vv21) rfl (by kernel_rfl) (by kernel_rfl) (by kernel_rfl) (fun _ _ _ h => h) (Or.inl ⟨by rfl, ?hy21⟩) (HS.out _ L9) ?rest21
    case hy21 =>
      intro V hV
      obtain ⟨y0, y1, y2, y3, y4, y5, y6, y7, y8, y9, y10, y11, y12, y13, y14, y15, y16, y17, y18, y19⟩ := hV
      go_simp
      all_goals rfl
    simp only [Act.put, List.setIfInBounds_toArray, List.set_cons_zero, List.set_cons_succ]
    refine wpAnyH_take (i := 14) (oi := { dst := some 32, op := Op.extract (Operand.tmp 18) 3, type := 42, pos := "law.go:61", after := #[{ on := 10, ground := Ground.data }, { on := 18, ground := Ground.gcOnly Departure.lateStores }], guard := none }) (v := ?vv22) rfl (by kernel_rfl) (by kernel_rfl) (by kernel_rfl) (fun _ _ _ h => h) (Or.inl ⟨by rfl, ?hy22⟩) (HS.out _ L9) ?rest22
    case hy22 =>
      intro V hV
      obtain ⟨y0, y1, y2, y3, y4, y5, y6, y7, y8, y9, y10, y11, y12, y13, y14, y15, y16, y17, y18, y19⟩ := hV
      go_simp
      all_goals rfl
    simp only [Act.put, List.setIfInBounds_toArray, List.set_cons_zero, List.set_cons_succ]
    refine wpAnyH_take (i := 16) (oi := { dst := some 6, op := Op.assign (Operand.tmp 29), type := 34, pos := "law.go:61", after := #[{ on := 11, ground := Ground.data }, { on := 9, ground := Ground.chain }, { on := 0, ground := Ground.phase }, { on := 1, ground := Ground.phase }, { on := 2, ground := Ground.phase }, { on := 3, ground := Ground.phase }, { on := 4, ground := Ground.phase }, { on := 5, ground := Ground.phase }, { on := 6, ground := Ground.phase }, { on := 7, ground := Ground.phase }, { on := 8, ground := Ground.phase }, { on := 9, ground := Ground.phase }, { on := 10, ground := Ground.phase }, { on := 11, ground := Ground.phase }, { on := 12, ground := Ground.textOnly Departure.lateStores }, { on := 13, ground := Ground.textOnly Departure.lateStores }, { on := 14, ground := Ground.textOnly Departure.lateStores }, { on := 15, ground := Ground.phase }], guard := none }) (v := ?vv23) rfl (by kernel_rfl) (by kernel_rfl) (by kernel_rfl) (fun _ _ _ h => h) (Or.inl ⟨by rfl, ?hy23⟩) (HS.out _ L9) ?rest23
    case hy23 =>
      intro V hV
      obtain ⟨y0, y1, y2, y3, y4, y5, y6, y7, y8, y9, y10, y11, y12, y13, y14, y15, y16, y17, y18, y19⟩ := hV
      go_simp
      all_goals rfl
    simp only [Act.put, List.setIfInBounds_toArray, List.set_cons_zero, List.set_cons_succ]
    refine wpAnyH_ready (rs := [17]) (by kernel_rfl) (by simp) (AllReadyH.cons (o := { dst := none, op := Op.store 33 (Operand.tmp 7) (Operand.tmp 30), type := 0, pos := "law.go:61", after := #[{ on := 15, ground := Ground.data }, { on := 12, ground := Ground.data }, { on := 16, ground := Ground.chain }, { on := 0, ground := Ground.phase }, { on := 1, ground := Ground.phase }, { on := 2, ground := Ground.phase }, { on := 3, ground := Ground.phase }, { on := 4, ground := Ground.phase }, { on := 5, ground := Ground.phase }, { on := 6, ground := Ground.phase }, { on := 7, ground := Ground.phase }, { on := 8, ground := Ground.phase }, { on := 9, ground := Ground.phase }, { on := 10, ground := Ground.phase }, { on := 11, ground := Ground.phase }, { on := 12, ground := Ground.phase }, { on := 13, ground := Ground.textOnly Departure.lateStores }, { on := 14, ground := Ground.textOnly Departure.lateStores }, { on := 15, ground := Ground.phase }, { on := 16, ground := Ground.phase }], guard := none }) rfl (fun K' hK => ?_) AllReadyH.nil)
    obtain ⟨⟨p0, p1, p2, p3, p4, p5, p6, p7, p8⟩, f0, f1, f2, f3, f4, f5, f6, f7, f8⟩ := nine hmb
    have HM := hid (put9 hmb (.string t.dfn) (.string t.id) (.string t.par) (.string t.pnode) (.int .i64 t.status) (.string t.text) (.slice a6 t.nodes.length c6) (.slice a7 t.sigs.length c7) (.int .i64 t.events))
    have KS := kept9 (S := fun j => j = mb) w9 rfl (.string t.dfn) (.string t.id) (.string t.par) (.string t.pnode) (.int .i64 t.status) (.string t.text) (.slice a6 t.nodes.length c6) (.slice a7 t.sigs.length c7) (.int .i64 t.events)
    have QS := hid (hQ _ _ _ _ _ _ _ _ Q9 hmC (K90.and KS))
    have KF := (L9).trans KS (fun j h => .inr (by subst h; exact hz))
    go_simp
    refine hK.out _ _ (HS.out _ KF) (fun _ => ?_)
    have HKF := hid (HKD.out.and KF)
    clear p0 p1 p2 p3 p4 p5 p6 p7 p8 f0 f1 f2 f3 f4 f5 f6 f7 f8 KS
    clear hK K'
    try (simp only [Act.put, List.setIfInBounds_toArray, List.set_cons_zero, List.set_cons_succ])
    refine wpAnyH_take (i := 18) (oi := { dst := some 8, op := Op.assign (Operand.tmp 31), type := 56, pos := "law.go:61", after := #[{ on := 13, ground := Ground.data }, { on := 17, ground := Ground.chain }, { on := 0, ground := Ground.phase }, { on := 1, ground := Ground.phase }, { on := 2, ground := Ground.phase }, { on := 3, ground := Ground.phase }, { on := 4, ground := Ground.phase }, { on := 5, ground := Ground.phase }, { on := 6, ground := Ground.phase }, { on := 7, ground := Ground.phase }, { on := 8, ground := Ground.phase }, { on := 9, ground := Ground.phase }, { on := 10, ground := Ground.phase }, { on := 11, ground := Ground.phase }, { on := 12, ground := Ground.phase }, { on := 13, ground := Ground.phase }, { on := 14, ground := Ground.textOnly Departure.lateStores }, { on := 15, ground := Ground.phase }, { on := 16, ground := Ground.phase }, { on := 17, ground := Ground.phase }], guard := none }) (v := ?vv24) rfl (by kernel_rfl) (by kernel_rfl) (by kernel_rfl) (fun _ _ _ h => h) (Or.inl ⟨by rfl, ?hy24⟩) (HS.out _ KF) ?rest24
    case hy24 =>
      intro V hV
      obtain ⟨y0, y1, y2, y3, y4, y5, y6, y7, y8, y9, y10, y11, y12, y13, y14, y15, y16, y17, y18, y19⟩ := hV
      go_simp
      all_goals rfl
    simp only [Act.put, List.setIfInBounds_toArray, List.set_cons_zero, List.set_cons_succ]
    refine wpAnyH_take (i := 19) (oi := { dst := some 9, op := Op.assign (Operand.tmp 32), type := 42, pos := "law.go:61", after := #[{ on := 14, ground := Ground.data }, { on := 18, ground := Ground.chain }, { on := 0, ground := Ground.phase }, { on := 1, ground := Ground.phase }, { on := 2, ground := Ground.phase }, { on := 3, ground := Ground.phase }, { on := 4, ground := Ground.phase }, { on := 5, ground := Ground.phase }, { on := 6, ground := Ground.phase }, { on := 7, ground := Ground.phase }, { on := 8, ground := Ground.phase }, { on := 9, ground := Ground.phase }, { on := 10, ground := Ground.phase }, { on := 11, ground := Ground.phase }, { on := 12, ground := Ground.phase }, { on := 13, ground := Ground.phase }, { on := 14, ground := Ground.phase }, { on := 15, ground := Ground.phase }, { on := 16, ground := Ground.phase }, { on := 17, ground := Ground.phase }, { on := 18, ground := Ground.phase }], guard := none }) (v := ?vv25) rfl (by kernel_rfl) (by kernel_rfl) (by kernel_rfl) (fun _ _ _ h => h) (Or.inl ⟨by rfl, ?hy25⟩) (HS.out _ KF) ?rest25
    case hy25 =>
      intro V hV
      obtain ⟨y0, y1, y2, y3, y4, y5, y6, y7, y8, y9, y10, y11, y12, y13, y14, y15, y16, y17, y18, y19⟩ := hV
      go_simp
      all_goals rfl
    simp only [Act.put, List.setIfInBounds_toArray, List.set_cons_zero, List.set_cons_succ]
    refine wpAnyH_done (by kernel_rfl) ?_ _
    exact HH.out _ _ _ _ _ _ _ _ _ _ _ _ _ _ _ mb _ ve a6 c6 a7 c7 vt _ (Nat.le_trans HKD.out.size hz) (Nat.le_trans HKD.out.size hB9) HM.out QS.out HKF.out

set_option maxRecDepth 100000 in
set_option maxHeartbeats 8000000 in
theorem pl3 {W : World} {pb ib : Nat} {d0 d1 q0 q1 q2 q3 q4 q5 q6 q7 q8 i0 i1 i2 i3 i4 i5 i6 i7 i8 : Value} {t : St} {z : Int} {Q : Nat → World → Value → Value → Value → Value → Prop} {ds : List Deferred} {u1 u2 u4 u5 u6 u7 u8 u9 u10 u11 u12 u13 u14 u15 u16 u17 u18 u19 u20 u21 u22 u23 u24 u25 u26 u27 u28 u29 u30 u31 u32 u33 u34 u35 u36 u37 u38 u39 u40 u41 u42 u43 u44 u45 u46 u47 u48 u49 u50 u51 u52 u53 u54 u55 u56 u57 u58 u59 u60 u61 u62 u63 u64 u65 u66 u67 u68 u69 u70 u71 u72 u73 u74 u75 u76 u77 u78 u79 u80 u81 u82 u83 u84 u85 u86 u87 u88 u89 u90 u91 u92 u93 u94 u95 u96 u97 u98 : Value} (K : Act → World → Prop)
    (x0 : W.cell? ⟨pb, 0, none⟩ = some (d0)) (x1 : W.cell? ⟨pb, 1, none⟩ = some (d1)) (x2 : W.cell? ⟨pb, 2, none⟩ = some (q0)) (x3 : W.cell? ⟨pb, 3, none⟩ = some (q1)) (x4 : W.cell? ⟨pb, 4, none⟩ = some (q2)) (x5 : W.cell? ⟨pb, 5, none⟩ = some (q3)) (x6 : W.cell? ⟨pb, 6, none⟩ = some (q4)) (x7 : W.cell? ⟨pb, 7, none⟩ = some (q5)) (x8 : W.cell? ⟨pb, 8, none⟩ = some (q6)) (x9 : W.cell? ⟨pb, 9, none⟩ = some (q7)) (x10 : W.cell? ⟨pb, 10, none⟩ = some (q8)) (x11 : W.cell? ⟨ib, 0, none⟩ = some (i0)) (x12 : W.cell? ⟨ib, 1, none⟩ = some (i1)) (x13 : W.cell? ⟨ib, 2, none⟩ = some (i2)) (x14 : W.cell? ⟨ib, 3, none⟩ = some (i3)) (x15 : W.cell? ⟨ib, 4, none⟩ = some (i4)) (x16 : W.cell? ⟨ib, 5, none⟩ = some (i5)) (x17 : W.cell? ⟨ib, 6, none⟩ = some (i6)) (x18 : W.cell? ⟨ib, 7, none⟩ = some (i7)) (x19 : W.cell? ⟨ib, 8, none⟩ = some (i8))
    (hC : ∀ V, Kept (fun _ => False) W.drew V → Calls Tryd.prog 31 #[.agg #[d0, d1], .agg #[q0, q1, q2, q3, q4, q5, q6, q7, q8], .agg #[i0, i1, i2, i3, i4, i5, i6, i7, i8]] V fun e w' => ∃ (ve : Value) (a6 : Option Addr) (c6 : Nat) (a7 : Option Addr) (c7 : Nat) (vt : Value), e = .returned (.tuple #[ve, .agg #[.string t.dfn, .string t.id, .string t.par, .string t.pnode, .int .i64 t.status, .string t.text, .slice a6 t.nodes.length c6, .slice a7 t.sigs.length c7, .int .i64 t.events], vt, .int .i64 z]) ∧ Q V.heap.size w' ve (.slice a6 t.nodes.length c6) (.slice a7 t.sigs.length c7) vt ∧ Kept (fun _ => False) V w')
    (hQ : ∀ B w1 w2 ve p6 p7 vt mb, Q B w1 ve p6 p7 vt → mb < B ∨ w1.heap.size ≤ mb → Kept (fun j => j = mb) w1 w2 → Q B w2 ve p6 p7 vt)
    (h : ∀ (v33 v34 v35 v36 v37 v38 v39 v40 v41 v42 v43 v44 v45 v46 v47 : Value) (mb B : Nat) (ve : Value) (a6 : Option Addr) (c6 : Nat) (a7 : Option Addr) (c7 : Nat) (vt : Value) (W' : World), W.heap.size ≤ mb → W.heap.size ≤ B → W'.heap[mb]? = some (.cells #[.string t.dfn, .string t.id, .string t.par, .string t.pnode, .int .i64 t.status, .string t.text, .slice a6 t.nodes.length c6, .slice a7 t.sigs.length c7, .int .i64 t.events] 33 (0, 0)) → Q B W' ve (.slice a6 t.nodes.length c6) (.slice a7 t.sigs.length c7) vt → Kept (fun _ => False) W W' → K { tmps := #[.pointer (some ⟨pb, 0, none⟩), u1, u2, .pointer (some ⟨ib, 0, none⟩), u4, u5, u6, u7, u8, u9, ve, .pointer (some ⟨mb, 0, none⟩), vt, .int .i64 z, u14, u15, u16, u17, u18, u19, u20, u21, u22, u23, u24, u25, u26, u27, u28, u29, u30, u31, u32, v33, v34, v35, v36, v37, v38, v39, v40, v41, v42, v43, v44, v45, v46, v47, u48, u49, u50, u51, u52, u53, u54, u55, u56, u57, u58, u59, u60, u61, u62, u63, u64, u65, u66, u67, u68, u69, u70, u71, u72, u73, u74, u75, u76, u77, u78, u79, u80, u81, u82, u83, u84, u85, u86, u87, u88, u89, u90, u91, u92, u93, u94, u95, u96, u97, u98], defers := ds } W') :
    (Code.region 3 #[{ dst := some 34, op := Op.move (Operand.tmp 0), type := 29, pos := "law.go:62", after := #[], guard := none }, { dst := some 35, op := Op.nilCheck (Operand.tmp 34), type := 0, pos := "law.go:62", after := #[{ on := 0, ground := Ground.data }], guard := none }, { dst := some 36, op := Op.fieldAddr 36 (Operand.tmp 35) 0, type := 0, pos := "law.go:62", after := #[{ on := 1, ground := Ground.data }], guard := none }, { dst := some 37, op := Op.load 24 (Operand.tmp 36), type := 24, pos := "law.go:62", after := #[{ on := 2, ground := Ground.data }], guard := none }, { dst := some 38, op := Op.move (Operand.tmp 0), type := 29, pos := "law.go:62", after := #[], guard := none }, { dst := some 39, op := Op.nilCheck (Operand.tmp 38), type := 0, pos := "law.go:62", after := #[{ on := 4, ground := Ground.data }], guard := none }, { dst := some 40, op := Op.fieldAddr 36 (Operand.tmp 39) 1, type := 0, pos := "law.go:62", after := #[{ on := 5, ground := Ground.data }], guard := none }, { dst := some 41, op := Op.load 33 (Operand.tmp 40), type := 33, pos := "law.go:62", after := #[{ on := 6, ground := Ground.data }], guard := none }, { dst := some 42, op := Op.load 39 (Operand.tmp 3), type := 39, pos := "law.go:62", after := #[], guard := none }, { dst := some 43, op := Op.call { callee := Callee.value (Operand.func 31), args := #[Operand.tmp 37, Operand.tmp 41, Operand.tmp 42], argTypes := #[24, 33, 39] }, type := 57, pos := "law.go:62", after := #[{ on := 3, ground := Ground.data }, { on := 7, ground := Ground.data }, { on := 8, ground := Ground.data }], guard := none }, { dst := some 33, op := Op.move (Operand.tmp 43), type := 57, pos := "law.go:62", after := #[{ on := 9, ground := Ground.data }], guard := none }, { dst := some 44, op := Op.extract (Operand.tmp 33) 0, type := 34, pos := "law.go:62", after := #[{ on := 10, ground := Ground.data }], guard := none }, { dst := some 45, op := Op.extract (Operand.tmp 33) 1, type := 33, pos := "law.go:62", after := #[{ on := 10, ground := Ground.data }, { on := 16, ground := Ground.gcOnly Departure.lateStores }], guard := none }, { dst := some 46, op := Op.extract (Operand.tmp 33) 2, type := 56, pos := "law.go:62", after := #[{ on := 10, ground := Ground.data }, { on := 17, ground := Ground.gcOnly Departure.lateStores }], guard := none }, { dst := some 47, op := Op.extract (Operand.tmp 33) 3, type := 42, pos := "law.go:62", after := #[{ on := 10, ground := Ground.data }, { on := 18, ground := Ground.gcOnly Departure.lateStores }], guard := none }, { dst := some 11, op := Op.alloc 33, type := 0, pos := "law.go:62", after := #[], guard := none }, { dst := some 10, op := Op.assign (Operand.tmp 44), type := 34, pos := "law.go:62", after := #[{ on := 11, ground := Ground.data }, { on := 9, ground := Ground.chain }, { on := 0, ground := Ground.phase }, { on := 1, ground := Ground.phase }, { on := 2, ground := Ground.phase }, { on := 3, ground := Ground.phase }, { on := 4, ground := Ground.phase }, { on := 5, ground := Ground.phase }, { on := 6, ground := Ground.phase }, { on := 7, ground := Ground.phase }, { on := 8, ground := Ground.phase }, { on := 9, ground := Ground.phase }, { on := 10, ground := Ground.phase }, { on := 11, ground := Ground.phase }, { on := 12, ground := Ground.textOnly Departure.lateStores }, { on := 13, ground := Ground.textOnly Departure.lateStores }, { on := 14, ground := Ground.textOnly Departure.lateStores }, { on := 15, ground := Ground.phase }], guard := none }, { dst := none, op := Op.store 33 (Operand.tmp 11) (Operand.tmp 45), type := 0, pos := "law.go:62", after := #[{ on := 15, ground := Ground.data }, { on := 12, ground := Ground.data }, { on := 16, ground := Ground.chain }, { on := 0, ground := Ground.phase }, { on := 1, ground := Ground.phase }, { on := 2, ground := Ground.phase }, { on := 3, ground := Ground.phase }, { on := 4, ground := Ground.phase }, { on := 5, ground := Ground.phase }, { on := 6, ground := Ground.phase }, { on := 7, ground := Ground.phase }, { on := 8, ground := Ground.phase }, { on := 9, ground := Ground.phase }, { on := 10, ground := Ground.phase }, { on := 11, ground := Ground.phase }, { on := 12, ground := Ground.phase }, { on := 13, ground := Ground.textOnly Departure.lateStores }, { on := 14, ground := Ground.textOnly Departure.lateStores }, { on := 15, ground := Ground.phase }, { on := 16, ground := Ground.phase }], guard := none }, { dst := some 12, op := Op.assign (Operand.tmp 46), type := 56, pos := "law.go:62", after := #[{ on := 13, ground := Ground.data }, { on := 17, ground := Ground.chain }, { on := 0, ground := Ground.phase }, { on := 1, ground := Ground.phase }, { on := 2, ground := Ground.phase }, { on := 3, ground := Ground.phase }, { on := 4, ground := Ground.phase }, { on := 5, ground := Ground.phase }, { on := 6, ground := Ground.phase }, { on := 7, ground := Ground.phase }, { on := 8, ground := Ground.phase }, { on := 9, ground := Ground.phase }, { on := 10, ground := Ground.phase }, { on := 11, ground := Ground.phase }, { on := 12, ground := Ground.phase }, { on := 13, ground := Ground.phase }, { on := 14, ground := Ground.textOnly Departure.lateStores }, { on := 15, ground := Ground.phase }, { on := 16, ground := Ground.phase }, { on := 17, ground := Ground.phase }], guard := none }, { dst := some 13, op := Op.assign (Operand.tmp 47), type := 42, pos := "law.go:62", after := #[{ on := 14, ground := Ground.data }, { on := 18, ground := Ground.chain }, { on := 0, ground := Ground.phase }, { on := 1, ground := Ground.phase }, { on := 2, ground := Ground.phase }, { on := 3, ground := Ground.phase }, { on := 4, ground := Ground.phase }, { on := 5, ground := Ground.phase }, { on := 6, ground := Ground.phase }, { on := 7, ground := Ground.phase }, { on := 8, ground := Ground.phase }, { on := 9, ground := Ground.phase }, { on := 10, ground := Ground.phase }, { on := 11, ground := Ground.phase }, { on := 12, ground := Ground.phase }, { on := 13, ground := Ground.phase }, { on := 14, ground := Ground.phase }, { on := 15, ground := Ground.phase }, { on := 16, ground := Ground.phase }, { on := 17, ground := Ground.phase }, { on := 18, ground := Ground.phase }], guard := none }] true).wp Tryd.prog (onlyN K) { tmps := #[.pointer (some ⟨pb, 0, none⟩), u1, u2, .pointer (some ⟨ib, 0, none⟩), u4, u5, u6, u7, u8, u9, u10, u11, u12, u13, u14, u15, u16, u17, u18, u19, u20, u21, u22, u23, u24, u25, u26, u27, u28, u29, u30, u31, u32, u33, u34, u35, u36, u37, u38, u39, u40, u41, u42, u43, u44, u45, u46, u47, u48, u49, u50, u51, u52, u53, u54, u55, u56, u57, u58, u59, u60, u61, u62, u63, u64, u65, u66, u67, u68, u69, u70, u71, u72, u73, u74, u75, u76, u77, u78, u79, u80, u81, u82, u83, u84, u85, u86, u87, u88, u89, u90, u91, u92, u93, u94, u95, u96, u97, u98], defers := ds } W := by
  have HH : Hid _ := h
  have KD := Kept.drew (fun _ => False) W
  have HS : Hid (∀ V, Kept (fun _ => False) W.drew V → V.cell? ⟨pb, 0, none⟩ = some (d0) ∧ V.cell? ⟨pb, 1, none⟩ = some (d1) ∧ V.cell? ⟨pb, 2, none⟩ = some (q0) ∧ V.cell? ⟨pb, 3, none⟩ = some (q1) ∧ V.cell? ⟨pb, 4, none⟩ = some (q2) ∧ V.cell? ⟨pb, 5, none⟩ = some (q3) ∧ V.cell? ⟨pb, 6, none⟩ = some (q4) ∧ V.cell? ⟨pb, 7, none⟩ = some (q5) ∧ V.cell? ⟨pb, 8, none⟩ = some (q6) ∧ V.cell? ⟨pb, 9, none⟩ = some (q7) ∧ V.cell? ⟨pb, 10, none⟩ = some (q8) ∧ V.cell? ⟨ib, 0, none⟩ = some (i0) ∧ V.cell? ⟨ib, 1, none⟩ = some (i1) ∧ V.cell? ⟨ib, 2, none⟩ = some (i2) ∧ V.cell? ⟨ib, 3, none⟩ = some (i3) ∧ V.cell? ⟨ib, 4, none⟩ = some (i4) ∧ V.cell? ⟨ib, 5, none⟩ = some (i5) ∧ V.cell? ⟨ib, 6, none⟩ = some (i6) ∧ V.cell? ⟨ib, 7, none⟩ = some (i7) ∧ V.cell? ⟨ib, 8, none⟩ = some (i8)) := fun V KV => ⟨keepC (KD.and KV) x0 (fun _ _ h => h), keepC (KD.and KV) x1 (fun _ _ h => h), keepC (KD.and KV) x2 (fun _ _ h => h), keepC (KD.and KV) x3 (fun _ _ h => h), keepC (KD.and KV) x4 (fun _ _ h => h), keepC (KD.and KV) x5 (fun _ _ h => h), keepC (KD.and KV) x6 (fun _ _ h => h), keepC (KD.and KV) x7 (fun _ _ h => h), keepC (KD.and KV) x8 (fun _ _ h => h), keepC (KD.and KV) x9 (fun _ _ h => h), keepC (KD.and KV) x10 (fun _ _ h => h), keepC (KD.and KV) x11 (fun _ _ h => h), keepC (KD.and KV) x12 (fun _ _ h => h), keepC (KD.and KV) x13 (fun _ _ h => h), keepC (KD.and KV) x14 (fun _ _ h => h), keepC (KD.and KV) x15 (fun _ _ h => h), keepC (KD.and KV) x16 (fun _ _ h => h), keepC (KD.and KV) x17 (fun _ _ h => h), keepC (KD.and KV) x18 (fun _ _ h => h), keepC (KD.and KV) x19 (fun _ _ h => h)⟩
  have HKD : Hid (Kept (fun _ => False) W W.drew) := KD
  have hS0 := HS.out W.drew (Kept.refl _ _)
  clear h KD x0 x1 x2 x3 x4 x5 x6 x7 x8 x9 x10 x11 x12 x13 x14 x15 x16 x17 x18 x19
  refine wp_region_held_drew (S := fun V => V.cell? ⟨pb, 0, none⟩ = some (d0) ∧ V.cell? ⟨pb, 1, none⟩ = some (d1) ∧ V.cell? ⟨pb, 2, none⟩ = some (q0) ∧ V.cell? ⟨pb, 3, none⟩ = some (q1) ∧ V.cell? ⟨pb, 4, none⟩ = some (q2) ∧ V.cell? ⟨pb, 5, none⟩ = some (q3) ∧ V.cell? ⟨pb, 6, none⟩ = some (q4) ∧ V.cell? ⟨pb, 7, none⟩ = some (q5) ∧ V.cell? ⟨pb, 8, none⟩ = some (q6) ∧ V.cell? ⟨pb, 9, none⟩ = some (q7) ∧ V.cell? ⟨pb, 10, none⟩ = some (q8) ∧ V.cell? ⟨ib, 0, none⟩ = some (i0) ∧ V.cell? ⟨ib, 1, none⟩ = some (i1) ∧ V.cell? ⟨ib, 2, none⟩ = some (i2) ∧ V.cell? ⟨ib, 3, none⟩ = some (i3) ∧ V.cell? ⟨ib, 4, none⟩ = some (i4) ∧ V.cell? ⟨ib, 5, none⟩ = some (i5) ∧ V.cell? ⟨ib, 6, none⟩ = some (i6) ∧ V.cell? ⟨ib, 7, none⟩ = some (i7) ∧ V.cell? ⟨ib, 8, none⟩ = some (i8)) (by kernel_rfl) hS0 (fun _ => ?_)
  generalize W.drew = V0 at *
  refine wpAnyH_take (i := 0) (oi := { dst := some 34, op := Op.move (Operand.tmp 0), type := 29, pos := "law.go:62", after := #[], guard := none }) (v := ?vv1) rfl (by kernel_rfl) (by kernel_rfl) (by kernel_rfl) (fun _ _ _ h => h) (Or.inl ⟨by rfl, ?hy1⟩) hS0 ?rest1
  case hy1 =>
    intro V hV
    obtain ⟨y0, y1, y2, y3, y4, y5, y6, y7, y8, y9, y10, y11, y12, y13, y14, y15, y16, y17, y18, y19⟩ := hV
    go_simp
    all_goals rfl
  simp only [Act.put, List.setIfInBounds_toArray, List.set_cons_zero, List.set_cons_succ]
  refine wpAnyH_take (i := 1) (oi := { dst := some 35, op := Op.nilCheck (Operand.tmp 34), type := 0, pos := "law.go:62", after := #[{ on := 0, ground := Ground.data }], guard := none }) (v := ?vv2) rfl (by kernel_rfl) (by kernel_rfl) (by kernel_rfl) (fun _ _ _ h => h) (Or.inl ⟨by rfl, ?hy2⟩) hS0 ?rest2
  case hy2 =>
    intro V hV
    obtain ⟨y0, y1, y2, y3, y4, y5, y6, y7, y8, y9, y10, y11, y12, y13, y14, y15, y16, y17, y18, y19⟩ := hV
    go_simp
    all_goals rfl
  simp only [Act.put, List.setIfInBounds_toArray, List.set_cons_zero, List.set_cons_succ]
  refine wpAnyH_take (i := 2) (oi := { dst := some 36, op := Op.fieldAddr 36 (Operand.tmp 35) 0, type := 0, pos := "law.go:62", after := #[{ on := 1, ground := Ground.data }], guard := none }) (v := ?vv3) rfl (by kernel_rfl) (by kernel_rfl) (by kernel_rfl) (fun _ _ _ h => h) (Or.inl ⟨by rfl, ?hy3⟩) hS0 ?rest3
  case hy3 =>
    intro V hV
    obtain ⟨y0, y1, y2, y3, y4, y5, y6, y7, y8, y9, y10, y11, y12, y13, y14, y15, y16, y17, y18, y19⟩ := hV
    go_simp
    all_goals rfl
  simp only [Act.put, List.setIfInBounds_toArray, List.set_cons_zero, List.set_cons_succ]
  refine wpAnyH_take (i := 3) (oi := { dst := some 37, op := Op.load 24 (Operand.tmp 36), type := 24, pos := "law.go:62", after := #[{ on := 2, ground := Ground.data }], guard := none }) (v := ?vv4) rfl (by kernel_rfl) (by kernel_rfl) (by kernel_rfl) (fun _ _ _ h => h) (Or.inl ⟨by rfl, ?hy4⟩) hS0 ?rest4
  case hy4 =>
    intro V hV
    obtain ⟨y0, y1, y2, y3, y4, y5, y6, y7, y8, y9, y10, y11, y12, y13, y14, y15, y16, y17, y18, y19⟩ := hV
    go_simp
    all_goals rfl
  simp only [Act.put, List.setIfInBounds_toArray, List.set_cons_zero, List.set_cons_succ]
  refine wpAnyH_take (i := 4) (oi := { dst := some 38, op := Op.move (Operand.tmp 0), type := 29, pos := "law.go:62", after := #[], guard := none }) (v := ?vv5) rfl (by kernel_rfl) (by kernel_rfl) (by kernel_rfl) (fun _ _ _ h => h) (Or.inl ⟨by rfl, ?hy5⟩) hS0 ?rest5
  case hy5 =>
    intro V hV
    obtain ⟨y0, y1, y2, y3, y4, y5, y6, y7, y8, y9, y10, y11, y12, y13, y14, y15, y16, y17, y18, y19⟩ := hV
    go_simp
    all_goals rfl
  simp only [Act.put, List.setIfInBounds_toArray, List.set_cons_zero, List.set_cons_succ]
  refine wpAnyH_take (i := 5) (oi := { dst := some 39, op := Op.nilCheck (Operand.tmp 38), type := 0, pos := "law.go:62", after := #[{ on := 4, ground := Ground.data }], guard := none }) (v := ?vv6) rfl (by kernel_rfl) (by kernel_rfl) (by kernel_rfl) (fun _ _ _ h => h) (Or.inl ⟨by rfl, ?hy6⟩) hS0 ?rest6
  case hy6 =>
    intro V hV
    obtain ⟨y0, y1, y2, y3, y4, y5, y6, y7, y8, y9, y10, y11, y12, y13, y14, y15, y16, y17, y18, y19⟩ := hV
    go_simp
    all_goals rfl
  simp only [Act.put, List.setIfInBounds_toArray, List.set_cons_zero, List.set_cons_succ]
  refine wpAnyH_take (i := 6) (oi := { dst := some 40, op := Op.fieldAddr 36 (Operand.tmp 39) 1, type := 0, pos := "law.go:62", after := #[{ on := 5, ground := Ground.data }], guard := none }) (v := ?vv7) rfl (by kernel_rfl) (by kernel_rfl) (by kernel_rfl) (fun _ _ _ h => h) (Or.inl ⟨by rfl, ?hy7⟩) hS0 ?rest7
  case hy7 =>
    intro V hV
    obtain ⟨y0, y1, y2, y3, y4, y5, y6, y7, y8, y9, y10, y11, y12, y13, y14, y15, y16, y17, y18, y19⟩ := hV
    go_simp
    all_goals rfl
  simp only [Act.put, List.setIfInBounds_toArray, List.set_cons_zero, List.set_cons_succ]
  refine wpAnyH_take (i := 7) (oi := { dst := some 41, op := Op.load 33 (Operand.tmp 40), type := 33, pos := "law.go:62", after := #[{ on := 6, ground := Ground.data }], guard := none }) (v := ?vv8) rfl (by kernel_rfl) (by kernel_rfl) (by kernel_rfl) (fun _ _ _ h => h) (Or.inl ⟨by rfl, ?hy8⟩) hS0 ?rest8
  case hy8 =>
    intro V hV
    obtain ⟨y0, y1, y2, y3, y4, y5, y6, y7, y8, y9, y10, y11, y12, y13, y14, y15, y16, y17, y18, y19⟩ := hV
    go_simp
    all_goals rfl
  simp only [Act.put, List.setIfInBounds_toArray, List.set_cons_zero, List.set_cons_succ]
  refine wpAnyH_take (i := 8) (oi := { dst := some 42, op := Op.load 39 (Operand.tmp 3), type := 39, pos := "law.go:62", after := #[], guard := none }) (v := ?vv9) rfl (by kernel_rfl) (by kernel_rfl) (by kernel_rfl) (fun _ _ _ h => h) (Or.inl ⟨by rfl, ?hy9⟩) hS0 ?rest9
  case hy9 =>
    intro V hV
    obtain ⟨y0, y1, y2, y3, y4, y5, y6, y7, y8, y9, y10, y11, y12, y13, y14, y15, y16, y17, y18, y19⟩ := hV
    go_simp
    all_goals rfl
  simp only [Act.put, List.setIfInBounds_toArray, List.set_cons_zero, List.set_cons_succ]
  refine wpAnyH_ready (rs := [9, 15]) (by kernel_rfl) (by simp) (AllReadyH.cons (o := { dst := some 43, op := Op.call { callee := Callee.value (Operand.func 31), args := #[Operand.tmp 37, Operand.tmp 41, Operand.tmp 42], argTypes := #[24, 33, 39] }, type := 57, pos := "law.go:62", after := #[{ on := 3, ground := Ground.data }, { on := 7, ground := Ground.data }, { on := 8, ground := Ground.data }], guard := none }) rfl (fun K' hK => ?_) (AllReadyH.cons (o := { dst := some 11, op := Op.alloc 33, type := 0, pos := "law.go:62", after := #[], guard := none }) rfl (fun K' hK => ?_) AllReadyH.nil))
  · refine step_call3 _ (by rfl) 31 _ _ _ _ _ _ (by rfl) (enters_of Tryd.func31 (by kernel_rfl) rfl) _ _ _ (by rfl) (by rfl) (by rfl) (hC _ (Kept.refl (fun _ => False) V0)) ?_
    rintro e w9 ⟨ve, a6, c6, a7, c7, vt, rfl, Q9, K9⟩
    have L9 := ((Kept.refl (fun _ => False) V0)).and K9
    have hB9 : V0.heap.size ≤ V0.heap.size := ((Kept.refl (fun _ => False) V0)).size
    refine ⟨_, rfl, ?_⟩
    refine hK.out _ _ (HS.out _ L9) (fun _ => ?_)
    clear hK K'
    try (simp only [Act.put, List.setIfInBounds_toArray, List.set_cons_zero, List.set_cons_succ])
    refine wpAnyH_take (i := 10) (oi := { dst := some 33, op := Op.move (Operand.tmp 43), type := 57, pos := "law.go:62", after := #[{ on := 9, ground := Ground.data }], guard := none }) (v := ?vv10) rfl (by kernel_rfl) (by kernel_rfl) (by kernel_rfl) (fun _ _ _ h => h) (Or.inl ⟨by rfl, ?hy10⟩) (HS.out _ L9) ?rest10
    case hy10 =>
      intro V hV
      obtain ⟨y0, y1, y2, y3, y4, y5, y6, y7, y8, y9, y10, y11, y12, y13, y14, y15, y16, y17, y18, y19⟩ := hV
      go_simp
      all_goals rfl
    simp only [Act.put, List.setIfInBounds_toArray, List.set_cons_zero, List.set_cons_succ]
    refine wpAnyH_take (i := 11) (oi := { dst := some 44, op := Op.extract (Operand.tmp 33) 0, type := 34, pos := "law.go:62", after := #[{ on := 10, ground := Ground.data }], guard := none }) (v := ?vv11) rfl (by kernel_rfl) (by kernel_rfl) (by kernel_rfl) (fun _ _ _ h => h) (Or.inl ⟨by rfl, ?hy11⟩) (HS.out _ L9) ?rest11
    case hy11 =>
      intro V hV
      obtain ⟨y0, y1, y2, y3, y4, y5, y6, y7, y8, y9, y10, y11, y12, y13, y14, y15, y16, y17, y18, y19⟩ := hV
      go_simp
      all_goals rfl
    simp only [Act.put, List.setIfInBounds_toArray, List.set_cons_zero, List.set_cons_succ]
    refine wpAnyH_take (i := 12) (oi := { dst := some 45, op := Op.extract (Operand.tmp 33) 1, type := 33, pos := "law.go:62", after := #[{ on := 10, ground := Ground.data }, { on := 16, ground := Ground.gcOnly Departure.lateStores }], guard := none }) (v := ?vv12) rfl (by kernel_rfl) (by kernel_rfl) (by kernel_rfl) (fun _ _ _ h => h) (Or.inl ⟨by rfl, ?hy12⟩) (HS.out _ L9) ?rest12
    case hy12 =>
      intro V hV
      obtain ⟨y0, y1, y2, y3, y4, y5, y6, y7, y8, y9, y10, y11, y12, y13, y14, y15, y16, y17, y18, y19⟩ := hV
      go_simp
      all_goals rfl
    simp only [Act.put, List.setIfInBounds_toArray, List.set_cons_zero, List.set_cons_succ]
    refine wpAnyH_take (i := 13) (oi := { dst := some 46, op := Op.extract (Operand.tmp 33) 2, type := 56, pos := "law.go:62", after := #[{ on := 10, ground := Ground.data }, { on := 17, ground := Ground.gcOnly Departure.lateStores }], guard := none }) (v := ?vv13) rfl (by kernel_rfl) (by kernel_rfl) (by kernel_rfl) (fun _ _ _ h => h) (Or.inl ⟨by rfl, ?hy13⟩) (HS.out _ L9) ?rest13
    case hy13 =>
      intro V hV
      obtain ⟨y0, y1, y2, y3, y4, y5, y6, y7, y8, y9, y10, y11, y12, y13, y14, y15, y16, y17, y18, y19⟩ := hV
      go_simp
      all_goals rfl
    simp only [Act.put, List.setIfInBounds_toArray, List.set_cons_zero, List.set_cons_succ]
    refine wpAnyH_take (i := 14) (oi := { dst := some 47, op := Op.extract (Operand.tmp 33) 3, type := 42, pos := "law.go:62", after := #[{ on := 10, ground := Ground.data }, { on := 18, ground := Ground.gcOnly Departure.lateStores }], guard := none }) (v := ?vv14) rfl (by kernel_rfl) (by kernel_rfl) (by kernel_rfl) (fun _ _ _ h => h) (Or.inl ⟨by rfl, ?hy14⟩) (HS.out _ L9) ?rest14
    case hy14 =>
      intro V hV
      obtain ⟨y0, y1, y2, y3, y4, y5, y6, y7, y8, y9, y10, y11, y12, y13, y14, y15, y16, y17, y18, y19⟩ := hV
      go_simp
      all_goals rfl
    simp only [Act.put, List.setIfInBounds_toArray, List.set_cons_zero, List.set_cons_succ]
    refine wpAnyH_ready (rs := [15]) (by kernel_rfl) (by simp) (AllReadyH.cons (o := { dst := some 11, op := Op.alloc 33, type := 0, pos := "law.go:62", after := #[], guard := none }) rfl (fun K' hK => ?_) AllReadyH.nil)
    have hmb : (w9.alloc (.cells #[.string ⟨#[]⟩, .string ⟨#[]⟩, .string ⟨#[]⟩, .string ⟨#[]⟩, .int .i64 0, .string ⟨#[]⟩, .slice none 0 0, .slice none 0 0, .int .i64 0] 33)).heap[w9.heap.size]? = some (.cells #[.string ⟨#[]⟩, .string ⟨#[]⟩, .string ⟨#[]⟩, .string ⟨#[]⟩, .int .i64 0, .string ⟨#[]⟩, .slice none 0 0, .slice none 0 0, .int .i64 0] 33 (0, 0)) := heap_alloc_new _ _
    have KA0 : Kept (fun _ => False) w9 (w9.alloc (.cells #[.string ⟨#[]⟩, .string ⟨#[]⟩, .string ⟨#[]⟩, .string ⟨#[]⟩, .int .i64 0, .string ⟨#[]⟩, .slice none 0 0, .slice none 0 0, .int .i64 0] 33)) := Kept.alloc _ _ _
    have KA := (L9).and KA0
    go_simp
    refine hK.out _ _ (HS.out _ KA) (fun _ => ?_)
    generalize w9.alloc (.cells #[.string ⟨#[]⟩, .string ⟨#[]⟩, .string ⟨#[]⟩, .string ⟨#[]⟩, .int .i64 0, .string ⟨#[]⟩, .slice none 0 0, .slice none 0 0, .int .i64 0] 33) = V6 at *
    obtain ⟨mb, hmbe⟩ : ∃ mb, mb = w9.heap.size := ⟨_, rfl⟩
    rw [← hmbe] at hmb ⊢
    have hz : V0.heap.size ≤ mb := by rw [hmbe]; exact (L9).size
    have hmC : mb < V0.heap.size ∨ w9.heap.size ≤ mb := .inr (Nat.le_of_eq hmbe.symm)
    have K90 : Kept (fun j => j = mb) w9 V6 := KA0.mono (fun _ h => h.elim)
    clear hmbe KA0
    clear hK K'
    try (simp only [Act.put, List.setIfInBounds_toArray, List.set_cons_zero, List.set_cons_succ])
    refine wpAnyH_take (i := 16) (oi := { dst := some 10, op := Op.assign (Operand.tmp 44), type := 34, pos := "law.go:62", after := #[{ on := 11, ground := Ground.data }, { on := 9, ground := Ground.chain }, { on := 0, ground := Ground.phase }, { on := 1, ground := Ground.phase }, { on := 2, ground := Ground.phase }, { on := 3, ground := Ground.phase }, { on := 4, ground := Ground.phase }, { on := 5, ground := Ground.phase }, { on := 6, ground := Ground.phase }, { on := 7, ground := Ground.phase }, { on := 8, ground := Ground.phase }, { on := 9, ground := Ground.phase }, { on := 10, ground := Ground.phase }, { on := 11, ground := Ground.phase }, { on := 12, ground := Ground.textOnly Departure.lateStores }, { on := 13, ground := Ground.textOnly Departure.lateStores }, { on := 14, ground := Ground.textOnly Departure.lateStores }, { on := 15, ground := Ground.phase }], guard := none }) (v := ?vv15) rfl (by kernel_rfl) (by kernel_rfl) (by kernel_rfl) (fun _ _ _ h => h) (Or.inl ⟨by rfl, ?hy15⟩) (HS.out _ KA) ?rest15
    case hy15 =>
      intro V hV
      obtain ⟨y0, y1, y2, y3, y4, y5, y6, y7, y8, y9, y10, y11, y12, y13, y14, y15, y16, y17, y18, y19⟩ := hV
      go_simp
      all_goals rfl
    simp only [Act.put, List.setIfInBounds_toArray, List.set_cons_zero, List.set_cons_succ]
    refine wpAnyH_ready (rs := [17]) (by kernel_rfl) (by simp) (AllReadyH.cons (o := { dst := none, op := Op.store 33 (Operand.tmp 11) (Operand.tmp 45), type := 0, pos := "law.go:62", after := #[{ on := 15, ground := Ground.data }, { on := 12, ground := Ground.data }, { on := 16, ground := Ground.chain }, { on := 0, ground := Ground.phase }, { on := 1, ground := Ground.phase }, { on := 2, ground := Ground.phase }, { on := 3, ground := Ground.phase }, { on := 4, ground := Ground.phase }, { on := 5, ground := Ground.phase }, { on := 6, ground := Ground.phase }, { on := 7, ground := Ground.phase }, { on := 8, ground := Ground.phase }, { on := 9, ground := Ground.phase }, { on := 10, ground := Ground.phase }, { on := 11, ground := Ground.phase }, { on := 12, ground := Ground.phase }, { on := 13, ground := Ground.textOnly Departure.lateStores }, { on := 14, ground := Ground.textOnly Departure.lateStores }, { on := 15, ground := Ground.phase }, { on := 16, ground := Ground.phase }], guard := none }) rfl (fun K' hK => ?_) AllReadyH.nil)
    obtain ⟨⟨p0, p1, p2, p3, p4, p5, p6, p7, p8⟩, f0, f1, f2, f3, f4, f5, f6, f7, f8⟩ := nine hmb
    have HM := hid (put9 hmb (.string t.dfn) (.string t.id) (.string t.par) (.string t.pnode) (.int .i64 t.status) (.string t.text) (.slice a6 t.nodes.length c6) (.slice a7 t.sigs.length c7) (.int .i64 t.events))
    have KS := kept9 (S := fun j => j = mb) V6 rfl (.string t.dfn) (.string t.id) (.string t.par) (.string t.pnode) (.int .i64 t.status) (.string t.text) (.slice a6 t.nodes.length c6) (.slice a7 t.sigs.length c7) (.int .i64 t.events)
    have QS := hid (hQ _ _ _ _ _ _ _ _ Q9 hmC (K90.and KS))
    have KF := (KA).trans KS (fun j h => .inr (by subst h; exact hz))
    go_simp
    refine hK.out _ _ (HS.out _ KF) (fun _ => ?_)
    have HKF := hid (HKD.out.and KF)
    clear p0 p1 p2 p3 p4 p5 p6 p7 p8 f0 f1 f2 f3 f4 f5 f6 f7 f8 KS
    clear hK K'
    try (simp only [Act.put, List.setIfInBounds_toArray, List.set_cons_zero, List.set_cons_succ])
    refine wpAnyH_take (i := 18) (oi := { dst := some 12, op := Op.assign (Operand.tmp 46), type := 56, pos := "law.go:62", after := #[{ on := 13, ground := Ground.data }, { on := 17, ground := Ground.chain }, { on := 0, ground := Ground.phase }, { on := 1, ground := Ground.phase }, { on := 2, ground := Ground.phase }, { on := 3, ground := Ground.phase }, { on := 4, ground := Ground.phase }, { on := 5, ground := Ground.phase }, { on := 6, ground := Ground.phase }, { on := 7, ground := Ground.phase }, { on := 8, ground := Ground.phase }, { on := 9, ground := Ground.phase }, { on := 10, ground := Ground.phase }, { on := 11, ground := Ground.phase }, { on := 12, ground := Ground.phase }, { on := 13, ground := Ground.phase }, { on := 14, ground := Ground.textOnly Departure.lateStores }, { on := 15, ground := Ground.phase }, { on := 16, ground := Ground.phase }, { on := 17, ground := Ground.phase }], guard := none }) (v := ?vv16) rfl (by kernel_rfl) (by kernel_rfl) (by kernel_rfl) (fun _ _ _ h => h) (Or.inl ⟨by rfl, ?hy16⟩) (HS.out _ KF) ?rest16
    case hy16 =>
      intro V hV
      obtain ⟨y0, y1, y2, y3, y4, y5, y6, y7, y8, y9, y10, y11, y12, y13, y14, y15, y16, y17, y18, y19⟩ := hV
      go_simp
      all_goals rfl
    simp only [Act.put, List.setIfInBounds_toArray, List.set_cons_zero, List.set_cons_succ]
    refine wpAnyH_take (i := 19) (oi := { dst := some 13, op := Op.assign (Operand.tmp 47), type := 42, pos := "law.go:62", after := #[{ on := 14, ground := Ground.data }, { on := 18, ground := Ground.chain }, { on := 0, ground := Ground.phase }, { on := 1, ground := Ground.phase }, { on := 2, ground := Ground.phase }, { on := 3, ground := Ground.phase }, { on := 4, ground := Ground.phase }, { on := 5, ground := Ground.phase }, { on := 6, ground := Ground.phase }, { on := 7, ground := Ground.phase }, { on := 8, ground := Ground.phase }, { on := 9, ground := Ground.phase }, { on := 10, ground := Ground.phase }, { on := 11, ground := Ground.phase }, { on := 12, ground := Ground.phase }, { on := 13, ground := Ground.phase }, { on := 14, ground := Ground.phase }, { on := 15, ground := Ground.phase }, { on := 16, ground := Ground.phase }, { on := 17, ground := Ground.phase }, { on := 18, ground := Ground.phase }], guard := none }) (v := ?vv17) rfl (by kernel_rfl) (by kernel_rfl) (by kernel_rfl) (fun _ _ _ h => h) (Or.inl ⟨by rfl, ?hy17⟩) (HS.out _ KF) ?rest17
    case hy17 =>
      intro V hV
      obtain ⟨y0, y1, y2, y3, y4, y5, y6, y7, y8, y9, y10, y11, y12, y13, y14, y15, y16, y17, y18, y19⟩ := hV
      go_simp
      all_goals rfl
    simp only [Act.put, List.setIfInBounds_toArray, List.set_cons_zero, List.set_cons_succ]
    refine wpAnyH_done (by kernel_rfl) ?_ _
    exact HH.out _ _ _ _ _ _ _ _ _ _ _ _ _ _ _ mb _ ve a6 c6 a7 c7 vt _ (Nat.le_trans HKD.out.size hz) (Nat.le_trans HKD.out.size hB9) HM.out QS.out HKF.out
  · have hmb : (V0.alloc (.cells #[.string ⟨#[]⟩, .string ⟨#[]⟩, .string ⟨#[]⟩, .string ⟨#[]⟩, .int .i64 0, .string ⟨#[]⟩, .slice none 0 0, .slice none 0 0, .int .i64 0] 33)).heap[V0.heap.size]? = some (.cells #[.string ⟨#[]⟩, .string ⟨#[]⟩, .string ⟨#[]⟩, .string ⟨#[]⟩, .int .i64 0, .string ⟨#[]⟩, .slice none 0 0, .slice none 0 0, .int .i64 0] 33 (0, 0)) := heap_alloc_new _ _
    have KA0 : Kept (fun _ => False) V0 (V0.alloc (.cells #[.string ⟨#[]⟩, .string ⟨#[]⟩, .string ⟨#[]⟩, .string ⟨#[]⟩, .int .i64 0, .string ⟨#[]⟩, .slice none 0 0, .slice none 0 0, .int .i64 0] 33)) := Kept.alloc _ _ _
    have KA := ((Kept.refl (fun _ => False) V0)).and KA0
    go_simp
    refine hK.out _ _ (HS.out _ KA) (fun _ => ?_)
    generalize V0.alloc (.cells #[.string ⟨#[]⟩, .string ⟨#[]⟩, .string ⟨#[]⟩, .string ⟨#[]⟩, .int .i64 0, .string ⟨#[]⟩, .slice none 0 0, .slice none 0 0, .int .i64 0] 33) = V6 at *
    obtain ⟨mb, hmbe⟩ : ∃ mb, mb = V0.heap.size := ⟨_, rfl⟩
    rw [← hmbe] at hmb ⊢
    have hz : V0.heap.size ≤ mb := by rw [hmbe]; exact ((Kept.refl (fun _ => False) V0)).size
    clear hmbe KA0
    clear hK K'
    try (simp only [Act.put, List.setIfInBounds_toArray, List.set_cons_zero, List.set_cons_succ])
    refine wpAnyH_ready (rs := [9]) (by kernel_rfl) (by simp) (AllReadyH.cons (o := { dst := some 43, op := Op.call { callee := Callee.value (Operand.func 31), args := #[Operand.tmp 37, Operand.tmp 41, Operand.tmp 42], argTypes := #[24, 33, 39] }, type := 57, pos := "law.go:62", after := #[{ on := 3, ground := Ground.data }, { on := 7, ground := Ground.data }, { on := 8, ground := Ground.data }], guard := none }) rfl (fun K' hK => ?_) AllReadyH.nil)
    refine step_call3 _ (by rfl) 31 _ _ _ _ _ _ (by rfl) (enters_of Tryd.func31 (by kernel_rfl) rfl) _ _ _ (by rfl) (by rfl) (by rfl) (hC _ KA) ?_
    rintro e w9 ⟨ve, a6, c6, a7, c7, vt, rfl, Q9, K9⟩
    have L9 := (KA).and K9
    have hB9 : V0.heap.size ≤ V6.heap.size := (KA).size
    have hmC : mb < V6.heap.size ∨ w9.heap.size ≤ mb := .inl (Array.getElem?_eq_some_iff.1 hmb).1
    replace hmb := (K9.block _ (Array.getElem?_eq_some_iff.1 hmb).1 (fun h => h)).trans hmb
    have K90 : Kept (fun j => j = mb) w9 w9 := Kept.refl _ _
    refine ⟨_, rfl, ?_⟩
    refine hK.out _ _ (HS.out _ L9) (fun _ => ?_)
    clear hK K'
    try (simp only [Act.put, List.setIfInBounds_toArray, List.set_cons_zero, List.set_cons_succ])
    refine wpAnyH_take (i := 10) (oi := { dst := some 33, op := Op.move (Operand.tmp 43), type := 57, pos := "law.go:62", after := #[{ on := 9, ground := Ground.data }], guard := none }) (v := ?vv18) rfl (by kernel_rfl) (by kernel_rfl) (by kernel_rfl) (fun _ _ _ h => h) (Or.inl ⟨by rfl, ?hy18⟩) (HS.out _ L9) ?rest18
    case hy18 =>
      intro V hV
      obtain ⟨y0, y1, y2, y3, y4, y5, y6, y7, y8, y9, y10, y11, y12, y13, y14, y15, y16, y17, y18, y19⟩ := hV
      go_simp
      all_goals rfl
    simp only [Act.put, List.setIfInBounds_toArray, List.set_cons_zero, List.set_cons_succ]
    refine wpAnyH_take (i := 11) (oi := { dst := some 44, op := Op.extract (Operand.tmp 33) 0, type := 34, pos := "law.go:62", after := #[{ on := 10, ground := Ground.data }], guard := none }) (v := ?vv19) rfl (by kernel_rfl) (by kernel_rfl) (by kernel_rfl) (fun _ _ _ h => h) (Or.inl ⟨by rfl, ?hy19⟩) (HS.out _ L9) ?rest19
    case hy19 =>
      intro V hV
      obtain ⟨y0, y1, y2, y3, y4, y5, y6, y7, y8, y9, y10, y11, y12, y13, y14, y15, y16, y17, y18, y19⟩ := hV
      go_simp
      all_goals rfl
    simp only [Act.put, List.setIfInBounds_toArray, List.set_cons_zero, List.set_cons_succ]
    refine wpAnyH_take (i := 12) (oi := { dst := some 45, op := Op.extract (Operand.tmp 33) 1, type := 33, pos := "law.go:62", after := #[{ on := 10, ground := Ground.data }, { on := 16, ground := Ground.gcOnly Departure.lateStores }], guard := none }) (v := ?vv20) rfl (by kernel_rfl) (by kernel_rfl) (by kernel_rfl) (fun _ _ _ h => h) (Or.inl ⟨by rfl, ?hy20⟩) (HS.out _ L9) ?rest20
    case hy20 =>
      intro V hV
      obtain ⟨y0, y1, y2, y3, y4, y5, y6, y7, y8, y9, y10, y11, y12, y13, y14, y15, y16, y17, y18, y19⟩ := hV
      go_simp
      all_goals rfl
    simp only [Act.put, List.setIfInBounds_toArray, List.set_cons_zero, List.set_cons_succ]
    refine wpAnyH_take (i := 13) (oi := { dst := some 46, op := Op.extract (Operand.tmp 33) 2, type := 56, pos := "law.go:62", after := #[{ on := 10, ground := Ground.data }, { on := 17, ground := Ground.gcOnly Departure.lateStores }], guard := none }) (v := ?vv21) rfl (by kernel_rfl) (by kernel_rfl) (by kernel_rfl) (fun _ _ _ h => h) (Or.inl ⟨by rfl, ?hy21⟩) (HS.out _ L9) ?rest21
    case hy21 =>
      intro V hV
      obtain ⟨y0, y1, y2, y3, y4, y5, y6, y7, y8, y9, y10, y11, y12, y13, y14, y15, y16, y17, y18, y19⟩ := hV
      go_simp
      all_goals rfl
    simp only [Act.put, List.setIfInBounds_toArray, List.set_cons_zero, List.set_cons_succ]
    refine wpAnyH_take (i := 14) (oi := { dst := some 47, op := Op.extract (Operand.tmp 33) 3, type := 42, pos := "law.go:62", after := #[{ on := 10, ground := Ground.data }, { on := 18, ground := Ground.gcOnly Departure.lateStores }], guard := none }) (v := ?vv22) rfl (by kernel_rfl) (by kernel_rfl) (by kernel_rfl) (fun _ _ _ h => h) (Or.inl ⟨by rfl, ?hy22⟩) (HS.out _ L9) ?rest22
    case hy22 =>
      intro V hV
      obtain ⟨y0, y1, y2, y3, y4, y5, y6, y7, y8, y9, y10, y11, y12, y13, y14, y15, y16, y17, y18, y19⟩ := hV
      go_simp
      all_goals rfl
    simp only [Act.put, List.setIfInBounds_toArray, List.set_cons_zero, List.set_cons_succ]
    refine wpAnyH_take (i := 16) (oi := { dst := some 10, op := Op.assign (Operand.tmp 44), type := 34, pos := "law.go:62", after := #[{ on := 11, ground := Ground.data }, { on := 9, ground := Ground.chain }, { on := 0, ground := Ground.phase }, { on := 1, ground := Ground.phase }, { on := 2, ground := Ground.phase }, { on := 3, ground := Ground.phase }, { on := 4, ground := Ground.phase }, { on := 5, ground := Ground.phase }, { on := 6, ground := Ground.phase }, { on := 7, ground := Ground.phase }, { on := 8, ground := Ground.phase }, { on := 9, ground := Ground.phase }, { on := 10, ground := Ground.phase }, { on := 11, ground := Ground.phase }, { on := 12, ground := Ground.textOnly Departure.lateStores }, { on := 13, ground := Ground.textOnly Departure.lateStores }, { on := 14, ground := Ground.textOnly Departure.lateStores }, { on := 15, ground := Ground.phase }], guard := none }) (v := ?vv23) rfl (by kernel_rfl) (by kernel_rfl) (by kernel_rfl) (fun _ _ _ h => h) (Or.inl ⟨by rfl, ?hy23⟩) (HS.out _ L9) ?rest23
    case hy23 =>
      intro V hV
      obtain ⟨y0, y1, y2, y3, y4, y5, y6, y7, y8, y9, y10, y11, y12, y13, y14, y15, y16, y17, y18, y19⟩ := hV
      go_simp
      all_goals rfl
    simp only [Act.put, List.setIfInBounds_toArray, List.set_cons_zero, List.set_cons_succ]
    refine wpAnyH_ready (rs := [17]) (by kernel_rfl) (by simp) (AllReadyH.cons (o := { dst := none, op := Op.store 33 (Operand.tmp 11) (Operand.tmp 45), type := 0, pos := "law.go:62", after := #[{ on := 15, ground := Ground.data }, { on := 12, ground := Ground.data }, { on := 16, ground := Ground.chain }, { on := 0, ground := Ground.phase }, { on := 1, ground := Ground.phase }, { on := 2, ground := Ground.phase }, { on := 3, ground := Ground.phase }, { on := 4, ground := Ground.phase }, { on := 5, ground := Ground.phase }, { on := 6, ground := Ground.phase }, { on := 7, ground := Ground.phase }, { on := 8, ground := Ground.phase }, { on := 9, ground := Ground.phase }, { on := 10, ground := Ground.phase }, { on := 11, ground := Ground.phase }, { on := 12, ground := Ground.phase }, { on := 13, ground := Ground.textOnly Departure.lateStores }, { on := 14, ground := Ground.textOnly Departure.lateStores }, { on := 15, ground := Ground.phase }, { on := 16, ground := Ground.phase }], guard := none }) rfl (fun K' hK => ?_) AllReadyH.nil)
    obtain ⟨⟨p0, p1, p2, p3, p4, p5, p6, p7, p8⟩, f0, f1, f2, f3, f4, f5, f6, f7, f8⟩ := nine hmb
    have HM := hid (put9 hmb (.string t.dfn) (.string t.id) (.string t.par) (.string t.pnode) (.int .i64 t.status) (.string t.text) (.slice a6 t.nodes.length c6) (.slice a7 t.sigs.length c7) (.int .i64 t.events))
    have KS := kept9 (S := fun j => j = mb) w9 rfl (.string t.dfn) (.string t.id) (.string t.par) (.string t.pnode) (.int .i64 t.status) (.string t.text) (.slice a6 t.nodes.length c6) (.slice a7 t.sigs.length c7) (.int .i64 t.events)
    have QS := hid (hQ _ _ _ _ _ _ _ _ Q9 hmC (K90.and KS))
    have KF := (L9).trans KS (fun j h => .inr (by subst h; exact hz))
    go_simp
    refine hK.out _ _ (HS.out _ KF) (fun _ => ?_)
    have HKF := hid (HKD.out.and KF)
    clear p0 p1 p2 p3 p4 p5 p6 p7 p8 f0 f1 f2 f3 f4 f5 f6 f7 f8 KS
    clear hK K'
    try (simp only [Act.put, List.setIfInBounds_toArray, List.set_cons_zero, List.set_cons_succ])
    refine wpAnyH_take (i := 18) (oi := { dst := some 12, op := Op.assign (Operand.tmp 46), type := 56, pos := "law.go:62", after := #[{ on := 13, ground := Ground.data }, { on := 17, ground := Ground.chain }, { on := 0, ground := Ground.phase }, { on := 1, ground := Ground.phase }, { on := 2, ground := Ground.phase }, { on := 3, ground := Ground.phase }, { on := 4, ground := Ground.phase }, { on := 5, ground := Ground.phase }, { on := 6, ground := Ground.phase }, { on := 7, ground := Ground.phase }, { on := 8, ground := Ground.phase }, { on := 9, ground := Ground.phase }, { on := 10, ground := Ground.phase }, { on := 11, ground := Ground.phase }, { on := 12, ground := Ground.phase }, { on := 13, ground := Ground.phase }, { on := 14, ground := Ground.textOnly Departure.lateStores }, { on := 15, ground := Ground.phase }, { on := 16, ground := Ground.phase }, { on := 17, ground := Ground.phase }], guard := none }) (v := ?vv24) rfl (by kernel_rfl) (by kernel_rfl) (by kernel_rfl) (fun _ _ _ h => h) (Or.inl ⟨by rfl, ?hy24⟩) (HS.out _ KF) ?rest24
    case hy24 =>
      intro V hV
      obtain ⟨y0, y1, y2, y3, y4, y5, y6, y7, y8, y9, y10, y11, y12, y13, y14, y15, y16, y17, y18, y19⟩ := hV
      go_simp
      all_goals rfl
    simp only [Act.put, List.setIfInBounds_toArray, List.set_cons_zero, List.set_cons_succ]
    refine wpAnyH_take (i := 19) (oi := { dst := some 13, op := Op.assign (Operand.tmp 47), type := 42, pos := "law.go:62", after := #[{ on := 14, ground := Ground.data }, { on := 18, ground := Ground.chain }, { on := 0, ground := Ground.phase }, { on := 1, ground := Ground.phase }, { on := 2, ground := Ground.phase }, { on := 3, ground := Ground.phase }, { on := 4, ground := Ground.phase }, { on := 5, ground := Ground.phase }, { on := 6, ground := Ground.phase }, { on := 7, ground := Ground.phase }, { on := 8, ground := Ground.phase }, { on := 9, ground := Ground.phase }, { on := 10, ground := Ground.phase }, { on := 11, ground := Ground.phase }, { on := 12, ground := Ground.phase }, { on := 13, ground := Ground.phase }, { on := 14, ground := Ground.phase }, { on := 15, ground := Ground.phase }, { on := 16, ground := Ground.phase }, { on := 17, ground := Ground.phase }, { on := 18, ground := Ground.phase }], guard := none }) (v := ?vv25) rfl (by kernel_rfl) (by kernel_rfl) (by kernel_rfl) (fun _ _ _ h => h) (Or.inl ⟨by rfl, ?hy25⟩) (HS.out _ KF) ?rest25
    case hy25 =>
      intro V hV
      obtain ⟨y0, y1, y2, y3, y4, y5, y6, y7, y8, y9, y10, y11, y12, y13, y14, y15, y16, y17, y18, y19⟩ := hV
      go_simp
      all_goals rfl
    simp only [Act.put, List.setIfInBounds_toArray, List.set_cons_zero, List.set_cons_succ]
    refine wpAnyH_done (by kernel_rfl) ?_ _
    exact HH.out _ _ _ _ _ _ _ _ _ _ _ _ _ _ _ mb _ ve a6 c6 a7 c7 vt _ (Nat.le_trans HKD.out.size hz) (Nat.le_trans HKD.out.size hB9) HM.out QS.out HKF.out

end Go.Proofs.YtfjekjbkifmpfaaDoor.Rf
