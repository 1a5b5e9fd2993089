/-
  tillerref13.State, its region 2, which draws its order.
-/
import Derived.Test.YtdbplemcjnlfiaaGreatDoorFStK
namespace Go.Proofs.YtdbplemcjnlfiaaGreatDoor
open Go.RowKit

set_option maxRecDepth 100000 in
set_option maxHeartbeats 8000000 in
theorem stR2 {W : World} {ds : List Deferred} {gs : Nat} {ov lf st ev : Int} {df id tx : ByteArray} {q1 q2 q3 q4 q5 q6 q7 q8 p1 p2 p3 p4 p5 p6 p7 p8 p9 p10 p11 p12 p13 p14 : List UInt8} {u0 u1 u2 u4 u7 u8 u9 u10 u11 u12 u13 u14 u15 u16 u17 u18 u19 u20 u21 u22 u23 u24 u25 u26 u27 u28 u29 u30 u31 u32 u33 u34 u35 u36 u37 u38 u39 u40 u41 u42 u43 u44 u45 u46 u47 u48 u49 u50 u51 u52 u53 u54 u55 u56 u57 u58 u59 u60 u61 u62 u63 u64 u65 u66 u67 u68 u69 u70 u71 u72 u73 u74 u75 u76 u77 u78 u79 u80 u81 u82 u83 u84 u85 u86 u87 u88 u89 u90 u91 u92 u93 u94 u95 u96 u97 u98 u99 u100 : Value} (K : Act → World → Prop)
    (hSt : ∀ V, Kept (fun _ => False) W V → V.cell? ⟨gs, 0, none⟩ = some (.string df) ∧ V.cell? ⟨gs, 1, none⟩ = some (.string id) ∧ V.cell? ⟨gs, 4, none⟩ = some (.int .i64 st) ∧ V.cell? ⟨gs, 5, none⟩ = some (.string tx) ∧ V.cell? ⟨gs, 8, none⟩ = some (.int .i64 ev))
    (h1 : ∀ V, Kept (fun _ => False) W V → Calls Tryz.prog 32 #[.string id] V fun e w' => e = .returned (.string (mkB q1)) ∧ Kept (fun _ => False) V w')
    (r1 : ∀ V, (Op.stringOp .add ⟨#[123, 34, 102, 108, 111, 119, 34, 58]⟩ (mkB q1)).run Tryz.prog V = .ok (.string (mkB p1)) V)
    (r2 : ∀ V, (Op.stringOp .add (mkB p1) ⟨#[44, 34, 100, 101, 102, 34, 58]⟩).run Tryz.prog V = .ok (.string (mkB p2)) V)
    (h2 : ∀ V, Kept (fun _ => False) W V → Calls Tryz.prog 32 #[.string df] V fun e w' => e = .returned (.string (mkB q2)) ∧ Kept (fun _ => False) V w')
    (r3 : ∀ V, (Op.stringOp .add (mkB p2) (mkB q2)).run Tryz.prog V = .ok (.string (mkB p3)) V)
    (r4 : ∀ V, (Op.stringOp .add (mkB p3) ⟨#[44, 34, 115, 116, 97, 116, 117, 115, 34, 58]⟩).run Tryz.prog V = .ok (.string (mkB p4)) V)
    (h3 : ∀ V, Kept (fun _ => False) W V → Calls Tryz.prog 33 #[.int .i64 st] V fun e w' => e = .returned (.string (mkB q3)) ∧ Kept (fun _ => False) V w')
    (h4 : ∀ V, Kept (fun _ => False) W V → Calls Tryz.prog 32 #[.string (mkB q3)] V fun e w' => e = .returned (.string (mkB q4)) ∧ Kept (fun _ => False) V w')
    (r5 : ∀ V, (Op.stringOp .add (mkB p4) (mkB q4)).run Tryz.prog V = .ok (.string (mkB p5)) V)
    (r6 : ∀ V, (Op.stringOp .add (mkB p5) ⟨#[44, 34, 116, 101, 120, 116, 34, 58]⟩).run Tryz.prog V = .ok (.string (mkB p6)) V)
    (h5 : ∀ V, Kept (fun _ => False) W V → Calls Tryz.prog 32 #[.string tx] V fun e w' => e = .returned (.string (mkB q5)) ∧ Kept (fun _ => False) V w')
    (r7 : ∀ V, (Op.stringOp .add (mkB p6) (mkB q5)).run Tryz.prog V = .ok (.string (mkB p7)) V)
    (r8 : ∀ V, (Op.stringOp .add (mkB p7) ⟨#[44, 34, 101, 118, 101, 110, 116, 115, 34, 58]⟩).run Tryz.prog V = .ok (.string (mkB p8)) V)
    (h6 : ∀ V, Kept (fun _ => False) W V → Calls Tryz.prog 8 #[.int .i64 ev] V fun e w' => e = .returned (.string (mkB q6)) ∧ Kept (fun _ => False) V w')
    (r9 : ∀ V, (Op.stringOp .add (mkB p8) (mkB q6)).run Tryz.prog V = .ok (.string (mkB p9)) V)
    (r10 : ∀ V, (Op.stringOp .add (mkB p9) ⟨#[44, 34, 111, 118, 101, 114, 34, 58]⟩).run Tryz.prog V = .ok (.string (mkB p10)) V)
    (h7 : ∀ V, Kept (fun _ => False) W V → Calls Tryz.prog 8 #[.int .i64 ov] V fun e w' => e = .returned (.string (mkB q7)) ∧ Kept (fun _ => False) V w')
    (r11 : ∀ V, (Op.stringOp .add (mkB p10) (mkB q7)).run Tryz.prog V = .ok (.string (mkB p11)) V)
    (r12 : ∀ V, (Op.stringOp .add (mkB p11) ⟨#[44, 34, 108, 101, 102, 116, 34, 58]⟩).run Tryz.prog V = .ok (.string (mkB p12)) V)
    (h8 : ∀ V, Kept (fun _ => False) W V → Calls Tryz.prog 8 #[.int .i64 lf] V fun e w' => e = .returned (.string (mkB q8)) ∧ Kept (fun _ => False) V w')
    (r13 : ∀ V, (Op.stringOp .add (mkB p12) (mkB q8)).run Tryz.prog V = .ok (.string (mkB p13)) V)
    (r14 : ∀ V, (Op.stringOp .add (mkB p13) ⟨#[44, 34, 110, 111, 100, 101, 115, 34, 58, 91]⟩).run Tryz.prog V = .ok (.string (mkB p14)) V) 
    (h : ∀ (v15 v16 v17 v18 v19 v20 v21 v22 v23 v24 v25 v26 v27 v28 v29 v30 v31 v32 v33 v34 v35 v36 v37 v38 v39 v40 v41 v42 v43 v44 v45 v46 v47 v48 : Value) (w9 : World), Kept (fun _ => False) W w9 → K { tmps := #[u0, u1, u2, .pointer (some ⟨gs, 0, none⟩), u4, .int .i64 ov, .int .i64 lf, .string (mkB p14), u8, u9, u10, u11, u12, u13, u14, v15, v16, v17, v18, v19, v20, v21, v22, v23, v24, v25, v26, v27, v28, v29, v30, v31, v32, v33, v34, v35, v36, v37, v38, v39, v40, v41, v42, v43, v44, v45, v46, v47, v48, u49, u50, u51, u52, u53, u54, u55, u56, u57, u58, u59, u60, u61, u62, u63, u64, u65, u66, u67, u68, u69, u70, u71, u72, u73, u74, u75, u76, u77, u78, u79, u80, u81, u82, u83, u84, u85, u86, u87, u88, u89, u90, u91, u92, u93, u94, u95, u96, u97, u98, u99, u100], defers := ds } w9) :
    (Code.region 2 #[{ dst := some 15, op := Op.fieldAddr 42 (Operand.tmp 3) 1, type := 0, pos := "ref.go:550", after := #[], guard := none }, { dst := some 16, op := Op.load 9 (Operand.tmp 15), type := 9, pos := "ref.go:550", after := #[{ on := 0, ground := Ground.data }], guard := none }, { dst := some 17, op := Op.call { callee := Callee.value (Operand.func 32), args := #[Operand.tmp 16], argTypes := #[9] }, type := 9, pos := "ref.go:550", after := #[{ on := 1, ground := Ground.data }], guard := none }, { dst := some 18, op := Op.binOp BinOp.add 9 (Operand.const (Value.string { data := #[123, 34, 102, 108, 111, 119, 34, 58] })) (Operand.tmp 17) 9, type := 9, pos := "ref.go:550", after := #[{ on := 2, ground := Ground.data }], guard := none }, { dst := some 19, op := Op.binOp BinOp.add 9 (Operand.tmp 18) (Operand.const (Value.string { data := #[44, 34, 100, 101, 102, 34, 58] })) 9, type := 9, pos := "ref.go:550", after := #[{ on := 3, ground := Ground.data }], guard := none }, { dst := some 20, op := Op.fieldAddr 42 (Operand.tmp 3) 0, type := 0, pos := "ref.go:550", after := #[], guard := none }, { dst := some 21, op := Op.load 9 (Operand.tmp 20), type := 9, pos := "ref.go:550", after := #[{ on := 5, ground := Ground.data }], guard := none }, { dst := some 22, op := Op.call { callee := Callee.value (Operand.func 32), args := #[Operand.tmp 21], argTypes := #[9] }, type := 9, pos := "ref.go:550", after := #[{ on := 6, ground := Ground.data }, { on := 2, ground := Ground.chain }], guard := none }, { dst := some 23, op := Op.binOp BinOp.add 9 (Operand.tmp 19) (Operand.tmp 22) 9, type := 9, pos := "ref.go:550", after := #[{ on := 4, ground := Ground.data }, { on := 7, ground := Ground.data }], guard := none }, { dst := some 24, op := Op.binOp BinOp.add 9 (Operand.tmp 23) (Operand.const (Value.string { data := #[44, 34, 115, 116, 97, 116, 117, 115, 34, 58] })) 9, type := 9, pos := "ref.go:550", after := #[{ on := 8, ground := Ground.data }], guard := none }, { dst := some 25, op := Op.fieldAddr 42 (Operand.tmp 3) 4, type := 0, pos := "ref.go:550", after := #[], guard := none }, { dst := some 26, op := Op.load 3 (Operand.tmp 25), type := 3, pos := "ref.go:550", after := #[{ on := 10, ground := Ground.data }], guard := none }, { dst := some 27, op := Op.call { callee := Callee.value (Operand.func 33), args := #[Operand.tmp 26], argTypes := #[3] }, type := 9, pos := "ref.go:550", after := #[{ on := 11, ground := Ground.data }, { on := 7, ground := Ground.chain }], guard := none }, { dst := some 28, op := Op.call { callee := Callee.value (Operand.func 32), args := #[Operand.tmp 27], argTypes := #[9] }, type := 9, pos := "ref.go:550", after := #[{ on := 12, ground := Ground.data }, { on := 12, ground := Ground.chain }], guard := none }, { dst := some 29, op := Op.binOp BinOp.add 9 (Operand.tmp 24) (Operand.tmp 28) 9, type := 9, pos := "ref.go:550", after := #[{ on := 9, ground := Ground.data }, { on := 13, ground := Ground.data }], guard := none }, { dst := some 30, op := Op.binOp BinOp.add 9 (Operand.tmp 29) (Operand.const (Value.string { data := #[44, 34, 116, 101, 120, 116, 34, 58] })) 9, type := 9, pos := "ref.go:550", after := #[{ on := 14, ground := Ground.data }], guard := none }, { dst := some 31, op := Op.fieldAddr 42 (Operand.tmp 3) 5, type := 0, pos := "ref.go:550", after := #[], guard := none }, { dst := some 32, op := Op.load 9 (Operand.tmp 31), type := 9, pos := "ref.go:550", after := #[{ on := 16, ground := Ground.data }], guard := none }, { dst := some 33, op := Op.call { callee := Callee.value (Operand.func 32), args := #[Operand.tmp 32], argTypes := #[9] }, type := 9, pos := "ref.go:550", after := #[{ on := 17, ground := Ground.data }, { on := 13, ground := Ground.chain }], guard := none }, { dst := some 34, op := Op.binOp BinOp.add 9 (Operand.tmp 30) (Operand.tmp 33) 9, type := 9, pos := "ref.go:550", after := #[{ on := 15, ground := Ground.data }, { on := 18, ground := Ground.data }], guard := none }, { dst := some 35, op := Op.binOp BinOp.add 9 (Operand.tmp 34) (Operand.const (Value.string { data := #[44, 34, 101, 118, 101, 110, 116, 115, 34, 58] })) 9, type := 9, pos := "ref.go:550", after := #[{ on := 19, ground := Ground.data }], guard := none }, { dst := some 36, op := Op.fieldAddr 42 (Operand.tmp 3) 8, type := 0, pos := "ref.go:550", after := #[], guard := none }, { dst := some 37, op := Op.load 3 (Operand.tmp 36), type := 3, pos := "ref.go:550", after := #[{ on := 21, ground := Ground.data }], guard := none }, { dst := some 38, op := Op.call { callee := Callee.value (Operand.func 8), args := #[Operand.tmp 37], argTypes := #[3] }, type := 9, pos := "ref.go:550", after := #[{ on := 22, ground := Ground.data }, { on := 18, ground := Ground.chain }], guard := none }, { dst := some 39, op := Op.binOp BinOp.add 9 (Operand.tmp 35) (Operand.tmp 38) 9, type := 9, pos := "ref.go:550", after := #[{ on := 20, ground := Ground.data }, { on := 23, ground := Ground.data }], guard := none }, { dst := some 40, op := Op.binOp BinOp.add 9 (Operand.tmp 39) (Operand.const (Value.string { data := #[44, 34, 111, 118, 101, 114, 34, 58] })) 9, type := 9, pos := "ref.go:550", after := #[{ on := 24, ground := Ground.data }], guard := none }, { dst := some 41, op := Op.move (Operand.tmp 5), type := 3, pos := "ref.go:550", after := #[], guard := none }, { dst := some 42, op := Op.call { callee := Callee.value (Operand.func 8), args := #[Operand.tmp 41], argTypes := #[3] }, type := 9, pos := "ref.go:550", after := #[{ on := 26, ground := Ground.data }, { on := 23, ground := Ground.chain }], guard := none }, { dst := some 43, op := Op.binOp BinOp.add 9 (Operand.tmp 40) (Operand.tmp 42) 9, type := 9, pos := "ref.go:550", after := #[{ on := 25, ground := Ground.data }, { on := 27, ground := Ground.data }], guard := none }, { dst := some 44, op := Op.binOp BinOp.add 9 (Operand.tmp 43) (Operand.const (Value.string { data := #[44, 34, 108, 101, 102, 116, 34, 58] })) 9, type := 9, pos := "ref.go:550", after := #[{ on := 28, ground := Ground.data }], guard := none }, { dst := some 45, op := Op.move (Operand.tmp 6), type := 3, pos := "ref.go:550", after := #[], guard := none }, { dst := some 46, op := Op.call { callee := Callee.value (Operand.func 8), args := #[Operand.tmp 45], argTypes := #[3] }, type := 9, pos := "ref.go:550", after := #[{ on := 30, ground := Ground.data }, { on := 27, ground := Ground.chain }], guard := none }, { dst := some 47, op := Op.binOp BinOp.add 9 (Operand.tmp 44) (Operand.tmp 46) 9, type := 9, pos := "ref.go:550", after := #[{ on := 29, ground := Ground.data }, { on := 31, ground := Ground.data }], guard := none }, { dst := some 48, op := Op.binOp BinOp.add 9 (Operand.tmp 47) (Operand.const (Value.string { data := #[44, 34, 110, 111, 100, 101, 115, 34, 58, 91] })) 9, type := 9, pos := "ref.go:550", after := #[{ on := 32, ground := Ground.data }], guard := none }, { dst := some 7, op := Op.assign (Operand.tmp 48), type := 9, pos := "ref.go:550", after := #[{ on := 33, ground := Ground.data }, { on := 31, ground := Ground.chain }, { on := 0, ground := Ground.phase }, { on := 1, ground := Ground.phase }, { on := 2, ground := Ground.phase }, { on := 3, ground := Ground.phase }, { on := 4, ground := Ground.phase }, { on := 5, ground := Ground.phase }, { on := 6, ground := Ground.phase }, { on := 7, ground := Ground.phase }, { on := 8, ground := Ground.phase }, { on := 9, ground := Ground.phase }, { on := 10, ground := Ground.phase }, { on := 11, ground := Ground.phase }, { on := 12, ground := Ground.phase }, { on := 13, ground := Ground.phase }, { on := 14, ground := Ground.phase }, { on := 15, ground := Ground.phase }, { on := 16, ground := Ground.phase }, { on := 17, ground := Ground.phase }, { on := 18, ground := Ground.phase }, { on := 19, ground := Ground.phase }, { on := 20, ground := Ground.phase }, { on := 21, ground := Ground.phase }, { on := 22, ground := Ground.phase }, { on := 23, ground := Ground.phase }, { on := 24, ground := Ground.phase }, { on := 25, ground := Ground.phase }, { on := 26, ground := Ground.phase }, { on := 27, ground := Ground.phase }, { on := 28, ground := Ground.phase }, { on := 29, ground := Ground.phase }, { on := 30, ground := Ground.phase }, { on := 31, ground := Ground.phase }, { on := 32, ground := Ground.phase }, { on := 33, ground := Ground.phase }], guard := none }] true).wp Tryz.prog (onlyN K) { tmps := #[u0, u1, u2, .pointer (some ⟨gs, 0, none⟩), u4, .int .i64 ov, .int .i64 lf, u7, u8, u9, u10, u11, u12, u13, u14, u15, u16, u17, u18, u19, u20, u21, u22, u23, u24, u25, u26, u27, u28, u29, u30, u31, u32, u33, u34, u35, u36, u37, u38, u39, u40, u41, u42, u43, u44, u45, u46, u47, u48, u49, u50, u51, u52, u53, u54, u55, u56, u57, u58, u59, u60, u61, u62, u63, u64, u65, u66, u67, u68, u69, u70, u71, u72, u73, u74, u75, u76, u77, u78, u79, u80, u81, u82, u83, u84, u85, u86, u87, u88, u89, u90, u91, u92, u93, u94, u95, u96, u97, u98, u99, u100], defers := ds } W := by
  have HH := hid h
  have KD := Kept.drew (fun _ => False) W
  have HS := hid hSt
  have hS0 := hSt _ KD
  have H1 := hid h1
  have H2 := hid h2
  have H3 := hid h3
  have H4 := hid h4
  have H5 := hid h5
  have H6 := hid h6
  have H7 := hid h7
  have H8 := hid h8
  clear h hSt h1 h2 h3 h4 h5 h6 h7 h8
  refine wp_region_held_drew (S := fun V => V.cell? ⟨gs, 0, none⟩ = some (.string df) ∧ V.cell? ⟨gs, 1, none⟩ = some (.string id) ∧ V.cell? ⟨gs, 4, none⟩ = some (.int .i64 st) ∧ V.cell? ⟨gs, 5, none⟩ = some (.string tx) ∧ V.cell? ⟨gs, 8, none⟩ = some (.int .i64 ev)) (by kernel_rfl) hS0 (fun _ => ?_)
  refine wpAnyH_take (i := 0) (oi := { dst := some 15, op := Op.fieldAddr 42 (Operand.tmp 3) 1, type := 0, pos := "ref.go:550", after := #[], guard := none }) (v := ?vv1) rfl (by kernel_rfl) (by kernel_rfl) (by kernel_rfl) (fun _ _ _ h => h) (Or.inl ⟨by rfl, ?hy1⟩) hS0 ?rest1
  case hy1 =>
    intro V hV
    obtain ⟨y0, y1, y2, y3, y4⟩ := hV
    go_simp
    all_goals rfl
  simp only [Act.put, List.setIfInBounds_toArray, List.set_cons_zero, List.set_cons_succ]
  refine wpAnyH_take (i := 1) (oi := { dst := some 16, op := Op.load 9 (Operand.tmp 15), type := 9, pos := "ref.go:550", after := #[{ on := 0, ground := Ground.data }], guard := none }) (v := ?vv2) rfl (by kernel_rfl) (by kernel_rfl) (by kernel_rfl) (fun _ _ _ h => h) (Or.inl ⟨by rfl, ?hy2⟩) hS0 ?rest2
  case hy2 =>
    intro V hV
    obtain ⟨y0, y1, y2, y3, y4⟩ := hV
    go_simp
    all_goals rfl
  simp only [Act.put, List.setIfInBounds_toArray, List.set_cons_zero, List.set_cons_succ]
  refine wpAnyH_take (i := 5) (oi := { dst := some 20, op := Op.fieldAddr 42 (Operand.tmp 3) 0, type := 0, pos := "ref.go:550", after := #[], guard := none }) (v := ?vv3) rfl (by kernel_rfl) (by kernel_rfl) (by kernel_rfl) (fun _ _ _ h => h) (Or.inl ⟨by rfl, ?hy3⟩) hS0 ?rest3
  case hy3 =>
    intro V hV
    obtain ⟨y0, y1, y2, y3, y4⟩ := hV
    go_simp
    all_goals rfl
  simp only [Act.put, List.setIfInBounds_toArray, List.set_cons_zero, List.set_cons_succ]
  refine wpAnyH_take (i := 6) (oi := { dst := some 21, op := Op.load 9 (Operand.tmp 20), type := 9, pos := "ref.go:550", after := #[{ on := 5, ground := Ground.data }], guard := none }) (v := ?vv4) rfl (by kernel_rfl) (by kernel_rfl) (by kernel_rfl) (fun _ _ _ h => h) (Or.inl ⟨by rfl, ?hy4⟩) hS0 ?rest4
  case hy4 =>
    intro V hV
    obtain ⟨y0, y1, y2, y3, y4⟩ := hV
    go_simp
    all_goals rfl
  simp only [Act.put, List.setIfInBounds_toArray, List.set_cons_zero, List.set_cons_succ]
  refine wpAnyH_take (i := 10) (oi := { dst := some 25, op := Op.fieldAddr 42 (Operand.tmp 3) 4, type := 0, pos := "ref.go:550", after := #[], guard := none }) (v := ?vv5) rfl (by kernel_rfl) (by kernel_rfl) (by kernel_rfl) (fun _ _ _ h => h) (Or.inl ⟨by rfl, ?hy5⟩) hS0 ?rest5
  case hy5 =>
    intro V hV
    obtain ⟨y0, y1, y2, y3, y4⟩ := hV
    go_simp
    all_goals rfl
  simp only [Act.put, List.setIfInBounds_toArray, List.set_cons_zero, List.set_cons_succ]
  refine wpAnyH_take (i := 11) (oi := { dst := some 26, op := Op.load 3 (Operand.tmp 25), type := 3, pos := "ref.go:550", after := #[{ on := 10, ground := Ground.data }], guard := none }) (v := ?vv6) rfl (by kernel_rfl) (by kernel_rfl) (by kernel_rfl) (fun _ _ _ h => h) (Or.inl ⟨by rfl, ?hy6⟩) hS0 ?rest6
  case hy6 =>
    intro V hV
    obtain ⟨y0, y1, y2, y3, y4⟩ := hV
    go_simp
    all_goals rfl
  simp only [Act.put, List.setIfInBounds_toArray, List.set_cons_zero, List.set_cons_succ]
  refine wpAnyH_take (i := 16) (oi := { dst := some 31, op := Op.fieldAddr 42 (Operand.tmp 3) 5, type := 0, pos := "ref.go:550", after := #[], guard := none }) (v := ?vv7) rfl (by kernel_rfl) (by kernel_rfl) (by kernel_rfl) (fun _ _ _ h => h) (Or.inl ⟨by rfl, ?hy7⟩) hS0 ?rest7
  case hy7 =>
    intro V hV
    obtain ⟨y0, y1, y2, y3, y4⟩ := hV
    go_simp
    all_goals rfl
  simp only [Act.put, List.setIfInBounds_toArray, List.set_cons_zero, List.set_cons_succ]
  refine wpAnyH_take (i := 17) (oi := { dst := some 32, op := Op.load 9 (Operand.tmp 31), type := 9, pos := "ref.go:550", after := #[{ on := 16, ground := Ground.data }], guard := none }) (v := ?vv8) rfl (by kernel_rfl) (by kernel_rfl) (by kernel_rfl) (fun _ _ _ h => h) (Or.inl ⟨by rfl, ?hy8⟩) hS0 ?rest8
  case hy8 =>
    intro V hV
    obtain ⟨y0, y1, y2, y3, y4⟩ := hV
    go_simp
    all_goals rfl
  simp only [Act.put, List.setIfInBounds_toArray, List.set_cons_zero, List.set_cons_succ]
  refine wpAnyH_take (i := 21) (oi := { dst := some 36, op := Op.fieldAddr 42 (Operand.tmp 3) 8, type := 0, pos := "ref.go:550", after := #[], guard := none }) (v := ?vv9) rfl (by kernel_rfl) (by kernel_rfl) (by kernel_rfl) (fun _ _ _ h => h) (Or.inl ⟨by rfl, ?hy9⟩) hS0 ?rest9
  case hy9 =>
    intro V hV
    obtain ⟨y0, y1, y2, y3, y4⟩ := hV
    go_simp
    all_goals rfl
  simp only [Act.put, List.setIfInBounds_toArray, List.set_cons_zero, List.set_cons_succ]
  refine wpAnyH_take (i := 22) (oi := { dst := some 37, op := Op.load 3 (Operand.tmp 36), type := 3, pos := "ref.go:550", after := #[{ on := 21, ground := Ground.data }], guard := none }) (v := ?vv10) rfl (by kernel_rfl) (by kernel_rfl) (by kernel_rfl) (fun _ _ _ h => h) (Or.inl ⟨by rfl, ?hy10⟩) hS0 ?rest10
  case hy10 =>
    intro V hV
    obtain ⟨y0, y1, y2, y3, y4⟩ := hV
    go_simp
    all_goals rfl
  simp only [Act.put, List.setIfInBounds_toArray, List.set_cons_zero, List.set_cons_succ]
  refine wpAnyH_take (i := 26) (oi := { dst := some 41, op := Op.move (Operand.tmp 5), type := 3, pos := "ref.go:550", after := #[], guard := none }) (v := ?vv11) rfl (by kernel_rfl) (by kernel_rfl) (by kernel_rfl) (fun _ _ _ h => h) (Or.inl ⟨by rfl, ?hy11⟩) hS0 ?rest11
  case hy11 =>
    intro V hV
    obtain ⟨y0, y1, y2, y3, y4⟩ := hV
    go_simp
    all_goals rfl
  simp only [Act.put, List.setIfInBounds_toArray, List.set_cons_zero, List.set_cons_succ]
  refine wpAnyH_take (i := 30) (oi := { dst := some 45, op := Op.move (Operand.tmp 6), type := 3, pos := "ref.go:550", after := #[], guard := none }) (v := ?vv12) rfl (by kernel_rfl) (by kernel_rfl) (by kernel_rfl) (fun _ _ _ h => h) (Or.inl ⟨by rfl, ?hy12⟩) hS0 ?rest12
  case hy12 =>
    intro V hV
    obtain ⟨y0, y1, y2, y3, y4⟩ := hV
    go_simp
    all_goals rfl
  simp only [Act.put, List.setIfInBounds_toArray, List.set_cons_zero, List.set_cons_succ]
  refine wpAnyH_ready (rs := [2]) (by kernel_rfl) (by simp) (AllReadyH.cons (o := { dst := some 17, op := Op.call { callee := Callee.value (Operand.func 32), args := #[Operand.tmp 16], argTypes := #[9] }, type := 9, pos := "ref.go:550", after := #[{ on := 1, ground := Ground.data }], guard := none }) rfl (fun K' hK => ?_) AllReadyH.nil)
  refine step_call1f _ (by rfl) 32 _ _ (by rfl) (enters_of Tryz.func32 (by kernel_rfl) rfl) _ (by rfl) (H1.out _ KD) ?_
  rintro e w1 ⟨rfl, K1'⟩
  have K1 := KD.and K1'
  clear K1'
  refine ⟨_, rfl, ?_⟩
  refine hK.out _ _ (HS.out _ K1) (fun _ => ?_)
  clear hK K'
  try (simp only [Act.put, List.setIfInBounds_toArray, List.set_cons_zero, List.set_cons_succ])
  refine wpAnyH_take (i := 3) (oi := { dst := some 18, op := Op.binOp BinOp.add 9 (Operand.const (Value.string { data := #[123, 34, 102, 108, 111, 119, 34, 58] })) (Operand.tmp 17) 9, type := 9, pos := "ref.go:550", after := #[{ on := 2, ground := Ground.data }], guard := none }) (v := ?vv13) rfl (by kernel_rfl) (by kernel_rfl) (by kernel_rfl) (fun _ _ _ h => h) (Or.inl ⟨by rfl, ?hy13⟩) (HS.out _ K1) ?rest13
  case hy13 =>
    intro V hV
    obtain ⟨y0, y1, y2, y3, y4⟩ := hV
    go_simp
    all_goals rfl
  simp only [Act.put, List.setIfInBounds_toArray, List.set_cons_zero, List.set_cons_succ]
  refine wpAnyH_take (i := 4) (oi := { dst := some 19, op := Op.binOp BinOp.add 9 (Operand.tmp 18) (Operand.const (Value.string { data := #[44, 34, 100, 101, 102, 34, 58] })) 9, type := 9, pos := "ref.go:550", after := #[{ on := 3, ground := Ground.data }], guard := none }) (v := ?vv14) rfl (by kernel_rfl) (by kernel_rfl) (by kernel_rfl) (fun _ _ _ h => h) (Or.inl ⟨by rfl, ?hy14⟩) (HS.out _ K1) ?rest14
  case hy14 =>
    intro V hV
    obtain ⟨y0, y1, y2, y3, y4⟩ := hV
    go_simp
    all_goals rfl
  simp only [Act.put, List.setIfInBounds_toArray, List.set_cons_zero, List.set_cons_succ]
  refine wpAnyH_ready (rs := [7]) (by kernel_rfl) (by simp) (AllReadyH.cons (o := { dst := some 22, op := Op.call { callee := Callee.value (Operand.func 32), args := #[Operand.tmp 21], argTypes := #[9] }, type := 9, pos := "ref.go:550", after := #[{ on := 6, ground := Ground.data }, { on := 2, ground := Ground.chain }], guard := none }) rfl (fun K' hK => ?_) AllReadyH.nil)
  refine step_call1f _ (by rfl) 32 _ _ (by rfl) (enters_of Tryz.func32 (by kernel_rfl) rfl) _ (by rfl) (H2.out _ K1) ?_
  rintro e w2 ⟨rfl, K2'⟩
  have K2 := K1.and K2'
  clear K2'
  refine ⟨_, rfl, ?_⟩
  refine hK.out _ _ (HS.out _ K2) (fun _ => ?_)
  clear hK K'
  try (simp only [Act.put, List.setIfInBounds_toArray, List.set_cons_zero, List.set_cons_succ])
  refine wpAnyH_take (i := 8) (oi := { dst := some 23, op := Op.binOp BinOp.add 9 (Operand.tmp 19) (Operand.tmp 22) 9, type := 9, pos := "ref.go:550", after := #[{ on := 4, ground := Ground.data }, { on := 7, ground := Ground.data }], guard := none }) (v := ?vv15) rfl (by kernel_rfl) (by kernel_rfl) (by kernel_rfl) (fun _ _ _ h => h) (Or.inl ⟨by rfl, ?hy15⟩) (HS.out _ K2) ?rest15
  case hy15 =>
    intro V hV
    obtain ⟨y0, y1, y2, y3, y4⟩ := hV
    go_simp
    all_goals rfl
  simp only [Act.put, List.setIfInBounds_toArray, List.set_cons_zero, List.set_cons_succ]
  refine wpAnyH_take (i := 9) (oi := { dst := some 24, op := Op.binOp BinOp.add 9 (Operand.tmp 23) (Operand.const (Value.string { data := #[44, 34, 115, 116, 97, 116, 117, 115, 34, 58] })) 9, type := 9, pos := "ref.go:550", after := #[{ on := 8, ground := Ground.data }], guard := none }) (v := ?vv16) rfl (by kernel_rfl) (by kernel_rfl) (by kernel_rfl) (fun _ _ _ h => h) (Or.inl ⟨by rfl, ?hy16⟩) (HS.out _ K2) ?rest16
  case hy16 =>
    intro V hV
    obtain ⟨y0, y1, y2, y3, y4⟩ := hV
    go_simp
    all_goals rfl
  simp only [Act.put, List.setIfInBounds_toArray, List.set_cons_zero, List.set_cons_succ]
  refine wpAnyH_ready (rs := [12]) (by kernel_rfl) (by simp) (AllReadyH.cons (o := { dst := some 27, op := Op.call { callee := Callee.value (Operand.func 33), args := #[Operand.tmp 26], argTypes := #[3] }, type := 9, pos := "ref.go:550", after := #[{ on := 11, ground := Ground.data }, { on := 7, ground := Ground.chain }], guard := none }) rfl (fun K' hK => ?_) AllReadyH.nil)
  refine step_call1f _ (by rfl) 33 _ _ (by rfl) (enters_of Tryz.func33 (by kernel_rfl) rfl) _ (by rfl) (H3.out _ K2) ?_
  rintro e w3 ⟨rfl, K3'⟩
  have K3 := K2.and K3'
  clear K3'
  refine ⟨_, rfl, ?_⟩
  refine hK.out _ _ (HS.out _ K3) (fun _ => ?_)
  clear hK K'
  try (simp only [Act.put, List.setIfInBounds_toArray, List.set_cons_zero, List.set_cons_succ])
  refine wpAnyH_ready (rs := [13]) (by kernel_rfl) (by simp) (AllReadyH.cons (o := { dst := some 28, op := Op.call { callee := Callee.value (Operand.func 32), args := #[Operand.tmp 27], argTypes := #[9] }, type := 9, pos := "ref.go:550", after := #[{ on := 12, ground := Ground.data }, { on := 12, ground := Ground.chain }], guard := none }) rfl (fun K' hK => ?_) AllReadyH.nil)
  refine step_call1f _ (by rfl) 32 _ _ (by rfl) (enters_of Tryz.func32 (by kernel_rfl) rfl) _ (by rfl) (H4.out _ K3) ?_
  rintro e w4 ⟨rfl, K4'⟩
  have K4 := K3.and K4'
  clear K4'
  refine ⟨_, rfl, ?_⟩
  refine hK.out _ _ (HS.out _ K4) (fun _ => ?_)
  clear hK K'
  try (simp only [Act.put, List.setIfInBounds_toArray, List.set_cons_zero, List.set_cons_succ])
  refine wpAnyH_take (i := 14) (oi := { dst := some 29, op := Op.binOp BinOp.add 9 (Operand.tmp 24) (Operand.tmp 28) 9, type := 9, pos := "ref.go:550", after := #[{ on := 9, ground := Ground.data }, { on := 13, ground := Ground.data }], guard := none }) (v := ?vv17) rfl (by kernel_rfl) (by kernel_rfl) (by kernel_rfl) (fun _ _ _ h => h) (Or.inl ⟨by rfl, ?hy17⟩) (HS.out _ K4) ?rest17
  case hy17 =>
    intro V hV
    obtain ⟨y0, y1, y2, y3, y4⟩ := hV
    go_simp
    all_goals rfl
  simp only [Act.put, List.setIfInBounds_toArray, List.set_cons_zero, List.set_cons_succ]
  refine wpAnyH_take (i := 15) (oi := { dst := some 30, op := Op.binOp BinOp.add 9 (Operand.tmp 29) (Operand.const (Value.string { data := #[44, 34, 116, 101, 120, 116, 34, 58] })) 9, type := 9, pos := "ref.go:550", after := #[{ on := 14, ground := Ground.data }], guard := none }) (v := ?vv18) rfl (by kernel_rfl) (by kernel_rfl) (by kernel_rfl) (fun _ _ _ h => h) (Or.inl ⟨by rfl, ?hy18⟩) (HS.out _ K4) ?rest18
  case hy18 =>
    intro V hV
    obtain ⟨y0, y1, y2, y3, y4⟩ := hV
    go_simp
    all_goals rfl
  simp only [Act.put, List.setIfInBounds_toArray, List.set_cons_zero, List.set_cons_succ]
  refine wpAnyH_ready (rs := [18]) (by kernel_rfl) (by simp) (AllReadyH.cons (o := { dst := some 33, op := Op.call { callee := Callee.value (Operand.func 32), args := #[Operand.tmp 32], argTypes := #[9] }, type := 9, pos := "ref.go:550", after := #[{ on := 17, ground := Ground.data }, { on := 13, ground := Ground.chain }], guard := none }) rfl (fun K' hK => ?_) AllReadyH.nil)
  refine step_call1f _ (by rfl) 32 _ _ (by rfl) (enters_of Tryz.func32 (by kernel_rfl) rfl) _ (by rfl) (H5.out _ K4) ?_
  rintro e w5 ⟨rfl, K5'⟩
  have K5 := K4.and K5'
  clear K5'
  refine ⟨_, rfl, ?_⟩
  refine hK.out _ _ (HS.out _ K5) (fun _ => ?_)
  clear hK K'
  try (simp only [Act.put, List.setIfInBounds_toArray, List.set_cons_zero, List.set_cons_succ])
  refine wpAnyH_take (i := 19) (oi := { dst := some 34, op := Op.binOp BinOp.add 9 (Operand.tmp 30) (Operand.tmp 33) 9, type := 9, pos := "ref.go:550", after := #[{ on := 15, ground := Ground.data }, { on := 18, ground := Ground.data }], guard := none }) (v := ?vv19) rfl (by kernel_rfl) (by kernel_rfl) (by kernel_rfl) (fun _ _ _ h => h) (Or.inl ⟨by rfl, ?hy19⟩) (HS.out _ K5) ?rest19
  case hy19 =>
    intro V hV
    obtain ⟨y0, y1, y2, y3, y4⟩ := hV
    go_simp
    all_goals rfl
  simp only [Act.put, List.setIfInBounds_toArray, List.set_cons_zero, List.set_cons_succ]
  refine wpAnyH_take (i := 20) (oi := { dst := some 35, op := Op.binOp BinOp.add 9 (Operand.tmp 34) (Operand.const (Value.string { data := #[44, 34, 101, 118, 101, 110, 116, 115, 34, 58] })) 9, type := 9, pos := "ref.go:550", after := #[{ on := 19, ground := Ground.data }], guard := none }) (v := ?vv20) rfl (by kernel_rfl) (by kernel_rfl) (by kernel_rfl) (fun _ _ _ h => h) (Or.inl ⟨by rfl, ?hy20⟩) (HS.out _ K5) ?rest20
  case hy20 =>
    intro V hV
    obtain ⟨y0, y1, y2, y3, y4⟩ := hV
    go_simp
    all_goals rfl
  simp only [Act.put, List.setIfInBounds_toArray, List.set_cons_zero, List.set_cons_succ]
  refine wpAnyH_ready (rs := [23]) (by kernel_rfl) (by simp) (AllReadyH.cons (o := { dst := some 38, op := Op.call { callee := Callee.value (Operand.func 8), args := #[Operand.tmp 37], argTypes := #[3] }, type := 9, pos := "ref.go:550", after := #[{ on := 22, ground := Ground.data }, { on := 18, ground := Ground.chain }], guard := none }) rfl (fun K' hK => ?_) AllReadyH.nil)
  refine step_call1f _ (by rfl) 8 _ _ (by rfl) (enters_of Tryz.func8 (by kernel_rfl) rfl) _ (by rfl) (H6.out _ K5) ?_
  rintro e w6 ⟨rfl, K6'⟩
  have K6 := K5.and K6'
  clear K6'
  refine ⟨_, rfl, ?_⟩
  refine hK.out _ _ (HS.out _ K6) (fun _ => ?_)
  clear hK K'
  try (simp only [Act.put, List.setIfInBounds_toArray, List.set_cons_zero, List.set_cons_succ])
  refine wpAnyH_take (i := 24) (oi := { dst := some 39, op := Op.binOp BinOp.add 9 (Operand.tmp 35) (Operand.tmp 38) 9, type := 9, pos := "ref.go:550", after := #[{ on := 20, ground := Ground.data }, { on := 23, ground := Ground.data }], guard := none }) (v := ?vv21) rfl (by kernel_rfl) (by kernel_rfl) (by kernel_rfl) (fun _ _ _ h => h) (Or.inl ⟨by rfl, ?hy21⟩) (HS.out _ K6) ?rest21
  case hy21 =>
    intro V hV
    obtain ⟨y0, y1, y2, y3, y4⟩ := hV
    go_simp
    all_goals rfl
  simp only [Act.put, List.setIfInBounds_toArray, List.set_cons_zero, List.set_cons_succ]
  refine wpAnyH_take (i := 25) (oi := { dst := some 40, op := Op.binOp BinOp.add 9 (Operand.tmp 39) (Operand.const (Value.string { data := #[44, 34, 111, 118, 101, 114, 34, 58] })) 9, type := 9, pos := "ref.go:550", after := #[{ on := 24, ground := Ground.data }], guard := none }) (v := ?vv22) rfl (by kernel_rfl) (by kernel_rfl) (by kernel_rfl) (fun _ _ _ h => h) (Or.inl ⟨by rfl, ?hy22⟩) (HS.out _ K6) ?rest22
  case hy22 =>
    intro V hV
    obtain ⟨y0, y1, y2, y3, y4⟩ := hV
    go_simp
    all_goals rfl
  simp only [Act.put, List.setIfInBounds_toArray, List.set_cons_zero, List.set_cons_succ]
  refine wpAnyH_ready (rs := [27]) (by kernel_rfl) (by simp) (AllReadyH.cons (o := { dst := some 42, op := Op.call { callee := Callee.value (Operand.func 8), args := #[Operand.tmp 41], argTypes := #[3] }, type := 9, pos := "ref.go:550", after := #[{ on := 26, ground := Ground.data }, { on := 23, ground := Ground.chain }], guard := none }) rfl (fun K' hK => ?_) AllReadyH.nil)
  refine step_call1f _ (by rfl) 8 _ _ (by rfl) (enters_of Tryz.func8 (by kernel_rfl) rfl) _ (by rfl) (H7.out _ K6) ?_
  rintro e w7 ⟨rfl, K7'⟩
  have K7 := K6.and K7'
  clear K7'
  refine ⟨_, rfl, ?_⟩
  refine hK.out _ _ (HS.out _ K7) (fun _ => ?_)
  clear hK K'
  try (simp only [Act.put, List.setIfInBounds_toArray, List.set_cons_zero, List.set_cons_succ])
  refine wpAnyH_take (i := 28) (oi := { dst := some 43, op := Op.binOp BinOp.add 9 (Operand.tmp 40) (Operand.tmp 42) 9, type := 9, pos := "ref.go:550", after := #[{ on := 25, ground := Ground.data }, { on := 27, ground := Ground.data }], guard := none }) (v := ?vv23) rfl (by kernel_rfl) (by kernel_rfl) (by kernel_rfl) (fun _ _ _ h => h) (Or.inl ⟨by rfl, ?hy23⟩) (HS.out _ K7) ?rest23
  case hy23 =>
    intro V hV
    obtain ⟨y0, y1, y2, y3, y4⟩ := hV
    go_simp
    all_goals rfl
  simp only [Act.put, List.setIfInBounds_toArray, List.set_cons_zero, List.set_cons_succ]
  refine wpAnyH_take (i := 29) (oi := { dst := some 44, op := Op.binOp BinOp.add 9 (Operand.tmp 43) (Operand.const (Value.string { data := #[44, 34, 108, 101, 102, 116, 34, 58] })) 9, type := 9, pos := "ref.go:550", after := #[{ on := 28, ground := Ground.data }], guard := none }) (v := ?vv24) rfl (by kernel_rfl) (by kernel_rfl) (by kernel_rfl) (fun _ _ _ h => h) (Or.inl ⟨by rfl, ?hy24⟩) (HS.out _ K7) ?rest24
  case hy24 =>
    intro V hV
    obtain ⟨y0, y1, y2, y3, y4⟩ := hV
    go_simp
    all_goals rfl
  simp only [Act.put, List.setIfInBounds_toArray, List.set_cons_zero, List.set_cons_succ]
  refine wpAnyH_ready (rs := [31]) (by kernel_rfl) (by simp) (AllReadyH.cons (o := { dst := some 46, op := Op.call { callee := Callee.value (Operand.func 8), args := #[Operand.tmp 45], argTypes := #[3] }, type := 9, pos := "ref.go:550", after := #[{ on := 30, ground := Ground.data }, { on := 27, ground := Ground.chain }], guard := none }) rfl (fun K' hK => ?_) AllReadyH.nil)
  refine step_call1f _ (by rfl) 8 _ _ (by rfl) (enters_of Tryz.func8 (by kernel_rfl) rfl) _ (by rfl) (H8.out _ K7) ?_
  rintro e w8 ⟨rfl, K8'⟩
  have K8 := K7.and K8'
  clear K8'
  refine ⟨_, rfl, ?_⟩
  refine hK.out _ _ (HS.out _ K8) (fun _ => ?_)
  clear hK K'
  try (simp only [Act.put, List.setIfInBounds_toArray, List.set_cons_zero, List.set_cons_succ])
  refine wpAnyH_take (i := 32) (oi := { dst := some 47, op := Op.binOp BinOp.add 9 (Operand.tmp 44) (Operand.tmp 46) 9, type := 9, pos := "ref.go:550", after := #[{ on := 29, ground := Ground.data }, { on := 31, ground := Ground.data }], guard := none }) (v := ?vv25) rfl (by kernel_rfl) (by kernel_rfl) (by kernel_rfl) (fun _ _ _ h => h) (Or.inl ⟨by rfl, ?hy25⟩) (HS.out _ K8) ?rest25
  case hy25 =>
    intro V hV
    obtain ⟨y0, y1, y2, y3, y4⟩ := hV
    go_simp
    all_goals rfl
  simp only [Act.put, List.setIfInBounds_toArray, List.set_cons_zero, List.set_cons_succ]
  refine wpAnyH_take (i := 33) (oi := { dst := some 48, op := Op.binOp BinOp.add 9 (Operand.tmp 47) (Operand.const (Value.string { data := #[44, 34, 110, 111, 100, 101, 115, 34, 58, 91] })) 9, type := 9, pos := "ref.go:550", after := #[{ on := 32, ground := Ground.data }], guard := none }) (v := ?vv26) rfl (by kernel_rfl) (by kernel_rfl) (by kernel_rfl) (fun _ _ _ h => h) (Or.inl ⟨by rfl, ?hy26⟩) (HS.out _ K8) ?rest26
  case hy26 =>
    intro V hV
    obtain ⟨y0, y1, y2, y3, y4⟩ := hV
    go_simp
    all_goals rfl
  simp only [Act.put, List.setIfInBounds_toArray, List.set_cons_zero, List.set_cons_succ]
  refine wpAnyH_take (i := 34) (oi := { dst := some 7, op := Op.assign (Operand.tmp 48), type := 9, pos := "ref.go:550", after := #[{ on := 33, ground := Ground.data }, { on := 31, ground := Ground.chain }, { on := 0, ground := Ground.phase }, { on := 1, ground := Ground.phase }, { on := 2, ground := Ground.phase }, { on := 3, ground := Ground.phase }, { on := 4, ground := Ground.phase }, { on := 5, ground := Ground.phase }, { on := 6, ground := Ground.phase }, { on := 7, ground := Ground.phase }, { on := 8, ground := Ground.phase }, { on := 9, ground := Ground.phase }, { on := 10, ground := Ground.phase }, { on := 11, ground := Ground.phase }, { on := 12, ground := Ground.phase }, { on := 13, ground := Ground.phase }, { on := 14, ground := Ground.phase }, { on := 15, ground := Ground.phase }, { on := 16, ground := Ground.phase }, { on := 17, ground := Ground.phase }, { on := 18, ground := Ground.phase }, { on := 19, ground := Ground.phase }, { on := 20, ground := Ground.phase }, { on := 21, ground := Ground.phase }, { on := 22, ground := Ground.phase }, { on := 23, ground := Ground.phase }, { on := 24, ground := Ground.phase }, { on := 25, ground := Ground.phase }, { on := 26, ground := Ground.phase }, { on := 27, ground := Ground.phase }, { on := 28, ground := Ground.phase }, { on := 29, ground := Ground.phase }, { on := 30, ground := Ground.phase }, { on := 31, ground := Ground.phase }, { on := 32, ground := Ground.phase }, { on := 33, ground := Ground.phase }], guard := none }) (v := ?vv27) rfl (by kernel_rfl) (by kernel_rfl) (by kernel_rfl) (fun _ _ _ h => h) (Or.inl ⟨by rfl, ?hy27⟩) (HS.out _ K8) ?rest27
  case hy27 =>
    intro V hV
    obtain ⟨y0, y1, y2, y3, y4⟩ := hV
    go_simp
    all_goals rfl
  simp only [Act.put, List.setIfInBounds_toArray, List.set_cons_zero, List.set_cons_succ]
  refine wpAnyH_done (by kernel_rfl) ?_ _
  exact HH.out _ _ _ _ _ _ _ _ _ _ _ _ _ _ _ _ _ _ _ _ _ _ _ _ _ _ _ _ _ _ _ _ _ _ _ (K8)

end Go.Proofs.YtdbplemcjnlfiaaGreatDoor
