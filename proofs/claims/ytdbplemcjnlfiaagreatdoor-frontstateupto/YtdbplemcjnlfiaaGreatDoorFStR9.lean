/-
  tillerref13.State, its region 9, which draws its order.
-/
import Derived.Test.YtdbplemcjnlfiaaGreatDoorFStK
namespace Go.Proofs.YtdbplemcjnlfiaaGreatDoor
open Go.RowKit

set_option maxRecDepth 100000 in
set_option maxHeartbeats 8000000 in
theorem stR9 {W : World} {ds : List Deferred} {gd bd od ld cd gn j : Nat} {ns nt : Int} {nm nx : ByteArray} {a0 : List UInt8} {q1 q2 q3 q4 q5 p1 p2 p3 p4 p5 p6 p7 p8 p9 : List UInt8} {u0 u1 u3 u4 u5 u6 u10 u11 u12 u13 u14 u15 u16 u17 u18 u19 u20 u21 u22 u23 u24 u25 u26 u27 u28 u29 u30 u31 u32 u33 u34 u35 u36 u37 u38 u39 u40 u41 u42 u43 u44 u45 u46 u47 u48 u49 u50 u51 u52 u53 u54 u55 u56 u57 u58 u59 u60 u61 u62 u63 u64 u65 u66 u67 u68 u69 u70 u71 u72 u73 u74 u75 u76 u77 u78 u79 u80 u81 u82 u83 u84 u85 u86 u87 u88 u89 u90 u91 u92 u93 u94 u95 u96 u97 u98 u99 u100 : Value} (K : Act → World → Prop)
    (hSt : ∀ V, Kept (fun _ => False) W V → V.cell? ⟨bd, od + j * 7, none⟩ = some (.string nm) ∧ V.cell? ⟨gd, 1, none⟩ = some (.slice (some ⟨bd, od, none⟩) ld cd) ∧ V.cell? ⟨gn, 0, none⟩ = some (.int .i64 ns) ∧ V.cell? ⟨gn, 1, none⟩ = some (.int .i64 nt) ∧ V.cell? ⟨gn, 2, none⟩ = some (.string nx))
    (r1 : ∀ V, (Op.stringOp .add (mkB a0) ⟨#[123, 34, 110, 97, 109, 101, 34, 58]⟩).run Tryz.prog V = .ok (.string (mkB p1)) V)
    (h1 : ∀ V, Kept (fun _ => False) W V → Calls Tryz.prog 32 #[.string nm] V fun e w' => e = .returned (.string (mkB q1)) ∧ Kept (fun _ => False) V w')
    (r2 : ∀ V, (Op.stringOp .add (mkB p1) (mkB q1)).run Tryz.prog V = .ok (.string (mkB p2)) V)
    (r3 : ∀ V, (Op.stringOp .add (mkB p2) ⟨#[44, 34, 115, 116, 97, 116, 117, 115, 34, 58]⟩).run Tryz.prog V = .ok (.string (mkB p3)) V)
    (h2 : ∀ V, Kept (fun _ => False) W V → Calls Tryz.prog 34 #[.int .i64 ns] V fun e w' => e = .returned (.string (mkB q2)) ∧ Kept (fun _ => False) V w')
    (h3 : ∀ V, Kept (fun _ => False) W V → Calls Tryz.prog 32 #[.string (mkB q2)] V fun e w' => e = .returned (.string (mkB q3)) ∧ Kept (fun _ => False) V w')
    (r4 : ∀ V, (Op.stringOp .add (mkB p3) (mkB q3)).run Tryz.prog V = .ok (.string (mkB p4)) V)
    (r5 : ∀ V, (Op.stringOp .add (mkB p4) ⟨#[44, 34, 116, 114, 121, 34, 58]⟩).run Tryz.prog V = .ok (.string (mkB p5)) V)
    (h4 : ∀ V, Kept (fun _ => False) W V → Calls Tryz.prog 8 #[.int .i64 nt] V fun e w' => e = .returned (.string (mkB q4)) ∧ Kept (fun _ => False) V w')
    (r6 : ∀ V, (Op.stringOp .add (mkB p5) (mkB q4)).run Tryz.prog V = .ok (.string (mkB p6)) V)
    (r7 : ∀ V, (Op.stringOp .add (mkB p6) ⟨#[44, 34, 116, 101, 120, 116, 34, 58]⟩).run Tryz.prog V = .ok (.string (mkB p7)) V)
    (h5 : ∀ V, Kept (fun _ => False) W V → Calls Tryz.prog 32 #[.string nx] V fun e w' => e = .returned (.string (mkB q5)) ∧ Kept (fun _ => False) V w')
    (r8 : ∀ V, (Op.stringOp .add (mkB p7) (mkB q5)).run Tryz.prog V = .ok (.string (mkB p8)) V)
    (r9 : ∀ V, (Op.stringOp .add (mkB p8) ⟨#[125]⟩).run Tryz.prog V = .ok (.string (mkB p9)) V) (hj : (j : Int) < (ld : Int))
    (h : ∀ (v72 v73 v74 v75 v76 v77 v78 v79 v80 v81 v82 v83 v84 v85 v86 v87 v88 v89 v90 v91 v92 v93 v94 v95 v96 v97 v98 : Value) (w9 : World), Kept (fun _ => False) W w9 → K { tmps := #[u0, u1, .pointer (some ⟨gd, 0, none⟩), u3, u4, u5, u6, .string (mkB p9), .int .i64 (j : Int), .pointer (some ⟨gn, 0, none⟩), u10, u11, u12, u13, u14, u15, u16, u17, u18, u19, u20, u21, u22, u23, u24, u25, u26, u27, u28, u29, u30, u31, u32, u33, u34, u35, u36, u37, u38, u39, u40, u41, u42, u43, u44, u45, u46, u47, u48, u49, u50, u51, u52, u53, u54, u55, u56, u57, u58, u59, u60, u61, u62, u63, u64, u65, u66, u67, u68, u69, u70, u71, v72, v73, v74, v75, v76, v77, v78, v79, v80, v81, v82, v83, v84, v85, v86, v87, v88, v89, v90, v91, v92, v93, v94, v95, v96, v97, v98, u99, u100], defers := ds } w9) :
    (Code.region 9 #[{ dst := some 72, op := Op.move (Operand.tmp 7), type := 9, pos := "ref.go:556", after := #[], guard := none }, { dst := some 73, op := Op.binOp BinOp.add 9 (Operand.tmp 72) (Operand.const (Value.string { data := #[123, 34, 110, 97, 109, 101, 34, 58] })) 9, type := 9, pos := "ref.go:556", after := #[{ on := 0, ground := Ground.data }], guard := none }, { dst := some 74, op := Op.fieldAddr 38 (Operand.tmp 2) 1, type := 0, pos := "ref.go:556", after := #[], guard := none }, { dst := some 75, op := Op.load 36 (Operand.tmp 74), type := 36, pos := "ref.go:556", after := #[{ on := 2, ground := Ground.data }], guard := none }, { dst := some 76, op := Op.move (Operand.tmp 8), type := 3, pos := "ref.go:556", after := #[], guard := none }, { dst := some 77, op := Op.indexAddr 36 (Operand.tmp 75) (Operand.tmp 76), type := 0, pos := "ref.go:556", after := #[{ on := 3, ground := Ground.data }, { on := 4, ground := Ground.data }], guard := none }, { dst := some 78, op := Op.fieldAddr 71 (Operand.tmp 77) 0, type := 0, pos := "ref.go:556", after := #[{ on := 5, ground := Ground.data }], guard := none }, { dst := some 79, op := Op.load 9 (Operand.tmp 78), type := 9, pos := "ref.go:556", after := #[{ on := 6, ground := Ground.data }], guard := none }, { dst := some 80, op := Op.call { callee := Callee.value (Operand.func 32), args := #[Operand.tmp 79], argTypes := #[9] }, type := 9, pos := "ref.go:556", after := #[{ on := 7, ground := Ground.data }], guard := none }, { dst := some 81, op := Op.binOp BinOp.add 9 (Operand.tmp 73) (Operand.tmp 80) 9, type := 9, pos := "ref.go:556", after := #[{ on := 1, ground := Ground.data }, { on := 8, ground := Ground.data }], guard := none }, { dst := some 82, op := Op.binOp BinOp.add 9 (Operand.tmp 81) (Operand.const (Value.string { data := #[44, 34, 115, 116, 97, 116, 117, 115, 34, 58] })) 9, type := 9, pos := "ref.go:556", after := #[{ on := 9, ground := Ground.data }], guard := none }, { dst := some 83, op := Op.fieldAddr 67 (Operand.tmp 9) 0, type := 0, pos := "ref.go:556", after := #[], guard := none }, { dst := some 84, op := Op.load 3 (Operand.tmp 83), type := 3, pos := "ref.go:556", after := #[{ on := 11, ground := Ground.data }], guard := none }, { dst := some 85, op := Op.call { callee := Callee.value (Operand.func 34), args := #[Operand.tmp 84], argTypes := #[3] }, type := 9, pos := "ref.go:556", after := #[{ on := 12, ground := Ground.data }, { on := 8, ground := Ground.chain }], guard := none }, { dst := some 86, op := Op.call { callee := Callee.value (Operand.func 32), args := #[Operand.tmp 85], argTypes := #[9] }, type := 9, pos := "ref.go:556", after := #[{ on := 13, ground := Ground.data }, { on := 13, ground := Ground.chain }], guard := none }, { dst := some 87, op := Op.binOp BinOp.add 9 (Operand.tmp 82) (Operand.tmp 86) 9, type := 9, pos := "ref.go:556", after := #[{ on := 10, ground := Ground.data }, { on := 14, ground := Ground.data }], guard := none }, { dst := some 88, op := Op.binOp BinOp.add 9 (Operand.tmp 87) (Operand.const (Value.string { data := #[44, 34, 116, 114, 121, 34, 58] })) 9, type := 9, pos := "ref.go:556", after := #[{ on := 15, ground := Ground.data }], guard := none }, { dst := some 89, op := Op.fieldAddr 67 (Operand.tmp 9) 1, type := 0, pos := "ref.go:556", after := #[], guard := none }, { dst := some 90, op := Op.load 3 (Operand.tmp 89), type := 3, pos := "ref.go:556", after := #[{ on := 17, ground := Ground.data }], guard := none }, { dst := some 91, op := Op.call { callee := Callee.value (Operand.func 8), args := #[Operand.tmp 90], argTypes := #[3] }, type := 9, pos := "ref.go:556", after := #[{ on := 18, ground := Ground.data }, { on := 14, ground := Ground.chain }], guard := none }, { dst := some 92, op := Op.binOp BinOp.add 9 (Operand.tmp 88) (Operand.tmp 91) 9, type := 9, pos := "ref.go:556", after := #[{ on := 16, ground := Ground.data }, { on := 19, ground := Ground.data }], guard := none }, { dst := some 93, op := Op.binOp BinOp.add 9 (Operand.tmp 92) (Operand.const (Value.string { data := #[44, 34, 116, 101, 120, 116, 34, 58] })) 9, type := 9, pos := "ref.go:556", after := #[{ on := 20, ground := Ground.data }], guard := none }, { dst := some 94, op := Op.fieldAddr 67 (Operand.tmp 9) 2, type := 0, pos := "ref.go:556", after := #[], guard := none }, { dst := some 95, op := Op.load 9 (Operand.tmp 94), type := 9, pos := "ref.go:556", after := #[{ on := 22, ground := Ground.data }], guard := none }, { dst := some 96, op := Op.call { callee := Callee.value (Operand.func 32), args := #[Operand.tmp 95], argTypes := #[9] }, type := 9, pos := "ref.go:556", after := #[{ on := 23, ground := Ground.data }, { on := 19, ground := Ground.chain }], guard := none }, { dst := some 97, op := Op.binOp BinOp.add 9 (Operand.tmp 93) (Operand.tmp 96) 9, type := 9, pos := "ref.go:556", after := #[{ on := 21, ground := Ground.data }, { on := 24, ground := Ground.data }], guard := none }, { dst := some 98, op := Op.binOp BinOp.add 9 (Operand.tmp 97) (Operand.const (Value.string { data := #[125] })) 9, type := 9, pos := "ref.go:556", after := #[{ on := 25, ground := Ground.data }], guard := none }, { dst := some 7, op := Op.assign (Operand.tmp 98), type := 9, pos := "ref.go:556", after := #[{ on := 26, ground := Ground.data }, { on := 24, ground := Ground.chain }, { on := 0, ground := Ground.phase }, { on := 1, ground := Ground.phase }, { on := 2, ground := Ground.phase }, { on := 3, ground := Ground.phase }, { on := 4, ground := Ground.phase }, { on := 5, ground := Ground.phase }, { on := 6, ground := Ground.phase }, { on := 7, ground := Ground.phase }, { on := 8, ground := Ground.phase }, { on := 9, ground := Ground.phase }, { on := 10, ground := Ground.phase }, { on := 11, ground := Ground.phase }, { on := 12, ground := Ground.phase }, { on := 13, ground := Ground.phase }, { on := 14, ground := Ground.phase }, { on := 15, ground := Ground.phase }, { on := 16, ground := Ground.phase }, { on := 17, ground := Ground.phase }, { on := 18, ground := Ground.phase }, { on := 19, ground := Ground.phase }, { on := 20, ground := Ground.phase }, { on := 21, ground := Ground.phase }, { on := 22, ground := Ground.phase }, { on := 23, ground := Ground.phase }, { on := 24, ground := Ground.phase }, { on := 25, ground := Ground.phase }, { on := 26, ground := Ground.phase }], guard := none }] true).wp Tryz.prog (onlyN K) { tmps := #[u0, u1, .pointer (some ⟨gd, 0, none⟩), u3, u4, u5, u6, .string (mkB a0), .int .i64 (j : Int), .pointer (some ⟨gn, 0, none⟩), u10, u11, u12, u13, u14, u15, u16, u17, u18, u19, u20, u21, u22, u23, u24, u25, u26, u27, u28, u29, u30, u31, u32, u33, u34, u35, u36, u37, u38, u39, u40, u41, u42, u43, u44, u45, u46, u47, u48, u49, u50, u51, u52, u53, u54, u55, u56, u57, u58, u59, u60, u61, u62, u63, u64, u65, u66, u67, u68, u69, u70, u71, u72, u73, u74, u75, u76, u77, u78, u79, u80, u81, u82, u83, u84, u85, u86, u87, u88, u89, u90, u91, u92, u93, u94, u95, u96, u97, u98, u99, u100], defers := ds } W := by
  have HH := hid h
  have KD := Kept.drew (fun _ => False) W
  have HS := hid hSt
  have hS0 := hSt _ KD
  have H1 := hid h1
  have H2 := hid h2
  have H3 := hid h3
  have H4 := hid h4
  have H5 := hid h5
  clear h hSt h1 h2 h3 h4 h5
  refine wp_region_held_drew (S := fun V => V.cell? ⟨bd, od + j * 7, none⟩ = some (.string nm) ∧ V.cell? ⟨gd, 1, none⟩ = some (.slice (some ⟨bd, od, none⟩) ld cd) ∧ V.cell? ⟨gn, 0, none⟩ = some (.int .i64 ns) ∧ V.cell? ⟨gn, 1, none⟩ = some (.int .i64 nt) ∧ V.cell? ⟨gn, 2, none⟩ = some (.string nx)) (by kernel_rfl) hS0 (fun _ => ?_)
  refine wpAnyH_take (i := 0) (oi := { dst := some 72, op := Op.move (Operand.tmp 7), type := 9, pos := "ref.go:556", after := #[], guard := none }) (v := ?vv1) rfl (by kernel_rfl) (by kernel_rfl) (by kernel_rfl) (fun _ _ _ h => h) (Or.inl ⟨by rfl, ?hy1⟩) hS0 ?rest1
  case hy1 =>
    intro V hV
    obtain ⟨y0, y1, y2, y3, y4⟩ := hV
    go_simp
    all_goals rfl
  simp only [Act.put, List.setIfInBounds_toArray, List.set_cons_zero, List.set_cons_succ]
  refine wpAnyH_take (i := 1) (oi := { dst := some 73, op := Op.binOp BinOp.add 9 (Operand.tmp 72) (Operand.const (Value.string { data := #[123, 34, 110, 97, 109, 101, 34, 58] })) 9, type := 9, pos := "ref.go:556", after := #[{ on := 0, ground := Ground.data }], guard := none }) (v := ?vv2) rfl (by kernel_rfl) (by kernel_rfl) (by kernel_rfl) (fun _ _ _ h => h) (Or.inl ⟨by rfl, ?hy2⟩) hS0 ?rest2
  case hy2 =>
    intro V hV
    obtain ⟨y0, y1, y2, y3, y4⟩ := hV
    go_simp
    all_goals rfl
  simp only [Act.put, List.setIfInBounds_toArray, List.set_cons_zero, List.set_cons_succ]
  refine wpAnyH_take (i := 2) (oi := { dst := some 74, op := Op.fieldAddr 38 (Operand.tmp 2) 1, type := 0, pos := "ref.go:556", after := #[], guard := none }) (v := ?vv3) rfl (by kernel_rfl) (by kernel_rfl) (by kernel_rfl) (fun _ _ _ h => h) (Or.inl ⟨by rfl, ?hy3⟩) hS0 ?rest3
  case hy3 =>
    intro V hV
    obtain ⟨y0, y1, y2, y3, y4⟩ := hV
    go_simp
    all_goals rfl
  simp only [Act.put, List.setIfInBounds_toArray, List.set_cons_zero, List.set_cons_succ]
  refine wpAnyH_take (i := 3) (oi := { dst := some 75, op := Op.load 36 (Operand.tmp 74), type := 36, pos := "ref.go:556", after := #[{ on := 2, ground := Ground.data }], guard := none }) (v := ?vv4) rfl (by kernel_rfl) (by kernel_rfl) (by kernel_rfl) (fun _ _ _ h => h) (Or.inl ⟨by rfl, ?hy4⟩) hS0 ?rest4
  case hy4 =>
    intro V hV
    obtain ⟨y0, y1, y2, y3, y4⟩ := hV
    go_simp
    all_goals rfl
  simp only [Act.put, List.setIfInBounds_toArray, List.set_cons_zero, List.set_cons_succ]
  refine wpAnyH_take (i := 4) (oi := { dst := some 76, op := Op.move (Operand.tmp 8), type := 3, pos := "ref.go:556", after := #[], guard := none }) (v := ?vv5) rfl (by kernel_rfl) (by kernel_rfl) (by kernel_rfl) (fun _ _ _ h => h) (Or.inl ⟨by rfl, ?hy5⟩) hS0 ?rest5
  case hy5 =>
    intro V hV
    obtain ⟨y0, y1, y2, y3, y4⟩ := hV
    go_simp
    all_goals rfl
  simp only [Act.put, List.setIfInBounds_toArray, List.set_cons_zero, List.set_cons_succ]
  refine wpAnyH_take (i := 5) (oi := { dst := some 77, op := Op.indexAddr 36 (Operand.tmp 75) (Operand.tmp 76), type := 0, pos := "ref.go:556", after := #[{ on := 3, ground := Ground.data }, { on := 4, ground := Ground.data }], guard := none }) (v := ?vv6) rfl (by kernel_rfl) (by kernel_rfl) (by kernel_rfl) (fun _ _ _ h => h) (Or.inl ⟨by rfl, ?hy6⟩) hS0 ?rest6
  case hy6 =>
    intro V hV
    obtain ⟨y0, y1, y2, y3, y4⟩ := hV
    go_simp
    all_goals rfl
  simp only [Act.put, List.setIfInBounds_toArray, List.set_cons_zero, List.set_cons_succ]
  refine wpAnyH_take (i := 6) (oi := { dst := some 78, op := Op.fieldAddr 71 (Operand.tmp 77) 0, type := 0, pos := "ref.go:556", after := #[{ on := 5, ground := Ground.data }], guard := none }) (v := ?vv7) rfl (by kernel_rfl) (by kernel_rfl) (by kernel_rfl) (fun _ _ _ h => h) (Or.inl ⟨by rfl, ?hy7⟩) hS0 ?rest7
  case hy7 =>
    intro V hV
    obtain ⟨y0, y1, y2, y3, y4⟩ := hV
    go_simp
    all_goals rfl
  simp only [Act.put, List.setIfInBounds_toArray, List.set_cons_zero, List.set_cons_succ]
  refine wpAnyH_take (i := 7) (oi := { dst := some 79, op := Op.load 9 (Operand.tmp 78), type := 9, pos := "ref.go:556", after := #[{ on := 6, ground := Ground.data }], guard := none }) (v := ?vv8) rfl (by kernel_rfl) (by kernel_rfl) (by kernel_rfl) (fun _ _ _ h => h) (Or.inl ⟨by rfl, ?hy8⟩) hS0 ?rest8
  case hy8 =>
    intro V hV
    obtain ⟨y0, y1, y2, y3, y4⟩ := hV
    go_simp
    all_goals rfl
  simp only [Act.put, List.setIfInBounds_toArray, List.set_cons_zero, List.set_cons_succ]
  refine wpAnyH_take (i := 11) (oi := { dst := some 83, op := Op.fieldAddr 67 (Operand.tmp 9) 0, type := 0, pos := "ref.go:556", after := #[], guard := none }) (v := ?vv9) rfl (by kernel_rfl) (by kernel_rfl) (by kernel_rfl) (fun _ _ _ h => h) (Or.inl ⟨by rfl, ?hy9⟩) hS0 ?rest9
  case hy9 =>
    intro V hV
    obtain ⟨y0, y1, y2, y3, y4⟩ := hV
    go_simp
    all_goals rfl
  simp only [Act.put, List.setIfInBounds_toArray, List.set_cons_zero, List.set_cons_succ]
  refine wpAnyH_take (i := 12) (oi := { dst := some 84, op := Op.load 3 (Operand.tmp 83), type := 3, pos := "ref.go:556", after := #[{ on := 11, ground := Ground.data }], guard := none }) (v := ?vv10) rfl (by kernel_rfl) (by kernel_rfl) (by kernel_rfl) (fun _ _ _ h => h) (Or.inl ⟨by rfl, ?hy10⟩) hS0 ?rest10
  case hy10 =>
    intro V hV
    obtain ⟨y0, y1, y2, y3, y4⟩ := hV
    go_simp
    all_goals rfl
  simp only [Act.put, List.setIfInBounds_toArray, List.set_cons_zero, List.set_cons_succ]
  refine wpAnyH_take (i := 17) (oi := { dst := some 89, op := Op.fieldAddr 67 (Operand.tmp 9) 1, type := 0, pos := "ref.go:556", after := #[], guard := none }) (v := ?vv11) rfl (by kernel_rfl) (by kernel_rfl) (by kernel_rfl) (fun _ _ _ h => h) (Or.inl ⟨by rfl, ?hy11⟩) hS0 ?rest11
  case hy11 =>
    intro V hV
    obtain ⟨y0, y1, y2, y3, y4⟩ := hV
    go_simp
    all_goals rfl
  simp only [Act.put, List.setIfInBounds_toArray, List.set_cons_zero, List.set_cons_succ]
  refine wpAnyH_take (i := 18) (oi := { dst := some 90, op := Op.load 3 (Operand.tmp 89), type := 3, pos := "ref.go:556", after := #[{ on := 17, ground := Ground.data }], guard := none }) (v := ?vv12) rfl (by kernel_rfl) (by kernel_rfl) (by kernel_rfl) (fun _ _ _ h => h) (Or.inl ⟨by rfl, ?hy12⟩) hS0 ?rest12
  case hy12 =>
    intro V hV
    obtain ⟨y0, y1, y2, y3, y4⟩ := hV
    go_simp
    all_goals rfl
  simp only [Act.put, List.setIfInBounds_toArray, List.set_cons_zero, List.set_cons_succ]
  refine wpAnyH_take (i := 22) (oi := { dst := some 94, op := Op.fieldAddr 67 (Operand.tmp 9) 2, type := 0, pos := "ref.go:556", after := #[], guard := none }) (v := ?vv13) rfl (by kernel_rfl) (by kernel_rfl) (by kernel_rfl) (fun _ _ _ h => h) (Or.inl ⟨by rfl, ?hy13⟩) hS0 ?rest13
  case hy13 =>
    intro V hV
    obtain ⟨y0, y1, y2, y3, y4⟩ := hV
    go_simp
    all_goals rfl
  simp only [Act.put, List.setIfInBounds_toArray, List.set_cons_zero, List.set_cons_succ]
  refine wpAnyH_take (i := 23) (oi := { dst := some 95, op := Op.load 9 (Operand.tmp 94), type := 9, pos := "ref.go:556", after := #[{ on := 22, ground := Ground.data }], guard := none }) (v := ?vv14) rfl (by kernel_rfl) (by kernel_rfl) (by kernel_rfl) (fun _ _ _ h => h) (Or.inl ⟨by rfl, ?hy14⟩) hS0 ?rest14
  case hy14 =>
    intro V hV
    obtain ⟨y0, y1, y2, y3, y4⟩ := hV
    go_simp
    all_goals rfl
  simp only [Act.put, List.setIfInBounds_toArray, List.set_cons_zero, List.set_cons_succ]
  refine wpAnyH_ready (rs := [8]) (by kernel_rfl) (by simp) (AllReadyH.cons (o := { dst := some 80, op := Op.call { callee := Callee.value (Operand.func 32), args := #[Operand.tmp 79], argTypes := #[9] }, type := 9, pos := "ref.go:556", after := #[{ on := 7, ground := Ground.data }], guard := none }) rfl (fun K' hK => ?_) AllReadyH.nil)
  refine step_call1f _ (by rfl) 32 _ _ (by rfl) (enters_of Tryz.func32 (by kernel_rfl) rfl) _ (by rfl) (H1.out _ KD) ?_
  rintro e w1 ⟨rfl, K1'⟩
  have K1 := KD.and K1'
  clear K1'
  refine ⟨_, rfl, ?_⟩
  refine hK.out _ _ (HS.out _ K1) (fun _ => ?_)
  clear hK K'
  try (simp only [Act.put, List.setIfInBounds_toArray, List.set_cons_zero, List.set_cons_succ])
  refine wpAnyH_take (i := 9) (oi := { dst := some 81, op := Op.binOp BinOp.add 9 (Operand.tmp 73) (Operand.tmp 80) 9, type := 9, pos := "ref.go:556", after := #[{ on := 1, ground := Ground.data }, { on := 8, ground := Ground.data }], guard := none }) (v := ?vv15) rfl (by kernel_rfl) (by kernel_rfl) (by kernel_rfl) (fun _ _ _ h => h) (Or.inl ⟨by rfl, ?hy15⟩) (HS.out _ K1) ?rest15
  case hy15 =>
    intro V hV
    obtain ⟨y0, y1, y2, y3, y4⟩ := hV
    go_simp
    all_goals rfl
  simp only [Act.put, List.setIfInBounds_toArray, List.set_cons_zero, List.set_cons_succ]
  refine wpAnyH_take (i := 10) (oi := { dst := some 82, op := Op.binOp BinOp.add 9 (Operand.tmp 81) (Operand.const (Value.string { data := #[44, 34, 115, 116, 97, 116, 117, 115, 34, 58] })) 9, type := 9, pos := "ref.go:556", after := #[{ on := 9, ground := Ground.data }], guard := none }) (v := ?vv16) rfl (by kernel_rfl) (by kernel_rfl) (by kernel_rfl) (fun _ _ _ h => h) (Or.inl ⟨by rfl, ?hy16⟩) (HS.out _ K1) ?rest16
  case hy16 =>
    intro V hV
    obtain ⟨y0, y1, y2, y3, y4⟩ := hV
    go_simp
    all_goals rfl
  simp only [Act.put, List.setIfInBounds_toArray, List.set_cons_zero, List.set_cons_succ]
  refine wpAnyH_ready (rs := [13]) (by kernel_rfl) (by simp) (AllReadyH.cons (o := { dst := some 85, op := Op.call { callee := Callee.value (Operand.func 34), args := #[Operand.tmp 84], argTypes := #[3] }, type := 9, pos := "ref.go:556", after := #[{ on := 12, ground := Ground.data }, { on := 8, ground := Ground.chain }], guard := none }) rfl (fun K' hK => ?_) AllReadyH.nil)
  refine step_call1f _ (by rfl) 34 _ _ (by rfl) (enters_of Tryz.func34 (by kernel_rfl) rfl) _ (by rfl) (H2.out _ K1) ?_
  rintro e w2 ⟨rfl, K2'⟩
  have K2 := K1.and K2'
  clear K2'
  refine ⟨_, rfl, ?_⟩
  refine hK.out _ _ (HS.out _ K2) (fun _ => ?_)
  clear hK K'
  try (simp only [Act.put, List.setIfInBounds_toArray, List.set_cons_zero, List.set_cons_succ])
  refine wpAnyH_ready (rs := [14]) (by kernel_rfl) (by simp) (AllReadyH.cons (o := { dst := some 86, op := Op.call { callee := Callee.value (Operand.func 32), args := #[Operand.tmp 85], argTypes := #[9] }, type := 9, pos := "ref.go:556", after := #[{ on := 13, ground := Ground.data }, { on := 13, ground := Ground.chain }], guard := none }) rfl (fun K' hK => ?_) AllReadyH.nil)
  refine step_call1f _ (by rfl) 32 _ _ (by rfl) (enters_of Tryz.func32 (by kernel_rfl) rfl) _ (by rfl) (H3.out _ K2) ?_
  rintro e w3 ⟨rfl, K3'⟩
  have K3 := K2.and K3'
  clear K3'
  refine ⟨_, rfl, ?_⟩
  refine hK.out _ _ (HS.out _ K3) (fun _ => ?_)
  clear hK K'
  try (simp only [Act.put, List.setIfInBounds_toArray, List.set_cons_zero, List.set_cons_succ])
  refine wpAnyH_take (i := 15) (oi := { dst := some 87, op := Op.binOp BinOp.add 9 (Operand.tmp 82) (Operand.tmp 86) 9, type := 9, pos := "ref.go:556", after := #[{ on := 10, ground := Ground.data }, { on := 14, ground := Ground.data }], guard := none }) (v := ?vv17) rfl (by kernel_rfl) (by kernel_rfl) (by kernel_rfl) (fun _ _ _ h => h) (Or.inl ⟨by rfl, ?hy17⟩) (HS.out _ K3) ?rest17
  case hy17 =>
    intro V hV
    obtain ⟨y0, y1, y2, y3, y4⟩ := hV
    go_simp
    all_goals rfl
  simp only [Act.put, List.setIfInBounds_toArray, List.set_cons_zero, List.set_cons_succ]
  refine wpAnyH_take (i := 16) (oi := { dst := some 88, op := Op.binOp BinOp.add 9 (Operand.tmp 87) (Operand.const (Value.string { data := #[44, 34, 116, 114, 121, 34, 58] })) 9, type := 9, pos := "ref.go:556", after := #[{ on := 15, ground := Ground.data }], guard := none }) (v := ?vv18) rfl (by kernel_rfl) (by kernel_rfl) (by kernel_rfl) (fun _ _ _ h => h) (Or.inl ⟨by rfl, ?hy18⟩) (HS.out _ K3) ?rest18
  case hy18 =>
    intro V hV
    obtain ⟨y0, y1, y2, y3, y4⟩ := hV
    go_simp
    all_goals rfl
  simp only [Act.put, List.setIfInBounds_toArray, List.set_cons_zero, List.set_cons_succ]
  refine wpAnyH_ready (rs := [19]) (by kernel_rfl) (by simp) (AllReadyH.cons (o := { dst := some 91, op := Op.call { callee := Callee.value (Operand.func 8), args := #[Operand.tmp 90], argTypes := #[3] }, type := 9, pos := "ref.go:556", after := #[{ on := 18, ground := Ground.data }, { on := 14, ground := Ground.chain }], guard := none }) rfl (fun K' hK => ?_) AllReadyH.nil)
  refine step_call1f _ (by rfl) 8 _ _ (by rfl) (enters_of Tryz.func8 (by kernel_rfl) rfl) _ (by rfl) (H4.out _ K3) ?_
  rintro e w4 ⟨rfl, K4'⟩
  have K4 := K3.and K4'
  clear K4'
  refine ⟨_, rfl, ?_⟩
  refine hK.out _ _ (HS.out _ K4) (fun _ => ?_)
  clear hK K'
  try (simp only [Act.put, List.setIfInBounds_toArray, List.set_cons_zero, List.set_cons_succ])
  refine wpAnyH_take (i := 20) (oi := { dst := some 92, op := Op.binOp BinOp.add 9 (Operand.tmp 88) (Operand.tmp 91) 9, type := 9, pos := "ref.go:556", after := #[{ on := 16, ground := Ground.data }, { on := 19, ground := Ground.data }], guard := none }) (v := ?vv19) rfl (by kernel_rfl) (by kernel_rfl) (by kernel_rfl) (fun _ _ _ h => h) (Or.inl ⟨by rfl, ?hy19⟩) (HS.out _ K4) ?rest19
  case hy19 =>
    intro V hV
    obtain ⟨y0, y1, y2, y3, y4⟩ := hV
    go_simp
    all_goals rfl
  simp only [Act.put, List.setIfInBounds_toArray, List.set_cons_zero, List.set_cons_succ]
  refine wpAnyH_take (i := 21) (oi := { dst := some 93, op := Op.binOp BinOp.add 9 (Operand.tmp 92) (Operand.const (Value.string { data := #[44, 34, 116, 101, 120, 116, 34, 58] })) 9, type := 9, pos := "ref.go:556", after := #[{ on := 20, ground := Ground.data }], guard := none }) (v := ?vv20) rfl (by kernel_rfl) (by kernel_rfl) (by kernel_rfl) (fun _ _ _ h => h) (Or.inl ⟨by rfl, ?hy20⟩) (HS.out _ K4) ?rest20
  case hy20 =>
    intro V hV
    obtain ⟨y0, y1, y2, y3, y4⟩ := hV
    go_simp
    all_goals rfl
  simp only [Act.put, List.setIfInBounds_toArray, List.set_cons_zero, List.set_cons_succ]
  refine wpAnyH_ready (rs := [24]) (by kernel_rfl) (by simp) (AllReadyH.cons (o := { dst := some 96, op := Op.call { callee := Callee.value (Operand.func 32), args := #[Operand.tmp 95], argTypes := #[9] }, type := 9, pos := "ref.go:556", after := #[{ on := 23, ground := Ground.data }, { on := 19, ground := Ground.chain }], guard := none }) rfl (fun K' hK => ?_) AllReadyH.nil)
  refine step_call1f _ (by rfl) 32 _ _ (by rfl) (enters_of Tryz.func32 (by kernel_rfl) rfl) _ (by rfl) (H5.out _ K4) ?_
  rintro e w5 ⟨rfl, K5'⟩
  have K5 := K4.and K5'
  clear K5'
  refine ⟨_, rfl, ?_⟩
  refine hK.out _ _ (HS.out _ K5) (fun _ => ?_)
  clear hK K'
  try (simp only [Act.put, List.setIfInBounds_toArray, List.set_cons_zero, List.set_cons_succ])
  refine wpAnyH_take (i := 25) (oi := { dst := some 97, op := Op.binOp BinOp.add 9 (Operand.tmp 93) (Operand.tmp 96) 9, type := 9, pos := "ref.go:556", after := #[{ on := 21, ground := Ground.data }, { on := 24, ground := Ground.data }], guard := none }) (v := ?vv21) rfl (by kernel_rfl) (by kernel_rfl) (by kernel_rfl) (fun _ _ _ h => h) (Or.inl ⟨by rfl, ?hy21⟩) (HS.out _ K5) ?rest21
  case hy21 =>
    intro V hV
    obtain ⟨y0, y1, y2, y3, y4⟩ := hV
    go_simp
    all_goals rfl
  simp only [Act.put, List.setIfInBounds_toArray, List.set_cons_zero, List.set_cons_succ]
  refine wpAnyH_take (i := 26) (oi := { dst := some 98, op := Op.binOp BinOp.add 9 (Operand.tmp 97) (Operand.const (Value.string { data := #[125] })) 9, type := 9, pos := "ref.go:556", after := #[{ on := 25, ground := Ground.data }], guard := none }) (v := ?vv22) rfl (by kernel_rfl) (by kernel_rfl) (by kernel_rfl) (fun _ _ _ h => h) (Or.inl ⟨by rfl, ?hy22⟩) (HS.out _ K5) ?rest22
  case hy22 =>
    intro V hV
    obtain ⟨y0, y1, y2, y3, y4⟩ := hV
    go_simp
    all_goals rfl
  simp only [Act.put, List.setIfInBounds_toArray, List.set_cons_zero, List.set_cons_succ]
  refine wpAnyH_take (i := 27) (oi := { dst := some 7, op := Op.assign (Operand.tmp 98), type := 9, pos := "ref.go:556", after := #[{ on := 26, ground := Ground.data }, { on := 24, ground := Ground.chain }, { on := 0, ground := Ground.phase }, { on := 1, ground := Ground.phase }, { on := 2, ground := Ground.phase }, { on := 3, ground := Ground.phase }, { on := 4, ground := Ground.phase }, { on := 5, ground := Ground.phase }, { on := 6, ground := Ground.phase }, { on := 7, ground := Ground.phase }, { on := 8, ground := Ground.phase }, { on := 9, ground := Ground.phase }, { on := 10, ground := Ground.phase }, { on := 11, ground := Ground.phase }, { on := 12, ground := Ground.phase }, { on := 13, ground := Ground.phase }, { on := 14, ground := Ground.phase }, { on := 15, ground := Ground.phase }, { on := 16, ground := Ground.phase }, { on := 17, ground := Ground.phase }, { on := 18, ground := Ground.phase }, { on := 19, ground := Ground.phase }, { on := 20, ground := Ground.phase }, { on := 21, ground := Ground.phase }, { on := 22, ground := Ground.phase }, { on := 23, ground := Ground.phase }, { on := 24, ground := Ground.phase }, { on := 25, ground := Ground.phase }, { on := 26, ground := Ground.phase }], guard := none }) (v := ?vv23) rfl (by kernel_rfl) (by kernel_rfl) (by kernel_rfl) (fun _ _ _ h => h) (Or.inl ⟨by rfl, ?hy23⟩) (HS.out _ K5) ?rest23
  case hy23 =>
    intro V hV
    obtain ⟨y0, y1, y2, y3, y4⟩ := hV
    go_simp
    all_goals rfl
  simp only [Act.put, List.setIfInBounds_toArray, List.set_cons_zero, List.set_cons_succ]
  refine wpAnyH_done (by kernel_rfl) ?_ _
  exact HH.out _ _ _ _ _ _ _ _ _ _ _ _ _ _ _ _ _ _ _ _ _ _ _ _ _ _ _ _ (K5)

end Go.Proofs.YtdbplemcjnlfiaaGreatDoor
