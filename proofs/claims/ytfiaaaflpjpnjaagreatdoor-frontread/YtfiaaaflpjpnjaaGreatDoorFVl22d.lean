/-
  utf8.Valid, its region 22, which draws its order (one of its ways).
-/
import Derived.Test.YtfiaaaflpjpnjaaGreatDoorWM4
namespace Go.Proofs.YtfiaaaflpjpnjaaGreatDoor
open Go.RowKit

set_option maxRecDepth 100000 in
set_option maxHeartbeats 8000000 in
theorem val22d {W : World} {b q m ga : Nat} {x1 x2 lo hi : Int} {ds : List Deferred} {u1 u2 u3 u4 u5 u7 u8 u9 u10 u11 u12 u13 u14 u15 u16 u17 u18 u19 u20 u21 u22 u23 u24 u25 u26 u27 u28 u29 u30 u31 u32 u33 u34 u35 u36 u37 u38 u39 u40 u41 u42 u43 u44 u45 u46 u47 u48 u49 u50 u51 u52 u53 u54 u55 u56 u57 u58 u59 u60 u61 u62 u63 u64 u65 u66 u67 u68 u69 u70 u71 u72 u73 u74 u75 u76 u77 u78 u79 u80 u81 u82 u83 u84 u85 u86 u87 u88 u89 u90 u91 u92 u93 u94 u95 u96 u97 u98 u99 u100 u101 u102 u103 u104 u105 u106 u107 u108 u109 u110 u111 u112 u113 u114 u115 u116 u117 u118 u119 u120 u121 u122 u123 u124 u125 u126 u127 u128 u129 u130 u131 u132 u133 u134 u135 u136 u137 u138 u139 u140 u141 u142 u143 u144 u145 u146 u147 u148 u149 u150 u151 u152 u153 u154 u155 u156 u157 u158 u159 u160 u161 u162 u163 u164 u165 u166 u167 u168 u169 u170 u171 u172 u173 u174 u175 u176 u177 u178 u179 u180 u181 u182 u183 u184 u185 u186 u187 : Value} (K : Act → World → Prop)
    (hSt : ∀ V, Kept (fun _ => False) W V → V.cell? ⟨b, q + 1, none⟩ = some (.int .u8 x1) ∧ V.cell? ⟨b, q + 2, none⟩ = some (.int .u8 x2) ∧ V.cell? ⟨ga, 0, none⟩ = some (.int .u8 lo) ∧ V.cell? ⟨ga, 1, none⟩ = some (.int .u8 hi)) (q0 : ¬ (m : Int) < 3) (q1 : ¬ x1 < lo) (q2 : ¬ hi < x1) (q3 : x2 < 128) (e1 : (1 : Int) < (m : Int)) (e2 : (2 : Int) < (m : Int))
    (h : ∀ (v108 v109 v110 v111 v112 v113 v114 v115 v116 v117 v118 v119 v120 v121 v122 v123 v124 v125 v126 v127 v128 v129 v130 v131 v132 v133 v134 v135 v136 v137 : Value) (w9 : World), Kept (fun _ => False) W w9 → K { tmps := #[.slice (some ⟨b, q, none⟩) m m, u1, u2, u3, u4, u5, .pointer (some ⟨ga, 0, none⟩), u7, u8, u9, u10, u11, u12, u13, u14, u15, u16, u17, u18, u19, u20, u21, u22, u23, u24, u25, u26, u27, u28, u29, u30, u31, u32, u33, u34, u35, u36, u37, u38, u39, u40, u41, u42, u43, u44, u45, u46, u47, u48, u49, u50, u51, u52, u53, u54, u55, u56, u57, u58, u59, u60, u61, u62, u63, u64, u65, u66, u67, u68, u69, u70, u71, u72, u73, u74, u75, u76, u77, u78, u79, u80, u81, u82, u83, u84, u85, u86, u87, u88, u89, u90, u91, u92, u93, u94, u95, u96, u97, u98, u99, u100, u101, u102, u103, u104, u105, u106, u107, v108, v109, v110, v111, v112, v113, v114, v115, v116, v117, v118, v119, v120, v121, v122, v123, v124, v125, v126, v127, v128, v129, v130, v131, v132, v133, v134, v135, v136, v137, .bool true, u139, u140, u141, u142, u143, u144, u145, u146, u147, u148, u149, u150, u151, u152, u153, u154, u155, u156, u157, u158, u159, u160, u161, u162, u163, u164, u165, u166, u167, u168, u169, u170, u171, u172, u173, u174, u175, u176, u177, u178, u179, u180, u181, u182, u183, u184, u185, u186, u187], defers := ds } w9) :
    (Code.region 22 #[{ dst := some 108, op := Op.move (Operand.tmp 0), type := 23, pos := "utf8.go:505", after := #[], guard := none }, { dst := some 109, op := Op.call { callee := Callee.builtin Builtin.len, args := #[Operand.tmp 108], argTypes := #[23] }, type := 3, pos := "utf8.go:505", after := #[{ on := 0, ground := Ground.data }], guard := none }, { dst := some 110, op := Op.binOp BinOp.lss 3 (Operand.tmp 109) (Operand.const (Value.int IntKind.i64 3)) 3, type := 4, pos := "utf8.go:505", after := #[{ on := 1, ground := Ground.data }], guard := none }, { dst := some 111, op := Op.move (Operand.tmp 110), type := 4, pos := "utf8.go:505", after := #[{ on := 2, ground := Ground.data }], guard := none }, { dst := some 112, op := Op.move (Operand.tmp 0), type := 23, pos := "utf8.go:505", after := #[{ on := 3, ground := Ground.guard }], guard := some (3, false) }, { dst := some 113, op := Op.indexAddr 23 (Operand.tmp 112) (Operand.const (Value.int IntKind.i64 1)), type := 0, pos := "utf8.go:505", after := #[{ on := 4, ground := Ground.data }, { on := 3, ground := Ground.guard }], guard := some (3, false) }, { dst := some 114, op := Op.load 5 (Operand.tmp 113), type := 5, pos := "utf8.go:505", after := #[{ on := 5, ground := Ground.data }, { on := 3, ground := Ground.guard }], guard := some (3, false) }, { dst := some 115, op := Op.fieldAddr 65 (Operand.tmp 6) 0, type := 0, pos := "utf8.go:505", after := #[{ on := 3, ground := Ground.guard }], guard := some (3, false) }, { dst := some 116, op := Op.load 5 (Operand.tmp 115), type := 5, pos := "utf8.go:505", after := #[{ on := 7, ground := Ground.data }, { on := 3, ground := Ground.guard }], guard := some (3, false) }, { dst := some 117, op := Op.binOp BinOp.lss 5 (Operand.tmp 114) (Operand.tmp 116) 5, type := 4, pos := "utf8.go:505", after := #[{ on := 6, ground := Ground.data }, { on := 8, ground := Ground.data }, { on := 3, ground := Ground.guard }], guard := some (3, false) }, { dst := some 118, op := Op.pick (Operand.tmp 111) (Operand.const (Value.bool true)) (Operand.tmp 117), type := 4, pos := "utf8.go:505", after := #[{ on := 3, ground := Ground.data }, { on := 9, ground := Ground.data }], guard := none }, { dst := some 119, op := Op.move (Operand.tmp 118), type := 4, pos := "utf8.go:505", after := #[{ on := 10, ground := Ground.data }, { on := 3, ground := Ground.chain }], guard := none }, { dst := some 120, op := Op.fieldAddr 65 (Operand.tmp 6) 1, type := 0, pos := "utf8.go:505", after := #[{ on := 11, ground := Ground.guard }], guard := some (11, false) }, { dst := some 121, op := Op.load 5 (Operand.tmp 120), type := 5, pos := "utf8.go:505", after := #[{ on := 12, ground := Ground.data }, { on := 11, ground := Ground.guard }], guard := some (11, false) }, { dst := some 122, op := Op.move (Operand.tmp 0), type := 23, pos := "utf8.go:505", after := #[{ on := 11, ground := Ground.guard }], guard := some (11, false) }, { dst := some 123, op := Op.indexAddr 23 (Operand.tmp 122) (Operand.const (Value.int IntKind.i64 1)), type := 0, pos := "utf8.go:505", after := #[{ on := 14, ground := Ground.data }, { on := 11, ground := Ground.guard }], guard := some (11, false) }, { dst := some 124, op := Op.load 5 (Operand.tmp 123), type := 5, pos := "utf8.go:505", after := #[{ on := 15, ground := Ground.data }, { on := 11, ground := Ground.guard }], guard := some (11, false) }, { dst := some 125, op := Op.binOp BinOp.lss 5 (Operand.tmp 121) (Operand.tmp 124) 5, type := 4, pos := "utf8.go:505", after := #[{ on := 13, ground := Ground.data }, { on := 16, ground := Ground.data }, { on := 11, ground := Ground.guard }], guard := some (11, false) }, { dst := some 126, op := Op.pick (Operand.tmp 119) (Operand.const (Value.bool true)) (Operand.tmp 125), type := 4, pos := "utf8.go:505", after := #[{ on := 11, ground := Ground.data }, { on := 17, ground := Ground.data }], guard := none }, { dst := some 127, op := Op.move (Operand.tmp 126), type := 4, pos := "utf8.go:505", after := #[{ on := 18, ground := Ground.data }, { on := 11, ground := Ground.chain }], guard := none }, { dst := some 128, op := Op.move (Operand.tmp 0), type := 23, pos := "utf8.go:505", after := #[{ on := 19, ground := Ground.guard }], guard := some (19, false) }, { dst := some 129, op := Op.indexAddr 23 (Operand.tmp 128) (Operand.const (Value.int IntKind.i64 2)), type := 0, pos := "utf8.go:505", after := #[{ on := 20, ground := Ground.data }, { on := 19, ground := Ground.guard }], guard := some (19, false) }, { dst := some 130, op := Op.load 5 (Operand.tmp 129), type := 5, pos := "utf8.go:505", after := #[{ on := 21, ground := Ground.data }, { on := 19, ground := Ground.guard }], guard := some (19, false) }, { dst := some 131, op := Op.binOp BinOp.lss 5 (Operand.tmp 130) (Operand.const (Value.int IntKind.u8 128)) 5, type := 4, pos := "utf8.go:505", after := #[{ on := 22, ground := Ground.data }, { on := 19, ground := Ground.guard }], guard := some (19, false) }, { dst := some 132, op := Op.pick (Operand.tmp 127) (Operand.const (Value.bool true)) (Operand.tmp 131), type := 4, pos := "utf8.go:505", after := #[{ on := 19, ground := Ground.data }, { on := 23, ground := Ground.data }], guard := none }, { dst := some 133, op := Op.move (Operand.tmp 132), type := 4, pos := "utf8.go:505", after := #[{ on := 24, ground := Ground.data }, { on := 19, ground := Ground.chain }], guard := none }, { dst := some 134, op := Op.move (Operand.tmp 0), type := 23, pos := "utf8.go:505", after := #[{ on := 25, ground := Ground.guard }], guard := some (25, false) }, { dst := some 135, op := Op.indexAddr 23 (Operand.tmp 134) (Operand.const (Value.int IntKind.i64 2)), type := 0, pos := "utf8.go:505", after := #[{ on := 26, ground := Ground.data }, { on := 25, ground := Ground.guard }], guard := some (25, false) }, { dst := some 136, op := Op.load 5 (Operand.tmp 135), type := 5, pos := "utf8.go:505", after := #[{ on := 27, ground := Ground.data }, { on := 25, ground := Ground.guard }], guard := some (25, false) }, { dst := some 137, op := Op.binOp BinOp.lss 5 (Operand.const (Value.int IntKind.u8 191)) (Operand.tmp 136) 5, type := 4, pos := "utf8.go:505", after := #[{ on := 28, ground := Ground.data }, { on := 25, ground := Ground.guard }], guard := some (25, false) }, { dst := some 138, op := Op.pick (Operand.tmp 133) (Operand.const (Value.bool true)) (Operand.tmp 137), type := 4, pos := "utf8.go:505", after := #[{ on := 25, ground := Ground.data }, { on := 29, ground := Ground.data }], guard := none }] true).wp Tryz.prog (onlyN K) { tmps := #[.slice (some ⟨b, q, none⟩) m m, u1, u2, u3, u4, u5, .pointer (some ⟨ga, 0, none⟩), u7, u8, u9, u10, u11, u12, u13, u14, u15, u16, u17, u18, u19, u20, u21, u22, u23, u24, u25, u26, u27, u28, u29, u30, u31, u32, u33, u34, u35, u36, u37, u38, u39, u40, u41, u42, u43, u44, u45, u46, u47, u48, u49, u50, u51, u52, u53, u54, u55, u56, u57, u58, u59, u60, u61, u62, u63, u64, u65, u66, u67, u68, u69, u70, u71, u72, u73, u74, u75, u76, u77, u78, u79, u80, u81, u82, u83, u84, u85, u86, u87, u88, u89, u90, u91, u92, u93, u94, u95, u96, u97, u98, u99, u100, u101, u102, u103, u104, u105, u106, u107, u108, u109, u110, u111, u112, u113, u114, u115, u116, u117, u118, u119, u120, u121, u122, u123, u124, u125, u126, u127, u128, u129, u130, u131, u132, u133, u134, u135, u136, u137, u138, u139, u140, u141, u142, u143, u144, u145, u146, u147, u148, u149, u150, u151, u152, u153, u154, u155, u156, u157, u158, u159, u160, u161, u162, u163, u164, u165, u166, u167, u168, u169, u170, u171, u172, u173, u174, u175, u176, u177, u178, u179, u180, u181, u182, u183, u184, u185, u186, u187], defers := ds } W := by
  have HH := hid h
  have KD := Kept.drew (fun _ => False) W
  have HS := hid hSt
  have hS0 := hSt _ KD
  clear h hSt
  refine wp_region_held_drew (S := fun V => V.cell? ⟨b, q + 1, none⟩ = some (.int .u8 x1) ∧ V.cell? ⟨b, q + 2, none⟩ = some (.int .u8 x2) ∧ V.cell? ⟨ga, 0, none⟩ = some (.int .u8 lo) ∧ V.cell? ⟨ga, 1, none⟩ = some (.int .u8 hi)) (by kernel_rfl) hS0 (fun _ => ?_)
  refine wpAnyH_take (i := 0) (oi := { dst := some 108, op := Op.move (Operand.tmp 0), type := 23, pos := "utf8.go:505", after := #[], guard := none }) (v := ?vv1) rfl (by kernel_rfl) (by kernel_rfl) (by kernel_rfl) (fun _ _ _ h => h) (Or.inl ⟨by rfl, ?hy1⟩) hS0 ?rest1
  case hy1 =>
    intro V hV
    obtain ⟨y0, y1, y2, y3⟩ := hV
    go_simp
    all_goals rfl
  simp only [Act.put, List.setIfInBounds_toArray, List.set_cons_zero, List.set_cons_succ]
  refine wpAnyH_take (i := 1) (oi := { dst := some 109, op := Op.call { callee := Callee.builtin Builtin.len, args := #[Operand.tmp 108], argTypes := #[23] }, type := 3, pos := "utf8.go:505", after := #[{ on := 0, ground := Ground.data }], guard := none }) (v := ?vv2) rfl (by kernel_rfl) (by kernel_rfl) (by kernel_rfl) (fun _ _ _ h => h) (Or.inl ⟨by rfl, ?hy2⟩) hS0 ?rest2
  case hy2 =>
    intro V hV
    obtain ⟨y0, y1, y2, y3⟩ := hV
    go_simp
    all_goals rfl
  simp only [Act.put, List.setIfInBounds_toArray, List.set_cons_zero, List.set_cons_succ]
  refine wpAnyH_take (i := 2) (oi := { dst := some 110, op := Op.binOp BinOp.lss 3 (Operand.tmp 109) (Operand.const (Value.int IntKind.i64 3)) 3, type := 4, pos := "utf8.go:505", after := #[{ on := 1, ground := Ground.data }], guard := none }) (v := ?vv3) rfl (by kernel_rfl) (by kernel_rfl) (by kernel_rfl) (fun _ _ _ h => h) (Or.inl ⟨by rfl, ?hy3⟩) hS0 ?rest3
  case hy3 =>
    intro V hV
    obtain ⟨y0, y1, y2, y3⟩ := hV
    go_simp
    all_goals rfl
  simp only [Act.put, List.setIfInBounds_toArray, List.set_cons_zero, List.set_cons_succ]
  refine wpAnyH_take (i := 3) (oi := { dst := some 111, op := Op.move (Operand.tmp 110), type := 4, pos := "utf8.go:505", after := #[{ on := 2, ground := Ground.data }], guard := none }) (v := ?vv4) rfl (by kernel_rfl) (by kernel_rfl) (by kernel_rfl) (fun _ _ _ h => h) (Or.inl ⟨by rfl, ?hy4⟩) hS0 ?rest4
  case hy4 =>
    intro V hV
    obtain ⟨y0, y1, y2, y3⟩ := hV
    go_simp
    all_goals rfl
  simp only [Act.put, List.setIfInBounds_toArray, List.set_cons_zero, List.set_cons_succ]
  refine wpAnyH_take (i := 4) (oi := { dst := some 112, op := Op.move (Operand.tmp 0), type := 23, pos := "utf8.go:505", after := #[{ on := 3, ground := Ground.guard }], guard := some (3, false) }) (v := ?vv5) rfl (by kernel_rfl) (by kernel_rfl) (by kernel_rfl) (fun _ _ _ h => h) (Or.inl ⟨by rfl, ?hy5⟩) hS0 ?rest5
  case hy5 =>
    intro V hV
    obtain ⟨y0, y1, y2, y3⟩ := hV
    go_simp
    all_goals rfl
  simp only [Act.put, List.setIfInBounds_toArray, List.set_cons_zero, List.set_cons_succ]
  refine wpAnyH_take (i := 5) (oi := { dst := some 113, op := Op.indexAddr 23 (Operand.tmp 112) (Operand.const (Value.int IntKind.i64 1)), type := 0, pos := "utf8.go:505", after := #[{ on := 4, ground := Ground.data }, { on := 3, ground := Ground.guard }], guard := some (3, false) }) (v := ?vv6) rfl (by kernel_rfl) (by kernel_rfl) (by kernel_rfl) (fun _ _ _ h => h) (Or.inl ⟨by rfl, ?hy6⟩) hS0 ?rest6
  case hy6 =>
    intro V hV
    obtain ⟨y0, y1, y2, y3⟩ := hV
    go_simp
    all_goals rfl
  simp only [Act.put, List.setIfInBounds_toArray, List.set_cons_zero, List.set_cons_succ]
  refine wpAnyH_take (i := 6) (oi := { dst := some 114, op := Op.load 5 (Operand.tmp 113), type := 5, pos := "utf8.go:505", after := #[{ on := 5, ground := Ground.data }, { on := 3, ground := Ground.guard }], guard := some (3, false) }) (v := ?vv7) rfl (by kernel_rfl) (by kernel_rfl) (by kernel_rfl) (fun _ _ _ h => h) (Or.inl ⟨by rfl, ?hy7⟩) hS0 ?rest7
  case hy7 =>
    intro V hV
    obtain ⟨y0, y1, y2, y3⟩ := hV
    go_simp
    all_goals rfl
  simp only [Act.put, List.setIfInBounds_toArray, List.set_cons_zero, List.set_cons_succ]
  refine wpAnyH_take (i := 7) (oi := { dst := some 115, op := Op.fieldAddr 65 (Operand.tmp 6) 0, type := 0, pos := "utf8.go:505", after := #[{ on := 3, ground := Ground.guard }], guard := some (3, false) }) (v := ?vv8) rfl (by kernel_rfl) (by kernel_rfl) (by kernel_rfl) (fun _ _ _ h => h) (Or.inl ⟨by rfl, ?hy8⟩) hS0 ?rest8
  case hy8 =>
    intro V hV
    obtain ⟨y0, y1, y2, y3⟩ := hV
    go_simp
    all_goals rfl
  simp only [Act.put, List.setIfInBounds_toArray, List.set_cons_zero, List.set_cons_succ]
  refine wpAnyH_take (i := 8) (oi := { dst := some 116, op := Op.load 5 (Operand.tmp 115), type := 5, pos := "utf8.go:505", after := #[{ on := 7, ground := Ground.data }, { on := 3, ground := Ground.guard }], guard := some (3, false) }) (v := ?vv9) rfl (by kernel_rfl) (by kernel_rfl) (by kernel_rfl) (fun _ _ _ h => h) (Or.inl ⟨by rfl, ?hy9⟩) hS0 ?rest9
  case hy9 =>
    intro V hV
    obtain ⟨y0, y1, y2, y3⟩ := hV
    go_simp
    all_goals rfl
  simp only [Act.put, List.setIfInBounds_toArray, List.set_cons_zero, List.set_cons_succ]
  refine wpAnyH_take (i := 9) (oi := { dst := some 117, op := Op.binOp BinOp.lss 5 (Operand.tmp 114) (Operand.tmp 116) 5, type := 4, pos := "utf8.go:505", after := #[{ on := 6, ground := Ground.data }, { on := 8, ground := Ground.data }, { on := 3, ground := Ground.guard }], guard := some (3, false) }) (v := ?vv10) rfl (by kernel_rfl) (by kernel_rfl) (by kernel_rfl) (fun _ _ _ h => h) (Or.inl ⟨by rfl, ?hy10⟩) hS0 ?rest10
  case hy10 =>
    intro V hV
    obtain ⟨y0, y1, y2, y3⟩ := hV
    go_simp
    all_goals rfl
  simp only [Act.put, List.setIfInBounds_toArray, List.set_cons_zero, List.set_cons_succ]
  refine wpAnyH_take (i := 10) (oi := { dst := some 118, op := Op.pick (Operand.tmp 111) (Operand.const (Value.bool true)) (Operand.tmp 117), type := 4, pos := "utf8.go:505", after := #[{ on := 3, ground := Ground.data }, { on := 9, ground := Ground.data }], guard := none }) (v := ?vv11) rfl (by kernel_rfl) (by kernel_rfl) (by kernel_rfl) (fun _ _ _ h => h) (Or.inl ⟨by rfl, ?hy11⟩) hS0 ?rest11
  case hy11 =>
    intro V hV
    obtain ⟨y0, y1, y2, y3⟩ := hV
    go_simp
    all_goals rfl
  simp only [Act.put, List.setIfInBounds_toArray, List.set_cons_zero, List.set_cons_succ]
  refine wpAnyH_take (i := 11) (oi := { dst := some 119, op := Op.move (Operand.tmp 118), type := 4, pos := "utf8.go:505", after := #[{ on := 10, ground := Ground.data }, { on := 3, ground := Ground.chain }], guard := none }) (v := ?vv12) rfl (by kernel_rfl) (by kernel_rfl) (by kernel_rfl) (fun _ _ _ h => h) (Or.inl ⟨by rfl, ?hy12⟩) hS0 ?rest12
  case hy12 =>
    intro V hV
    obtain ⟨y0, y1, y2, y3⟩ := hV
    go_simp
    all_goals rfl
  simp only [Act.put, List.setIfInBounds_toArray, List.set_cons_zero, List.set_cons_succ]
  refine wpAnyH_take (i := 12) (oi := { dst := some 120, op := Op.fieldAddr 65 (Operand.tmp 6) 1, type := 0, pos := "utf8.go:505", after := #[{ on := 11, ground := Ground.guard }], guard := some (11, false) }) (v := ?vv13) rfl (by kernel_rfl) (by kernel_rfl) (by kernel_rfl) (fun _ _ _ h => h) (Or.inl ⟨by rfl, ?hy13⟩) hS0 ?rest13
  case hy13 =>
    intro V hV
    obtain ⟨y0, y1, y2, y3⟩ := hV
    go_simp
    all_goals rfl
  simp only [Act.put, List.setIfInBounds_toArray, List.set_cons_zero, List.set_cons_succ]
  refine wpAnyH_take (i := 13) (oi := { dst := some 121, op := Op.load 5 (Operand.tmp 120), type := 5, pos := "utf8.go:505", after := #[{ on := 12, ground := Ground.data }, { on := 11, ground := Ground.guard }], guard := some (11, false) }) (v := ?vv14) rfl (by kernel_rfl) (by kernel_rfl) (by kernel_rfl) (fun _ _ _ h => h) (Or.inl ⟨by rfl, ?hy14⟩) hS0 ?rest14
  case hy14 =>
    intro V hV
    obtain ⟨y0, y1, y2, y3⟩ := hV
    go_simp
    all_goals rfl
  simp only [Act.put, List.setIfInBounds_toArray, List.set_cons_zero, List.set_cons_succ]
  refine wpAnyH_take (i := 14) (oi := { dst := some 122, op := Op.move (Operand.tmp 0), type := 23, pos := "utf8.go:505", after := #[{ on := 11, ground := Ground.guard }], guard := some (11, false) }) (v := ?vv15) rfl (by kernel_rfl) (by kernel_rfl) (by kernel_rfl) (fun _ _ _ h => h) (Or.inl ⟨by rfl, ?hy15⟩) hS0 ?rest15
  case hy15 =>
    intro V hV
    obtain ⟨y0, y1, y2, y3⟩ := hV
    go_simp
    all_goals rfl
  simp only [Act.put, List.setIfInBounds_toArray, List.set_cons_zero, List.set_cons_succ]
  refine wpAnyH_take (i := 15) (oi := { dst := some 123, op := Op.indexAddr 23 (Operand.tmp 122) (Operand.const (Value.int IntKind.i64 1)), type := 0, pos := "utf8.go:505", after := #[{ on := 14, ground := Ground.data }, { on := 11, ground := Ground.guard }], guard := some (11, false) }) (v := ?vv16) rfl (by kernel_rfl) (by kernel_rfl) (by kernel_rfl) (fun _ _ _ h => h) (Or.inl ⟨by rfl, ?hy16⟩) hS0 ?rest16
  case hy16 =>
    intro V hV
    obtain ⟨y0, y1, y2, y3⟩ := hV
    go_simp
    all_goals rfl
  simp only [Act.put, List.setIfInBounds_toArray, List.set_cons_zero, List.set_cons_succ]
  refine wpAnyH_take (i := 16) (oi := { dst := some 124, op := Op.load 5 (Operand.tmp 123), type := 5, pos := "utf8.go:505", after := #[{ on := 15, ground := Ground.data }, { on := 11, ground := Ground.guard }], guard := some (11, false) }) (v := ?vv17) rfl (by kernel_rfl) (by kernel_rfl) (by kernel_rfl) (fun _ _ _ h => h) (Or.inl ⟨by rfl, ?hy17⟩) hS0 ?rest17
  case hy17 =>
    intro V hV
    obtain ⟨y0, y1, y2, y3⟩ := hV
    go_simp
    all_goals rfl
  simp only [Act.put, List.setIfInBounds_toArray, List.set_cons_zero, List.set_cons_succ]
  refine wpAnyH_take (i := 17) (oi := { dst := some 125, op := Op.binOp BinOp.lss 5 (Operand.tmp 121) (Operand.tmp 124) 5, type := 4, pos := "utf8.go:505", after := #[{ on := 13, ground := Ground.data }, { on := 16, ground := Ground.data }, { on := 11, ground := Ground.guard }], guard := some (11, false) }) (v := ?vv18) rfl (by kernel_rfl) (by kernel_rfl) (by kernel_rfl) (fun _ _ _ h => h) (Or.inl ⟨by rfl, ?hy18⟩) hS0 ?rest18
  case hy18 =>
    intro V hV
    obtain ⟨y0, y1, y2, y3⟩ := hV
    go_simp
    all_goals rfl
  simp only [Act.put, List.setIfInBounds_toArray, List.set_cons_zero, List.set_cons_succ]
  refine wpAnyH_take (i := 18) (oi := { dst := some 126, op := Op.pick (Operand.tmp 119) (Operand.const (Value.bool true)) (Operand.tmp 125), type := 4, pos := "utf8.go:505", after := #[{ on := 11, ground := Ground.data }, { on := 17, ground := Ground.data }], guard := none }) (v := ?vv19) rfl (by kernel_rfl) (by kernel_rfl) (by kernel_rfl) (fun _ _ _ h => h) (Or.inl ⟨by rfl, ?hy19⟩) hS0 ?rest19
  case hy19 =>
    intro V hV
    obtain ⟨y0, y1, y2, y3⟩ := hV
    go_simp
    all_goals rfl
  simp only [Act.put, List.setIfInBounds_toArray, List.set_cons_zero, List.set_cons_succ]
  refine wpAnyH_take (i := 19) (oi := { dst := some 127, op := Op.move (Operand.tmp 126), type := 4, pos := "utf8.go:505", after := #[{ on := 18, ground := Ground.data }, { on := 11, ground := Ground.chain }], guard := none }) (v := ?vv20) rfl (by kernel_rfl) (by kernel_rfl) (by kernel_rfl) (fun _ _ _ h => h) (Or.inl ⟨by rfl, ?hy20⟩) hS0 ?rest20
  case hy20 =>
    intro V hV
    obtain ⟨y0, y1, y2, y3⟩ := hV
    go_simp
    all_goals rfl
  simp only [Act.put, List.setIfInBounds_toArray, List.set_cons_zero, List.set_cons_succ]
  refine wpAnyH_take (i := 20) (oi := { dst := some 128, op := Op.move (Operand.tmp 0), type := 23, pos := "utf8.go:505", after := #[{ on := 19, ground := Ground.guard }], guard := some (19, false) }) (v := ?vv21) rfl (by kernel_rfl) (by kernel_rfl) (by kernel_rfl) (fun _ _ _ h => h) (Or.inl ⟨by rfl, ?hy21⟩) hS0 ?rest21
  case hy21 =>
    intro V hV
    obtain ⟨y0, y1, y2, y3⟩ := hV
    go_simp
    all_goals rfl
  simp only [Act.put, List.setIfInBounds_toArray, List.set_cons_zero, List.set_cons_succ]
  refine wpAnyH_take (i := 21) (oi := { dst := some 129, op := Op.indexAddr 23 (Operand.tmp 128) (Operand.const (Value.int IntKind.i64 2)), type := 0, pos := "utf8.go:505", after := #[{ on := 20, ground := Ground.data }, { on := 19, ground := Ground.guard }], guard := some (19, false) }) (v := ?vv22) rfl (by kernel_rfl) (by kernel_rfl) (by kernel_rfl) (fun _ _ _ h => h) (Or.inl ⟨by rfl, ?hy22⟩) hS0 ?rest22
  case hy22 =>
    intro V hV
    obtain ⟨y0, y1, y2, y3⟩ := hV
    go_simp
    all_goals rfl
  simp only [Act.put, List.setIfInBounds_toArray, List.set_cons_zero, List.set_cons_succ]
  refine wpAnyH_take (i := 22) (oi := { dst := some 130, op := Op.load 5 (Operand.tmp 129), type := 5, pos := "utf8.go:505", after := #[{ on := 21, ground := Ground.data }, { on := 19, ground := Ground.guard }], guard := some (19, false) }) (v := ?vv23) rfl (by kernel_rfl) (by kernel_rfl) (by kernel_rfl) (fun _ _ _ h => h) (Or.inl ⟨by rfl, ?hy23⟩) hS0 ?rest23
  case hy23 =>
    intro V hV
    obtain ⟨y0, y1, y2, y3⟩ := hV
    go_simp
    all_goals rfl
  simp only [Act.put, List.setIfInBounds_toArray, List.set_cons_zero, List.set_cons_succ]
  refine wpAnyH_take (i := 23) (oi := { dst := some 131, op := Op.binOp BinOp.lss 5 (Operand.tmp 130) (Operand.const (Value.int IntKind.u8 128)) 5, type := 4, pos := "utf8.go:505", after := #[{ on := 22, ground := Ground.data }, { on := 19, ground := Ground.guard }], guard := some (19, false) }) (v := ?vv24) rfl (by kernel_rfl) (by kernel_rfl) (by kernel_rfl) (fun _ _ _ h => h) (Or.inl ⟨by rfl, ?hy24⟩) hS0 ?rest24
  case hy24 =>
    intro V hV
    obtain ⟨y0, y1, y2, y3⟩ := hV
    go_simp
    all_goals rfl
  simp only [Act.put, List.setIfInBounds_toArray, List.set_cons_zero, List.set_cons_succ]
  refine wpAnyH_take (i := 24) (oi := { dst := some 132, op := Op.pick (Operand.tmp 127) (Operand.const (Value.bool true)) (Operand.tmp 131), type := 4, pos := "utf8.go:505", after := #[{ on := 19, ground := Ground.data }, { on := 23, ground := Ground.data }], guard := none }) (v := ?vv25) rfl (by kernel_rfl) (by kernel_rfl) (by kernel_rfl) (fun _ _ _ h => h) (Or.inl ⟨by rfl, ?hy25⟩) hS0 ?rest25
  case hy25 =>
    intro V hV
    obtain ⟨y0, y1, y2, y3⟩ := hV
    go_simp
    all_goals rfl
  simp only [Act.put, List.setIfInBounds_toArray, List.set_cons_zero, List.set_cons_succ]
  refine wpAnyH_take (i := 25) (oi := { dst := some 133, op := Op.move (Operand.tmp 132), type := 4, pos := "utf8.go:505", after := #[{ on := 24, ground := Ground.data }, { on := 19, ground := Ground.chain }], guard := none }) (v := ?vv26) rfl (by kernel_rfl) (by kernel_rfl) (by kernel_rfl) (fun _ _ _ h => h) (Or.inl ⟨by rfl, ?hy26⟩) hS0 ?rest26
  case hy26 =>
    intro V hV
    obtain ⟨y0, y1, y2, y3⟩ := hV
    go_simp
    all_goals rfl
  simp only [Act.put, List.setIfInBounds_toArray, List.set_cons_zero, List.set_cons_succ]
  refine wpAnyH_take (i := 26) (oi := { dst := some 134, op := Op.move (Operand.tmp 0), type := 23, pos := "utf8.go:505", after := #[{ on := 25, ground := Ground.guard }], guard := some (25, false) }) (v := undef) rfl (by kernel_rfl) (by kernel_rfl) (by kernel_rfl) (fun _ _ _ h => h) (Or.inr ⟨by rfl, rfl⟩) hS0 ?rest27
  simp only [Act.put, List.setIfInBounds_toArray, List.set_cons_zero, List.set_cons_succ]
  refine wpAnyH_take (i := 27) (oi := { dst := some 135, op := Op.indexAddr 23 (Operand.tmp 134) (Operand.const (Value.int IntKind.i64 2)), type := 0, pos := "utf8.go:505", after := #[{ on := 26, ground := Ground.data }, { on := 25, ground := Ground.guard }], guard := some (25, false) }) (v := undef) rfl (by kernel_rfl) (by kernel_rfl) (by kernel_rfl) (fun _ _ _ h => h) (Or.inr ⟨by rfl, rfl⟩) hS0 ?rest28
  simp only [Act.put, List.setIfInBounds_toArray, List.set_cons_zero, List.set_cons_succ]
  refine wpAnyH_take (i := 28) (oi := { dst := some 136, op := Op.load 5 (Operand.tmp 135), type := 5, pos := "utf8.go:505", after := #[{ on := 27, ground := Ground.data }, { on := 25, ground := Ground.guard }], guard := some (25, false) }) (v := undef) rfl (by kernel_rfl) (by kernel_rfl) (by kernel_rfl) (fun _ _ _ h => h) (Or.inr ⟨by rfl, rfl⟩) hS0 ?rest29
  simp only [Act.put, List.setIfInBounds_toArray, List.set_cons_zero, List.set_cons_succ]
  refine wpAnyH_take (i := 29) (oi := { dst := some 137, op := Op.binOp BinOp.lss 5 (Operand.const (Value.int IntKind.u8 191)) (Operand.tmp 136) 5, type := 4, pos := "utf8.go:505", after := #[{ on := 28, ground := Ground.data }, { on := 25, ground := Ground.guard }], guard := some (25, false) }) (v := undef) rfl (by kernel_rfl) (by kernel_rfl) (by kernel_rfl) (fun _ _ _ h => h) (Or.inr ⟨by rfl, rfl⟩) hS0 ?rest30
  simp only [Act.put, List.setIfInBounds_toArray, List.set_cons_zero, List.set_cons_succ]
  refine wpAnyH_take (i := 30) (oi := { dst := some 138, op := Op.pick (Operand.tmp 133) (Operand.const (Value.bool true)) (Operand.tmp 137), type := 4, pos := "utf8.go:505", after := #[{ on := 25, ground := Ground.data }, { on := 29, ground := Ground.data }], guard := none }) (v := ?vv31) rfl (by kernel_rfl) (by kernel_rfl) (by kernel_rfl) (fun _ _ _ h => h) (Or.inl ⟨by rfl, ?hy31⟩) hS0 ?rest31
  case hy31 =>
    intro V hV
    obtain ⟨y0, y1, y2, y3⟩ := hV
    go_simp
    all_goals rfl
  simp only [Act.put, List.setIfInBounds_toArray, List.set_cons_zero, List.set_cons_succ]
  refine wpAnyH_done (by kernel_rfl) ?_ _
  exact HH.out _ _ _ _ _ _ _ _ _ _ _ _ _ _ _ _ _ _ _ _ _ _ _ _ _ _ _ _ _ _ _ (KD)

end Go.Proofs.YtfiaaaflpjpnjaaGreatDoor
