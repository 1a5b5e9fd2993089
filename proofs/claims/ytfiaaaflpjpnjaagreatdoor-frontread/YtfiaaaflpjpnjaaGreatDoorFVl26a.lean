/-
  utf8.Valid, its region 26, which draws its order (one of its ways).
-/
import Derived.Test.YtfiaaaflpjpnjaaGreatDoorWM4
namespace Go.Proofs.YtfiaaaflpjpnjaaGreatDoor
open Go.RowKit

set_option maxRecDepth 100000 in
set_option maxHeartbeats 8000000 in
theorem val26a {W : World} {ad : Option Addr} {m ga : Nat} {ds : List Deferred} {u1 u2 u3 u4 u5 u7 u8 u9 u10 u11 u12 u13 u14 u15 u16 u17 u18 u19 u20 u21 u22 u23 u24 u25 u26 u27 u28 u29 u30 u31 u32 u33 u34 u35 u36 u37 u38 u39 u40 u41 u42 u43 u44 u45 u46 u47 u48 u49 u50 u51 u52 u53 u54 u55 u56 u57 u58 u59 u60 u61 u62 u63 u64 u65 u66 u67 u68 u69 u70 u71 u72 u73 u74 u75 u76 u77 u78 u79 u80 u81 u82 u83 u84 u85 u86 u87 u88 u89 u90 u91 u92 u93 u94 u95 u96 u97 u98 u99 u100 u101 u102 u103 u104 u105 u106 u107 u108 u109 u110 u111 u112 u113 u114 u115 u116 u117 u118 u119 u120 u121 u122 u123 u124 u125 u126 u127 u128 u129 u130 u131 u132 u133 u134 u135 u136 u137 u138 u139 u140 u141 u142 u143 u144 u145 u146 u147 u148 u149 u150 u151 u152 u153 u154 u155 u156 u157 u158 u159 u160 u161 u162 u163 u164 u165 u166 u167 u168 u169 u170 u171 u172 u173 u174 u175 u176 u177 u178 u179 u180 u181 u182 u183 u184 u185 u186 u187 : Value} (K : Act → World → Prop)
    (hSt : ∀ V, Kept (fun _ => False) W V → True) (q0 : (m : Int) < 4)
    (h : ∀ (v143 v144 v145 v146 v147 v148 v149 v150 v151 v152 v153 v154 v155 v156 v157 v158 v159 v160 v161 v162 v163 v164 v165 v166 v167 v168 v169 v170 v171 v172 v173 v174 v175 v176 v177 v178 v179 v180 v181 v182 v183 v184 : Value) (w9 : World), Kept (fun _ => False) W w9 → K { tmps := #[.slice ad m m, u1, u2, u3, u4, u5, .pointer (some ⟨ga, 0, none⟩), u7, u8, u9, u10, u11, u12, u13, u14, u15, u16, u17, u18, u19, u20, u21, u22, u23, u24, u25, u26, u27, u28, u29, u30, u31, u32, u33, u34, u35, u36, u37, u38, u39, u40, u41, u42, u43, u44, u45, u46, u47, u48, u49, u50, u51, u52, u53, u54, u55, u56, u57, u58, u59, u60, u61, u62, u63, u64, u65, u66, u67, u68, u69, u70, u71, u72, u73, u74, u75, u76, u77, u78, u79, u80, u81, u82, u83, u84, u85, u86, u87, u88, u89, u90, u91, u92, u93, u94, u95, u96, u97, u98, u99, u100, u101, u102, u103, u104, u105, u106, u107, u108, u109, u110, u111, u112, u113, u114, u115, u116, u117, u118, u119, u120, u121, u122, u123, u124, u125, u126, u127, u128, u129, u130, u131, u132, u133, u134, u135, u136, u137, u138, u139, u140, u141, u142, v143, v144, v145, v146, v147, v148, v149, v150, v151, v152, v153, v154, v155, v156, v157, v158, v159, v160, v161, v162, v163, v164, v165, v166, v167, v168, v169, v170, v171, v172, v173, v174, v175, v176, v177, v178, v179, v180, v181, v182, v183, v184, .bool true, u186, u187], defers := ds } w9) :
    (Code.region 26 #[{ dst := some 143, op := Op.move (Operand.tmp 0), type := 23, pos := "utf8.go:510", after := #[], guard := none }, { dst := some 144, op := Op.call { callee := Callee.builtin Builtin.len, args := #[Operand.tmp 143], argTypes := #[23] }, type := 3, pos := "utf8.go:510", after := #[{ on := 0, ground := Ground.data }], guard := none }, { dst := some 145, op := Op.binOp BinOp.lss 3 (Operand.tmp 144) (Operand.const (Value.int IntKind.i64 4)) 3, type := 4, pos := "utf8.go:510", after := #[{ on := 1, ground := Ground.data }], guard := none }, { dst := some 146, op := Op.move (Operand.tmp 145), type := 4, pos := "utf8.go:510", after := #[{ on := 2, ground := Ground.data }], guard := none }, { dst := some 147, op := Op.move (Operand.tmp 0), type := 23, pos := "utf8.go:510", after := #[{ on := 3, ground := Ground.guard }], guard := some (3, false) }, { dst := some 148, op := Op.indexAddr 23 (Operand.tmp 147) (Operand.const (Value.int IntKind.i64 1)), type := 0, pos := "utf8.go:510", after := #[{ on := 4, ground := Ground.data }, { on := 3, ground := Ground.guard }], guard := some (3, false) }, { dst := some 149, op := Op.load 5 (Operand.tmp 148), type := 5, pos := "utf8.go:510", after := #[{ on := 5, ground := Ground.data }, { on := 3, ground := Ground.guard }], guard := some (3, false) }, { dst := some 150, op := Op.fieldAddr 65 (Operand.tmp 6) 0, type := 0, pos := "utf8.go:510", after := #[{ on := 3, ground := Ground.guard }], guard := some (3, false) }, { dst := some 151, op := Op.load 5 (Operand.tmp 150), type := 5, pos := "utf8.go:510", after := #[{ on := 7, ground := Ground.data }, { on := 3, ground := Ground.guard }], guard := some (3, false) }, { dst := some 152, op := Op.binOp BinOp.lss 5 (Operand.tmp 149) (Operand.tmp 151) 5, type := 4, pos := "utf8.go:510", after := #[{ on := 6, ground := Ground.data }, { on := 8, ground := Ground.data }, { on := 3, ground := Ground.guard }], guard := some (3, false) }, { dst := some 153, op := Op.pick (Operand.tmp 146) (Operand.const (Value.bool true)) (Operand.tmp 152), type := 4, pos := "utf8.go:510", after := #[{ on := 3, ground := Ground.data }, { on := 9, ground := Ground.data }], guard := none }, { dst := some 154, op := Op.move (Operand.tmp 153), type := 4, pos := "utf8.go:510", after := #[{ on := 10, ground := Ground.data }, { on := 3, ground := Ground.chain }], guard := none }, { dst := some 155, op := Op.fieldAddr 65 (Operand.tmp 6) 1, type := 0, pos := "utf8.go:510", after := #[{ on := 11, ground := Ground.guard }], guard := some (11, false) }, { dst := some 156, op := Op.load 5 (Operand.tmp 155), type := 5, pos := "utf8.go:510", after := #[{ on := 12, ground := Ground.data }, { on := 11, ground := Ground.guard }], guard := some (11, false) }, { dst := some 157, op := Op.move (Operand.tmp 0), type := 23, pos := "utf8.go:510", after := #[{ on := 11, ground := Ground.guard }], guard := some (11, false) }, { dst := some 158, op := Op.indexAddr 23 (Operand.tmp 157) (Operand.const (Value.int IntKind.i64 1)), type := 0, pos := "utf8.go:510", after := #[{ on := 14, ground := Ground.data }, { on := 11, ground := Ground.guard }], guard := some (11, false) }, { dst := some 159, op := Op.load 5 (Operand.tmp 158), type := 5, pos := "utf8.go:510", after := #[{ on := 15, ground := Ground.data }, { on := 11, ground := Ground.guard }], guard := some (11, false) }, { dst := some 160, op := Op.binOp BinOp.lss 5 (Operand.tmp 156) (Operand.tmp 159) 5, type := 4, pos := "utf8.go:510", after := #[{ on := 13, ground := Ground.data }, { on := 16, ground := Ground.data }, { on := 11, ground := Ground.guard }], guard := some (11, false) }, { dst := some 161, op := Op.pick (Operand.tmp 154) (Operand.const (Value.bool true)) (Operand.tmp 160), type := 4, pos := "utf8.go:510", after := #[{ on := 11, ground := Ground.data }, { on := 17, ground := Ground.data }], guard := none }, { dst := some 162, op := Op.move (Operand.tmp 161), type := 4, pos := "utf8.go:510", after := #[{ on := 18, ground := Ground.data }, { on := 11, ground := Ground.chain }], guard := none }, { dst := some 163, op := Op.move (Operand.tmp 0), type := 23, pos := "utf8.go:510", after := #[{ on := 19, ground := Ground.guard }], guard := some (19, false) }, { dst := some 164, op := Op.indexAddr 23 (Operand.tmp 163) (Operand.const (Value.int IntKind.i64 2)), type := 0, pos := "utf8.go:510", after := #[{ on := 20, ground := Ground.data }, { on := 19, ground := Ground.guard }], guard := some (19, false) }, { dst := some 165, op := Op.load 5 (Operand.tmp 164), type := 5, pos := "utf8.go:510", after := #[{ on := 21, ground := Ground.data }, { on := 19, ground := Ground.guard }], guard := some (19, false) }, { dst := some 166, op := Op.binOp BinOp.lss 5 (Operand.tmp 165) (Operand.const (Value.int IntKind.u8 128)) 5, type := 4, pos := "utf8.go:510", after := #[{ on := 22, ground := Ground.data }, { on := 19, ground := Ground.guard }], guard := some (19, false) }, { dst := some 167, op := Op.pick (Operand.tmp 162) (Operand.const (Value.bool true)) (Operand.tmp 166), type := 4, pos := "utf8.go:510", after := #[{ on := 19, ground := Ground.data }, { on := 23, ground := Ground.data }], guard := none }, { dst := some 168, op := Op.move (Operand.tmp 167), type := 4, pos := "utf8.go:510", after := #[{ on := 24, ground := Ground.data }, { on := 19, ground := Ground.chain }], guard := none }, { dst := some 169, op := Op.move (Operand.tmp 0), type := 23, pos := "utf8.go:510", after := #[{ on := 25, ground := Ground.guard }], guard := some (25, false) }, { dst := some 170, op := Op.indexAddr 23 (Operand.tmp 169) (Operand.const (Value.int IntKind.i64 2)), type := 0, pos := "utf8.go:510", after := #[{ on := 26, ground := Ground.data }, { on := 25, ground := Ground.guard }], guard := some (25, false) }, { dst := some 171, op := Op.load 5 (Operand.tmp 170), type := 5, pos := "utf8.go:510", after := #[{ on := 27, ground := Ground.data }, { on := 25, ground := Ground.guard }], guard := some (25, false) }, { dst := some 172, op := Op.binOp BinOp.lss 5 (Operand.const (Value.int IntKind.u8 191)) (Operand.tmp 171) 5, type := 4, pos := "utf8.go:510", after := #[{ on := 28, ground := Ground.data }, { on := 25, ground := Ground.guard }], guard := some (25, false) }, { dst := some 173, op := Op.pick (Operand.tmp 168) (Operand.const (Value.bool true)) (Operand.tmp 172), type := 4, pos := "utf8.go:510", after := #[{ on := 25, ground := Ground.data }, { on := 29, ground := Ground.data }], guard := none }, { dst := some 174, op := Op.move (Operand.tmp 173), type := 4, pos := "utf8.go:510", after := #[{ on := 30, ground := Ground.data }, { on := 25, ground := Ground.chain }], guard := none }, { dst := some 175, op := Op.move (Operand.tmp 0), type := 23, pos := "utf8.go:510", after := #[{ on := 31, ground := Ground.guard }], guard := some (31, false) }, { dst := some 176, op := Op.indexAddr 23 (Operand.tmp 175) (Operand.const (Value.int IntKind.i64 3)), type := 0, pos := "utf8.go:510", after := #[{ on := 32, ground := Ground.data }, { on := 31, ground := Ground.guard }], guard := some (31, false) }, { dst := some 177, op := Op.load 5 (Operand.tmp 176), type := 5, pos := "utf8.go:510", after := #[{ on := 33, ground := Ground.data }, { on := 31, ground := Ground.guard }], guard := some (31, false) }, { dst := some 178, op := Op.binOp BinOp.lss 5 (Operand.tmp 177) (Operand.const (Value.int IntKind.u8 128)) 5, type := 4, pos := "utf8.go:510", after := #[{ on := 34, ground := Ground.data }, { on := 31, ground := Ground.guard }], guard := some (31, false) }, { dst := some 179, op := Op.pick (Operand.tmp 174) (Operand.const (Value.bool true)) (Operand.tmp 178), type := 4, pos := "utf8.go:510", after := #[{ on := 31, ground := Ground.data }, { on := 35, ground := Ground.data }], guard := none }, { dst := some 180, op := Op.move (Operand.tmp 179), type := 4, pos := "utf8.go:510", after := #[{ on := 36, ground := Ground.data }, { on := 31, ground := Ground.chain }], guard := none }, { dst := some 181, op := Op.move (Operand.tmp 0), type := 23, pos := "utf8.go:510", after := #[{ on := 37, ground := Ground.guard }], guard := some (37, false) }, { dst := some 182, op := Op.indexAddr 23 (Operand.tmp 181) (Operand.const (Value.int IntKind.i64 3)), type := 0, pos := "utf8.go:510", after := #[{ on := 38, ground := Ground.data }, { on := 37, ground := Ground.guard }], guard := some (37, false) }, { dst := some 183, op := Op.load 5 (Operand.tmp 182), type := 5, pos := "utf8.go:510", after := #[{ on := 39, ground := Ground.data }, { on := 37, ground := Ground.guard }], guard := some (37, false) }, { dst := some 184, op := Op.binOp BinOp.lss 5 (Operand.const (Value.int IntKind.u8 191)) (Operand.tmp 183) 5, type := 4, pos := "utf8.go:510", after := #[{ on := 40, ground := Ground.data }, { on := 37, ground := Ground.guard }], guard := some (37, false) }, { dst := some 185, op := Op.pick (Operand.tmp 180) (Operand.const (Value.bool true)) (Operand.tmp 184), type := 4, pos := "utf8.go:510", after := #[{ on := 37, ground := Ground.data }, { on := 41, ground := Ground.data }], guard := none }] true).wp Tryz.prog (onlyN K) { tmps := #[.slice ad m m, u1, u2, u3, u4, u5, .pointer (some ⟨ga, 0, none⟩), u7, u8, u9, u10, u11, u12, u13, u14, u15, u16, u17, u18, u19, u20, u21, u22, u23, u24, u25, u26, u27, u28, u29, u30, u31, u32, u33, u34, u35, u36, u37, u38, u39, u40, u41, u42, u43, u44, u45, u46, u47, u48, u49, u50, u51, u52, u53, u54, u55, u56, u57, u58, u59, u60, u61, u62, u63, u64, u65, u66, u67, u68, u69, u70, u71, u72, u73, u74, u75, u76, u77, u78, u79, u80, u81, u82, u83, u84, u85, u86, u87, u88, u89, u90, u91, u92, u93, u94, u95, u96, u97, u98, u99, u100, u101, u102, u103, u104, u105, u106, u107, u108, u109, u110, u111, u112, u113, u114, u115, u116, u117, u118, u119, u120, u121, u122, u123, u124, u125, u126, u127, u128, u129, u130, u131, u132, u133, u134, u135, u136, u137, u138, u139, u140, u141, u142, u143, u144, u145, u146, u147, u148, u149, u150, u151, u152, u153, u154, u155, u156, u157, u158, u159, u160, u161, u162, u163, u164, u165, u166, u167, u168, u169, u170, u171, u172, u173, u174, u175, u176, u177, u178, u179, u180, u181, u182, u183, u184, u185, u186, u187], defers := ds } W := by
  have HH := hid h
  have KD := Kept.drew (fun _ => False) W
  have HS := hid hSt
  have hS0 := hSt _ KD
  clear h hSt
  refine wp_region_held_drew (S := fun V => True) (by kernel_rfl) hS0 (fun _ => ?_)
  refine wpAnyH_take (i := 0) (oi := { dst := some 143, op := Op.move (Operand.tmp 0), type := 23, pos := "utf8.go:510", after := #[], guard := none }) (v := ?vv1) rfl (by kernel_rfl) (by kernel_rfl) (by kernel_rfl) (fun _ _ _ h => h) (Or.inl ⟨by rfl, ?hy1⟩) hS0 ?rest1
  case hy1 =>
    intro V hV
    obtain _ := hV
    go_simp
    all_goals rfl
  simp only [Act.put, List.setIfInBounds_toArray, List.set_cons_zero, List.set_cons_succ]
  refine wpAnyH_take (i := 1) (oi := { dst := some 144, op := Op.call { callee := Callee.builtin Builtin.len, args := #[Operand.tmp 143], argTypes := #[23] }, type := 3, pos := "utf8.go:510", after := #[{ on := 0, ground := Ground.data }], guard := none }) (v := ?vv2) rfl (by kernel_rfl) (by kernel_rfl) (by kernel_rfl) (fun _ _ _ h => h) (Or.inl ⟨by rfl, ?hy2⟩) hS0 ?rest2
  case hy2 =>
    intro V hV
    obtain _ := hV
    go_simp
    all_goals rfl
  simp only [Act.put, List.setIfInBounds_toArray, List.set_cons_zero, List.set_cons_succ]
  refine wpAnyH_take (i := 2) (oi := { dst := some 145, op := Op.binOp BinOp.lss 3 (Operand.tmp 144) (Operand.const (Value.int IntKind.i64 4)) 3, type := 4, pos := "utf8.go:510", after := #[{ on := 1, ground := Ground.data }], guard := none }) (v := ?vv3) rfl (by kernel_rfl) (by kernel_rfl) (by kernel_rfl) (fun _ _ _ h => h) (Or.inl ⟨by rfl, ?hy3⟩) hS0 ?rest3
  case hy3 =>
    intro V hV
    obtain _ := hV
    go_simp
    all_goals rfl
  simp only [Act.put, List.setIfInBounds_toArray, List.set_cons_zero, List.set_cons_succ]
  refine wpAnyH_take (i := 3) (oi := { dst := some 146, op := Op.move (Operand.tmp 145), type := 4, pos := "utf8.go:510", after := #[{ on := 2, ground := Ground.data }], guard := none }) (v := ?vv4) rfl (by kernel_rfl) (by kernel_rfl) (by kernel_rfl) (fun _ _ _ h => h) (Or.inl ⟨by rfl, ?hy4⟩) hS0 ?rest4
  case hy4 =>
    intro V hV
    obtain _ := hV
    go_simp
    all_goals rfl
  simp only [Act.put, List.setIfInBounds_toArray, List.set_cons_zero, List.set_cons_succ]
  refine wpAnyH_take (i := 4) (oi := { dst := some 147, op := Op.move (Operand.tmp 0), type := 23, pos := "utf8.go:510", after := #[{ on := 3, ground := Ground.guard }], guard := some (3, false) }) (v := undef) rfl (by kernel_rfl) (by kernel_rfl) (by kernel_rfl) (fun _ _ _ h => h) (Or.inr ⟨by rfl, rfl⟩) hS0 ?rest5
  simp only [Act.put, List.setIfInBounds_toArray, List.set_cons_zero, List.set_cons_succ]
  refine wpAnyH_take (i := 5) (oi := { dst := some 148, op := Op.indexAddr 23 (Operand.tmp 147) (Operand.const (Value.int IntKind.i64 1)), type := 0, pos := "utf8.go:510", after := #[{ on := 4, ground := Ground.data }, { on := 3, ground := Ground.guard }], guard := some (3, false) }) (v := undef) rfl (by kernel_rfl) (by kernel_rfl) (by kernel_rfl) (fun _ _ _ h => h) (Or.inr ⟨by rfl, rfl⟩) hS0 ?rest6
  simp only [Act.put, List.setIfInBounds_toArray, List.set_cons_zero, List.set_cons_succ]
  refine wpAnyH_take (i := 6) (oi := { dst := some 149, op := Op.load 5 (Operand.tmp 148), type := 5, pos := "utf8.go:510", after := #[{ on := 5, ground := Ground.data }, { on := 3, ground := Ground.guard }], guard := some (3, false) }) (v := undef) rfl (by kernel_rfl) (by kernel_rfl) (by kernel_rfl) (fun _ _ _ h => h) (Or.inr ⟨by rfl, rfl⟩) hS0 ?rest7
  simp only [Act.put, List.setIfInBounds_toArray, List.set_cons_zero, List.set_cons_succ]
  refine wpAnyH_take (i := 7) (oi := { dst := some 150, op := Op.fieldAddr 65 (Operand.tmp 6) 0, type := 0, pos := "utf8.go:510", after := #[{ on := 3, ground := Ground.guard }], guard := some (3, false) }) (v := undef) rfl (by kernel_rfl) (by kernel_rfl) (by kernel_rfl) (fun _ _ _ h => h) (Or.inr ⟨by rfl, rfl⟩) hS0 ?rest8
  simp only [Act.put, List.setIfInBounds_toArray, List.set_cons_zero, List.set_cons_succ]
  refine wpAnyH_take (i := 8) (oi := { dst := some 151, op := Op.load 5 (Operand.tmp 150), type := 5, pos := "utf8.go:510", after := #[{ on := 7, ground := Ground.data }, { on := 3, ground := Ground.guard }], guard := some (3, false) }) (v := undef) rfl (by kernel_rfl) (by kernel_rfl) (by kernel_rfl) (fun _ _ _ h => h) (Or.inr ⟨by rfl, rfl⟩) hS0 ?rest9
  simp only [Act.put, List.setIfInBounds_toArray, List.set_cons_zero, List.set_cons_succ]
  refine wpAnyH_take (i := 9) (oi := { dst := some 152, op := Op.binOp BinOp.lss 5 (Operand.tmp 149) (Operand.tmp 151) 5, type := 4, pos := "utf8.go:510", after := #[{ on := 6, ground := Ground.data }, { on := 8, ground := Ground.data }, { on := 3, ground := Ground.guard }], guard := some (3, false) }) (v := undef) rfl (by kernel_rfl) (by kernel_rfl) (by kernel_rfl) (fun _ _ _ h => h) (Or.inr ⟨by rfl, rfl⟩) hS0 ?rest10
  simp only [Act.put, List.setIfInBounds_toArray, List.set_cons_zero, List.set_cons_succ]
  refine wpAnyH_take (i := 10) (oi := { dst := some 153, op := Op.pick (Operand.tmp 146) (Operand.const (Value.bool true)) (Operand.tmp 152), type := 4, pos := "utf8.go:510", after := #[{ on := 3, ground := Ground.data }, { on := 9, ground := Ground.data }], guard := none }) (v := ?vv11) rfl (by kernel_rfl) (by kernel_rfl) (by kernel_rfl) (fun _ _ _ h => h) (Or.inl ⟨by rfl, ?hy11⟩) hS0 ?rest11
  case hy11 =>
    intro V hV
    obtain _ := hV
    go_simp
    all_goals rfl
  simp only [Act.put, List.setIfInBounds_toArray, List.set_cons_zero, List.set_cons_succ]
  refine wpAnyH_take (i := 11) (oi := { dst := some 154, op := Op.move (Operand.tmp 153), type := 4, pos := "utf8.go:510", after := #[{ on := 10, ground := Ground.data }, { on := 3, ground := Ground.chain }], guard := none }) (v := ?vv12) rfl (by kernel_rfl) (by kernel_rfl) (by kernel_rfl) (fun _ _ _ h => h) (Or.inl ⟨by rfl, ?hy12⟩) hS0 ?rest12
  case hy12 =>
    intro V hV
    obtain _ := hV
    go_simp
    all_goals rfl
  simp only [Act.put, List.setIfInBounds_toArray, List.set_cons_zero, List.set_cons_succ]
  refine wpAnyH_take (i := 12) (oi := { dst := some 155, op := Op.fieldAddr 65 (Operand.tmp 6) 1, type := 0, pos := "utf8.go:510", after := #[{ on := 11, ground := Ground.guard }], guard := some (11, false) }) (v := undef) rfl (by kernel_rfl) (by kernel_rfl) (by kernel_rfl) (fun _ _ _ h => h) (Or.inr ⟨by rfl, rfl⟩) hS0 ?rest13
  simp only [Act.put, List.setIfInBounds_toArray, List.set_cons_zero, List.set_cons_succ]
  refine wpAnyH_take (i := 13) (oi := { dst := some 156, op := Op.load 5 (Operand.tmp 155), type := 5, pos := "utf8.go:510", after := #[{ on := 12, ground := Ground.data }, { on := 11, ground := Ground.guard }], guard := some (11, false) }) (v := undef) rfl (by kernel_rfl) (by kernel_rfl) (by kernel_rfl) (fun _ _ _ h => h) (Or.inr ⟨by rfl, rfl⟩) hS0 ?rest14
  simp only [Act.put, List.setIfInBounds_toArray, List.set_cons_zero, List.set_cons_succ]
  refine wpAnyH_take (i := 14) (oi := { dst := some 157, op := Op.move (Operand.tmp 0), type := 23, pos := "utf8.go:510", after := #[{ on := 11, ground := Ground.guard }], guard := some (11, false) }) (v := undef) rfl (by kernel_rfl) (by kernel_rfl) (by kernel_rfl) (fun _ _ _ h => h) (Or.inr ⟨by rfl, rfl⟩) hS0 ?rest15
  simp only [Act.put, List.setIfInBounds_toArray, List.set_cons_zero, List.set_cons_succ]
  refine wpAnyH_take (i := 15) (oi := { dst := some 158, op := Op.indexAddr 23 (Operand.tmp 157) (Operand.const (Value.int IntKind.i64 1)), type := 0, pos := "utf8.go:510", after := #[{ on := 14, ground := Ground.data }, { on := 11, ground := Ground.guard }], guard := some (11, false) }) (v := undef) rfl (by kernel_rfl) (by kernel_rfl) (by kernel_rfl) (fun _ _ _ h => h) (Or.inr ⟨by rfl, rfl⟩) hS0 ?rest16
  simp only [Act.put, List.setIfInBounds_toArray, List.set_cons_zero, List.set_cons_succ]
  refine wpAnyH_take (i := 16) (oi := { dst := some 159, op := Op.load 5 (Operand.tmp 158), type := 5, pos := "utf8.go:510", after := #[{ on := 15, ground := Ground.data }, { on := 11, ground := Ground.guard }], guard := some (11, false) }) (v := undef) rfl (by kernel_rfl) (by kernel_rfl) (by kernel_rfl) (fun _ _ _ h => h) (Or.inr ⟨by rfl, rfl⟩) hS0 ?rest17
  simp only [Act.put, List.setIfInBounds_toArray, List.set_cons_zero, List.set_cons_succ]
  refine wpAnyH_take (i := 17) (oi := { dst := some 160, op := Op.binOp BinOp.lss 5 (Operand.tmp 156) (Operand.tmp 159) 5, type := 4, pos := "utf8.go:510", after := #[{ on := 13, ground := Ground.data }, { on := 16, ground := Ground.data }, { on := 11, ground := Ground.guard }], guard := some (11, false) }) (v := undef) rfl (by kernel_rfl) (by kernel_rfl) (by kernel_rfl) (fun _ _ _ h => h) (Or.inr ⟨by rfl, rfl⟩) hS0 ?rest18
  simp only [Act.put, List.setIfInBounds_toArray, List.set_cons_zero, List.set_cons_succ]
  refine wpAnyH_take (i := 18) (oi := { dst := some 161, op := Op.pick (Operand.tmp 154) (Operand.const (Value.bool true)) (Operand.tmp 160), type := 4, pos := "utf8.go:510", after := #[{ on := 11, ground := Ground.data }, { on := 17, ground := Ground.data }], guard := none }) (v := ?vv19) rfl (by kernel_rfl) (by kernel_rfl) (by kernel_rfl) (fun _ _ _ h => h) (Or.inl ⟨by rfl, ?hy19⟩) hS0 ?rest19
  case hy19 =>
    intro V hV
    obtain _ := hV
    go_simp
    all_goals rfl
  simp only [Act.put, List.setIfInBounds_toArray, List.set_cons_zero, List.set_cons_succ]
  refine wpAnyH_take (i := 19) (oi := { dst := some 162, op := Op.move (Operand.tmp 161), type := 4, pos := "utf8.go:510", after := #[{ on := 18, ground := Ground.data }, { on := 11, ground := Ground.chain }], guard := none }) (v := ?vv20) rfl (by kernel_rfl) (by kernel_rfl) (by kernel_rfl) (fun _ _ _ h => h) (Or.inl ⟨by rfl, ?hy20⟩) hS0 ?rest20
  case hy20 =>
    intro V hV
    obtain _ := hV
    go_simp
    all_goals rfl
  simp only [Act.put, List.setIfInBounds_toArray, List.set_cons_zero, List.set_cons_succ]
  refine wpAnyH_take (i := 20) (oi := { dst := some 163, op := Op.move (Operand.tmp 0), type := 23, pos := "utf8.go:510", after := #[{ on := 19, ground := Ground.guard }], guard := some (19, false) }) (v := undef) rfl (by kernel_rfl) (by kernel_rfl) (by kernel_rfl) (fun _ _ _ h => h) (Or.inr ⟨by rfl, rfl⟩) hS0 ?rest21
  simp only [Act.put, List.setIfInBounds_toArray, List.set_cons_zero, List.set_cons_succ]
  refine wpAnyH_take (i := 21) (oi := { dst := some 164, op := Op.indexAddr 23 (Operand.tmp 163) (Operand.const (Value.int IntKind.i64 2)), type := 0, pos := "utf8.go:510", after := #[{ on := 20, ground := Ground.data }, { on := 19, ground := Ground.guard }], guard := some (19, false) }) (v := undef) rfl (by kernel_rfl) (by kernel_rfl) (by kernel_rfl) (fun _ _ _ h => h) (Or.inr ⟨by rfl, rfl⟩) hS0 ?rest22
  simp only [Act.put, List.setIfInBounds_toArray, List.set_cons_zero, List.set_cons_succ]
  refine wpAnyH_take (i := 22) (oi := { dst := some 165, op := Op.load 5 (Operand.tmp 164), type := 5, pos := "utf8.go:510", after := #[{ on := 21, ground := Ground.data }, { on := 19, ground := Ground.guard }], guard := some (19, false) }) (v := undef) rfl (by kernel_rfl) (by kernel_rfl) (by kernel_rfl) (fun _ _ _ h => h) (Or.inr ⟨by rfl, rfl⟩) hS0 ?rest23
  simp only [Act.put, List.setIfInBounds_toArray, List.set_cons_zero, List.set_cons_succ]
  refine wpAnyH_take (i := 23) (oi := { dst := some 166, op := Op.binOp BinOp.lss 5 (Operand.tmp 165) (Operand.const (Value.int IntKind.u8 128)) 5, type := 4, pos := "utf8.go:510", after := #[{ on := 22, ground := Ground.data }, { on := 19, ground := Ground.guard }], guard := some (19, false) }) (v := undef) rfl (by kernel_rfl) (by kernel_rfl) (by kernel_rfl) (fun _ _ _ h => h) (Or.inr ⟨by rfl, rfl⟩) hS0 ?rest24
  simp only [Act.put, List.setIfInBounds_toArray, List.set_cons_zero, List.set_cons_succ]
  refine wpAnyH_take (i := 24) (oi := { dst := some 167, op := Op.pick (Operand.tmp 162) (Operand.const (Value.bool true)) (Operand.tmp 166), type := 4, pos := "utf8.go:510", after := #[{ on := 19, ground := Ground.data }, { on := 23, ground := Ground.data }], guard := none }) (v := ?vv25) rfl (by kernel_rfl) (by kernel_rfl) (by kernel_rfl) (fun _ _ _ h => h) (Or.inl ⟨by rfl, ?hy25⟩) hS0 ?rest25
  case hy25 =>
    intro V hV
    obtain _ := hV
    go_simp
    all_goals rfl
  simp only [Act.put, List.setIfInBounds_toArray, List.set_cons_zero, List.set_cons_succ]
  refine wpAnyH_take (i := 25) (oi := { dst := some 168, op := Op.move (Operand.tmp 167), type := 4, pos := "utf8.go:510", after := #[{ on := 24, ground := Ground.data }, { on := 19, ground := Ground.chain }], guard := none }) (v := ?vv26) rfl (by kernel_rfl) (by kernel_rfl) (by kernel_rfl) (fun _ _ _ h => h) (Or.inl ⟨by rfl, ?hy26⟩) hS0 ?rest26
  case hy26 =>
    intro V hV
    obtain _ := hV
    go_simp
    all_goals rfl
  simp only [Act.put, List.setIfInBounds_toArray, List.set_cons_zero, List.set_cons_succ]
  refine wpAnyH_take (i := 26) (oi := { dst := some 169, op := Op.move (Operand.tmp 0), type := 23, pos := "utf8.go:510", after := #[{ on := 25, ground := Ground.guard }], guard := some (25, false) }) (v := undef) rfl (by kernel_rfl) (by kernel_rfl) (by kernel_rfl) (fun _ _ _ h => h) (Or.inr ⟨by rfl, rfl⟩) hS0 ?rest27
  simp only [Act.put, List.setIfInBounds_toArray, List.set_cons_zero, List.set_cons_succ]
  refine wpAnyH_take (i := 27) (oi := { dst := some 170, op := Op.indexAddr 23 (Operand.tmp 169) (Operand.const (Value.int IntKind.i64 2)), type := 0, pos := "utf8.go:510", after := #[{ on := 26, ground := Ground.data }, { on := 25, ground := Ground.guard }], guard := some (25, false) }) (v := undef) rfl (by kernel_rfl) (by kernel_rfl) (by kernel_rfl) (fun _ _ _ h => h) (Or.inr ⟨by rfl, rfl⟩) hS0 ?rest28
  simp only [Act.put, List.setIfInBounds_toArray, List.set_cons_zero, List.set_cons_succ]
  refine wpAnyH_take (i := 28) (oi := { dst := some 171, op := Op.load 5 (Operand.tmp 170), type := 5, pos := "utf8.go:510", after := #[{ on := 27, ground := Ground.data }, { on := 25, ground := Ground.guard }], guard := some (25, false) }) (v := undef) rfl (by kernel_rfl) (by kernel_rfl) (by kernel_rfl) (fun _ _ _ h => h) (Or.inr ⟨by rfl, rfl⟩) hS0 ?rest29
  simp only [Act.put, List.setIfInBounds_toArray, List.set_cons_zero, List.set_cons_succ]
  refine wpAnyH_take (i := 29) (oi := { dst := some 172, op := Op.binOp BinOp.lss 5 (Operand.const (Value.int IntKind.u8 191)) (Operand.tmp 171) 5, type := 4, pos := "utf8.go:510", after := #[{ on := 28, ground := Ground.data }, { on := 25, ground := Ground.guard }], guard := some (25, false) }) (v := undef) rfl (by kernel_rfl) (by kernel_rfl) (by kernel_rfl) (fun _ _ _ h => h) (Or.inr ⟨by rfl, rfl⟩) hS0 ?rest30
  simp only [Act.put, List.setIfInBounds_toArray, List.set_cons_zero, List.set_cons_succ]
  refine wpAnyH_take (i := 30) (oi := { dst := some 173, op := Op.pick (Operand.tmp 168) (Operand.const (Value.bool true)) (Operand.tmp 172), type := 4, pos := "utf8.go:510", after := #[{ on := 25, ground := Ground.data }, { on := 29, ground := Ground.data }], guard := none }) (v := ?vv31) rfl (by kernel_rfl) (by kernel_rfl) (by kernel_rfl) (fun _ _ _ h => h) (Or.inl ⟨by rfl, ?hy31⟩) hS0 ?rest31
  case hy31 =>
    intro V hV
    obtain _ := hV
    go_simp
    all_goals rfl
  simp only [Act.put, List.setIfInBounds_toArray, List.set_cons_zero, List.set_cons_succ]
  refine wpAnyH_take (i := 31) (oi := { dst := some 174, op := Op.move (Operand.tmp 173), type := 4, pos := "utf8.go:510", after := #[{ on := 30, ground := Ground.data }, { on := 25, ground := Ground.chain }], guard := none }) (v := ?vv32) rfl (by kernel_rfl) (by kernel_rfl) (by kernel_rfl) (fun _ _ _ h => h) (Or.inl ⟨by rfl, ?hy32⟩) hS0 ?rest32
  case hy32 =>
    intro V hV
    obtain _ := hV
    go_simp
    all_goals rfl
  simp only [Act.put, List.setIfInBounds_toArray, List.set_cons_zero, List.set_cons_succ]
  refine wpAnyH_take (i := 32) (oi := { dst := some 175, op := Op.move (Operand.tmp 0), type := 23, pos := "utf8.go:510", after := #[{ on := 31, ground := Ground.guard }], guard := some (31, false) }) (v := undef) rfl (by kernel_rfl) (by kernel_rfl) (by kernel_rfl) (fun _ _ _ h => h) (Or.inr ⟨by rfl, rfl⟩) hS0 ?rest33
  simp only [Act.put, List.setIfInBounds_toArray, List.set_cons_zero, List.set_cons_succ]
  refine wpAnyH_take (i := 33) (oi := { dst := some 176, op := Op.indexAddr 23 (Operand.tmp 175) (Operand.const (Value.int IntKind.i64 3)), type := 0, pos := "utf8.go:510", after := #[{ on := 32, ground := Ground.data }, { on := 31, ground := Ground.guard }], guard := some (31, false) }) (v := undef) rfl (by kernel_rfl) (by kernel_rfl) (by kernel_rfl) (fun _ _ _ h => h) (Or.inr ⟨by rfl, rfl⟩) hS0 ?rest34
  simp only [Act.put, List.setIfInBounds_toArray, List.set_cons_zero, List.set_cons_succ]
  refine wpAnyH_take (i := 34) (oi := { dst := some 177, op := Op.load 5 (Operand.tmp 176), type := 5, pos := "utf8.go:510", after := #[{ on := 33, ground := Ground.data }, { on := 31, ground := Ground.guard }], guard := some (31, false) }) (v := undef) rfl (by kernel_rfl) (by kernel_rfl) (by kernel_rfl) (fun _ _ _ h => h) (Or.inr ⟨by rfl, rfl⟩) hS0 ?rest35
  simp only [Act.put, List.setIfInBounds_toArray, List.set_cons_zero, List.set_cons_succ]
  refine wpAnyH_take (i := 35) (oi := { dst := some 178, op := Op.binOp BinOp.lss 5 (Operand.tmp 177) (Operand.const (Value.int IntKind.u8 128)) 5, type := 4, pos := "utf8.go:510", after := #[{ on := 34, ground := Ground.data }, { on := 31, ground := Ground.guard }], guard := some (31, false) }) (v := undef) rfl (by kernel_rfl) (by kernel_rfl) (by kernel_rfl) (fun _ _ _ h => h) (Or.inr ⟨by rfl, rfl⟩) hS0 ?rest36
  simp only [Act.put, List.setIfInBounds_toArray, List.set_cons_zero, List.set_cons_succ]
  refine wpAnyH_take (i := 36) (oi := { dst := some 179, op := Op.pick (Operand.tmp 174) (Operand.const (Value.bool true)) (Operand.tmp 178), type := 4, pos := "utf8.go:510", after := #[{ on := 31, ground := Ground.data }, { on := 35, ground := Ground.data }], guard := none }) (v := ?vv37) rfl (by kernel_rfl) (by kernel_rfl) (by kernel_rfl) (fun _ _ _ h => h) (Or.inl ⟨by rfl, ?hy37⟩) hS0 ?rest37
  case hy37 =>
    intro V hV
    obtain _ := hV
    go_simp
    all_goals rfl
  simp only [Act.put, List.setIfInBounds_toArray, List.set_cons_zero, List.set_cons_succ]
  refine wpAnyH_take (i := 37) (oi := { dst := some 180, op := Op.move (Operand.tmp 179), type := 4, pos := "utf8.go:510", after := #[{ on := 36, ground := Ground.data }, { on := 31, ground := Ground.chain }], guard := none }) (v := ?vv38) rfl (by kernel_rfl) (by kernel_rfl) (by kernel_rfl) (fun _ _ _ h => h) (Or.inl ⟨by rfl, ?hy38⟩) hS0 ?rest38
  case hy38 =>
    intro V hV
    obtain _ := hV
    go_simp
    all_goals rfl
  simp only [Act.put, List.setIfInBounds_toArray, List.set_cons_zero, List.set_cons_succ]
  refine wpAnyH_take (i := 38) (oi := { dst := some 181, op := Op.move (Operand.tmp 0), type := 23, pos := "utf8.go:510", after := #[{ on := 37, ground := Ground.guard }], guard := some (37, false) }) (v := undef) rfl (by kernel_rfl) (by kernel_rfl) (by kernel_rfl) (fun _ _ _ h => h) (Or.inr ⟨by rfl, rfl⟩) hS0 ?rest39
  simp only [Act.put, List.setIfInBounds_toArray, List.set_cons_zero, List.set_cons_succ]
  refine wpAnyH_take (i := 39) (oi := { dst := some 182, op := Op.indexAddr 23 (Operand.tmp 181) (Operand.const (Value.int IntKind.i64 3)), type := 0, pos := "utf8.go:510", after := #[{ on := 38, ground := Ground.data }, { on := 37, ground := Ground.guard }], guard := some (37, false) }) (v := undef) rfl (by kernel_rfl) (by kernel_rfl) (by kernel_rfl) (fun _ _ _ h => h) (Or.inr ⟨by rfl, rfl⟩) hS0 ?rest40
  simp only [Act.put, List.setIfInBounds_toArray, List.set_cons_zero, List.set_cons_succ]
  refine wpAnyH_take (i := 40) (oi := { dst := some 183, op := Op.load 5 (Operand.tmp 182), type := 5, pos := "utf8.go:510", after := #[{ on := 39, ground := Ground.data }, { on := 37, ground := Ground.guard }], guard := some (37, false) }) (v := undef) rfl (by kernel_rfl) (by kernel_rfl) (by kernel_rfl) (fun _ _ _ h => h) (Or.inr ⟨by rfl, rfl⟩) hS0 ?rest41
  simp only [Act.put, List.setIfInBounds_toArray, List.set_cons_zero, List.set_cons_succ]
  refine wpAnyH_take (i := 41) (oi := { dst := some 184, op := Op.binOp BinOp.lss 5 (Operand.const (Value.int IntKind.u8 191)) (Operand.tmp 183) 5, type := 4, pos := "utf8.go:510", after := #[{ on := 40, ground := Ground.data }, { on := 37, ground := Ground.guard }], guard := some (37, false) }) (v := undef) rfl (by kernel_rfl) (by kernel_rfl) (by kernel_rfl) (fun _ _ _ h => h) (Or.inr ⟨by rfl, rfl⟩) hS0 ?rest42
  simp only [Act.put, List.setIfInBounds_toArray, List.set_cons_zero, List.set_cons_succ]
  refine wpAnyH_take (i := 42) (oi := { dst := some 185, op := Op.pick (Operand.tmp 180) (Operand.const (Value.bool true)) (Operand.tmp 184), type := 4, pos := "utf8.go:510", after := #[{ on := 37, ground := Ground.data }, { on := 41, ground := Ground.data }], guard := none }) (v := ?vv43) rfl (by kernel_rfl) (by kernel_rfl) (by kernel_rfl) (fun _ _ _ h => h) (Or.inl ⟨by rfl, ?hy43⟩) hS0 ?rest43
  case hy43 =>
    intro V hV
    obtain _ := hV
    go_simp
    all_goals rfl
  simp only [Act.put, List.setIfInBounds_toArray, List.set_cons_zero, List.set_cons_succ]
  refine wpAnyH_done (by kernel_rfl) ?_ _
  exact HH.out _ _ _ _ _ _ _ _ _ _ _ _ _ _ _ _ _ _ _ _ _ _ _ _ _ _ _ _ _ _ _ _ _ _ _ _ _ _ _ _ _ _ _ (KD)

end Go.Proofs.YtfiaaaflpjpnjaaGreatDoor
