/-
  utf8.Valid, its region 10, which draws its order (one of its ways).
-/
import Derived.Test.YtfiaaaflpjpnjaaGreatDoorWM4
namespace Go.Proofs.YtfiaaaflpjpnjaaGreatDoor
open Go.RowKit

set_option maxRecDepth 100000 in
set_option maxHeartbeats 8000000 in
theorem val10t {W : World} {b q m : Nat} {x1 x2 x3 x4 : Int} {c : Bool} {ds : List Deferred} {u1 u2 u3 u4 u5 u6 u7 u8 u9 u10 u11 u12 u13 u14 u15 u16 u17 u18 u19 u20 u21 u22 u23 u24 u25 u26 u27 u28 u29 u30 u31 u32 u33 u34 u35 u36 u37 u38 u39 u40 u41 u42 u43 u44 u45 u46 u47 u48 u49 u50 u51 u52 u53 u54 u55 u56 u57 u58 u59 u60 u61 u62 u63 u64 u65 u66 u67 u68 u69 u70 u71 u72 u73 u74 u75 u76 u77 u78 u79 u80 u81 u82 u83 u84 u85 u86 u87 u88 u89 u90 u91 u92 u93 u94 u95 u96 u97 u98 u99 u100 u101 u102 u103 u104 u105 u106 u107 u108 u109 u110 u111 u112 u113 u114 u115 u116 u117 u118 u119 u120 u121 u122 u123 u124 u125 u126 u127 u128 u129 u130 u131 u132 u133 u134 u135 u136 u137 u138 u139 u140 u141 u142 u143 u144 u145 u146 u147 u148 u149 u150 u151 u152 u153 u154 u155 u156 u157 u158 u159 u160 u161 u162 u163 u164 u165 u166 u167 u168 u169 u170 u171 u172 u173 u174 u175 u176 u177 u178 u179 u180 u181 u182 u183 u184 u185 u186 u187 : Value} (K : Act → World → Prop)
    (hSt : ∀ V, Kept (fun _ => False) W V → True) (hm : (32 : Int) < (m : Int)) (h1 : ∀ V, Kept (fun _ => False) W V → Calls Tryz.prog 41 #[.slice (some ⟨b, q, none⟩) (m) (m)] V fun e w' => e = .returned (.int .u64 x1) ∧ Kept (fun _ => False) V w') (h2 : ∀ V, Kept (fun _ => False) W V → Calls Tryz.prog 41 #[.slice (some ⟨b, q + 8, none⟩) (m - 8) (m - 8)] V fun e w' => e = .returned (.int .u64 x2) ∧ Kept (fun _ => False) V w') (h3 : ∀ V, Kept (fun _ => False) W V → Calls Tryz.prog 41 #[.slice (some ⟨b, q + 16, none⟩) (m - 16) (m - 16)] V fun e w' => e = .returned (.int .u64 x3) ∧ Kept (fun _ => False) V w') (h4 : ∀ V, Kept (fun _ => False) W V → Calls Tryz.prog 41 #[.slice (some ⟨b, q + 24, none⟩) (m - 24) (m - 24)] V fun e w' => e = .returned (.int .u64 x4) ∧ Kept (fun _ => False) V w') (hc : (bits .and .u64 (bits .or .u64 (bits .or .u64 x1 x2) (bits .or .u64 x3 x4)) 9259542123273814144 == 0) = c)
    (h : ∀ (v49 v50 v51 v52 v53 v54 v55 v56 v57 v58 v59 v60 v61 v62 v63 v64 v65 v66 v67 v68 : Value) (w9 : World), Kept (fun _ => False) W w9 → K { tmps := #[.slice (some ⟨b, q, none⟩) m m, u1, u2, u3, u4, u5, u6, u7, u8, u9, u10, u11, u12, u13, u14, u15, u16, u17, u18, u19, u20, u21, u22, u23, u24, u25, u26, u27, u28, u29, u30, u31, u32, u33, u34, u35, u36, u37, u38, u39, u40, u41, u42, u43, u44, u45, u46, u47, u48, v49, v50, v51, v52, v53, v54, v55, v56, v57, v58, v59, v60, v61, v62, v63, v64, v65, v66, v67, v68, .bool c, u70, u71, u72, u73, u74, u75, u76, u77, u78, u79, u80, u81, u82, u83, u84, u85, u86, u87, u88, u89, u90, u91, u92, u93, u94, u95, u96, u97, u98, u99, u100, u101, u102, u103, u104, u105, u106, u107, u108, u109, u110, u111, u112, u113, u114, u115, u116, u117, u118, u119, u120, u121, u122, u123, u124, u125, u126, u127, u128, u129, u130, u131, u132, u133, u134, u135, u136, u137, u138, u139, u140, u141, u142, u143, u144, u145, u146, u147, u148, u149, u150, u151, u152, u153, u154, u155, u156, u157, u158, u159, u160, u161, u162, u163, u164, u165, u166, u167, u168, u169, u170, u171, u172, u173, u174, u175, u176, u177, u178, u179, u180, u181, u182, u183, u184, u185, u186, u187], defers := ds } w9) :
    (Code.region 10 #[{ dst := some 49, op := Op.move (Operand.tmp 0), type := 23, pos := "utf8.go:488", after := #[], guard := none }, { dst := some 50, op := Op.call { callee := Callee.builtin Builtin.len, args := #[Operand.tmp 49], argTypes := #[23] }, type := 3, pos := "utf8.go:488", after := #[{ on := 0, ground := Ground.data }], guard := none }, { dst := some 51, op := Op.binOp BinOp.gtr 3 (Operand.tmp 50) (Operand.const (Value.int IntKind.i64 32)) 3, type := 4, pos := "utf8.go:488", after := #[{ on := 1, ground := Ground.data }], guard := none }, { dst := some 52, op := Op.move (Operand.tmp 51), type := 4, pos := "utf8.go:488", after := #[{ on := 2, ground := Ground.data }], guard := none }, { dst := some 53, op := Op.move (Operand.tmp 0), type := 23, pos := "utf8.go:488", after := #[{ on := 3, ground := Ground.guard }], guard := some (3, true) }, { dst := some 54, op := Op.call { callee := Callee.value (Operand.func 41), args := #[Operand.tmp 53], argTypes := #[23] }, type := 12, pos := "utf8.go:488", after := #[{ on := 4, ground := Ground.data }, { on := 3, ground := Ground.chain }, { on := 3, ground := Ground.guard }], guard := some (3, true) }, { dst := some 55, op := Op.move (Operand.tmp 0), type := 23, pos := "utf8.go:488", after := #[{ on := 3, ground := Ground.guard }], guard := some (3, true) }, { dst := some 56, op := Op.slice 23 (Operand.tmp 55) (some (Operand.const (Value.int IntKind.i64 8))) none none, type := 23, pos := "utf8.go:488", after := #[{ on := 6, ground := Ground.data }, { on := 3, ground := Ground.guard }], guard := some (3, true) }, { dst := some 57, op := Op.call { callee := Callee.value (Operand.func 41), args := #[Operand.tmp 56], argTypes := #[23] }, type := 12, pos := "utf8.go:488", after := #[{ on := 7, ground := Ground.data }, { on := 5, ground := Ground.chain }, { on := 3, ground := Ground.guard }], guard := some (3, true) }, { dst := some 58, op := Op.binOp BinOp.or 12 (Operand.tmp 54) (Operand.tmp 57) 12, type := 12, pos := "utf8.go:488", after := #[{ on := 5, ground := Ground.data }, { on := 8, ground := Ground.data }, { on := 3, ground := Ground.guard }], guard := some (3, true) }, { dst := some 59, op := Op.move (Operand.tmp 0), type := 23, pos := "utf8.go:488", after := #[{ on := 3, ground := Ground.guard }], guard := some (3, true) }, { dst := some 60, op := Op.slice 23 (Operand.tmp 59) (some (Operand.const (Value.int IntKind.i64 16))) none none, type := 23, pos := "utf8.go:488", after := #[{ on := 10, ground := Ground.data }, { on := 3, ground := Ground.guard }], guard := some (3, true) }, { dst := some 61, op := Op.call { callee := Callee.value (Operand.func 41), args := #[Operand.tmp 60], argTypes := #[23] }, type := 12, pos := "utf8.go:488", after := #[{ on := 11, ground := Ground.data }, { on := 8, ground := Ground.chain }, { on := 3, ground := Ground.guard }], guard := some (3, true) }, { dst := some 62, op := Op.move (Operand.tmp 0), type := 23, pos := "utf8.go:488", after := #[{ on := 3, ground := Ground.guard }], guard := some (3, true) }, { dst := some 63, op := Op.slice 23 (Operand.tmp 62) (some (Operand.const (Value.int IntKind.i64 24))) none none, type := 23, pos := "utf8.go:488", after := #[{ on := 13, ground := Ground.data }, { on := 3, ground := Ground.guard }], guard := some (3, true) }, { dst := some 64, op := Op.call { callee := Callee.value (Operand.func 41), args := #[Operand.tmp 63], argTypes := #[23] }, type := 12, pos := "utf8.go:488", after := #[{ on := 14, ground := Ground.data }, { on := 12, ground := Ground.chain }, { on := 3, ground := Ground.guard }], guard := some (3, true) }, { dst := some 65, op := Op.binOp BinOp.or 12 (Operand.tmp 61) (Operand.tmp 64) 12, type := 12, pos := "utf8.go:488", after := #[{ on := 12, ground := Ground.data }, { on := 15, ground := Ground.data }, { on := 3, ground := Ground.guard }], guard := some (3, true) }, { dst := some 66, op := Op.binOp BinOp.or 12 (Operand.tmp 58) (Operand.tmp 65) 12, type := 12, pos := "utf8.go:488", after := #[{ on := 9, ground := Ground.data }, { on := 16, ground := Ground.data }, { on := 3, ground := Ground.guard }], guard := some (3, true) }, { dst := some 67, op := Op.binOp BinOp.and 12 (Operand.tmp 66) (Operand.const (Value.int IntKind.u64 9259542123273814144)) 12, type := 12, pos := "utf8.go:488", after := #[{ on := 17, ground := Ground.data }, { on := 3, ground := Ground.guard }], guard := some (3, true) }, { dst := some 68, op := Op.binOp BinOp.eql 12 (Operand.tmp 67) (Operand.const (Value.int IntKind.u64 0)) 12, type := 4, pos := "utf8.go:488", after := #[{ on := 18, ground := Ground.data }, { on := 3, ground := Ground.guard }], guard := some (3, true) }, { dst := some 69, op := Op.pick (Operand.tmp 52) (Operand.tmp 68) (Operand.const (Value.bool false)), type := 4, pos := "utf8.go:488", after := #[{ on := 3, ground := Ground.data }, { on := 19, ground := Ground.data }], guard := none }] true).wp Tryz.prog (onlyN K) { tmps := #[.slice (some ⟨b, q, none⟩) m m, u1, u2, u3, u4, u5, u6, u7, u8, u9, u10, u11, u12, u13, u14, u15, u16, u17, u18, u19, u20, u21, u22, u23, u24, u25, u26, u27, u28, u29, u30, u31, u32, u33, u34, u35, u36, u37, u38, u39, u40, u41, u42, u43, u44, u45, u46, u47, u48, u49, u50, u51, u52, u53, u54, u55, u56, u57, u58, u59, u60, u61, u62, u63, u64, u65, u66, u67, u68, u69, u70, u71, u72, u73, u74, u75, u76, u77, u78, u79, u80, u81, u82, u83, u84, u85, u86, u87, u88, u89, u90, u91, u92, u93, u94, u95, u96, u97, u98, u99, u100, u101, u102, u103, u104, u105, u106, u107, u108, u109, u110, u111, u112, u113, u114, u115, u116, u117, u118, u119, u120, u121, u122, u123, u124, u125, u126, u127, u128, u129, u130, u131, u132, u133, u134, u135, u136, u137, u138, u139, u140, u141, u142, u143, u144, u145, u146, u147, u148, u149, u150, u151, u152, u153, u154, u155, u156, u157, u158, u159, u160, u161, u162, u163, u164, u165, u166, u167, u168, u169, u170, u171, u172, u173, u174, u175, u176, u177, u178, u179, u180, u181, u182, u183, u184, u185, u186, u187], defers := ds } W := by
  have HH := hid h
  have KD := Kept.drew (fun _ => False) W
  have HS := hid hSt
  have hS0 := hSt _ KD
  have H1 := hid h1
  have H2 := hid h2
  have H3 := hid h3
  have H4 := hid h4
  have e1 : (8 : Int) ≤ (m : Int) := by omega
  have z1 : ¬ m = 8 := by omega
  have e2 : (16 : Int) ≤ (m : Int) := by omega
  have z2 : ¬ m = 16 := by omega
  have e3 : (24 : Int) ≤ (m : Int) := by omega
  have z3 : ¬ m = 24 := by omega
  clear h1 h2 h3 h4
  clear h hSt
  refine wp_region_held_drew (S := fun V => True) (by kernel_rfl) hS0 (fun _ => ?_)
  refine wpAnyH_take (i := 0) (oi := { dst := some 49, op := Op.move (Operand.tmp 0), type := 23, pos := "utf8.go:488", after := #[], guard := none }) (v := ?vv1) rfl (by kernel_rfl) (by kernel_rfl) (by kernel_rfl) (fun _ _ _ h => h) (Or.inl ⟨by rfl, ?hy1⟩) hS0 ?rest1
  case hy1 =>
    intro V hV
    obtain _ := hV
    go_simp
    all_goals rfl
  simp only [Act.put, List.setIfInBounds_toArray, List.set_cons_zero, List.set_cons_succ]
  refine wpAnyH_take (i := 1) (oi := { dst := some 50, op := Op.call { callee := Callee.builtin Builtin.len, args := #[Operand.tmp 49], argTypes := #[23] }, type := 3, pos := "utf8.go:488", after := #[{ on := 0, ground := Ground.data }], guard := none }) (v := ?vv2) rfl (by kernel_rfl) (by kernel_rfl) (by kernel_rfl) (fun _ _ _ h => h) (Or.inl ⟨by rfl, ?hy2⟩) hS0 ?rest2
  case hy2 =>
    intro V hV
    obtain _ := hV
    go_simp
    all_goals rfl
  simp only [Act.put, List.setIfInBounds_toArray, List.set_cons_zero, List.set_cons_succ]
  refine wpAnyH_take (i := 2) (oi := { dst := some 51, op := Op.binOp BinOp.gtr 3 (Operand.tmp 50) (Operand.const (Value.int IntKind.i64 32)) 3, type := 4, pos := "utf8.go:488", after := #[{ on := 1, ground := Ground.data }], guard := none }) (v := ?vv3) rfl (by kernel_rfl) (by kernel_rfl) (by kernel_rfl) (fun _ _ _ h => h) (Or.inl ⟨by rfl, ?hy3⟩) hS0 ?rest3
  case hy3 =>
    intro V hV
    obtain _ := hV
    go_simp
    all_goals rfl
  simp only [Act.put, List.setIfInBounds_toArray, List.set_cons_zero, List.set_cons_succ]
  refine wpAnyH_take (i := 3) (oi := { dst := some 52, op := Op.move (Operand.tmp 51), type := 4, pos := "utf8.go:488", after := #[{ on := 2, ground := Ground.data }], guard := none }) (v := ?vv4) rfl (by kernel_rfl) (by kernel_rfl) (by kernel_rfl) (fun _ _ _ h => h) (Or.inl ⟨by rfl, ?hy4⟩) hS0 ?rest4
  case hy4 =>
    intro V hV
    obtain _ := hV
    go_simp
    all_goals rfl
  simp only [Act.put, List.setIfInBounds_toArray, List.set_cons_zero, List.set_cons_succ]
  refine wpAnyH_take (i := 4) (oi := { dst := some 53, op := Op.move (Operand.tmp 0), type := 23, pos := "utf8.go:488", after := #[{ on := 3, ground := Ground.guard }], guard := some (3, true) }) (v := ?vv5) rfl (by kernel_rfl) (by kernel_rfl) (by kernel_rfl) (fun _ _ _ h => h) (Or.inl ⟨by rfl, ?hy5⟩) hS0 ?rest5
  case hy5 =>
    intro V hV
    obtain _ := hV
    go_simp
    all_goals rfl
  simp only [Act.put, List.setIfInBounds_toArray, List.set_cons_zero, List.set_cons_succ]
  refine wpAnyH_take (i := 6) (oi := { dst := some 55, op := Op.move (Operand.tmp 0), type := 23, pos := "utf8.go:488", after := #[{ on := 3, ground := Ground.guard }], guard := some (3, true) }) (v := ?vv6) rfl (by kernel_rfl) (by kernel_rfl) (by kernel_rfl) (fun _ _ _ h => h) (Or.inl ⟨by rfl, ?hy6⟩) hS0 ?rest6
  case hy6 =>
    intro V hV
    obtain _ := hV
    go_simp
    all_goals rfl
  simp only [Act.put, List.setIfInBounds_toArray, List.set_cons_zero, List.set_cons_succ]
  refine wpAnyH_take (i := 7) (oi := { dst := some 56, op := Op.slice 23 (Operand.tmp 55) (some (Operand.const (Value.int IntKind.i64 8))) none none, type := 23, pos := "utf8.go:488", after := #[{ on := 6, ground := Ground.data }, { on := 3, ground := Ground.guard }], guard := some (3, true) }) (v := ?vv7) rfl (by kernel_rfl) (by kernel_rfl) (by kernel_rfl) (fun _ _ _ h => h) (Or.inl ⟨by rfl, ?hy7⟩) hS0 ?rest7
  case hy7 =>
    intro V hV
    obtain _ := hV
    go_simp
    all_goals rfl
  simp only [Act.put, List.setIfInBounds_toArray, List.set_cons_zero, List.set_cons_succ]
  refine wpAnyH_take (i := 10) (oi := { dst := some 59, op := Op.move (Operand.tmp 0), type := 23, pos := "utf8.go:488", after := #[{ on := 3, ground := Ground.guard }], guard := some (3, true) }) (v := ?vv8) rfl (by kernel_rfl) (by kernel_rfl) (by kernel_rfl) (fun _ _ _ h => h) (Or.inl ⟨by rfl, ?hy8⟩) hS0 ?rest8
  case hy8 =>
    intro V hV
    obtain _ := hV
    go_simp
    all_goals rfl
  simp only [Act.put, List.setIfInBounds_toArray, List.set_cons_zero, List.set_cons_succ]
  refine wpAnyH_take (i := 11) (oi := { dst := some 60, op := Op.slice 23 (Operand.tmp 59) (some (Operand.const (Value.int IntKind.i64 16))) none none, type := 23, pos := "utf8.go:488", after := #[{ on := 10, ground := Ground.data }, { on := 3, ground := Ground.guard }], guard := some (3, true) }) (v := ?vv9) rfl (by kernel_rfl) (by kernel_rfl) (by kernel_rfl) (fun _ _ _ h => h) (Or.inl ⟨by rfl, ?hy9⟩) hS0 ?rest9
  case hy9 =>
    intro V hV
    obtain _ := hV
    go_simp
    all_goals rfl
  simp only [Act.put, List.setIfInBounds_toArray, List.set_cons_zero, List.set_cons_succ]
  refine wpAnyH_take (i := 13) (oi := { dst := some 62, op := Op.move (Operand.tmp 0), type := 23, pos := "utf8.go:488", after := #[{ on := 3, ground := Ground.guard }], guard := some (3, true) }) (v := ?vv10) rfl (by kernel_rfl) (by kernel_rfl) (by kernel_rfl) (fun _ _ _ h => h) (Or.inl ⟨by rfl, ?hy10⟩) hS0 ?rest10
  case hy10 =>
    intro V hV
    obtain _ := hV
    go_simp
    all_goals rfl
  simp only [Act.put, List.setIfInBounds_toArray, List.set_cons_zero, List.set_cons_succ]
  refine wpAnyH_take (i := 14) (oi := { dst := some 63, op := Op.slice 23 (Operand.tmp 62) (some (Operand.const (Value.int IntKind.i64 24))) none none, type := 23, pos := "utf8.go:488", after := #[{ on := 13, ground := Ground.data }, { on := 3, ground := Ground.guard }], guard := some (3, true) }) (v := ?vv11) rfl (by kernel_rfl) (by kernel_rfl) (by kernel_rfl) (fun _ _ _ h => h) (Or.inl ⟨by rfl, ?hy11⟩) hS0 ?rest11
  case hy11 =>
    intro V hV
    obtain _ := hV
    go_simp
    all_goals rfl
  simp only [Act.put, List.setIfInBounds_toArray, List.set_cons_zero, List.set_cons_succ]
  refine wpAnyH_ready (rs := [5]) (by kernel_rfl) (by simp) (AllReadyH.cons (o := { dst := some 54, op := Op.call { callee := Callee.value (Operand.func 41), args := #[Operand.tmp 53], argTypes := #[23] }, type := 12, pos := "utf8.go:488", after := #[{ on := 4, ground := Ground.data }, { on := 3, ground := Ground.chain }, { on := 3, ground := Ground.guard }], guard := some (3, true) }) rfl (fun K' hK => ?_) AllReadyH.nil)
  refine step_call1f _ (by rfl) 41 _ _ (by rfl) (enters_of Tryz.func41 (by kernel_rfl) rfl) _ (by rfl) (H1.out _ KD) ?_
  rintro e w1 ⟨rfl, K1'⟩
  have K1 := KD.and K1'
  clear K1'
  refine ⟨_, rfl, ?_⟩
  refine hK.out _ _ (HS.out _ K1) (fun _ => ?_)
  clear hK K'
  try (simp only [Act.put, List.setIfInBounds_toArray, List.set_cons_zero, List.set_cons_succ])
  refine wpAnyH_ready (rs := [8]) (by kernel_rfl) (by simp) (AllReadyH.cons (o := { dst := some 57, op := Op.call { callee := Callee.value (Operand.func 41), args := #[Operand.tmp 56], argTypes := #[23] }, type := 12, pos := "utf8.go:488", after := #[{ on := 7, ground := Ground.data }, { on := 5, ground := Ground.chain }, { on := 3, ground := Ground.guard }], guard := some (3, true) }) rfl (fun K' hK => ?_) AllReadyH.nil)
  refine step_call1f _ (by rfl) 41 _ _ (by rfl) (enters_of Tryz.func41 (by kernel_rfl) rfl) _ (by rfl) (H2.out _ K1) ?_
  rintro e w2 ⟨rfl, K2'⟩
  have K2 := K1.and K2'
  clear K2'
  refine ⟨_, rfl, ?_⟩
  refine hK.out _ _ (HS.out _ K2) (fun _ => ?_)
  clear hK K'
  try (simp only [Act.put, List.setIfInBounds_toArray, List.set_cons_zero, List.set_cons_succ])
  refine wpAnyH_take (i := 9) (oi := { dst := some 58, op := Op.binOp BinOp.or 12 (Operand.tmp 54) (Operand.tmp 57) 12, type := 12, pos := "utf8.go:488", after := #[{ on := 5, ground := Ground.data }, { on := 8, ground := Ground.data }, { on := 3, ground := Ground.guard }], guard := some (3, true) }) (v := ?vv12) rfl (by kernel_rfl) (by kernel_rfl) (by kernel_rfl) (fun _ _ _ h => h) (Or.inl ⟨by rfl, ?hy12⟩) (HS.out _ K2) ?rest12
  case hy12 =>
    intro V hV
    obtain _ := hV
    go_simp
    all_goals rfl
  simp only [Act.put, List.setIfInBounds_toArray, List.set_cons_zero, List.set_cons_succ]
  refine wpAnyH_ready (rs := [12]) (by kernel_rfl) (by simp) (AllReadyH.cons (o := { dst := some 61, op := Op.call { callee := Callee.value (Operand.func 41), args := #[Operand.tmp 60], argTypes := #[23] }, type := 12, pos := "utf8.go:488", after := #[{ on := 11, ground := Ground.data }, { on := 8, ground := Ground.chain }, { on := 3, ground := Ground.guard }], guard := some (3, true) }) rfl (fun K' hK => ?_) AllReadyH.nil)
  refine step_call1f _ (by rfl) 41 _ _ (by rfl) (enters_of Tryz.func41 (by kernel_rfl) rfl) _ (by rfl) (H3.out _ K2) ?_
  rintro e w3 ⟨rfl, K3'⟩
  have K3 := K2.and K3'
  clear K3'
  refine ⟨_, rfl, ?_⟩
  refine hK.out _ _ (HS.out _ K3) (fun _ => ?_)
  clear hK K'
  try (simp only [Act.put, List.setIfInBounds_toArray, List.set_cons_zero, List.set_cons_succ])
  refine wpAnyH_ready (rs := [15]) (by kernel_rfl) (by simp) (AllReadyH.cons (o := { dst := some 64, op := Op.call { callee := Callee.value (Operand.func 41), args := #[Operand.tmp 63], argTypes := #[23] }, type := 12, pos := "utf8.go:488", after := #[{ on := 14, ground := Ground.data }, { on := 12, ground := Ground.chain }, { on := 3, ground := Ground.guard }], guard := some (3, true) }) rfl (fun K' hK => ?_) AllReadyH.nil)
  refine step_call1f _ (by rfl) 41 _ _ (by rfl) (enters_of Tryz.func41 (by kernel_rfl) rfl) _ (by rfl) (H4.out _ K3) ?_
  rintro e w4 ⟨rfl, K4'⟩
  have K4 := K3.and K4'
  clear K4'
  refine ⟨_, rfl, ?_⟩
  refine hK.out _ _ (HS.out _ K4) (fun _ => ?_)
  clear hK K'
  try (simp only [Act.put, List.setIfInBounds_toArray, List.set_cons_zero, List.set_cons_succ])
  refine wpAnyH_take (i := 16) (oi := { dst := some 65, op := Op.binOp BinOp.or 12 (Operand.tmp 61) (Operand.tmp 64) 12, type := 12, pos := "utf8.go:488", after := #[{ on := 12, ground := Ground.data }, { on := 15, ground := Ground.data }, { on := 3, ground := Ground.guard }], guard := some (3, true) }) (v := ?vv13) rfl (by kernel_rfl) (by kernel_rfl) (by kernel_rfl) (fun _ _ _ h => h) (Or.inl ⟨by rfl, ?hy13⟩) (HS.out _ K4) ?rest13
  case hy13 =>
    intro V hV
    obtain _ := hV
    go_simp
    all_goals rfl
  simp only [Act.put, List.setIfInBounds_toArray, List.set_cons_zero, List.set_cons_succ]
  refine wpAnyH_take (i := 17) (oi := { dst := some 66, op := Op.binOp BinOp.or 12 (Operand.tmp 58) (Operand.tmp 65) 12, type := 12, pos := "utf8.go:488", after := #[{ on := 9, ground := Ground.data }, { on := 16, ground := Ground.data }, { on := 3, ground := Ground.guard }], guard := some (3, true) }) (v := ?vv14) rfl (by kernel_rfl) (by kernel_rfl) (by kernel_rfl) (fun _ _ _ h => h) (Or.inl ⟨by rfl, ?hy14⟩) (HS.out _ K4) ?rest14
  case hy14 =>
    intro V hV
    obtain _ := hV
    go_simp
    all_goals rfl
  simp only [Act.put, List.setIfInBounds_toArray, List.set_cons_zero, List.set_cons_succ]
  refine wpAnyH_take (i := 18) (oi := { dst := some 67, op := Op.binOp BinOp.and 12 (Operand.tmp 66) (Operand.const (Value.int IntKind.u64 9259542123273814144)) 12, type := 12, pos := "utf8.go:488", after := #[{ on := 17, ground := Ground.data }, { on := 3, ground := Ground.guard }], guard := some (3, true) }) (v := ?vv15) rfl (by kernel_rfl) (by kernel_rfl) (by kernel_rfl) (fun _ _ _ h => h) (Or.inl ⟨by rfl, ?hy15⟩) (HS.out _ K4) ?rest15
  case hy15 =>
    intro V hV
    obtain _ := hV
    go_simp
    all_goals rfl
  simp only [Act.put, List.setIfInBounds_toArray, List.set_cons_zero, List.set_cons_succ]
  refine wpAnyH_take (i := 19) (oi := { dst := some 68, op := Op.binOp BinOp.eql 12 (Operand.tmp 67) (Operand.const (Value.int IntKind.u64 0)) 12, type := 4, pos := "utf8.go:488", after := #[{ on := 18, ground := Ground.data }, { on := 3, ground := Ground.guard }], guard := some (3, true) }) (v := ?vv16) rfl (by kernel_rfl) (by kernel_rfl) (by kernel_rfl) (fun _ _ _ h => h) (Or.inl ⟨by rfl, ?hy16⟩) (HS.out _ K4) ?rest16
  case hy16 =>
    intro V hV
    obtain _ := hV
    go_simp
    all_goals rfl
  simp only [Act.put, List.setIfInBounds_toArray, List.set_cons_zero, List.set_cons_succ]
  refine wpAnyH_take (i := 20) (oi := { dst := some 69, op := Op.pick (Operand.tmp 52) (Operand.tmp 68) (Operand.const (Value.bool false)), type := 4, pos := "utf8.go:488", after := #[{ on := 3, ground := Ground.data }, { on := 19, ground := Ground.data }], guard := none }) (v := ?vv17) rfl (by kernel_rfl) (by kernel_rfl) (by kernel_rfl) (fun _ _ _ h => h) (Or.inl ⟨by rfl, ?hy17⟩) (HS.out _ K4) ?rest17
  case hy17 =>
    intro V hV
    obtain _ := hV
    go_simp
    all_goals rfl
  simp only [Act.put, List.setIfInBounds_toArray, List.set_cons_zero, List.set_cons_succ]
  refine wpAnyH_done (by kernel_rfl) ?_ _
  exact HH.out _ _ _ _ _ _ _ _ _ _ _ _ _ _ _ _ _ _ _ _ _ (K4)

end Go.Proofs.YtfiaaaflpjpnjaaGreatDoor
