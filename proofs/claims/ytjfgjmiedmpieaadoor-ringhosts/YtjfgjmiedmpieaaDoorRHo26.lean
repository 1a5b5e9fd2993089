/-
  RingHosts: what All tells is held against the document's row.
-/
import Derived.Test.YtjfgjmiedmpieaaDoorRHoKit
namespace Go.Proofs.YtjfgjmiedmpieaaDoor
open Go.RowKit Go.Shelf

/-- A call of a Go function of one argument, as a step of a region that draws. -/
theorem step_call1g {P : Program} {ops : Array Oper} {o : Oper} {a : Act} (w : World) {K : Act → World → Prop} {Q : Exit → Act → World → Prop} {E : Prop}
    (hg : Region.wanted o (yielded ops a.tmps) = true) (f : Nat) (x : Operand) (t : TypeId) (hop : o.op = Op.call { callee := .value (.func f), args := #[x], argTypes := #[t] })
    (he : ∀ args w, (callFunc f args).run P w = .ok (.enter f args) w) (v : Value) (hx : a.eval x = v) {R : Ending → World → Prop} (hC : Calls P f #[v] w R)
    (hK : ∀ e w', R e w' → ∃ u, e = .returned u ∧ K (a.put o.dst u) w') :
    if Region.wanted o (yielded ops a.tmps) = true then Oper.wp P o a w K Q else E := by
  rw [if_pos hg]
  unfold Oper.wp
  have hf : a.eval (.func f) = .func (.func f) #[] #[] := rfl
  simp [execOp, hop, resolve, invoke, hf, hx, he, Deferred.ofValue]
  refine hC.mono ?_
  rintro e w' h
  obtain ⟨u, rfl, k⟩ := hK e w' h
  exact k

set_option maxRecDepth 100000 in
set_option maxHeartbeats 4000000 in
theorem ho26 {W : World} {L n bq bn qb g k nr cap : Nat} {z : Pt} {h : Int} {ds : List Deferred} {u0 u1 u2 u3 u4 u5 u6 u7 u8 u9 u11 u12 u13 u14 u15 u16 u17 u21 u22 u23 u24 u25 u26 u27 u28 u29 u30 u31 u32 u33 u34 u35 u36 u37 u38 u39 u40 u41 u42 u43 u44 u45 u46 u47 u48 u49 u50 u51 u52 u53 u54 u55 u56 u57 u58 u59 u60 u61 u62 u63 u64 u65 u66 u67 u68 u69 u70 u71 u72 u73 u74 u75 u76 u77 u78 u79 u80 u81 u82 u83 u84 u85 u86 u87 u88 u89 u90 u91 u92 u93 u94 u95 u96 u97 u98 u99 u100 u101 u102 u103 u104 u105 u106 u107 u108 u109 u110 u111 u112 u113 u114 u115 u116 u117 u118 u119 u120 u121 u122 u123 u124 u125 u126 u127 u128 u129 u130 u131 u132 u133 u134 u135 u136 u137 u138 u139 u140 u141 u142 u143 u144 u145 u146 u147 u148 u149 u150 u151 u152 u153 u154 u155 u156 u157 u158 u159 u160 u161 u162 u163 u164 u165 u166 u167 u168 u169 u170 u171 u172 u173 u174 u175 u176 u177 u178 u179 u180 u181 u182 u183 u184 u185 u186 u187 u188 u189 u190 u191 u192 u193 : Value} (K : Act → World → Prop)
    (xn : W.cell? ⟨bn, 0, none⟩ = some (.int .i64 (k : Int))) (xq : W.cell? ⟨bq, 0, none⟩ = some (.pointer (some ⟨qb, 0, none⟩))) (xl : W.cell? ⟨qb, 0, none⟩ = some (.slice (some ⟨g, 0, none⟩) nr cap)) (x0 : W.cell? ⟨g, k * 3, none⟩ = some (.int .i64 z.1)) (x1 : W.cell? ⟨g, k * 3 + 1, none⟩ = some (.int .i64 z.2)) (x2 : W.cell? ⟨g, k * 3 + 2, none⟩ = some (.int .i64 h))
    (hk : k < nr) (hz : InSq z)
    (hh : ∀ (v135 v136 v137 v138 v139 v140 v141 v142 v143 v144 v145 v146 v147 v148 v149 v150 v151 v152 v153 v154 v155 v156 v157 v158 v159 v160 v161 v162 v163 v164 v165 : Value) (w9 : World), Kept (fun _ => False) W.drew w9 → K { tmps := #[u0, u1, u2, u3, u4, u5, u6, u7, u8, u9, .pointer (some ⟨bq, 0, none⟩), u11, u12, u13, u14, u15, u16, u17, .pointer (some ⟨bn, 0, none⟩), .complex .f64 (fl z.1) (fl z.2), .int .i64 h, u21, u22, u23, u24, u25, u26, u27, u28, u29, u30, u31, u32, u33, u34, u35, u36, u37, u38, u39, u40, u41, u42, u43, u44, u45, u46, u47, u48, u49, u50, u51, u52, u53, u54, u55, u56, u57, u58, u59, u60, u61, u62, u63, u64, u65, u66, u67, u68, u69, u70, u71, u72, u73, u74, u75, u76, u77, u78, u79, u80, u81, u82, u83, u84, u85, u86, u87, u88, u89, u90, u91, u92, u93, u94, u95, u96, u97, u98, u99, u100, u101, u102, u103, u104, u105, u106, u107, u108, u109, u110, u111, u112, u113, u114, u115, u116, u117, u118, u119, u120, u121, u122, u123, u124, u125, u126, u127, u128, u129, u130, u131, u132, u133, u134, v135, v136, v137, v138, v139, v140, v141, v142, v143, v144, v145, v146, v147, v148, v149, v150, v151, v152, v153, v154, v155, v156, v157, v158, v159, v160, v161, v162, v163, v164, v165, .bool false, u167, u168, u169, u170, u171, u172, u173, u174, u175, u176, u177, u178, u179, u180, u181, u182, u183, u184, u185, u186, u187, u188, u189, u190, u191, u192, u193], defers := ds } w9) :
    (Code.region 26 #[{ dst := some 135, op := Op.load 3 (Operand.tmp 18), type := 3, pos := "law.go:100", after := #[], guard := none }, { dst := some 136, op := Op.load 29 (Operand.tmp 10), type := 29, pos := "law.go:100", after := #[], guard := none }, { dst := some 137, op := Op.nilCheck (Operand.tmp 136), type := 0, pos := "law.go:100", after := #[{ on := 1, ground := Ground.data }], guard := none }, { dst := some 138, op := Op.fieldAddr 37 (Operand.tmp 137) 0, type := 0, pos := "law.go:100", after := #[{ on := 2, ground := Ground.data }], guard := none }, { dst := some 139, op := Op.load 35 (Operand.tmp 138), type := 35, pos := "law.go:100", after := #[{ on := 3, ground := Ground.data }], guard := none }, { dst := some 140, op := Op.call { callee := Callee.builtin Builtin.len, args := #[Operand.tmp 139], argTypes := #[35] }, type := 3, pos := "law.go:100", after := #[{ on := 4, ground := Ground.data }], guard := none }, { dst := some 141, op := Op.binOp BinOp.geq 3 (Operand.tmp 135) (Operand.tmp 140) 3, type := 4, pos := "law.go:100", after := #[{ on := 0, ground := Ground.data }, { on := 5, ground := Ground.data }], guard := none }, { dst := some 142, op := Op.move (Operand.tmp 141), type := 4, pos := "law.go:100", after := #[{ on := 6, ground := Ground.data }], guard := none }, { dst := some 143, op := Op.move (Operand.tmp 19), type := 45, pos := "law.go:100", after := #[{ on := 7, ground := Ground.guard }], guard := some (7, false) }, { dst := some 144, op := Op.load 29 (Operand.tmp 10), type := 29, pos := "law.go:100", after := #[{ on := 7, ground := Ground.guard }], guard := some (7, false) }, { dst := some 145, op := Op.nilCheck (Operand.tmp 144), type := 0, pos := "law.go:100", after := #[{ on := 9, ground := Ground.data }, { on := 7, ground := Ground.guard }], guard := some (7, false) }, { dst := some 146, op := Op.fieldAddr 37 (Operand.tmp 145) 0, type := 0, pos := "law.go:100", after := #[{ on := 10, ground := Ground.data }, { on := 7, ground := Ground.guard }], guard := some (7, false) }, { dst := some 147, op := Op.load 35 (Operand.tmp 146), type := 35, pos := "law.go:100", after := #[{ on := 11, ground := Ground.data }, { on := 7, ground := Ground.guard }], guard := some (7, false) }, { dst := some 148, op := Op.load 3 (Operand.tmp 18), type := 3, pos := "law.go:100", after := #[{ on := 7, ground := Ground.guard }], guard := some (7, false) }, { dst := some 149, op := Op.indexAddr 35 (Operand.tmp 147) (Operand.tmp 148), type := 0, pos := "law.go:100", after := #[{ on := 12, ground := Ground.data }, { on := 13, ground := Ground.data }, { on := 7, ground := Ground.guard }], guard := some (7, false) }, { dst := some 150, op := Op.fieldAddr 49 (Operand.tmp 149) 0, type := 0, pos := "law.go:100", after := #[{ on := 14, ground := Ground.data }, { on := 7, ground := Ground.guard }], guard := some (7, false) }, { dst := some 151, op := Op.load 47 (Operand.tmp 150), type := 47, pos := "law.go:100", after := #[{ on := 15, ground := Ground.data }, { on := 7, ground := Ground.guard }], guard := some (7, false) }, { dst := some 152, op := Op.call { callee := Callee.value (Operand.func 15), args := #[Operand.tmp 151], argTypes := #[47] }, type := 45, pos := "law.go:100", after := #[{ on := 16, ground := Ground.data }, { on := 7, ground := Ground.chain }, { on := 7, ground := Ground.guard }], guard := some (7, false) }, { dst := some 153, op := Op.binOp BinOp.neq 45 (Operand.tmp 143) (Operand.tmp 152) 45, type := 4, pos := "law.go:100", after := #[{ on := 8, ground := Ground.data }, { on := 17, ground := Ground.data }, { on := 7, ground := Ground.guard }], guard := some (7, false) }, { dst := some 154, op := Op.pick (Operand.tmp 142) (Operand.const (Value.bool true)) (Operand.tmp 153), type := 4, pos := "law.go:100", after := #[{ on := 7, ground := Ground.data }, { on := 18, ground := Ground.data }], guard := none }, { dst := some 155, op := Op.move (Operand.tmp 154), type := 4, pos := "law.go:100", after := #[{ on := 19, ground := Ground.data }, { on := 17, ground := Ground.chain }], guard := none }, { dst := some 156, op := Op.move (Operand.tmp 20), type := 3, pos := "law.go:100", after := #[{ on := 20, ground := Ground.guard }], guard := some (20, false) }, { dst := some 157, op := Op.load 29 (Operand.tmp 10), type := 29, pos := "law.go:100", after := #[{ on := 20, ground := Ground.guard }], guard := some (20, false) }, { dst := some 158, op := Op.nilCheck (Operand.tmp 157), type := 0, pos := "law.go:100", after := #[{ on := 22, ground := Ground.data }, { on := 20, ground := Ground.guard }], guard := some (20, false) }, { dst := some 159, op := Op.fieldAddr 37 (Operand.tmp 158) 0, type := 0, pos := "law.go:100", after := #[{ on := 23, ground := Ground.data }, { on := 20, ground := Ground.guard }], guard := some (20, false) }, { dst := some 160, op := Op.load 35 (Operand.tmp 159), type := 35, pos := "law.go:100", after := #[{ on := 24, ground := Ground.data }, { on := 20, ground := Ground.guard }], guard := some (20, false) }, { dst := some 161, op := Op.load 3 (Operand.tmp 18), type := 3, pos := "law.go:100", after := #[{ on := 20, ground := Ground.guard }], guard := some (20, false) }, { dst := some 162, op := Op.indexAddr 35 (Operand.tmp 160) (Operand.tmp 161), type := 0, pos := "law.go:100", after := #[{ on := 25, ground := Ground.data }, { on := 26, ground := Ground.data }, { on := 20, ground := Ground.guard }], guard := some (20, false) }, { dst := some 163, op := Op.fieldAddr 49 (Operand.tmp 162) 1, type := 0, pos := "law.go:100", after := #[{ on := 27, ground := Ground.data }, { on := 20, ground := Ground.guard }], guard := some (20, false) }, { dst := some 164, op := Op.load 3 (Operand.tmp 163), type := 3, pos := "law.go:100", after := #[{ on := 28, ground := Ground.data }, { on := 20, ground := Ground.guard }], guard := some (20, false) }, { dst := some 165, op := Op.binOp BinOp.neq 3 (Operand.tmp 156) (Operand.tmp 164) 3, type := 4, pos := "law.go:100", after := #[{ on := 21, ground := Ground.data }, { on := 29, ground := Ground.data }, { on := 20, ground := Ground.guard }], guard := some (20, false) }, { dst := some 166, op := Op.pick (Operand.tmp 155) (Operand.const (Value.bool true)) (Operand.tmp 165), type := 4, pos := "law.go:100", after := #[{ on := 20, ground := Ground.data }, { on := 30, ground := Ground.data }], guard := none }] true).wpIn (Fence.wide.inRound L) n Tryd.prog (nrm K) { tmps := #[u0, u1, u2, u3, u4, u5, u6, u7, u8, u9, .pointer (some ⟨bq, 0, none⟩), u11, u12, u13, u14, u15, u16, u17, .pointer (some ⟨bn, 0, none⟩), .complex .f64 (fl z.1) (fl z.2), .int .i64 h, u21, u22, u23, u24, u25, u26, u27, u28, u29, u30, u31, u32, u33, u34, u35, u36, u37, u38, u39, u40, u41, u42, u43, u44, u45, u46, u47, u48, u49, u50, u51, u52, u53, u54, u55, u56, u57, u58, u59, u60, u61, u62, u63, u64, u65, u66, u67, u68, u69, u70, u71, u72, u73, u74, u75, u76, u77, u78, u79, u80, u81, u82, u83, u84, u85, u86, u87, u88, u89, u90, u91, u92, u93, u94, u95, u96, u97, u98, u99, u100, u101, u102, u103, u104, u105, u106, u107, u108, u109, u110, u111, u112, u113, u114, u115, u116, u117, u118, u119, u120, u121, u122, u123, u124, u125, u126, u127, u128, u129, u130, u131, u132, u133, u134, u135, u136, u137, u138, u139, u140, u141, u142, u143, u144, u145, u146, u147, u148, u149, u150, u151, u152, u153, u154, u155, u156, u157, u158, u159, u160, u161, u162, u163, u164, u165, u166, u167, u168, u169, u170, u171, u172, u173, u174, u175, u176, u177, u178, u179, u180, u181, u182, u183, u184, u185, u186, u187, u188, u189, u190, u191, u192, u193], defers := ds } W := by
  have KD := Kept.drew (fun _ => False) W
  have HS : Hid (∀ V, Kept (fun _ => False) W.drew V → V.cell? ⟨bn, 0, none⟩ = some (.int .i64 (k : Int)) ∧ V.cell? ⟨bq, 0, none⟩ = some (.pointer (some ⟨qb, 0, none⟩)) ∧ V.cell? ⟨qb, 0, none⟩ = some (.slice (some ⟨g, 0, none⟩) nr cap) ∧ V.cell? ⟨g, k * 3, none⟩ = some (.int .i64 z.1) ∧ V.cell? ⟨g, k * 3 + 1, none⟩ = some (.int .i64 z.2) ∧ V.cell? ⟨g, k * 3 + 2, none⟩ = some (.int .i64 h)) := fun V hV => by
    have hW := KD.and hV
    exact ⟨cellKept hW xn, cellKept hW xq, cellKept hW xl, cellKept hW x0, cellKept hW x1, cellKept hW x2⟩
  have hZ := refZ_any W.drew z
  unfold pv cx at hZ
  have q1 := isF_eq hz.f1 hz.f1
  have q2 := isF_eq hz.f2 hz.f2
  simp only [decide_true] at q1 q2
  have hnq : ∀ V, (binOp .neq 45 (.complex .f64 (fl z.1) (fl z.2)) (.complex .f64 (fl z.1) (fl z.2))).run Tryd.prog V = .ok (.bool false) V := fun V => by
    rw [run_neq_complex, q1, q2]
    rfl
  have g1 : (k : Int) < (nr : Int) := by omega
  have g2 : decide ((nr : Int) ≤ (k : Int)) = false := by simp; omega
  have g3 : decide (nr ≤ k) = false := by simp; omega
  have g4 : (0 : Int) ≤ (k : Int) := by omega
  have g5 : (h != h) = false := by simp
  clear xn xq xl x0 x1 x2 q1 q2 hz
  refine region_round_held (fun V => Kept (fun _ => False) W.drew V) (by kernel_rfl) (by kernel_rfl) (nrm_out _) ?_
  refine wpAnyH_take (i := 0) (oi := { dst := some 135, op := Op.load 3 (Operand.tmp 18), type := 3, pos := "law.go:100", after := #[], guard := none }) (v := ?vv0) rfl (by kernel_rfl) (by kernel_rfl) (by kernel_rfl) (fun _ _ _ h => h) (Or.inl ⟨by rfl, ?hy0⟩) (Kept.refl _ _) ?rest0
  case hy0 =>
    intro V hV
    obtain ⟨xn, xq, xl, x0, x1, x2⟩ := HS.out V hV
    go_simp
    all_goals rfl
  simp only [Act.put, List.setIfInBounds_toArray, List.set_cons_zero, List.set_cons_succ]
  refine wpAnyH_take (i := 1) (oi := { dst := some 136, op := Op.load 29 (Operand.tmp 10), type := 29, pos := "law.go:100", after := #[], guard := none }) (v := ?vv1) rfl (by kernel_rfl) (by kernel_rfl) (by kernel_rfl) (fun _ _ _ h => h) (Or.inl ⟨by rfl, ?hy1⟩) (Kept.refl _ _) ?rest1
  case hy1 =>
    intro V hV
    obtain ⟨xn, xq, xl, x0, x1, x2⟩ := HS.out V hV
    go_simp
    all_goals rfl
  simp only [Act.put, List.setIfInBounds_toArray, List.set_cons_zero, List.set_cons_succ]
  refine wpAnyH_take (i := 2) (oi := { dst := some 137, op := Op.nilCheck (Operand.tmp 136), type := 0, pos := "law.go:100", after := #[{ on := 1, ground := Ground.data }], guard := none }) (v := ?vv2) rfl (by kernel_rfl) (by kernel_rfl) (by kernel_rfl) (fun _ _ _ h => h) (Or.inl ⟨by rfl, ?hy2⟩) (Kept.refl _ _) ?rest2
  case hy2 =>
    intro V hV
    obtain ⟨xn, xq, xl, x0, x1, x2⟩ := HS.out V hV
    go_simp
    all_goals rfl
  simp only [Act.put, List.setIfInBounds_toArray, List.set_cons_zero, List.set_cons_succ]
  refine wpAnyH_take (i := 3) (oi := { dst := some 138, op := Op.fieldAddr 37 (Operand.tmp 137) 0, type := 0, pos := "law.go:100", after := #[{ on := 2, ground := Ground.data }], guard := none }) (v := ?vv3) rfl (by kernel_rfl) (by kernel_rfl) (by kernel_rfl) (fun _ _ _ h => h) (Or.inl ⟨by rfl, ?hy3⟩) (Kept.refl _ _) ?rest3
  case hy3 =>
    intro V hV
    obtain ⟨xn, xq, xl, x0, x1, x2⟩ := HS.out V hV
    go_simp
    all_goals rfl
  simp only [Act.put, List.setIfInBounds_toArray, List.set_cons_zero, List.set_cons_succ]
  refine wpAnyH_take (i := 4) (oi := { dst := some 139, op := Op.load 35 (Operand.tmp 138), type := 35, pos := "law.go:100", after := #[{ on := 3, ground := Ground.data }], guard := none }) (v := ?vv4) rfl (by kernel_rfl) (by kernel_rfl) (by kernel_rfl) (fun _ _ _ h => h) (Or.inl ⟨by rfl, ?hy4⟩) (Kept.refl _ _) ?rest4
  case hy4 =>
    intro V hV
    obtain ⟨xn, xq, xl, x0, x1, x2⟩ := HS.out V hV
    go_simp
    all_goals rfl
  simp only [Act.put, List.setIfInBounds_toArray, List.set_cons_zero, List.set_cons_succ]
  refine wpAnyH_take (i := 5) (oi := { dst := some 140, op := Op.call { callee := Callee.builtin Builtin.len, args := #[Operand.tmp 139], argTypes := #[35] }, type := 3, pos := "law.go:100", after := #[{ on := 4, ground := Ground.data }], guard := none }) (v := ?vv5) rfl (by kernel_rfl) (by kernel_rfl) (by kernel_rfl) (fun _ _ _ h => h) (Or.inl ⟨by rfl, ?hy5⟩) (Kept.refl _ _) ?rest5
  case hy5 =>
    intro V hV
    obtain ⟨xn, xq, xl, x0, x1, x2⟩ := HS.out V hV
    go_simp
    all_goals rfl
  simp only [Act.put, List.setIfInBounds_toArray, List.set_cons_zero, List.set_cons_succ]
  refine wpAnyH_take (i := 6) (oi := { dst := some 141, op := Op.binOp BinOp.geq 3 (Operand.tmp 135) (Operand.tmp 140) 3, type := 4, pos := "law.go:100", after := #[{ on := 0, ground := Ground.data }, { on := 5, ground := Ground.data }], guard := none }) (v := ?vv6) rfl (by kernel_rfl) (by kernel_rfl) (by kernel_rfl) (fun _ _ _ h => h) (Or.inl ⟨by rfl, ?hy6⟩) (Kept.refl _ _) ?rest6
  case hy6 =>
    intro V hV
    obtain ⟨xn, xq, xl, x0, x1, x2⟩ := HS.out V hV
    go_simp
    all_goals rfl
  simp only [Act.put, List.setIfInBounds_toArray, List.set_cons_zero, List.set_cons_succ]
  refine wpAnyH_take (i := 7) (oi := { dst := some 142, op := Op.move (Operand.tmp 141), type := 4, pos := "law.go:100", after := #[{ on := 6, ground := Ground.data }], guard := none }) (v := ?vv7) rfl (by kernel_rfl) (by kernel_rfl) (by kernel_rfl) (fun _ _ _ h => h) (Or.inl ⟨by rfl, ?hy7⟩) (Kept.refl _ _) ?rest7
  case hy7 =>
    intro V hV
    obtain ⟨xn, xq, xl, x0, x1, x2⟩ := HS.out V hV
    go_simp
    all_goals rfl
  simp only [Act.put, List.setIfInBounds_toArray, List.set_cons_zero, List.set_cons_succ]
  refine wpAnyH_take (i := 8) (oi := { dst := some 143, op := Op.move (Operand.tmp 19), type := 45, pos := "law.go:100", after := #[{ on := 7, ground := Ground.guard }], guard := some (7, false) }) (v := ?vv8) rfl (by kernel_rfl) (by kernel_rfl) (by kernel_rfl) (fun _ _ _ h => h) (Or.inl ⟨by rfl, ?hy8⟩) (Kept.refl _ _) ?rest8
  case hy8 =>
    intro V hV
    obtain ⟨xn, xq, xl, x0, x1, x2⟩ := HS.out V hV
    go_simp
    all_goals rfl
  simp only [Act.put, List.setIfInBounds_toArray, List.set_cons_zero, List.set_cons_succ]
  refine wpAnyH_take (i := 9) (oi := { dst := some 144, op := Op.load 29 (Operand.tmp 10), type := 29, pos := "law.go:100", after := #[{ on := 7, ground := Ground.guard }], guard := some (7, false) }) (v := ?vv9) rfl (by kernel_rfl) (by kernel_rfl) (by kernel_rfl) (fun _ _ _ h => h) (Or.inl ⟨by rfl, ?hy9⟩) (Kept.refl _ _) ?rest9
  case hy9 =>
    intro V hV
    obtain ⟨xn, xq, xl, x0, x1, x2⟩ := HS.out V hV
    go_simp
    all_goals rfl
  simp only [Act.put, List.setIfInBounds_toArray, List.set_cons_zero, List.set_cons_succ]
  refine wpAnyH_take (i := 10) (oi := { dst := some 145, op := Op.nilCheck (Operand.tmp 144), type := 0, pos := "law.go:100", after := #[{ on := 9, ground := Ground.data }, { on := 7, ground := Ground.guard }], guard := some (7, false) }) (v := ?vv10) rfl (by kernel_rfl) (by kernel_rfl) (by kernel_rfl) (fun _ _ _ h => h) (Or.inl ⟨by rfl, ?hy10⟩) (Kept.refl _ _) ?rest10
  case hy10 =>
    intro V hV
    obtain ⟨xn, xq, xl, x0, x1, x2⟩ := HS.out V hV
    go_simp
    all_goals rfl
  simp only [Act.put, List.setIfInBounds_toArray, List.set_cons_zero, List.set_cons_succ]
  refine wpAnyH_take (i := 11) (oi := { dst := some 146, op := Op.fieldAddr 37 (Operand.tmp 145) 0, type := 0, pos := "law.go:100", after := #[{ on := 10, ground := Ground.data }, { on := 7, ground := Ground.guard }], guard := some (7, false) }) (v := ?vv11) rfl (by kernel_rfl) (by kernel_rfl) (by kernel_rfl) (fun _ _ _ h => h) (Or.inl ⟨by rfl, ?hy11⟩) (Kept.refl _ _) ?rest11
  case hy11 =>
    intro V hV
    obtain ⟨xn, xq, xl, x0, x1, x2⟩ := HS.out V hV
    go_simp
    all_goals rfl
  simp only [Act.put, List.setIfInBounds_toArray, List.set_cons_zero, List.set_cons_succ]
  refine wpAnyH_take (i := 12) (oi := { dst := some 147, op := Op.load 35 (Operand.tmp 146), type := 35, pos := "law.go:100", after := #[{ on := 11, ground := Ground.data }, { on := 7, ground := Ground.guard }], guard := some (7, false) }) (v := ?vv12) rfl (by kernel_rfl) (by kernel_rfl) (by kernel_rfl) (fun _ _ _ h => h) (Or.inl ⟨by rfl, ?hy12⟩) (Kept.refl _ _) ?rest12
  case hy12 =>
    intro V hV
    obtain ⟨xn, xq, xl, x0, x1, x2⟩ := HS.out V hV
    go_simp
    all_goals rfl
  simp only [Act.put, List.setIfInBounds_toArray, List.set_cons_zero, List.set_cons_succ]
  refine wpAnyH_take (i := 13) (oi := { dst := some 148, op := Op.load 3 (Operand.tmp 18), type := 3, pos := "law.go:100", after := #[{ on := 7, ground := Ground.guard }], guard := some (7, false) }) (v := ?vv13) rfl (by kernel_rfl) (by kernel_rfl) (by kernel_rfl) (fun _ _ _ h => h) (Or.inl ⟨by rfl, ?hy13⟩) (Kept.refl _ _) ?rest13
  case hy13 =>
    intro V hV
    obtain ⟨xn, xq, xl, x0, x1, x2⟩ := HS.out V hV
    go_simp
    all_goals rfl
  simp only [Act.put, List.setIfInBounds_toArray, List.set_cons_zero, List.set_cons_succ]
  refine wpAnyH_take (i := 14) (oi := { dst := some 149, op := Op.indexAddr 35 (Operand.tmp 147) (Operand.tmp 148), type := 0, pos := "law.go:100", after := #[{ on := 12, ground := Ground.data }, { on := 13, ground := Ground.data }, { on := 7, ground := Ground.guard }], guard := some (7, false) }) (v := ?vv14) rfl (by kernel_rfl) (by kernel_rfl) (by kernel_rfl) (fun _ _ _ h => h) (Or.inl ⟨by rfl, ?hy14⟩) (Kept.refl _ _) ?rest14
  case hy14 =>
    intro V hV
    obtain ⟨xn, xq, xl, x0, x1, x2⟩ := HS.out V hV
    go_simp
    all_goals rfl
  simp only [Act.put, List.setIfInBounds_toArray, List.set_cons_zero, List.set_cons_succ]
  refine wpAnyH_take (i := 15) (oi := { dst := some 150, op := Op.fieldAddr 49 (Operand.tmp 149) 0, type := 0, pos := "law.go:100", after := #[{ on := 14, ground := Ground.data }, { on := 7, ground := Ground.guard }], guard := some (7, false) }) (v := ?vv15) rfl (by kernel_rfl) (by kernel_rfl) (by kernel_rfl) (fun _ _ _ h => h) (Or.inl ⟨by rfl, ?hy15⟩) (Kept.refl _ _) ?rest15
  case hy15 =>
    intro V hV
    obtain ⟨xn, xq, xl, x0, x1, x2⟩ := HS.out V hV
    go_simp
    all_goals rfl
  simp only [Act.put, List.setIfInBounds_toArray, List.set_cons_zero, List.set_cons_succ]
  refine wpAnyH_take (i := 16) (oi := { dst := some 151, op := Op.load 47 (Operand.tmp 150), type := 47, pos := "law.go:100", after := #[{ on := 15, ground := Ground.data }, { on := 7, ground := Ground.guard }], guard := some (7, false) }) (v := ?vv16) rfl (by kernel_rfl) (by kernel_rfl) (by kernel_rfl) (fun _ _ _ h => h) (Or.inl ⟨by rfl, ?hy16⟩) (Kept.refl _ _) ?rest16
  case hy16 =>
    intro V hV
    obtain ⟨xn, xq, xl, x0, x1, x2⟩ := HS.out V hV
    go_simp
    all_goals rfl
  simp only [Act.put, List.setIfInBounds_toArray, List.set_cons_zero, List.set_cons_succ]
  refine wpAnyH_ready (rs := [17]) (by kernel_rfl) (by simp) (AllReadyH.cons (o := { dst := some 152, op := Op.call { callee := Callee.value (Operand.func 15), args := #[Operand.tmp 151], argTypes := #[47] }, type := 45, pos := "law.go:100", after := #[{ on := 16, ground := Ground.data }, { on := 7, ground := Ground.chain }, { on := 7, ground := Ground.guard }], guard := some (7, false) }) rfl (fun K' hK => ?_) AllReadyH.nil)
  refine step_call1g _ rfl 15 _ _ rfl (enters_of Tryd.func15 (by kernel_rfl) rfl) _ (by rfl) hZ ?_
  rintro e w9 ⟨rfl, K9⟩
  refine ⟨_, rfl, ?_⟩
  refine hK.out _ _ K9 (fun _ => ?_)
  clear hK K'
  simp only [Act.put, List.setIfInBounds_toArray, List.set_cons_zero, List.set_cons_succ]
  refine wpAnyH_take (i := 18) (oi := { dst := some 153, op := Op.binOp BinOp.neq 45 (Operand.tmp 143) (Operand.tmp 152) 45, type := 4, pos := "law.go:100", after := #[{ on := 8, ground := Ground.data }, { on := 17, ground := Ground.data }, { on := 7, ground := Ground.guard }], guard := some (7, false) }) (v := ?vv18) rfl (by kernel_rfl) (by kernel_rfl) (by kernel_rfl) (fun _ _ _ h => h) (Or.inl ⟨by rfl, ?hy18⟩) K9 ?rest18
  case hy18 =>
    intro V hV
    obtain ⟨xn, xq, xl, x0, x1, x2⟩ := HS.out V hV
    go_simp
    all_goals rfl
  simp only [Act.put, List.setIfInBounds_toArray, List.set_cons_zero, List.set_cons_succ]
  refine wpAnyH_take (i := 19) (oi := { dst := some 154, op := Op.pick (Operand.tmp 142) (Operand.const (Value.bool true)) (Operand.tmp 153), type := 4, pos := "law.go:100", after := #[{ on := 7, ground := Ground.data }, { on := 18, ground := Ground.data }], guard := none }) (v := ?vv19) rfl (by kernel_rfl) (by kernel_rfl) (by kernel_rfl) (fun _ _ _ h => h) (Or.inl ⟨by rfl, ?hy19⟩) K9 ?rest19
  case hy19 =>
    intro V hV
    obtain ⟨xn, xq, xl, x0, x1, x2⟩ := HS.out V hV
    go_simp
    all_goals rfl
  simp only [Act.put, List.setIfInBounds_toArray, List.set_cons_zero, List.set_cons_succ]
  refine wpAnyH_take (i := 20) (oi := { dst := some 155, op := Op.move (Operand.tmp 154), type := 4, pos := "law.go:100", after := #[{ on := 19, ground := Ground.data }, { on := 17, ground := Ground.chain }], guard := none }) (v := ?vv20) rfl (by kernel_rfl) (by kernel_rfl) (by kernel_rfl) (fun _ _ _ h => h) (Or.inl ⟨by rfl, ?hy20⟩) K9 ?rest20
  case hy20 =>
    intro V hV
    obtain ⟨xn, xq, xl, x0, x1, x2⟩ := HS.out V hV
    go_simp
    all_goals rfl
  simp only [Act.put, List.setIfInBounds_toArray, List.set_cons_zero, List.set_cons_succ]
  refine wpAnyH_take (i := 21) (oi := { dst := some 156, op := Op.move (Operand.tmp 20), type := 3, pos := "law.go:100", after := #[{ on := 20, ground := Ground.guard }], guard := some (20, false) }) (v := ?vv21) rfl (by kernel_rfl) (by kernel_rfl) (by kernel_rfl) (fun _ _ _ h => h) (Or.inl ⟨by rfl, ?hy21⟩) K9 ?rest21
  case hy21 =>
    intro V hV
    obtain ⟨xn, xq, xl, x0, x1, x2⟩ := HS.out V hV
    go_simp
    all_goals rfl
  simp only [Act.put, List.setIfInBounds_toArray, List.set_cons_zero, List.set_cons_succ]
  refine wpAnyH_take (i := 22) (oi := { dst := some 157, op := Op.load 29 (Operand.tmp 10), type := 29, pos := "law.go:100", after := #[{ on := 20, ground := Ground.guard }], guard := some (20, false) }) (v := ?vv22) rfl (by kernel_rfl) (by kernel_rfl) (by kernel_rfl) (fun _ _ _ h => h) (Or.inl ⟨by rfl, ?hy22⟩) K9 ?rest22
  case hy22 =>
    intro V hV
    obtain ⟨xn, xq, xl, x0, x1, x2⟩ := HS.out V hV
    go_simp
    all_goals rfl
  simp only [Act.put, List.setIfInBounds_toArray, List.set_cons_zero, List.set_cons_succ]
  refine wpAnyH_take (i := 23) (oi := { dst := some 158, op := Op.nilCheck (Operand.tmp 157), type := 0, pos := "law.go:100", after := #[{ on := 22, ground := Ground.data }, { on := 20, ground := Ground.guard }], guard := some (20, false) }) (v := ?vv23) rfl (by kernel_rfl) (by kernel_rfl) (by kernel_rfl) (fun _ _ _ h => h) (Or.inl ⟨by rfl, ?hy23⟩) K9 ?rest23
  case hy23 =>
    intro V hV
    obtain ⟨xn, xq, xl, x0, x1, x2⟩ := HS.out V hV
    go_simp
    all_goals rfl
  simp only [Act.put, List.setIfInBounds_toArray, List.set_cons_zero, List.set_cons_succ]
  refine wpAnyH_take (i := 24) (oi := { dst := some 159, op := Op.fieldAddr 37 (Operand.tmp 158) 0, type := 0, pos := "law.go:100", after := #[{ on := 23, ground := Ground.data }, { on := 20, ground := Ground.guard }], guard := some (20, false) }) (v := ?vv24) rfl (by kernel_rfl) (by kernel_rfl) (by kernel_rfl) (fun _ _ _ h => h) (Or.inl ⟨by rfl, ?hy24⟩) K9 ?rest24
  case hy24 =>
    intro V hV
    obtain ⟨xn, xq, xl, x0, x1, x2⟩ := HS.out V hV
    go_simp
    all_goals rfl
  simp only [Act.put, List.setIfInBounds_toArray, List.set_cons_zero, List.set_cons_succ]
  refine wpAnyH_take (i := 25) (oi := { dst := some 160, op := Op.load 35 (Operand.tmp 159), type := 35, pos := "law.go:100", after := #[{ on := 24, ground := Ground.data }, { on := 20, ground := Ground.guard }], guard := some (20, false) }) (v := ?vv25) rfl (by kernel_rfl) (by kernel_rfl) (by kernel_rfl) (fun _ _ _ h => h) (Or.inl ⟨by rfl, ?hy25⟩) K9 ?rest25
  case hy25 =>
    intro V hV
    obtain ⟨xn, xq, xl, x0, x1, x2⟩ := HS.out V hV
    go_simp
    all_goals rfl
  simp only [Act.put, List.setIfInBounds_toArray, List.set_cons_zero, List.set_cons_succ]
  refine wpAnyH_take (i := 26) (oi := { dst := some 161, op := Op.load 3 (Operand.tmp 18), type := 3, pos := "law.go:100", after := #[{ on := 20, ground := Ground.guard }], guard := some (20, false) }) (v := ?vv26) rfl (by kernel_rfl) (by kernel_rfl) (by kernel_rfl) (fun _ _ _ h => h) (Or.inl ⟨by rfl, ?hy26⟩) K9 ?rest26
  case hy26 =>
    intro V hV
    obtain ⟨xn, xq, xl, x0, x1, x2⟩ := HS.out V hV
    go_simp
    all_goals rfl
  simp only [Act.put, List.setIfInBounds_toArray, List.set_cons_zero, List.set_cons_succ]
  refine wpAnyH_take (i := 27) (oi := { dst := some 162, op := Op.indexAddr 35 (Operand.tmp 160) (Operand.tmp 161), type := 0, pos := "law.go:100", after := #[{ on := 25, ground := Ground.data }, { on := 26, ground := Ground.data }, { on := 20, ground := Ground.guard }], guard := some (20, false) }) (v := ?vv27) rfl (by kernel_rfl) (by kernel_rfl) (by kernel_rfl) (fun _ _ _ h => h) (Or.inl ⟨by rfl, ?hy27⟩) K9 ?rest27
  case hy27 =>
    intro V hV
    obtain ⟨xn, xq, xl, x0, x1, x2⟩ := HS.out V hV
    go_simp
    all_goals rfl
  simp only [Act.put, List.setIfInBounds_toArray, List.set_cons_zero, List.set_cons_succ]
  refine wpAnyH_take (i := 28) (oi := { dst := some 163, op := Op.fieldAddr 49 (Operand.tmp 162) 1, type := 0, pos := "law.go:100", after := #[{ on := 27, ground := Ground.data }, { on := 20, ground := Ground.guard }], guard := some (20, false) }) (v := ?vv28) rfl (by kernel_rfl) (by kernel_rfl) (by kernel_rfl) (fun _ _ _ h => h) (Or.inl ⟨by rfl, ?hy28⟩) K9 ?rest28
  case hy28 =>
    intro V hV
    obtain ⟨xn, xq, xl, x0, x1, x2⟩ := HS.out V hV
    go_simp
    all_goals rfl
  simp only [Act.put, List.setIfInBounds_toArray, List.set_cons_zero, List.set_cons_succ]
  refine wpAnyH_take (i := 29) (oi := { dst := some 164, op := Op.load 3 (Operand.tmp 163), type := 3, pos := "law.go:100", after := #[{ on := 28, ground := Ground.data }, { on := 20, ground := Ground.guard }], guard := some (20, false) }) (v := ?vv29) rfl (by kernel_rfl) (by kernel_rfl) (by kernel_rfl) (fun _ _ _ h => h) (Or.inl ⟨by rfl, ?hy29⟩) K9 ?rest29
  case hy29 =>
    intro V hV
    obtain ⟨xn, xq, xl, x0, x1, x2⟩ := HS.out V hV
    go_simp
    all_goals rfl
  simp only [Act.put, List.setIfInBounds_toArray, List.set_cons_zero, List.set_cons_succ]
  refine wpAnyH_take (i := 30) (oi := { dst := some 165, op := Op.binOp BinOp.neq 3 (Operand.tmp 156) (Operand.tmp 164) 3, type := 4, pos := "law.go:100", after := #[{ on := 21, ground := Ground.data }, { on := 29, ground := Ground.data }, { on := 20, ground := Ground.guard }], guard := some (20, false) }) (v := ?vv30) rfl (by kernel_rfl) (by kernel_rfl) (by kernel_rfl) (fun _ _ _ h => h) (Or.inl ⟨by rfl, ?hy30⟩) K9 ?rest30
  case hy30 =>
    intro V hV
    obtain ⟨xn, xq, xl, x0, x1, x2⟩ := HS.out V hV
    go_simp
    all_goals rfl
  simp only [Act.put, List.setIfInBounds_toArray, List.set_cons_zero, List.set_cons_succ]
  refine wpAnyH_take (i := 31) (oi := { dst := some 166, op := Op.pick (Operand.tmp 155) (Operand.const (Value.bool true)) (Operand.tmp 165), type := 4, pos := "law.go:100", after := #[{ on := 20, ground := Ground.data }, { on := 30, ground := Ground.data }], guard := none }) (v := ?vv31) rfl (by kernel_rfl) (by kernel_rfl) (by kernel_rfl) (fun _ _ _ h => h) (Or.inl ⟨by rfl, ?hy31⟩) K9 ?rest31
  case hy31 =>
    intro V hV
    obtain ⟨xn, xq, xl, x0, x1, x2⟩ := HS.out V hV
    go_simp
    all_goals rfl
  simp only [Act.put, List.setIfInBounds_toArray, List.set_cons_zero, List.set_cons_succ]
  refine wpAnyH_done (by kernel_rfl) ?_ _
  exact hh _ _ _ _ _ _ _ _ _ _ _ _ _ _ _ _ _ _ _ _ _ _ _ _ _ _ _ _ _ _ _ _ K9

end Go.Proofs.YtjfgjmiedmpieaaDoor
