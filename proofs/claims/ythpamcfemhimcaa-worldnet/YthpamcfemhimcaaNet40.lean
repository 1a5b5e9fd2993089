/-
  WorldNet: what All tells is held against the document's row.
-/
import Derived.Test.YthpamcfemhimcaaNetPuts
namespace Go.Proofs.Ythpamcfemhimcaa
open Go.RowKit Go.Shelf

/-- A call of a Go function of two arguments, as a step of a region that draws. -/
theorem step_call2 {P : Program} {ops : Array Oper} {o : Oper} {a : Act} (w : World) {K : Act → World → Prop} {Q : Exit → Act → World → Prop} {E : Prop}
    (hg : Region.wanted o (yielded ops a.tmps) = true) (f : Nat) (x y : Operand) (t u : TypeId) (hop : o.op = Op.call { callee := .value (.func f), args := #[x, y], argTypes := #[t, u] })
    (he : ∀ args w, (callFunc f args).run P w = .ok (.enter f args) w) (v v' : Value) (hx : a.eval x = v) (hy : a.eval y = v') {R : Ending → World → Prop} (hC : Calls P f #[v, v'] w R)
    (hK : ∀ e w', R e w' → ∃ u, e = .returned u ∧ K (a.put o.dst u) w') :
    if Region.wanted o (yielded ops a.tmps) = true then Oper.wp P o a w K Q else E := by
  rw [if_pos hg]
  unfold Oper.wp
  have hf : a.eval (.func f) = .func (.func f) #[] #[] := rfl
  simp [execOp, hop, resolve, invoke, hf, hx, hy, he, Deferred.ofValue]
  refine hC.mono ?_
  rintro e w' h
  obtain ⟨u, rfl, k⟩ := hK e w' h
  exact k

set_option maxRecDepth 100000 in
set_option maxHeartbeats 4000000 in
theorem net40 {W : World} {L n b8 kx pb r g k nr cap : Nat} {fr to : Int} {a a' : Option Addr} {m c c' : Nat} {bs : List Int} {ds : List Deferred} {u0 u1 u2 u3 u4 u5 u6 u7 u9 u10 u11 u12 u13 u14 u15 u16 u17 u18 u19 u20 u24 u25 u26 u27 u28 u29 u30 u31 u32 u33 u34 u35 u36 u37 u38 u39 u40 u41 u42 u43 u44 u45 u46 u47 u48 u49 u50 u51 u52 u53 u54 u55 u56 u57 u58 u59 u60 u61 u62 u63 u64 u65 u66 u67 u68 u69 u70 u71 u72 u73 u74 u75 u76 u77 u78 u79 u80 u81 u82 u83 u84 u85 u86 u87 u88 u89 u90 u91 u92 u93 u94 u95 u96 u97 u98 u99 u100 u101 u102 u103 u104 u105 u106 u107 u108 u109 u110 u111 u112 u113 u114 u115 u116 u117 u118 u119 u120 u121 u122 u123 u124 u125 u126 u127 u128 u129 u130 u131 u132 u133 u134 u135 u136 u137 u138 u139 u140 u141 u142 u143 u144 u145 u146 u147 u148 u149 u150 u151 u152 u153 u154 u155 u156 u157 u158 u159 u160 u161 u162 u163 u164 u165 u166 u167 u168 u169 u170 u171 u172 u173 u174 u175 u176 u177 u178 u179 u180 u181 u182 u183 u184 u185 u186 u187 u188 u189 u190 u191 u192 u193 u194 u195 u196 u197 u198 u199 u200 u201 u202 u203 u204 u205 u206 u207 u208 u209 u210 u211 u212 u213 u214 u215 : Value} (K : Act → World → Prop)
    (x21 : W.heap[kx]? = some (.cells #[.int .i64 (k : Int)] 3 (0, 0))) (x8 : W.heap[b8]? = some (.cells #[.pointer (some ⟨r, 0, none⟩)] 25 (0, 0))) (xr : W.cell? ⟨r, 1, none⟩ = some (.slice (some ⟨g, 0, none⟩) nr cap)) (xp : W.heap[pb]? = some (.cells #[.int .i64 fr, .int .i64 to, .slice a m c] 29 (0, 0)))
    (hk : k < nr) (hc : nr ≤ cap) (hn : nr ≤ 1000) (B1 : BytesAt W a m c bs) (O2 : OneAt W g (k * 3) fr to a' m c' bs)
    (h : ∀ (v172 v173 v174 v175 v176 v177 v178 v179 v180 v181 v182 v183 v184 v185 v186 v187 v188 v189 v190 v191 v192 v193 v194 v195 v196 : Value) (w9 : World), Kept (fun _ => False) W.drew w9 → K { tmps := #[u0, u1, u2, u3, u4, u5, u6, u7, .pointer (some ⟨b8, 0, none⟩), u9, u10, u11, u12, u13, u14, u15, u16, u17, u18, u19, u20, .pointer (some ⟨kx, 0, none⟩), .int .i64 (k : Int), .pointer (some ⟨pb, 0, none⟩), u24, u25, u26, u27, u28, u29, u30, u31, u32, u33, u34, u35, u36, u37, u38, u39, u40, u41, u42, u43, u44, u45, u46, u47, u48, u49, u50, u51, u52, u53, u54, u55, u56, u57, u58, u59, u60, u61, u62, u63, u64, u65, u66, u67, u68, u69, u70, u71, u72, u73, u74, u75, u76, u77, u78, u79, u80, u81, u82, u83, u84, u85, u86, u87, u88, u89, u90, u91, u92, u93, u94, u95, u96, u97, u98, u99, u100, u101, u102, u103, u104, u105, u106, u107, u108, u109, u110, u111, u112, u113, u114, u115, u116, u117, u118, u119, u120, u121, u122, u123, u124, u125, u126, u127, u128, u129, u130, u131, u132, u133, u134, u135, u136, u137, u138, u139, u140, u141, u142, u143, u144, u145, u146, u147, u148, u149, u150, u151, u152, u153, u154, u155, u156, u157, u158, u159, u160, u161, u162, u163, u164, u165, u166, u167, u168, u169, u170, u171, v172, v173, v174, v175, v176, v177, v178, v179, v180, v181, v182, v183, v184, v185, v186, v187, v188, v189, v190, v191, v192, v193, v194, v195, v196, .bool false, u198, u199, u200, u201, u202, u203, u204, u205, u206, u207, u208, u209, u210, u211, u212, u213, u214, u215], defers := ds } w9) :
    (Code.region 40 #[{ dst := some 172, op := Op.move (Operand.tmp 22), type := 3, pos := "law.go:205", after := #[], guard := none }, { dst := some 173, op := Op.load 3 (Operand.tmp 21), type := 3, pos := "law.go:205", after := #[], guard := none }, { dst := some 174, op := Op.binOp BinOp.neq 3 (Operand.tmp 172) (Operand.tmp 173) 3, type := 4, pos := "law.go:205", after := #[{ on := 0, ground := Ground.data }, { on := 1, ground := Ground.data }], guard := none }, { dst := some 175, op := Op.move (Operand.tmp 174), type := 4, pos := "law.go:205", after := #[{ on := 2, ground := Ground.data }], guard := none }, { dst := some 176, op := Op.load 3 (Operand.tmp 21), type := 3, pos := "law.go:205", after := #[{ on := 3, ground := Ground.guard }], guard := some (3, false) }, { dst := some 177, op := Op.load 25 (Operand.tmp 8), type := 25, pos := "law.go:205", after := #[{ on := 3, ground := Ground.guard }], guard := some (3, false) }, { dst := some 178, op := Op.nilCheck (Operand.tmp 177), type := 0, pos := "law.go:205", after := #[{ on := 5, ground := Ground.data }, { on := 3, ground := Ground.guard }], guard := some (3, false) }, { dst := some 179, op := Op.fieldAddr 44 (Operand.tmp 178) 1, type := 0, pos := "law.go:205", after := #[{ on := 6, ground := Ground.data }, { on := 3, ground := Ground.guard }], guard := some (3, false) }, { dst := some 180, op := Op.load 39 (Operand.tmp 179), type := 39, pos := "law.go:205", after := #[{ on := 7, ground := Ground.data }, { on := 3, ground := Ground.guard }], guard := some (3, false) }, { dst := some 181, op := Op.call { callee := Callee.builtin Builtin.len, args := #[Operand.tmp 180], argTypes := #[39] }, type := 3, pos := "law.go:205", after := #[{ on := 8, ground := Ground.data }, { on := 3, ground := Ground.guard }], guard := some (3, false) }, { dst := some 182, op := Op.binOp BinOp.geq 3 (Operand.tmp 176) (Operand.tmp 181) 3, type := 4, pos := "law.go:205", after := #[{ on := 4, ground := Ground.data }, { on := 9, ground := Ground.data }, { on := 3, ground := Ground.guard }], guard := some (3, false) }, { dst := some 183, op := Op.pick (Operand.tmp 175) (Operand.const (Value.bool true)) (Operand.tmp 182), type := 4, pos := "law.go:205", after := #[{ on := 3, ground := Ground.data }, { on := 10, ground := Ground.data }], guard := none }, { dst := some 184, op := Op.move (Operand.tmp 183), type := 4, pos := "law.go:205", after := #[{ on := 11, ground := Ground.data }, { on := 3, ground := Ground.chain }], guard := none }, { dst := some 185, op := Op.load 29 (Operand.tmp 23), type := 29, pos := "law.go:205", after := #[{ on := 12, ground := Ground.guard }], guard := some (12, false) }, { dst := some 186, op := Op.buildSlice 39 1 #[(0, Operand.tmp 185)], type := 39, pos := "law.go:205", after := #[{ on := 13, ground := Ground.data }, { on := 12, ground := Ground.guard }], guard := some (12, false) }, { dst := some 187, op := Op.load 25 (Operand.tmp 8), type := 25, pos := "law.go:205", after := #[{ on := 12, ground := Ground.guard }], guard := some (12, false) }, { dst := some 188, op := Op.nilCheck (Operand.tmp 187), type := 0, pos := "law.go:205", after := #[{ on := 15, ground := Ground.data }, { on := 12, ground := Ground.guard }], guard := some (12, false) }, { dst := some 189, op := Op.fieldAddr 44 (Operand.tmp 188) 1, type := 0, pos := "law.go:205", after := #[{ on := 16, ground := Ground.data }, { on := 12, ground := Ground.guard }], guard := some (12, false) }, { dst := some 190, op := Op.load 39 (Operand.tmp 189), type := 39, pos := "law.go:205", after := #[{ on := 17, ground := Ground.data }, { on := 12, ground := Ground.guard }], guard := some (12, false) }, { dst := some 191, op := Op.load 3 (Operand.tmp 21), type := 3, pos := "law.go:205", after := #[{ on := 12, ground := Ground.guard }], guard := some (12, false) }, { dst := some 192, op := Op.load 3 (Operand.tmp 21), type := 3, pos := "law.go:205", after := #[{ on := 12, ground := Ground.guard }], guard := some (12, false) }, { dst := some 193, op := Op.binOp BinOp.add 3 (Operand.tmp 192) (Operand.const (Value.int IntKind.i64 1)) 3, type := 3, pos := "law.go:205", after := #[{ on := 20, ground := Ground.data }, { on := 12, ground := Ground.guard }], guard := some (12, false) }, { dst := some 194, op := Op.slice 39 (Operand.tmp 190) (some (Operand.tmp 191)) (some (Operand.tmp 193)) none, type := 39, pos := "law.go:205", after := #[{ on := 18, ground := Ground.data }, { on := 19, ground := Ground.data }, { on := 21, ground := Ground.data }, { on := 12, ground := Ground.guard }], guard := some (12, false) }, { dst := some 195, op := Op.call { callee := Callee.value (Operand.func 15), args := #[Operand.tmp 186, Operand.tmp 194], argTypes := #[39, 39] }, type := 4, pos := "law.go:205", after := #[{ on := 14, ground := Ground.data }, { on := 22, ground := Ground.data }, { on := 12, ground := Ground.chain }, { on := 12, ground := Ground.guard }], guard := some (12, false) }, { dst := some 196, op := Op.unOp UnOp.not 4 (Operand.tmp 195), type := 4, pos := "law.go:205", after := #[{ on := 23, ground := Ground.data }, { on := 12, ground := Ground.guard }], guard := some (12, false) }, { dst := some 197, op := Op.pick (Operand.tmp 184) (Operand.const (Value.bool true)) (Operand.tmp 196), type := 4, pos := "law.go:205", after := #[{ on := 12, ground := Ground.data }, { on := 24, ground := Ground.data }], guard := none }] true).wpIn (Fence.wide.inRound L) n Try.prog (nrm K) { tmps := #[u0, u1, u2, u3, u4, u5, u6, u7, .pointer (some ⟨b8, 0, none⟩), u9, u10, u11, u12, u13, u14, u15, u16, u17, u18, u19, u20, .pointer (some ⟨kx, 0, none⟩), .int .i64 (k : Int), .pointer (some ⟨pb, 0, none⟩), u24, u25, u26, u27, u28, u29, u30, u31, u32, u33, u34, u35, u36, u37, u38, u39, u40, u41, u42, u43, u44, u45, u46, u47, u48, u49, u50, u51, u52, u53, u54, u55, u56, u57, u58, u59, u60, u61, u62, u63, u64, u65, u66, u67, u68, u69, u70, u71, u72, u73, u74, u75, u76, u77, u78, u79, u80, u81, u82, u83, u84, u85, u86, u87, u88, u89, u90, u91, u92, u93, u94, u95, u96, u97, u98, u99, u100, u101, u102, u103, u104, u105, u106, u107, u108, u109, u110, u111, u112, u113, u114, u115, u116, u117, u118, u119, u120, u121, u122, u123, u124, u125, u126, u127, u128, u129, u130, u131, u132, u133, u134, u135, u136, u137, u138, u139, u140, u141, u142, u143, u144, u145, u146, u147, u148, u149, u150, u151, u152, u153, u154, u155, u156, u157, u158, u159, u160, u161, u162, u163, u164, u165, u166, u167, u168, u169, u170, u171, u172, u173, u174, u175, u176, u177, u178, u179, u180, u181, u182, u183, u184, u185, u186, u187, u188, u189, u190, u191, u192, u193, u194, u195, u196, u197, u198, u199, u200, u201, u202, u203, u204, u205, u206, u207, u208, u209, u210, u211, u212, u213, u214, u215], defers := ds } W := by
  have KD := Kept.drew (fun _ => False) W
  have z21 := (Array.getElem?_eq_some_iff.1 x21).1
  have z8 := (Array.getElem?_eq_some_iff.1 x8).1
  have zp := (Array.getElem?_eq_some_iff.1 xp).1
  have zr := World.block_lt_of_cell? W _ xr
  have HS : Hid (∀ V, Kept (fun _ => False) W.drew V → V.cell? ⟨kx, 0, none⟩ = some (.int .i64 (k : Int)) ∧ V.cell? ⟨b8, 0, none⟩ = some (.pointer (some ⟨r, 0, none⟩)) ∧ V.cell? ⟨r, 1, none⟩ = some (.slice (some ⟨g, 0, none⟩) nr cap) ∧ V.cell? ⟨pb, 0, none⟩ = some (.int .i64 fr) ∧ V.cell? ⟨pb, 1, none⟩ = some (.int .i64 to) ∧ V.cell? ⟨pb, 2, none⟩ = some (.slice a m c)) := fun V hV => by
    have hW := KD.and hV
    obtain ⟨e0, e1, e2, _⟩ := three ((hW.block pb zp (fun h => h)).trans xp)
    exact ⟨(one ((hW.block kx z21 (fun h => h)).trans x21)).1, (one ((hW.block b8 z8 (fun h => h)).trans x8)).1, (World.cell?_of_block (hW.block r zr (fun h => h))).trans xr, e0, e1, e2⟩
  have KA : Kept (fun _ => False) W (W.drew.alloc (.cells #[.int .i64 fr, .int .i64 to, .slice a m c] 29)) := KD.and (Kept.alloc _ _ _)
  have hA := heap_alloc_new W.drew (.cells #[.int .i64 fr, .int .i64 to, .slice a m c] 29)
  obtain ⟨s0, s1, s2, _⟩ := three hA
  have hPc := parcels_one (W.drew.alloc (.cells #[.int .i64 fr, .int .i64 to, .slice a m c] 29)) W.drew.heap.size 0 1 g (k * 3) (cap - k) fr to a m c a' c' bs ⟨s0, s1, s2, B1.kept KA (fun _ _ _ h => h)⟩ (O2.kept KA (fun h => h) (fun _ _ _ h => h))
  have g1 : (k : Int) < (nr : Int) := by omega
  have g2 : (nr : Int) ≤ (cap : Int) := by omega
  have g3 : IntKind.i64.wrap ((k : Int) + 1) = (k : Int) + 1 := by rw [IntKind.wrap_i64]; omega
  have g4 : ¬ cap = k := by omega
  have g5 : (k : Int) + 1 ≤ (cap : Int) := by omega
  have g6 : decide ((nr : Int) ≤ (k : Int)) = false := by simp; omega
  have g6n : decide (nr ≤ k) = false := by simp; omega
  have g7 : k + 1 ≤ cap := by omega
  have g8 : (0 : Int) ≤ (k : Int) + 1 := by omega
  have g9 : (k : Int) ≤ (cap : Int) := by omega
  clear x21 x8 xr xp B1 O2 s0 s1 s2 hA KA
  refine region_round_held (fun V => Kept (fun _ => False) W.drew V) (by kernel_rfl) (by kernel_rfl) (nrm_out _) ?_
  refine wpAnyH_take (i := 0) (oi := { dst := some 172, op := Op.move (Operand.tmp 22), type := 3, pos := "law.go:205", after := #[], guard := none }) (v := ?vv0) rfl (by kernel_rfl) (by kernel_rfl) (by kernel_rfl) (fun _ _ _ h => h) (Or.inl ⟨by rfl, ?hy0⟩) (Kept.refl _ _) ?rest0
  case hy0 =>
    intro V hV
    obtain ⟨x21, x8, xr, xp0, xp1, xp2⟩ := HS.out V hV
    go_simp
    all_goals rfl
  simp only [Act.put, List.setIfInBounds_toArray, List.set_cons_zero, List.set_cons_succ]
  refine wpAnyH_take (i := 1) (oi := { dst := some 173, op := Op.load 3 (Operand.tmp 21), type := 3, pos := "law.go:205", after := #[], guard := none }) (v := ?vv1) rfl (by kernel_rfl) (by kernel_rfl) (by kernel_rfl) (fun _ _ _ h => h) (Or.inl ⟨by rfl, ?hy1⟩) (Kept.refl _ _) ?rest1
  case hy1 =>
    intro V hV
    obtain ⟨x21, x8, xr, xp0, xp1, xp2⟩ := HS.out V hV
    go_simp
    all_goals rfl
  simp only [Act.put, List.setIfInBounds_toArray, List.set_cons_zero, List.set_cons_succ]
  refine wpAnyH_take (i := 2) (oi := { dst := some 174, op := Op.binOp BinOp.neq 3 (Operand.tmp 172) (Operand.tmp 173) 3, type := 4, pos := "law.go:205", after := #[{ on := 0, ground := Ground.data }, { on := 1, ground := Ground.data }], guard := none }) (v := ?vv2) rfl (by kernel_rfl) (by kernel_rfl) (by kernel_rfl) (fun _ _ _ h => h) (Or.inl ⟨by rfl, ?hy2⟩) (Kept.refl _ _) ?rest2
  case hy2 =>
    intro V hV
    obtain ⟨x21, x8, xr, xp0, xp1, xp2⟩ := HS.out V hV
    go_simp
    all_goals rfl
  simp only [Act.put, List.setIfInBounds_toArray, List.set_cons_zero, List.set_cons_succ]
  refine wpAnyH_take (i := 3) (oi := { dst := some 175, op := Op.move (Operand.tmp 174), type := 4, pos := "law.go:205", after := #[{ on := 2, ground := Ground.data }], guard := none }) (v := ?vv3) rfl (by kernel_rfl) (by kernel_rfl) (by kernel_rfl) (fun _ _ _ h => h) (Or.inl ⟨by rfl, ?hy3⟩) (Kept.refl _ _) ?rest3
  case hy3 =>
    intro V hV
    obtain ⟨x21, x8, xr, xp0, xp1, xp2⟩ := HS.out V hV
    go_simp
    all_goals rfl
  simp only [Act.put, List.setIfInBounds_toArray, List.set_cons_zero, List.set_cons_succ]
  refine wpAnyH_take (i := 4) (oi := { dst := some 176, op := Op.load 3 (Operand.tmp 21), type := 3, pos := "law.go:205", after := #[{ on := 3, ground := Ground.guard }], guard := some (3, false) }) (v := ?vv4) rfl (by kernel_rfl) (by kernel_rfl) (by kernel_rfl) (fun _ _ _ h => h) (Or.inl ⟨by rfl, ?hy4⟩) (Kept.refl _ _) ?rest4
  case hy4 =>
    intro V hV
    obtain ⟨x21, x8, xr, xp0, xp1, xp2⟩ := HS.out V hV
    go_simp
    all_goals rfl
  simp only [Act.put, List.setIfInBounds_toArray, List.set_cons_zero, List.set_cons_succ]
  refine wpAnyH_take (i := 5) (oi := { dst := some 177, op := Op.load 25 (Operand.tmp 8), type := 25, pos := "law.go:205", after := #[{ on := 3, ground := Ground.guard }], guard := some (3, false) }) (v := ?vv5) rfl (by kernel_rfl) (by kernel_rfl) (by kernel_rfl) (fun _ _ _ h => h) (Or.inl ⟨by rfl, ?hy5⟩) (Kept.refl _ _) ?rest5
  case hy5 =>
    intro V hV
    obtain ⟨x21, x8, xr, xp0, xp1, xp2⟩ := HS.out V hV
    go_simp
    all_goals rfl
  simp only [Act.put, List.setIfInBounds_toArray, List.set_cons_zero, List.set_cons_succ]
  refine wpAnyH_take (i := 6) (oi := { dst := some 178, op := Op.nilCheck (Operand.tmp 177), type := 0, pos := "law.go:205", after := #[{ on := 5, ground := Ground.data }, { on := 3, ground := Ground.guard }], guard := some (3, false) }) (v := ?vv6) rfl (by kernel_rfl) (by kernel_rfl) (by kernel_rfl) (fun _ _ _ h => h) (Or.inl ⟨by rfl, ?hy6⟩) (Kept.refl _ _) ?rest6
  case hy6 =>
    intro V hV
    obtain ⟨x21, x8, xr, xp0, xp1, xp2⟩ := HS.out V hV
    go_simp
    all_goals rfl
  simp only [Act.put, List.setIfInBounds_toArray, List.set_cons_zero, List.set_cons_succ]
  refine wpAnyH_take (i := 7) (oi := { dst := some 179, op := Op.fieldAddr 44 (Operand.tmp 178) 1, type := 0, pos := "law.go:205", after := #[{ on := 6, ground := Ground.data }, { on := 3, ground := Ground.guard }], guard := some (3, false) }) (v := ?vv7) rfl (by kernel_rfl) (by kernel_rfl) (by kernel_rfl) (fun _ _ _ h => h) (Or.inl ⟨by rfl, ?hy7⟩) (Kept.refl _ _) ?rest7
  case hy7 =>
    intro V hV
    obtain ⟨x21, x8, xr, xp0, xp1, xp2⟩ := HS.out V hV
    go_simp
    all_goals rfl
  simp only [Act.put, List.setIfInBounds_toArray, List.set_cons_zero, List.set_cons_succ]
  refine wpAnyH_take (i := 8) (oi := { dst := some 180, op := Op.load 39 (Operand.tmp 179), type := 39, pos := "law.go:205", after := #[{ on := 7, ground := Ground.data }, { on := 3, ground := Ground.guard }], guard := some (3, false) }) (v := ?vv8) rfl (by kernel_rfl) (by kernel_rfl) (by kernel_rfl) (fun _ _ _ h => h) (Or.inl ⟨by rfl, ?hy8⟩) (Kept.refl _ _) ?rest8
  case hy8 =>
    intro V hV
    obtain ⟨x21, x8, xr, xp0, xp1, xp2⟩ := HS.out V hV
    go_simp
    all_goals rfl
  simp only [Act.put, List.setIfInBounds_toArray, List.set_cons_zero, List.set_cons_succ]
  refine wpAnyH_take (i := 9) (oi := { dst := some 181, op := Op.call { callee := Callee.builtin Builtin.len, args := #[Operand.tmp 180], argTypes := #[39] }, type := 3, pos := "law.go:205", after := #[{ on := 8, ground := Ground.data }, { on := 3, ground := Ground.guard }], guard := some (3, false) }) (v := ?vv9) rfl (by kernel_rfl) (by kernel_rfl) (by kernel_rfl) (fun _ _ _ h => h) (Or.inl ⟨by rfl, ?hy9⟩) (Kept.refl _ _) ?rest9
  case hy9 =>
    intro V hV
    obtain ⟨x21, x8, xr, xp0, xp1, xp2⟩ := HS.out V hV
    go_simp
    all_goals rfl
  simp only [Act.put, List.setIfInBounds_toArray, List.set_cons_zero, List.set_cons_succ]
  refine wpAnyH_take (i := 10) (oi := { dst := some 182, op := Op.binOp BinOp.geq 3 (Operand.tmp 176) (Operand.tmp 181) 3, type := 4, pos := "law.go:205", after := #[{ on := 4, ground := Ground.data }, { on := 9, ground := Ground.data }, { on := 3, ground := Ground.guard }], guard := some (3, false) }) (v := ?vv10) rfl (by kernel_rfl) (by kernel_rfl) (by kernel_rfl) (fun _ _ _ h => h) (Or.inl ⟨by rfl, ?hy10⟩) (Kept.refl _ _) ?rest10
  case hy10 =>
    intro V hV
    obtain ⟨x21, x8, xr, xp0, xp1, xp2⟩ := HS.out V hV
    go_simp
    all_goals rfl
  simp only [Act.put, List.setIfInBounds_toArray, List.set_cons_zero, List.set_cons_succ]
  refine wpAnyH_take (i := 11) (oi := { dst := some 183, op := Op.pick (Operand.tmp 175) (Operand.const (Value.bool true)) (Operand.tmp 182), type := 4, pos := "law.go:205", after := #[{ on := 3, ground := Ground.data }, { on := 10, ground := Ground.data }], guard := none }) (v := ?vv11) rfl (by kernel_rfl) (by kernel_rfl) (by kernel_rfl) (fun _ _ _ h => h) (Or.inl ⟨by rfl, ?hy11⟩) (Kept.refl _ _) ?rest11
  case hy11 =>
    intro V hV
    obtain ⟨x21, x8, xr, xp0, xp1, xp2⟩ := HS.out V hV
    go_simp
    all_goals rfl
  simp only [Act.put, List.setIfInBounds_toArray, List.set_cons_zero, List.set_cons_succ]
  refine wpAnyH_take (i := 12) (oi := { dst := some 184, op := Op.move (Operand.tmp 183), type := 4, pos := "law.go:205", after := #[{ on := 11, ground := Ground.data }, { on := 3, ground := Ground.chain }], guard := none }) (v := ?vv12) rfl (by kernel_rfl) (by kernel_rfl) (by kernel_rfl) (fun _ _ _ h => h) (Or.inl ⟨by rfl, ?hy12⟩) (Kept.refl _ _) ?rest12
  case hy12 =>
    intro V hV
    obtain ⟨x21, x8, xr, xp0, xp1, xp2⟩ := HS.out V hV
    go_simp
    all_goals rfl
  simp only [Act.put, List.setIfInBounds_toArray, List.set_cons_zero, List.set_cons_succ]
  refine wpAnyH_take (i := 13) (oi := { dst := some 185, op := Op.load 29 (Operand.tmp 23), type := 29, pos := "law.go:205", after := #[{ on := 12, ground := Ground.guard }], guard := some (12, false) }) (v := ?vv13) rfl (by kernel_rfl) (by kernel_rfl) (by kernel_rfl) (fun _ _ _ h => h) (Or.inl ⟨by rfl, ?hy13⟩) (Kept.refl _ _) ?rest13
  case hy13 =>
    intro V hV
    obtain ⟨x21, x8, xr, xp0, xp1, xp2⟩ := HS.out V hV
    go_simp
    all_goals rfl
  simp only [Act.put, List.setIfInBounds_toArray, List.set_cons_zero, List.set_cons_succ]
  refine wpAnyH_take (i := 15) (oi := { dst := some 187, op := Op.load 25 (Operand.tmp 8), type := 25, pos := "law.go:205", after := #[{ on := 12, ground := Ground.guard }], guard := some (12, false) }) (v := ?vv15) rfl (by kernel_rfl) (by kernel_rfl) (by kernel_rfl) (fun _ _ _ h => h) (Or.inl ⟨by rfl, ?hy15⟩) (Kept.refl _ _) ?rest15
  case hy15 =>
    intro V hV
    obtain ⟨x21, x8, xr, xp0, xp1, xp2⟩ := HS.out V hV
    go_simp
    all_goals rfl
  simp only [Act.put, List.setIfInBounds_toArray, List.set_cons_zero, List.set_cons_succ]
  refine wpAnyH_take (i := 16) (oi := { dst := some 188, op := Op.nilCheck (Operand.tmp 187), type := 0, pos := "law.go:205", after := #[{ on := 15, ground := Ground.data }, { on := 12, ground := Ground.guard }], guard := some (12, false) }) (v := ?vv16) rfl (by kernel_rfl) (by kernel_rfl) (by kernel_rfl) (fun _ _ _ h => h) (Or.inl ⟨by rfl, ?hy16⟩) (Kept.refl _ _) ?rest16
  case hy16 =>
    intro V hV
    obtain ⟨x21, x8, xr, xp0, xp1, xp2⟩ := HS.out V hV
    go_simp
    all_goals rfl
  simp only [Act.put, List.setIfInBounds_toArray, List.set_cons_zero, List.set_cons_succ]
  refine wpAnyH_take (i := 17) (oi := { dst := some 189, op := Op.fieldAddr 44 (Operand.tmp 188) 1, type := 0, pos := "law.go:205", after := #[{ on := 16, ground := Ground.data }, { on := 12, ground := Ground.guard }], guard := some (12, false) }) (v := ?vv17) rfl (by kernel_rfl) (by kernel_rfl) (by kernel_rfl) (fun _ _ _ h => h) (Or.inl ⟨by rfl, ?hy17⟩) (Kept.refl _ _) ?rest17
  case hy17 =>
    intro V hV
    obtain ⟨x21, x8, xr, xp0, xp1, xp2⟩ := HS.out V hV
    go_simp
    all_goals rfl
  simp only [Act.put, List.setIfInBounds_toArray, List.set_cons_zero, List.set_cons_succ]
  refine wpAnyH_take (i := 18) (oi := { dst := some 190, op := Op.load 39 (Operand.tmp 189), type := 39, pos := "law.go:205", after := #[{ on := 17, ground := Ground.data }, { on := 12, ground := Ground.guard }], guard := some (12, false) }) (v := ?vv18) rfl (by kernel_rfl) (by kernel_rfl) (by kernel_rfl) (fun _ _ _ h => h) (Or.inl ⟨by rfl, ?hy18⟩) (Kept.refl _ _) ?rest18
  case hy18 =>
    intro V hV
    obtain ⟨x21, x8, xr, xp0, xp1, xp2⟩ := HS.out V hV
    go_simp
    all_goals rfl
  simp only [Act.put, List.setIfInBounds_toArray, List.set_cons_zero, List.set_cons_succ]
  refine wpAnyH_take (i := 19) (oi := { dst := some 191, op := Op.load 3 (Operand.tmp 21), type := 3, pos := "law.go:205", after := #[{ on := 12, ground := Ground.guard }], guard := some (12, false) }) (v := ?vv19) rfl (by kernel_rfl) (by kernel_rfl) (by kernel_rfl) (fun _ _ _ h => h) (Or.inl ⟨by rfl, ?hy19⟩) (Kept.refl _ _) ?rest19
  case hy19 =>
    intro V hV
    obtain ⟨x21, x8, xr, xp0, xp1, xp2⟩ := HS.out V hV
    go_simp
    all_goals rfl
  simp only [Act.put, List.setIfInBounds_toArray, List.set_cons_zero, List.set_cons_succ]
  refine wpAnyH_take (i := 20) (oi := { dst := some 192, op := Op.load 3 (Operand.tmp 21), type := 3, pos := "law.go:205", after := #[{ on := 12, ground := Ground.guard }], guard := some (12, false) }) (v := ?vv20) rfl (by kernel_rfl) (by kernel_rfl) (by kernel_rfl) (fun _ _ _ h => h) (Or.inl ⟨by rfl, ?hy20⟩) (Kept.refl _ _) ?rest20
  case hy20 =>
    intro V hV
    obtain ⟨x21, x8, xr, xp0, xp1, xp2⟩ := HS.out V hV
    go_simp
    all_goals rfl
  simp only [Act.put, List.setIfInBounds_toArray, List.set_cons_zero, List.set_cons_succ]
  refine wpAnyH_take (i := 21) (oi := { dst := some 193, op := Op.binOp BinOp.add 3 (Operand.tmp 192) (Operand.const (Value.int IntKind.i64 1)) 3, type := 3, pos := "law.go:205", after := #[{ on := 20, ground := Ground.data }, { on := 12, ground := Ground.guard }], guard := some (12, false) }) (v := ?vv21) rfl (by kernel_rfl) (by kernel_rfl) (by kernel_rfl) (fun _ _ _ h => h) (Or.inl ⟨by rfl, ?hy21⟩) (Kept.refl _ _) ?rest21
  case hy21 =>
    intro V hV
    obtain ⟨x21, x8, xr, xp0, xp1, xp2⟩ := HS.out V hV
    go_simp
    all_goals rfl
  simp only [Act.put, List.setIfInBounds_toArray, List.set_cons_zero, List.set_cons_succ]
  refine wpAnyH_take (i := 22) (oi := { dst := some 194, op := Op.slice 39 (Operand.tmp 190) (some (Operand.tmp 191)) (some (Operand.tmp 193)) none, type := 39, pos := "law.go:205", after := #[{ on := 18, ground := Ground.data }, { on := 19, ground := Ground.data }, { on := 21, ground := Ground.data }, { on := 12, ground := Ground.guard }], guard := some (12, false) }) (v := ?vv22) rfl (by kernel_rfl) (by kernel_rfl) (by kernel_rfl) (fun _ _ _ h => h) (Or.inl ⟨by rfl, ?hy22⟩) (Kept.refl _ _) ?rest22
  case hy22 =>
    intro V hV
    obtain ⟨x21, x8, xr, xp0, xp1, xp2⟩ := HS.out V hV
    go_simp
    all_goals rfl
  simp only [Act.put, List.setIfInBounds_toArray, List.set_cons_zero, List.set_cons_succ]
  refine wpAnyH_ready (rs := [14]) (by kernel_rfl) (by simp) (AllReadyH.cons rfl (fun K' hK => ?_) AllReadyH.nil)
  go_simp
  refine hK.out _ _ (Kept.alloc _ _ _) (fun _ => ?_)
  clear hK K'
  refine wpAnyH_ready (rs := [23]) (by kernel_rfl) (by simp) (AllReadyH.cons rfl (fun K' hK => ?_) AllReadyH.nil)
  refine step_call2 _ rfl 15 _ _ _ _ rfl (enters_of Try.func15 (by kernel_rfl) rfl) _ _ (by rfl) (by rfl) hPc ?_
  rintro e w9 ⟨rfl, n9, hw9⟩
  subst w9
  refine ⟨_, rfl, ?_⟩
  refine hK.out _ _ ((Kept.alloc (fun _ => False) _ _).and (Kept.drewN _ _ n9)) (fun _ => ?_)
  clear hK K'
  simp only [Act.put, List.setIfInBounds_toArray]
  refine wpAnyH_take (i := 24) (oi := { dst := some 196, op := Op.unOp UnOp.not 4 (Operand.tmp 195), type := 4, pos := "law.go:205", after := #[{ on := 23, ground := Ground.data }, { on := 12, ground := Ground.guard }], guard := some (12, false) }) (v := ?vv24) rfl (by kernel_rfl) (by kernel_rfl) (by kernel_rfl) (fun _ _ _ h => h) (Or.inl ⟨by rfl, ?hy24⟩) ((Kept.alloc (fun _ => False) _ _).and (Kept.drewN _ _ n9)) ?rest24
  case hy24 =>
    intro V hV
    obtain ⟨x21, x8, xr, xp0, xp1, xp2⟩ := HS.out V hV
    go_simp
    all_goals rfl
  simp only [Act.put]
  refine wpAnyH_take (i := 25) (oi := { dst := some 197, op := Op.pick (Operand.tmp 184) (Operand.const (Value.bool true)) (Operand.tmp 196), type := 4, pos := "law.go:205", after := #[{ on := 12, ground := Ground.data }, { on := 24, ground := Ground.data }], guard := none }) (v := ?vv25) rfl (by kernel_rfl) (by kernel_rfl) (by kernel_rfl) (fun _ _ _ h => h) (Or.inl ⟨by rfl, ?hy25⟩) ((Kept.alloc (fun _ => False) _ _).and (Kept.drewN _ _ n9)) ?rest25
  case hy25 =>
    intro V hV
    obtain ⟨x21, x8, xr, xp0, xp1, xp2⟩ := HS.out V hV
    go_simp
    all_goals rfl
  simp only [Act.put]
  refine wpAnyH_done (by kernel_rfl) ?_ _
  exact h _ _ _ _ _ _ _ _ _ _ _ _ _ _ _ _ _ _ _ _ _ _ _ _ _ _ ((Kept.alloc (fun _ => False) _ _).and (Kept.drewN _ _ n9))

end Go.Proofs.Ythpamcfemhimcaa
