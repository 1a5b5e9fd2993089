/-
  changeNode: its region in which a signal is received.
-/
import Derived.Test.YtdecceekodpjiaaDoorHStep
namespace Go.Proofs.YtdecceekodpjiaaDoor
open Go.RowKit

set_option maxRecDepth 100000 in
set_option maxHeartbeats 8000000 in
theorem cn5 {W : World} {F : Nat → Prop} {R : World → Prop} {sb so db eb b o n c mb i : Nat} {arg : ByteArray} {ms ez : Int} {r : Bool} {ds : List Deferred} {u0 u2 u4 u6 u10 u11 u12 u13 u14 u15 u16 u17 u18 u19 u20 u21 u22 u23 u24 u25 u26 u27 u28 u29 u30 u31 u32 u33 u34 u35 u36 u37 u38 u39 u40 u41 u42 u43 u44 u45 u46 u47 u48 u49 u50 u51 u52 u53 u54 u55 u56 u57 u58 u59 u60 u61 u62 u63 u64 u65 u66 u67 u68 u69 u70 u71 u72 u73 u74 u75 u76 u77 u78 u79 u80 u81 u82 u83 u84 u85 u86 u87 u88 u89 u90 : Value} (K : Act → World → Prop)
    (x0 : W.cell? ⟨eb, 0, none⟩ = some (.int .i64 12)) (x1 : W.cell? ⟨db, 1, none⟩ = some (.slice (some ⟨b, o, none⟩) n c)) (x2 : W.cell? ⟨b, o + i * 7 + 2, none⟩ = some (.string arg)) (x3 : W.cell? ⟨mb, 2, none⟩ = some (.int .i64 ms)) (x4 : W.cell? ⟨eb, 3, none⟩ = some (.int .i64 ez)) (hi : i < n) (hn : n ≤ 1000000) (n0 : ¬ F eb) (n1 : ¬ F db) (n2 : ¬ F b) (n3 : ¬ F mb)
    (hC : Calls Tryd.prog 69 #[.pointer (some ⟨sb, so, none⟩), .string arg, .int .i64 ms, .int .i64 ez] W.drew fun e w' => e = .returned (.bool r) ∧ R w') (hR : ∀ V, R V → Kept F W.drew V)
    (h : ∀ (v43 v44 v45 v46 v47 v48 v49 v50 v51 v52 v53 v54 v55 v56 v57 v58 v59 v60 v61 v62 v63 : Value) (w5 : World), R w5 → K { tmps := #[u0, .pointer (some ⟨sb, so, none⟩), u2, .pointer (some ⟨db, 0, none⟩), u4, .pointer (some ⟨eb, 0, none⟩), u6, .int .i64 (i : Nat), .bool true, .pointer (some ⟨mb, 0, none⟩), u10, u11, u12, u13, u14, u15, u16, u17, u18, u19, u20, u21, u22, u23, u24, u25, u26, u27, u28, u29, u30, u31, u32, u33, u34, u35, u36, u37, u38, u39, u40, u41, u42, v43, v44, v45, v46, v47, v48, v49, v50, v51, v52, v53, v54, v55, v56, v57, v58, v59, v60, v61, v62, v63, .bool (!r), u65, u66, u67, u68, u69, u70, u71, u72, u73, u74, u75, u76, u77, u78, u79, u80, u81, u82, u83, u84, u85, u86, u87, u88, u89, u90], defers := ds } w5) :
    (Code.region 5 #[{ dst := some 43, op := Op.move (Operand.tmp 8), type := 4, pos := "apply.go:83", after := #[], guard := none }, { dst := some 44, op := Op.unOp UnOp.not 4 (Operand.tmp 43), type := 4, pos := "apply.go:83", after := #[{ on := 0, ground := Ground.data }], guard := none }, { dst := some 45, op := Op.move (Operand.tmp 44), type := 4, pos := "apply.go:83", after := #[{ on := 1, ground := Ground.data }], guard := none }, { dst := some 46, op := Op.fieldAddr 59 (Operand.tmp 5) 0, type := 0, pos := "apply.go:83", after := #[{ on := 2, ground := Ground.guard }], guard := some (2, false) }, { dst := some 47, op := Op.load 3 (Operand.tmp 46), type := 3, pos := "apply.go:83", after := #[{ on := 3, ground := Ground.data }, { on := 2, ground := Ground.guard }], guard := some (2, false) }, { dst := some 48, op := Op.binOp BinOp.eql 3 (Operand.tmp 47) (Operand.const (Value.int IntKind.i64 12)) 3, type := 4, pos := "apply.go:83", after := #[{ on := 4, ground := Ground.data }, { on := 2, ground := Ground.guard }], guard := some (2, false) }, { dst := some 49, op := Op.move (Operand.tmp 48), type := 4, pos := "apply.go:83", after := #[{ on := 5, ground := Ground.data }, { on := 2, ground := Ground.chain }, { on := 2, ground := Ground.guard }], guard := some (2, false) }, { dst := some 50, op := Op.move (Operand.tmp 1), type := 98, pos := "apply.go:83", after := #[{ on := 6, ground := Ground.guard }], guard := some (6, true) }, { dst := some 51, op := Op.fieldAddr 28 (Operand.tmp 3) 1, type := 0, pos := "apply.go:83", after := #[{ on := 6, ground := Ground.guard }], guard := some (6, true) }, { dst := some 52, op := Op.load 26 (Operand.tmp 51), type := 26, pos := "apply.go:83", after := #[{ on := 8, ground := Ground.data }, { on := 6, ground := Ground.guard }], guard := some (6, true) }, { dst := some 53, op := Op.move (Operand.tmp 7), type := 3, pos := "apply.go:83", after := #[{ on := 6, ground := Ground.guard }], guard := some (6, true) }, { dst := some 54, op := Op.indexAddr 26 (Operand.tmp 52) (Operand.tmp 53), type := 0, pos := "apply.go:83", after := #[{ on := 9, ground := Ground.data }, { on := 10, ground := Ground.data }, { on := 6, ground := Ground.guard }], guard := some (6, true) }, { dst := some 55, op := Op.fieldAddr 32 (Operand.tmp 54) 2, type := 0, pos := "apply.go:83", after := #[{ on := 11, ground := Ground.data }, { on := 6, ground := Ground.guard }], guard := some (6, true) }, { dst := some 56, op := Op.load 9 (Operand.tmp 55), type := 9, pos := "apply.go:83", after := #[{ on := 12, ground := Ground.data }, { on := 6, ground := Ground.guard }], guard := some (6, true) }, { dst := some 57, op := Op.fieldAddr 116 (Operand.tmp 9) 2, type := 0, pos := "apply.go:83", after := #[{ on := 6, ground := Ground.guard }], guard := some (6, true) }, { dst := some 58, op := Op.load 3 (Operand.tmp 57), type := 3, pos := "apply.go:83", after := #[{ on := 14, ground := Ground.data }, { on := 6, ground := Ground.guard }], guard := some (6, true) }, { dst := some 59, op := Op.fieldAddr 59 (Operand.tmp 5) 3, type := 0, pos := "apply.go:83", after := #[{ on := 6, ground := Ground.guard }], guard := some (6, true) }, { dst := some 60, op := Op.load 3 (Operand.tmp 59), type := 3, pos := "apply.go:83", after := #[{ on := 16, ground := Ground.data }, { on := 6, ground := Ground.guard }], guard := some (6, true) }, { dst := some 61, op := Op.call { callee := Callee.value (Operand.func 69), args := #[Operand.tmp 50, Operand.tmp 56, Operand.tmp 58, Operand.tmp 60], argTypes := #[98, 9, 3, 3] }, type := 4, pos := "apply.go:83", after := #[{ on := 7, ground := Ground.data }, { on := 13, ground := Ground.data }, { on := 15, ground := Ground.data }, { on := 17, ground := Ground.data }, { on := 6, ground := Ground.chain }, { on := 6, ground := Ground.guard }], guard := some (6, true) }, { dst := some 62, op := Op.unOp UnOp.not 4 (Operand.tmp 61), type := 4, pos := "apply.go:83", after := #[{ on := 18, ground := Ground.data }, { on := 6, ground := Ground.guard }], guard := some (6, true) }, { dst := some 63, op := Op.pick (Operand.tmp 49) (Operand.tmp 62) (Operand.const (Value.bool false)), type := 4, pos := "apply.go:83", after := #[{ on := 6, ground := Ground.data }, { on := 19, ground := Ground.data }, { on := 2, ground := Ground.guard }], guard := some (2, false) }, { dst := some 64, op := Op.pick (Operand.tmp 45) (Operand.const (Value.bool true)) (Operand.tmp 63), type := 4, pos := "apply.go:83", after := #[{ on := 2, ground := Ground.data }, { on := 20, ground := Ground.data }], guard := none }] true).wp Tryd.prog (onlyN K) { tmps := #[u0, .pointer (some ⟨sb, so, none⟩), u2, .pointer (some ⟨db, 0, none⟩), u4, .pointer (some ⟨eb, 0, none⟩), u6, .int .i64 (i : Nat), .bool true, .pointer (some ⟨mb, 0, none⟩), u10, u11, u12, u13, u14, u15, u16, u17, u18, u19, u20, u21, u22, u23, u24, u25, u26, u27, u28, u29, u30, u31, u32, u33, u34, u35, u36, u37, u38, u39, u40, u41, u42, u43, u44, u45, u46, u47, u48, u49, u50, u51, u52, u53, u54, u55, u56, u57, u58, u59, u60, u61, u62, u63, u64, u65, u66, u67, u68, u69, u70, u71, u72, u73, u74, u75, u76, u77, u78, u79, u80, u81, u82, u83, u84, u85, u86, u87, u88, u89, u90], defers := ds } W := by
  have HH : Hid _ := h
  have HR : Hid (∀ V, R V → Kept F W.drew V) := hR
  have KD := Kept.drew F W
  have hh : ∀ {V : World} {k q : Nat} {v : Value}, Kept F W V → W.cell? ⟨q, k, none⟩ = some v → ¬ F q → V.cell? ⟨q, k, none⟩ = some v := fun {V k q v} KV hc hne => by
    rw [World.cell?_of_block (w := W) (KV.block _ (World.block_lt_of_cell? W _ hc) hne)]
    exact hc
  have HS : Hid (∀ V, Kept F W.drew V → V.cell? ⟨eb, 0, none⟩ = some (.int .i64 12) ∧ V.cell? ⟨db, 1, none⟩ = some (.slice (some ⟨b, o, none⟩) n c) ∧ V.cell? ⟨b, o + i * 7 + 2, none⟩ = some (.string arg) ∧ V.cell? ⟨mb, 2, none⟩ = some (.int .i64 ms) ∧ V.cell? ⟨eb, 3, none⟩ = some (.int .i64 ez)) := fun V KV => ⟨hh (KD.and KV) x0 n0, hh (KD.and KV) x1 n1, hh (KD.and KV) x2 n2, hh (KD.and KV) x3 n3, hh (KD.and KV) x4 n0⟩
  have hS0 := HS.out W.drew (Kept.refl _ _)
  have e1 : (i : Int) < (n : Int) := by omega
  have w1 : IntKind.i64.wrap (i : Int) = (i : Int) := by rw [IntKind.wrap_i64]; omega
  clear h hR KD hh x0 x1 x2 x3 x4 n0 n1 n2 n3
  refine wp_region_held_drew (S := fun V => V.cell? ⟨eb, 0, none⟩ = some (.int .i64 12) ∧ V.cell? ⟨db, 1, none⟩ = some (.slice (some ⟨b, o, none⟩) n c) ∧ V.cell? ⟨b, o + i * 7 + 2, none⟩ = some (.string arg) ∧ V.cell? ⟨mb, 2, none⟩ = some (.int .i64 ms) ∧ V.cell? ⟨eb, 3, none⟩ = some (.int .i64 ez)) (by kernel_rfl) hS0 (fun _ => ?_)
  refine wpAnyH_take (i := 0) (oi := { dst := some 43, op := Op.move (Operand.tmp 8), type := 4, pos := "apply.go:83", after := #[], guard := none }) (v := ?vv1) rfl (by kernel_rfl) (by kernel_rfl) (by kernel_rfl) (fun _ _ _ h => h) (Or.inl ⟨by rfl, ?hy1⟩) hS0 ?rest1
  case hy1 =>
    intro V hV
    obtain ⟨y0, y1, y2, y3, y4⟩ := hV
    go_simp
    all_goals rfl
  simp only [Act.put, List.setIfInBounds_toArray, List.set_cons_zero, List.set_cons_succ]
  refine wpAnyH_take (i := 1) (oi := { dst := some 44, op := Op.unOp UnOp.not 4 (Operand.tmp 43), type := 4, pos := "apply.go:83", after := #[{ on := 0, ground := Ground.data }], guard := none }) (v := ?vv2) rfl (by kernel_rfl) (by kernel_rfl) (by kernel_rfl) (fun _ _ _ h => h) (Or.inl ⟨by rfl, ?hy2⟩) hS0 ?rest2
  case hy2 =>
    intro V hV
    obtain ⟨y0, y1, y2, y3, y4⟩ := hV
    go_simp
    all_goals rfl
  simp only [Act.put, List.setIfInBounds_toArray, List.set_cons_zero, List.set_cons_succ]
  refine wpAnyH_take (i := 2) (oi := { dst := some 45, op := Op.move (Operand.tmp 44), type := 4, pos := "apply.go:83", after := #[{ on := 1, ground := Ground.data }], guard := none }) (v := ?vv3) rfl (by kernel_rfl) (by kernel_rfl) (by kernel_rfl) (fun _ _ _ h => h) (Or.inl ⟨by rfl, ?hy3⟩) hS0 ?rest3
  case hy3 =>
    intro V hV
    obtain ⟨y0, y1, y2, y3, y4⟩ := hV
    go_simp
    all_goals rfl
  simp only [Act.put, List.setIfInBounds_toArray, List.set_cons_zero, List.set_cons_succ]
  refine wpAnyH_take (i := 3) (oi := { dst := some 46, op := Op.fieldAddr 59 (Operand.tmp 5) 0, type := 0, pos := "apply.go:83", after := #[{ on := 2, ground := Ground.guard }], guard := some (2, false) }) (v := ?vv4) rfl (by kernel_rfl) (by kernel_rfl) (by kernel_rfl) (fun _ _ _ h => h) (Or.inl ⟨by rfl, ?hy4⟩) hS0 ?rest4
  case hy4 =>
    intro V hV
    obtain ⟨y0, y1, y2, y3, y4⟩ := hV
    go_simp
    all_goals rfl
  simp only [Act.put, List.setIfInBounds_toArray, List.set_cons_zero, List.set_cons_succ]
  refine wpAnyH_take (i := 4) (oi := { dst := some 47, op := Op.load 3 (Operand.tmp 46), type := 3, pos := "apply.go:83", after := #[{ on := 3, ground := Ground.data }, { on := 2, ground := Ground.guard }], guard := some (2, false) }) (v := ?vv5) rfl (by kernel_rfl) (by kernel_rfl) (by kernel_rfl) (fun _ _ _ h => h) (Or.inl ⟨by rfl, ?hy5⟩) hS0 ?rest5
  case hy5 =>
    intro V hV
    obtain ⟨y0, y1, y2, y3, y4⟩ := hV
    go_simp
    all_goals rfl
  simp only [Act.put, List.setIfInBounds_toArray, List.set_cons_zero, List.set_cons_succ]
  refine wpAnyH_take (i := 5) (oi := { dst := some 48, op := Op.binOp BinOp.eql 3 (Operand.tmp 47) (Operand.const (Value.int IntKind.i64 12)) 3, type := 4, pos := "apply.go:83", after := #[{ on := 4, ground := Ground.data }, { on := 2, ground := Ground.guard }], guard := some (2, false) }) (v := ?vv6) rfl (by kernel_rfl) (by kernel_rfl) (by kernel_rfl) (fun _ _ _ h => h) (Or.inl ⟨by rfl, ?hy6⟩) hS0 ?rest6
  case hy6 =>
    intro V hV
    obtain ⟨y0, y1, y2, y3, y4⟩ := hV
    go_simp
    all_goals rfl
  simp only [Act.put, List.setIfInBounds_toArray, List.set_cons_zero, List.set_cons_succ]
  refine wpAnyH_take (i := 6) (oi := { dst := some 49, op := Op.move (Operand.tmp 48), type := 4, pos := "apply.go:83", after := #[{ on := 5, ground := Ground.data }, { on := 2, ground := Ground.chain }, { on := 2, ground := Ground.guard }], guard := some (2, false) }) (v := ?vv7) rfl (by kernel_rfl) (by kernel_rfl) (by kernel_rfl) (fun _ _ _ h => h) (Or.inl ⟨by rfl, ?hy7⟩) hS0 ?rest7
  case hy7 =>
    intro V hV
    obtain ⟨y0, y1, y2, y3, y4⟩ := hV
    go_simp
    all_goals rfl
  simp only [Act.put, List.setIfInBounds_toArray, List.set_cons_zero, List.set_cons_succ]
  refine wpAnyH_take (i := 7) (oi := { dst := some 50, op := Op.move (Operand.tmp 1), type := 98, pos := "apply.go:83", after := #[{ on := 6, ground := Ground.guard }], guard := some (6, true) }) (v := ?vv8) rfl (by kernel_rfl) (by kernel_rfl) (by kernel_rfl) (fun _ _ _ h => h) (Or.inl ⟨by rfl, ?hy8⟩) hS0 ?rest8
  case hy8 =>
    intro V hV
    obtain ⟨y0, y1, y2, y3, y4⟩ := hV
    go_simp
    all_goals rfl
  simp only [Act.put, List.setIfInBounds_toArray, List.set_cons_zero, List.set_cons_succ]
  refine wpAnyH_take (i := 8) (oi := { dst := some 51, op := Op.fieldAddr 28 (Operand.tmp 3) 1, type := 0, pos := "apply.go:83", after := #[{ on := 6, ground := Ground.guard }], guard := some (6, true) }) (v := ?vv9) rfl (by kernel_rfl) (by kernel_rfl) (by kernel_rfl) (fun _ _ _ h => h) (Or.inl ⟨by rfl, ?hy9⟩) hS0 ?rest9
  case hy9 =>
    intro V hV
    obtain ⟨y0, y1, y2, y3, y4⟩ := hV
    go_simp
    all_goals rfl
  simp only [Act.put, List.setIfInBounds_toArray, List.set_cons_zero, List.set_cons_succ]
  refine wpAnyH_take (i := 9) (oi := { dst := some 52, op := Op.load 26 (Operand.tmp 51), type := 26, pos := "apply.go:83", after := #[{ on := 8, ground := Ground.data }, { on := 6, ground := Ground.guard }], guard := some (6, true) }) (v := ?vv10) rfl (by kernel_rfl) (by kernel_rfl) (by kernel_rfl) (fun _ _ _ h => h) (Or.inl ⟨by rfl, ?hy10⟩) hS0 ?rest10
  case hy10 =>
    intro V hV
    obtain ⟨y0, y1, y2, y3, y4⟩ := hV
    go_simp
    all_goals rfl
  simp only [Act.put, List.setIfInBounds_toArray, List.set_cons_zero, List.set_cons_succ]
  refine wpAnyH_take (i := 10) (oi := { dst := some 53, op := Op.move (Operand.tmp 7), type := 3, pos := "apply.go:83", after := #[{ on := 6, ground := Ground.guard }], guard := some (6, true) }) (v := ?vv11) rfl (by kernel_rfl) (by kernel_rfl) (by kernel_rfl) (fun _ _ _ h => h) (Or.inl ⟨by rfl, ?hy11⟩) hS0 ?rest11
  case hy11 =>
    intro V hV
    obtain ⟨y0, y1, y2, y3, y4⟩ := hV
    go_simp
    all_goals rfl
  simp only [Act.put, List.setIfInBounds_toArray, List.set_cons_zero, List.set_cons_succ]
  refine wpAnyH_take (i := 11) (oi := { dst := some 54, op := Op.indexAddr 26 (Operand.tmp 52) (Operand.tmp 53), type := 0, pos := "apply.go:83", after := #[{ on := 9, ground := Ground.data }, { on := 10, ground := Ground.data }, { on := 6, ground := Ground.guard }], guard := some (6, true) }) (v := ?vv12) rfl (by kernel_rfl) (by kernel_rfl) (by kernel_rfl) (fun _ _ _ h => h) (Or.inl ⟨by rfl, ?hy12⟩) hS0 ?rest12
  case hy12 =>
    intro V hV
    obtain ⟨y0, y1, y2, y3, y4⟩ := hV
    go_simp
    all_goals rfl
  simp only [Act.put, List.setIfInBounds_toArray, List.set_cons_zero, List.set_cons_succ]
  refine wpAnyH_take (i := 12) (oi := { dst := some 55, op := Op.fieldAddr 32 (Operand.tmp 54) 2, type := 0, pos := "apply.go:83", after := #[{ on := 11, ground := Ground.data }, { on := 6, ground := Ground.guard }], guard := some (6, true) }) (v := ?vv13) rfl (by kernel_rfl) (by kernel_rfl) (by kernel_rfl) (fun _ _ _ h => h) (Or.inl ⟨by rfl, ?hy13⟩) hS0 ?rest13
  case hy13 =>
    intro V hV
    obtain ⟨y0, y1, y2, y3, y4⟩ := hV
    go_simp
    all_goals rfl
  simp only [Act.put, List.setIfInBounds_toArray, List.set_cons_zero, List.set_cons_succ]
  refine wpAnyH_take (i := 13) (oi := { dst := some 56, op := Op.load 9 (Operand.tmp 55), type := 9, pos := "apply.go:83", after := #[{ on := 12, ground := Ground.data }, { on := 6, ground := Ground.guard }], guard := some (6, true) }) (v := ?vv14) rfl (by kernel_rfl) (by kernel_rfl) (by kernel_rfl) (fun _ _ _ h => h) (Or.inl ⟨by rfl, ?hy14⟩) hS0 ?rest14
  case hy14 =>
    intro V hV
    obtain ⟨y0, y1, y2, y3, y4⟩ := hV
    go_simp
    all_goals rfl
  simp only [Act.put, List.setIfInBounds_toArray, List.set_cons_zero, List.set_cons_succ]
  refine wpAnyH_take (i := 14) (oi := { dst := some 57, op := Op.fieldAddr 116 (Operand.tmp 9) 2, type := 0, pos := "apply.go:83", after := #[{ on := 6, ground := Ground.guard }], guard := some (6, true) }) (v := ?vv15) rfl (by kernel_rfl) (by kernel_rfl) (by kernel_rfl) (fun _ _ _ h => h) (Or.inl ⟨by rfl, ?hy15⟩) hS0 ?rest15
  case hy15 =>
    intro V hV
    obtain ⟨y0, y1, y2, y3, y4⟩ := hV
    go_simp
    all_goals rfl
  simp only [Act.put, List.setIfInBounds_toArray, List.set_cons_zero, List.set_cons_succ]
  refine wpAnyH_take (i := 15) (oi := { dst := some 58, op := Op.load 3 (Operand.tmp 57), type := 3, pos := "apply.go:83", after := #[{ on := 14, ground := Ground.data }, { on := 6, ground := Ground.guard }], guard := some (6, true) }) (v := ?vv16) rfl (by kernel_rfl) (by kernel_rfl) (by kernel_rfl) (fun _ _ _ h => h) (Or.inl ⟨by rfl, ?hy16⟩) hS0 ?rest16
  case hy16 =>
    intro V hV
    obtain ⟨y0, y1, y2, y3, y4⟩ := hV
    go_simp
    all_goals rfl
  simp only [Act.put, List.setIfInBounds_toArray, List.set_cons_zero, List.set_cons_succ]
  refine wpAnyH_take (i := 16) (oi := { dst := some 59, op := Op.fieldAddr 59 (Operand.tmp 5) 3, type := 0, pos := "apply.go:83", after := #[{ on := 6, ground := Ground.guard }], guard := some (6, true) }) (v := ?vv17) rfl (by kernel_rfl) (by kernel_rfl) (by kernel_rfl) (fun _ _ _ h => h) (Or.inl ⟨by rfl, ?hy17⟩) hS0 ?rest17
  case hy17 =>
    intro V hV
    obtain ⟨y0, y1, y2, y3, y4⟩ := hV
    go_simp
    all_goals rfl
  simp only [Act.put, List.setIfInBounds_toArray, List.set_cons_zero, List.set_cons_succ]
  refine wpAnyH_take (i := 17) (oi := { dst := some 60, op := Op.load 3 (Operand.tmp 59), type := 3, pos := "apply.go:83", after := #[{ on := 16, ground := Ground.data }, { on := 6, ground := Ground.guard }], guard := some (6, true) }) (v := ?vv18) rfl (by kernel_rfl) (by kernel_rfl) (by kernel_rfl) (fun _ _ _ h => h) (Or.inl ⟨by rfl, ?hy18⟩) hS0 ?rest18
  case hy18 =>
    intro V hV
    obtain ⟨y0, y1, y2, y3, y4⟩ := hV
    go_simp
    all_goals rfl
  simp only [Act.put, List.setIfInBounds_toArray, List.set_cons_zero, List.set_cons_succ]
  refine wpAnyH_ready (rs := [18]) (by kernel_rfl) (by simp) (AllReadyH.cons (o := { dst := some 61, op := Op.call { callee := Callee.value (Operand.func 69), args := #[Operand.tmp 50, Operand.tmp 56, Operand.tmp 58, Operand.tmp 60], argTypes := #[98, 9, 3, 3] }, type := 4, pos := "apply.go:83", after := #[{ on := 7, ground := Ground.data }, { on := 13, ground := Ground.data }, { on := 15, ground := Ground.data }, { on := 17, ground := Ground.data }, { on := 6, ground := Ground.chain }, { on := 6, ground := Ground.guard }], guard := some (6, true) }) rfl (fun K' hK => ?_) AllReadyH.nil)
  refine step_call4 _ (by rfl) 69 _ _ _ _ _ _ _ _ (by rfl) (enters_of Tryd.func69 (by kernel_rfl) rfl) _ _ _ _ (by rfl) (by rfl) (by rfl) (by rfl) hC ?_
  rintro e w5 ⟨rfl, R5⟩
  refine ⟨_, rfl, ?_⟩
  refine hK.out _ _ (HS.out _ (HR.out _ R5)) (fun _ => ?_)
  clear hK K'
  try (simp only [Act.put, List.setIfInBounds_toArray, List.set_cons_zero, List.set_cons_succ])
  refine wpAnyH_take (i := 19) (oi := { dst := some 62, op := Op.unOp UnOp.not 4 (Operand.tmp 61), type := 4, pos := "apply.go:83", after := #[{ on := 18, ground := Ground.data }, { on := 6, ground := Ground.guard }], guard := some (6, true) }) (v := ?vv19) rfl (by kernel_rfl) (by kernel_rfl) (by kernel_rfl) (fun _ _ _ h => h) (Or.inl ⟨by rfl, ?hy19⟩) (HS.out _ (HR.out _ R5)) ?rest19
  case hy19 =>
    intro V hV
    obtain ⟨y0, y1, y2, y3, y4⟩ := hV
    go_simp
    all_goals rfl
  simp only [Act.put, List.setIfInBounds_toArray, List.set_cons_zero, List.set_cons_succ]
  refine wpAnyH_take (i := 20) (oi := { dst := some 63, op := Op.pick (Operand.tmp 49) (Operand.tmp 62) (Operand.const (Value.bool false)), type := 4, pos := "apply.go:83", after := #[{ on := 6, ground := Ground.data }, { on := 19, ground := Ground.data }, { on := 2, ground := Ground.guard }], guard := some (2, false) }) (v := ?vv20) rfl (by kernel_rfl) (by kernel_rfl) (by kernel_rfl) (fun _ _ _ h => h) (Or.inl ⟨by rfl, ?hy20⟩) (HS.out _ (HR.out _ R5)) ?rest20
  case hy20 =>
    intro V hV
    obtain ⟨y0, y1, y2, y3, y4⟩ := hV
    go_simp
    all_goals rfl
  simp only [Act.put, List.setIfInBounds_toArray, List.set_cons_zero, List.set_cons_succ]
  refine wpAnyH_take (i := 21) (oi := { dst := some 64, op := Op.pick (Operand.tmp 45) (Operand.const (Value.bool true)) (Operand.tmp 63), type := 4, pos := "apply.go:83", after := #[{ on := 2, ground := Ground.data }, { on := 20, ground := Ground.data }], guard := none }) (v := ?vv21) rfl (by kernel_rfl) (by kernel_rfl) (by kernel_rfl) (fun _ _ _ h => h) (Or.inl ⟨by rfl, ?hy21⟩) (HS.out _ (HR.out _ R5)) ?rest21
  case hy21 =>
    intro V hV
    obtain ⟨y0, y1, y2, y3, y4⟩ := hV
    go_simp
    all_goals rfl
  simp only [Act.put, List.setIfInBounds_toArray, List.set_cons_zero, List.set_cons_succ]
  refine wpAnyH_done (by kernel_rfl) ?_ _
  exact HH.out _ _ _ _ _ _ _ _ _ _ _ _ _ _ _ _ _ _ _ _ _ w5 R5

end Go.Proofs.YtdecceekodpjiaaDoor
