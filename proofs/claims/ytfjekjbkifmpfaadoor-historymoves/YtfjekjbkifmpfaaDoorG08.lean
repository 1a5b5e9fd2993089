/-
  change: its regions that draw their order and set fields.
-/
import Derived.Test.YtfjekjbkifmpfaaDoorG04
namespace Go.Proofs.YtfjekjbkifmpfaaDoor
open Go.RowKit

set_option maxRecDepth 100000 in
set_option maxHeartbeats 8000000 in
theorem ch10 {W : World} {sb so : Nat} {T : TypeId} {pre post : List Value} {db eb : Nat} {nm et en : ByteArray} {q0 q1 q2 q3 q4 q5 q6 q7 q8 : Value} {ds : List Deferred} {u0 u2 u4 u6 u7 u8 u9 u10 u11 u12 u13 u14 u15 u16 u17 u18 u19 u20 u21 u22 u23 u24 u25 u26 u27 u28 u29 u30 u31 u32 u33 u34 u35 u36 u37 u38 u39 u40 u41 u42 u43 u44 u45 u46 u47 u48 u49 u50 u51 u52 u53 u54 u55 u56 u57 u58 u59 u60 u61 u62 u63 u64 u65 u66 u67 u68 u69 u70 u71 u72 u73 u74 u75 u76 u77 u78 u79 u80 u81 u82 u83 u84 u85 u86 u87 u88 u89 u90 u91 u92 u93 u94 u95 u96 u97 u98 u99 u100 u101 : Value} (K : Act → World → Prop)
    (hb : W.heap[sb]? = some (.cells (pre ++ [q0, q1, q2, q3, q4, q5, q6, q7, q8] ++ post).toArray T (0, 0))) (hso0 : pre.length = so) (x0 : W.cell? ⟨db, 0, none⟩ = some (.string nm)) (x1 : W.cell? ⟨eb, 2, none⟩ = some (.string et)) (x2 : W.cell? ⟨eb, 1, none⟩ = some (.string en)) (hdb : db ≠ sb) (heb : eb ≠ sb)
    (h : ∀ (v26 v27 v28 v29 v30 v31 v32 v33 v34 v35 v36 v37 v38 v39 v40 v41 v42 v43 : Value) (W' : World), W'.heap[sb]? = some (.cells (pre ++ [.string nm, q1, .string et, .string en, .int .i64 1, q5, q6, q7, q8] ++ post).toArray T (0, 0)) → Kept (fun j => j = sb) W W' → K { tmps := #[u0, .pointer (some ⟨sb, so, none⟩), u2, .pointer (some ⟨db, 0, none⟩), u4, .pointer (some ⟨eb, 0, none⟩), u6, u7, u8, u9, u10, u11, u12, u13, u14, u15, u16, u17, u18, u19, u20, u21, u22, u23, u24, u25, v26, v27, v28, v29, v30, v31, v32, v33, v34, v35, v36, v37, v38, v39, v40, v41, v42, v43, u44, u45, u46, u47, u48, u49, u50, u51, u52, u53, u54, u55, u56, u57, u58, u59, u60, u61, u62, u63, u64, u65, u66, u67, u68, u69, u70, u71, u72, u73, u74, u75, u76, u77, u78, u79, u80, u81, u82, u83, u84, u85, u86, u87, u88, u89, u90, u91, u92, u93, u94, u95, u96, u97, u98, u99, u100, u101], defers := ds } W') :
    (Code.region 10 #[{ dst := some 26, op := Op.move (Operand.tmp 1), type := 86, pos := "apply.go:58", after := #[], guard := none }, { dst := some 27, op := Op.move (Operand.tmp 1), type := 86, pos := "apply.go:58", after := #[{ on := 12, ground := Ground.gcOnly Departure.lateStores }], guard := none }, { dst := some 28, op := Op.move (Operand.tmp 1), type := 86, pos := "apply.go:58", after := #[{ on := 15, ground := Ground.gcOnly Departure.lateStores }], guard := none }, { dst := some 29, op := Op.move (Operand.tmp 1), type := 86, pos := "apply.go:58", after := #[{ on := 18, ground := Ground.gcOnly Departure.lateStores }], guard := none }, { dst := some 30, op := Op.fieldAddr 24 (Operand.tmp 3) 0, type := 0, pos := "apply.go:58", after := #[{ on := 12, ground := Ground.gcOnly Departure.lateStores }], guard := none }, { dst := some 31, op := Op.load 9 (Operand.tmp 30), type := 9, pos := "apply.go:58", after := #[{ on := 4, ground := Ground.data }, { on := 12, ground := Ground.gcOnly Departure.lateStores }], guard := none }, { dst := some 32, op := Op.fieldAddr 51 (Operand.tmp 5) 2, type := 0, pos := "apply.go:58", after := #[{ on := 15, ground := Ground.gcOnly Departure.lateStores }], guard := none }, { dst := some 33, op := Op.load 9 (Operand.tmp 32), type := 9, pos := "apply.go:58", after := #[{ on := 6, ground := Ground.data }, { on := 15, ground := Ground.gcOnly Departure.lateStores }], guard := none }, { dst := some 34, op := Op.fieldAddr 51 (Operand.tmp 5) 1, type := 0, pos := "apply.go:58", after := #[{ on := 18, ground := Ground.gcOnly Departure.lateStores }], guard := none }, { dst := some 35, op := Op.load 9 (Operand.tmp 34), type := 9, pos := "apply.go:58", after := #[{ on := 8, ground := Ground.data }, { on := 18, ground := Ground.gcOnly Departure.lateStores }], guard := none }, { dst := some 36, op := Op.nilCheck (Operand.tmp 26), type := 0, pos := "apply.go:58", after := #[{ on := 0, ground := Ground.data }, { on := 0, ground := Ground.phase }, { on := 1, ground := Ground.textOnly Departure.lateStores }, { on := 2, ground := Ground.textOnly Departure.lateStores }, { on := 3, ground := Ground.textOnly Departure.lateStores }, { on := 4, ground := Ground.textOnly Departure.lateStores }, { on := 5, ground := Ground.textOnly Departure.lateStores }, { on := 6, ground := Ground.textOnly Departure.lateStores }, { on := 7, ground := Ground.textOnly Departure.lateStores }, { on := 8, ground := Ground.textOnly Departure.lateStores }, { on := 9, ground := Ground.textOnly Departure.lateStores }], guard := none }, { dst := some 37, op := Op.fieldAddr 33 (Operand.tmp 36) 4, type := 0, pos := "apply.go:58", after := #[{ on := 10, ground := Ground.data }, { on := 0, ground := Ground.phase }, { on := 1, ground := Ground.textOnly Departure.lateStores }, { on := 2, ground := Ground.textOnly Departure.lateStores }, { on := 3, ground := Ground.textOnly Departure.lateStores }, { on := 4, ground := Ground.textOnly Departure.lateStores }, { on := 5, ground := Ground.textOnly Departure.lateStores }, { on := 6, ground := Ground.textOnly Departure.lateStores }, { on := 7, ground := Ground.textOnly Departure.lateStores }, { on := 8, ground := Ground.textOnly Departure.lateStores }, { on := 9, ground := Ground.textOnly Departure.lateStores }], guard := none }, { dst := none, op := Op.store 3 (Operand.tmp 37) (Operand.const (Value.int IntKind.i64 1)), type := 0, pos := "apply.go:58", after := #[{ on := 11, ground := Ground.data }, { on := 0, ground := Ground.phase }, { on := 1, ground := Ground.textOnly Departure.lateStores }, { on := 2, ground := Ground.textOnly Departure.lateStores }, { on := 3, ground := Ground.textOnly Departure.lateStores }, { on := 4, ground := Ground.textOnly Departure.lateStores }, { on := 5, ground := Ground.textOnly Departure.lateStores }, { on := 6, ground := Ground.textOnly Departure.lateStores }, { on := 7, ground := Ground.textOnly Departure.lateStores }, { on := 8, ground := Ground.textOnly Departure.lateStores }, { on := 9, ground := Ground.textOnly Departure.lateStores }], guard := none }, { dst := some 38, op := Op.nilCheck (Operand.tmp 27), type := 0, pos := "apply.go:58", after := #[{ on := 1, ground := Ground.data }, { on := 0, ground := Ground.phase }, { on := 1, ground := Ground.phase }, { on := 2, ground := Ground.textOnly Departure.lateStores }, { on := 3, ground := Ground.textOnly Departure.lateStores }, { on := 4, ground := Ground.phase }, { on := 5, ground := Ground.phase }, { on := 6, ground := Ground.textOnly Departure.lateStores }, { on := 7, ground := Ground.textOnly Departure.lateStores }, { on := 8, ground := Ground.textOnly Departure.lateStores }, { on := 9, ground := Ground.textOnly Departure.lateStores }, { on := 10, ground := Ground.phase }, { on := 11, ground := Ground.phase }, { on := 12, ground := Ground.phase }], guard := none }, { dst := some 39, op := Op.fieldAddr 33 (Operand.tmp 38) 0, type := 0, pos := "apply.go:58", after := #[{ on := 13, ground := Ground.data }, { on := 0, ground := Ground.phase }, { on := 1, ground := Ground.phase }, { on := 2, ground := Ground.textOnly Departure.lateStores }, { on := 3, ground := Ground.textOnly Departure.lateStores }, { on := 4, ground := Ground.phase }, { on := 5, ground := Ground.phase }, { on := 6, ground := Ground.textOnly Departure.lateStores }, { on := 7, ground := Ground.textOnly Departure.lateStores }, { on := 8, ground := Ground.textOnly Departure.lateStores }, { on := 9, ground := Ground.textOnly Departure.lateStores }, { on := 10, ground := Ground.phase }, { on := 11, ground := Ground.phase }, { on := 12, ground := Ground.phase }], guard := none }, { dst := none, op := Op.store 9 (Operand.tmp 39) (Operand.tmp 31), type := 0, pos := "apply.go:58", after := #[{ on := 14, ground := Ground.data }, { on := 5, ground := Ground.data }, { on := 12, ground := Ground.chain }, { on := 0, ground := Ground.phase }, { on := 1, ground := Ground.phase }, { on := 2, ground := Ground.textOnly Departure.lateStores }, { on := 3, ground := Ground.textOnly Departure.lateStores }, { on := 4, ground := Ground.phase }, { on := 5, ground := Ground.phase }, { on := 6, ground := Ground.textOnly Departure.lateStores }, { on := 7, ground := Ground.textOnly Departure.lateStores }, { on := 8, ground := Ground.textOnly Departure.lateStores }, { on := 9, ground := Ground.textOnly Departure.lateStores }, { on := 10, ground := Ground.phase }, { on := 11, ground := Ground.phase }, { on := 12, ground := Ground.phase }], guard := none }, { dst := some 40, op := Op.nilCheck (Operand.tmp 28), type := 0, pos := "apply.go:58", after := #[{ on := 2, ground := Ground.data }, { on := 0, ground := Ground.phase }, { on := 1, ground := Ground.phase }, { on := 2, ground := Ground.phase }, { on := 3, ground := Ground.textOnly Departure.lateStores }, { on := 4, ground := Ground.phase }, { on := 5, ground := Ground.phase }, { on := 6, ground := Ground.phase }, { on := 7, ground := Ground.phase }, { on := 8, ground := Ground.textOnly Departure.lateStores }, { on := 9, ground := Ground.textOnly Departure.lateStores }, { on := 10, ground := Ground.phase }, { on := 11, ground := Ground.phase }, { on := 12, ground := Ground.phase }, { on := 13, ground := Ground.phase }, { on := 14, ground := Ground.phase }, { on := 15, ground := Ground.phase }], guard := none }, { dst := some 41, op := Op.fieldAddr 33 (Operand.tmp 40) 2, type := 0, pos := "apply.go:58", after := #[{ on := 16, ground := Ground.data }, { on := 0, ground := Ground.phase }, { on := 1, ground := Ground.phase }, { on := 2, ground := Ground.phase }, { on := 3, ground := Ground.textOnly Departure.lateStores }, { on := 4, ground := Ground.phase }, { on := 5, ground := Ground.phase }, { on := 6, ground := Ground.phase }, { on := 7, ground := Ground.phase }, { on := 8, ground := Ground.textOnly Departure.lateStores }, { on := 9, ground := Ground.textOnly Departure.lateStores }, { on := 10, ground := Ground.phase }, { on := 11, ground := Ground.phase }, { on := 12, ground := Ground.phase }, { on := 13, ground := Ground.phase }, { on := 14, ground := Ground.phase }, { on := 15, ground := Ground.phase }], guard := none }, { dst := none, op := Op.store 9 (Operand.tmp 41) (Operand.tmp 33), type := 0, pos := "apply.go:58", after := #[{ on := 17, ground := Ground.data }, { on := 7, ground := Ground.data }, { on := 15, ground := Ground.chain }, { on := 0, ground := Ground.phase }, { on := 1, ground := Ground.phase }, { on := 2, ground := Ground.phase }, { on := 3, ground := Ground.textOnly Departure.lateStores }, { on := 4, ground := Ground.phase }, { on := 5, ground := Ground.phase }, { on := 6, ground := Ground.phase }, { on := 7, ground := Ground.phase }, { on := 8, ground := Ground.textOnly Departure.lateStores }, { on := 9, ground := Ground.textOnly Departure.lateStores }, { on := 10, ground := Ground.phase }, { on := 11, ground := Ground.phase }, { on := 12, ground := Ground.phase }, { on := 13, ground := Ground.phase }, { on := 14, ground := Ground.phase }, { on := 15, ground := Ground.phase }], guard := none }, { dst := some 42, op := Op.nilCheck (Operand.tmp 29), type := 0, pos := "apply.go:58", after := #[{ on := 3, ground := Ground.data }, { on := 0, ground := Ground.phase }, { on := 1, ground := Ground.phase }, { on := 2, ground := Ground.phase }, { on := 3, ground := Ground.phase }, { on := 4, ground := Ground.phase }, { on := 5, ground := Ground.phase }, { on := 6, ground := Ground.phase }, { on := 7, ground := Ground.phase }, { on := 8, ground := Ground.phase }, { on := 9, ground := Ground.phase }, { on := 10, ground := Ground.phase }, { on := 11, ground := Ground.phase }, { on := 12, ground := Ground.phase }, { on := 13, ground := Ground.phase }, { on := 14, ground := Ground.phase }, { on := 15, ground := Ground.phase }, { on := 16, ground := Ground.phase }, { on := 17, ground := Ground.phase }, { on := 18, ground := Ground.phase }], guard := none }, { dst := some 43, op := Op.fieldAddr 33 (Operand.tmp 42) 3, type := 0, pos := "apply.go:58", after := #[{ on := 19, ground := Ground.data }, { on := 0, ground := Ground.phase }, { on := 1, ground := Ground.phase }, { on := 2, ground := Ground.phase }, { on := 3, ground := Ground.phase }, { on := 4, ground := Ground.phase }, { on := 5, ground := Ground.phase }, { on := 6, ground := Ground.phase }, { on := 7, ground := Ground.phase }, { on := 8, ground := Ground.phase }, { on := 9, ground := Ground.phase }, { on := 10, ground := Ground.phase }, { on := 11, ground := Ground.phase }, { on := 12, ground := Ground.phase }, { on := 13, ground := Ground.phase }, { on := 14, ground := Ground.phase }, { on := 15, ground := Ground.phase }, { on := 16, ground := Ground.phase }, { on := 17, ground := Ground.phase }, { on := 18, ground := Ground.phase }], guard := none }, { dst := none, op := Op.store 9 (Operand.tmp 43) (Operand.tmp 35), type := 0, pos := "apply.go:58", after := #[{ on := 20, ground := Ground.data }, { on := 9, ground := Ground.data }, { on := 18, ground := Ground.chain }, { on := 0, ground := Ground.phase }, { on := 1, ground := Ground.phase }, { on := 2, ground := Ground.phase }, { on := 3, ground := Ground.phase }, { on := 4, ground := Ground.phase }, { on := 5, ground := Ground.phase }, { on := 6, ground := Ground.phase }, { on := 7, ground := Ground.phase }, { on := 8, ground := Ground.phase }, { on := 9, ground := Ground.phase }, { on := 10, ground := Ground.phase }, { on := 11, ground := Ground.phase }, { on := 12, ground := Ground.phase }, { on := 13, ground := Ground.phase }, { on := 14, ground := Ground.phase }, { on := 15, ground := Ground.phase }, { on := 16, ground := Ground.phase }, { on := 17, ground := Ground.phase }, { on := 18, ground := Ground.phase }], guard := none }] true).wp Tryd.prog (onlyN K) { tmps := #[u0, .pointer (some ⟨sb, so, none⟩), u2, .pointer (some ⟨db, 0, none⟩), u4, .pointer (some ⟨eb, 0, none⟩), u6, u7, u8, u9, u10, u11, u12, u13, u14, u15, u16, u17, u18, u19, u20, u21, u22, u23, u24, u25, u26, u27, u28, u29, u30, u31, u32, u33, u34, u35, u36, u37, u38, u39, u40, u41, u42, u43, u44, u45, u46, u47, u48, u49, u50, u51, u52, u53, u54, u55, u56, u57, u58, u59, u60, u61, u62, u63, u64, u65, u66, u67, u68, u69, u70, u71, u72, u73, u74, u75, u76, u77, u78, u79, u80, u81, u82, u83, u84, u85, u86, u87, u88, u89, u90, u91, u92, u93, u94, u95, u96, u97, u98, u99, u100, u101], defers := ds } W := by
  have HH : Hid _ := h
  have KD := Kept.drew (fun j => j = sb) W
  have hso : Hid (pre.length = so) := hso0
  have hh : ∀ {V : World} {k b : Nat} {v : Value}, Kept (fun j => j = sb) W V → W.cell? ⟨b, k, none⟩ = some v → b ≠ sb → V.cell? ⟨b, k, none⟩ = some v := fun {V k b v} KV hc hne => by
    rw [World.cell?_of_block (w := W) (KV.block _ (World.block_lt_of_cell? W _ hc) hne)]
    exact hc
  have HS : Hid (∀ V, Kept (fun j => j = sb) W.drew V → V.cell? ⟨db, 0, none⟩ = some (.string nm) ∧ V.cell? ⟨eb, 2, none⟩ = some (.string et) ∧ V.cell? ⟨eb, 1, none⟩ = some (.string en)) := fun V KV => ⟨hh (KD.and KV) x0 hdb, hh (KD.and KV) x1 heb, hh (KD.and KV) x2 heb⟩
  have HKD : Hid (Kept (fun j => j = sb) W W.drew) := KD
  have HB0 : Hid (W.drew.heap[sb]? = some (.cells (pre ++ [q0, q1, q2, q3, q4, q5, q6, q7, q8] ++ post).toArray T (0, 0))) := hb
  have hS0 := HS.out W.drew (Kept.refl _ _)
  clear h KD hb hh hso0 x0 x1 x2
  refine wp_region_held_drew (S := fun V => V.cell? ⟨db, 0, none⟩ = some (.string nm) ∧ V.cell? ⟨eb, 2, none⟩ = some (.string et) ∧ V.cell? ⟨eb, 1, none⟩ = some (.string en)) (by kernel_rfl) hS0 (fun _ => ?_)
  generalize W.drew = V0 at *
  refine wpAnyH_take (i := 0) (oi := { dst := some 26, op := Op.move (Operand.tmp 1), type := 86, pos := "apply.go:58", after := #[], guard := none }) (v := ?vv1) rfl (by kernel_rfl) (by kernel_rfl) (by kernel_rfl) (fun _ _ _ h => h) (Or.inl ⟨by rfl, ?hy1⟩) hS0 ?rest1
  case hy1 =>
    intro V hV
    obtain ⟨y0, y1, y2⟩ := hV
    go_simp
    all_goals rfl
  simp only [Act.put, List.setIfInBounds_toArray, List.set_cons_zero, List.set_cons_succ]
  refine wpAnyH_take (i := 1) (oi := { dst := some 27, op := Op.move (Operand.tmp 1), type := 86, pos := "apply.go:58", after := #[{ on := 12, ground := Ground.gcOnly Departure.lateStores }], guard := none }) (v := ?vv2) rfl (by kernel_rfl) (by kernel_rfl) (by kernel_rfl) (fun _ _ _ h => h) (Or.inl ⟨by rfl, ?hy2⟩) hS0 ?rest2
  case hy2 =>
    intro V hV
    obtain ⟨y0, y1, y2⟩ := hV
    go_simp
    all_goals rfl
  simp only [Act.put, List.setIfInBounds_toArray, List.set_cons_zero, List.set_cons_succ]
  refine wpAnyH_take (i := 2) (oi := { dst := some 28, op := Op.move (Operand.tmp 1), type := 86, pos := "apply.go:58", after := #[{ on := 15, ground := Ground.gcOnly Departure.lateStores }], guard := none }) (v := ?vv3) rfl (by kernel_rfl) (by kernel_rfl) (by kernel_rfl) (fun _ _ _ h => h) (Or.inl ⟨by rfl, ?hy3⟩) hS0 ?rest3
  case hy3 =>
    intro V hV
    obtain ⟨y0, y1, y2⟩ := hV
    go_simp
    all_goals rfl
  simp only [Act.put, List.setIfInBounds_toArray, List.set_cons_zero, List.set_cons_succ]
  refine wpAnyH_take (i := 3) (oi := { dst := some 29, op := Op.move (Operand.tmp 1), type := 86, pos := "apply.go:58", after := #[{ on := 18, ground := Ground.gcOnly Departure.lateStores }], guard := none }) (v := ?vv4) rfl (by kernel_rfl) (by kernel_rfl) (by kernel_rfl) (fun _ _ _ h => h) (Or.inl ⟨by rfl, ?hy4⟩) hS0 ?rest4
  case hy4 =>
    intro V hV
    obtain ⟨y0, y1, y2⟩ := hV
    go_simp
    all_goals rfl
  simp only [Act.put, List.setIfInBounds_toArray, List.set_cons_zero, List.set_cons_succ]
  refine wpAnyH_take (i := 4) (oi := { dst := some 30, op := Op.fieldAddr 24 (Operand.tmp 3) 0, type := 0, pos := "apply.go:58", after := #[{ on := 12, ground := Ground.gcOnly Departure.lateStores }], guard := none }) (v := ?vv5) rfl (by kernel_rfl) (by kernel_rfl) (by kernel_rfl) (fun _ _ _ h => h) (Or.inl ⟨by rfl, ?hy5⟩) hS0 ?rest5
  case hy5 =>
    intro V hV
    obtain ⟨y0, y1, y2⟩ := hV
    go_simp
    all_goals rfl
  simp only [Act.put, List.setIfInBounds_toArray, List.set_cons_zero, List.set_cons_succ]
  refine wpAnyH_take (i := 5) (oi := { dst := some 31, op := Op.load 9 (Operand.tmp 30), type := 9, pos := "apply.go:58", after := #[{ on := 4, ground := Ground.data }, { on := 12, ground := Ground.gcOnly Departure.lateStores }], guard := none }) (v := ?vv6) rfl (by kernel_rfl) (by kernel_rfl) (by kernel_rfl) (fun _ _ _ h => h) (Or.inl ⟨by rfl, ?hy6⟩) hS0 ?rest6
  case hy6 =>
    intro V hV
    obtain ⟨y0, y1, y2⟩ := hV
    go_simp
    all_goals rfl
  simp only [Act.put, List.setIfInBounds_toArray, List.set_cons_zero, List.set_cons_succ]
  refine wpAnyH_take (i := 6) (oi := { dst := some 32, op := Op.fieldAddr 51 (Operand.tmp 5) 2, type := 0, pos := "apply.go:58", after := #[{ on := 15, ground := Ground.gcOnly Departure.lateStores }], guard := none }) (v := ?vv7) rfl (by kernel_rfl) (by kernel_rfl) (by kernel_rfl) (fun _ _ _ h => h) (Or.inl ⟨by rfl, ?hy7⟩) hS0 ?rest7
  case hy7 =>
    intro V hV
    obtain ⟨y0, y1, y2⟩ := hV
    go_simp
    all_goals rfl
  simp only [Act.put, List.setIfInBounds_toArray, List.set_cons_zero, List.set_cons_succ]
  refine wpAnyH_take (i := 7) (oi := { dst := some 33, op := Op.load 9 (Operand.tmp 32), type := 9, pos := "apply.go:58", after := #[{ on := 6, ground := Ground.data }, { on := 15, ground := Ground.gcOnly Departure.lateStores }], guard := none }) (v := ?vv8) rfl (by kernel_rfl) (by kernel_rfl) (by kernel_rfl) (fun _ _ _ h => h) (Or.inl ⟨by rfl, ?hy8⟩) hS0 ?rest8
  case hy8 =>
    intro V hV
    obtain ⟨y0, y1, y2⟩ := hV
    go_simp
    all_goals rfl
  simp only [Act.put, List.setIfInBounds_toArray, List.set_cons_zero, List.set_cons_succ]
  refine wpAnyH_take (i := 8) (oi := { dst := some 34, op := Op.fieldAddr 51 (Operand.tmp 5) 1, type := 0, pos := "apply.go:58", after := #[{ on := 18, ground := Ground.gcOnly Departure.lateStores }], guard := none }) (v := ?vv9) rfl (by kernel_rfl) (by kernel_rfl) (by kernel_rfl) (fun _ _ _ h => h) (Or.inl ⟨by rfl, ?hy9⟩) hS0 ?rest9
  case hy9 =>
    intro V hV
    obtain ⟨y0, y1, y2⟩ := hV
    go_simp
    all_goals rfl
  simp only [Act.put, List.setIfInBounds_toArray, List.set_cons_zero, List.set_cons_succ]
  refine wpAnyH_take (i := 9) (oi := { dst := some 35, op := Op.load 9 (Operand.tmp 34), type := 9, pos := "apply.go:58", after := #[{ on := 8, ground := Ground.data }, { on := 18, ground := Ground.gcOnly Departure.lateStores }], guard := none }) (v := ?vv10) rfl (by kernel_rfl) (by kernel_rfl) (by kernel_rfl) (fun _ _ _ h => h) (Or.inl ⟨by rfl, ?hy10⟩) hS0 ?rest10
  case hy10 =>
    intro V hV
    obtain ⟨y0, y1, y2⟩ := hV
    go_simp
    all_goals rfl
  simp only [Act.put, List.setIfInBounds_toArray, List.set_cons_zero, List.set_cons_succ]
  refine wpAnyH_take (i := 10) (oi := { dst := some 36, op := Op.nilCheck (Operand.tmp 26), type := 0, pos := "apply.go:58", after := #[{ on := 0, ground := Ground.data }, { on := 0, ground := Ground.phase }, { on := 1, ground := Ground.textOnly Departure.lateStores }, { on := 2, ground := Ground.textOnly Departure.lateStores }, { on := 3, ground := Ground.textOnly Departure.lateStores }, { on := 4, ground := Ground.textOnly Departure.lateStores }, { on := 5, ground := Ground.textOnly Departure.lateStores }, { on := 6, ground := Ground.textOnly Departure.lateStores }, { on := 7, ground := Ground.textOnly Departure.lateStores }, { on := 8, ground := Ground.textOnly Departure.lateStores }, { on := 9, ground := Ground.textOnly Departure.lateStores }], guard := none }) (v := ?vv11) rfl (by kernel_rfl) (by kernel_rfl) (by kernel_rfl) (fun _ _ _ h => h) (Or.inl ⟨by rfl, ?hy11⟩) hS0 ?rest11
  case hy11 =>
    intro V hV
    obtain ⟨y0, y1, y2⟩ := hV
    go_simp
    all_goals rfl
  simp only [Act.put, List.setIfInBounds_toArray, List.set_cons_zero, List.set_cons_succ]
  refine wpAnyH_take (i := 11) (oi := { dst := some 37, op := Op.fieldAddr 33 (Operand.tmp 36) 4, type := 0, pos := "apply.go:58", after := #[{ on := 10, ground := Ground.data }, { on := 0, ground := Ground.phase }, { on := 1, ground := Ground.textOnly Departure.lateStores }, { on := 2, ground := Ground.textOnly Departure.lateStores }, { on := 3, ground := Ground.textOnly Departure.lateStores }, { on := 4, ground := Ground.textOnly Departure.lateStores }, { on := 5, ground := Ground.textOnly Departure.lateStores }, { on := 6, ground := Ground.textOnly Departure.lateStores }, { on := 7, ground := Ground.textOnly Departure.lateStores }, { on := 8, ground := Ground.textOnly Departure.lateStores }, { on := 9, ground := Ground.textOnly Departure.lateStores }], guard := none }) (v := ?vv12) rfl (by kernel_rfl) (by kernel_rfl) (by kernel_rfl) (fun _ _ _ h => h) (Or.inl ⟨by rfl, ?hy12⟩) hS0 ?rest12
  case hy12 =>
    intro V hV
    obtain ⟨y0, y1, y2⟩ := hV
    go_simp
    all_goals rfl
  simp only [Act.put, List.setIfInBounds_toArray, List.set_cons_zero, List.set_cons_succ]
  refine wpAnyH_ready (rs := [12]) (by kernel_rfl) (by simp) (AllReadyH.cons (o := { dst := none, op := Op.store 3 (Operand.tmp 37) (Operand.const (Value.int IntKind.i64 1)), type := 0, pos := "apply.go:58", after := #[{ on := 11, ground := Ground.data }, { on := 0, ground := Ground.phase }, { on := 1, ground := Ground.textOnly Departure.lateStores }, { on := 2, ground := Ground.textOnly Departure.lateStores }, { on := 3, ground := Ground.textOnly Departure.lateStores }, { on := 4, ground := Ground.textOnly Departure.lateStores }, { on := 5, ground := Ground.textOnly Departure.lateStores }, { on := 6, ground := Ground.textOnly Departure.lateStores }, { on := 7, ground := Ground.textOnly Departure.lateStores }, { on := 8, ground := Ground.textOnly Departure.lateStores }, { on := 9, ground := Ground.textOnly Departure.lateStores }], guard := none }) rfl (fun K' hK => ?_) AllReadyH.nil)
  obtain ⟨⟨p0, p1, p2, p3, p4, p5, p6, p7, p8⟩, f0, f1, f2, f3, f4, f5, f6, f7, f8⟩ := nineAt HB0.out hso.out
  have HB1 : Hid (((V0).setCell ⟨sb, so + 4, none⟩ (.int .i64 1)).heap[sb]? = some (.cells (pre ++ [q0, q1, q2, q3, .int .i64 1, q5, q6, q7, q8] ++ post).toArray T (0, 0))) := blk_set HB0.out hso.out (j := 4) (by simp) _
  have HK1 : Hid (Kept (fun j => j = sb) V0 ((V0).setCell ⟨sb, so + 4, none⟩ (.int .i64 1))) := ((Kept.refl (fun j => j = sb) V0)).and (Kept.setCell (S := fun j => j = sb) _ ⟨sb, so + 4, none⟩ _ rfl)
  go_simp
  clear p0 p1 p2 p3 p4 p5 p6 p7 p8 f0 f1 f2 f3 f4 f5 f6 f7 f8
  refine hK.out _ _ (HS.out _ HK1.out) (fun _ => ?_)
  generalize (V0).setCell ⟨sb, so + 4, none⟩ (.int .i64 1) = V1 at *
  clear hK K'
  try (simp only [Act.put, List.setIfInBounds_toArray, List.set_cons_zero, List.set_cons_succ])
  refine wpAnyH_take (i := 13) (oi := { dst := some 38, op := Op.nilCheck (Operand.tmp 27), type := 0, pos := "apply.go:58", after := #[{ on := 1, ground := Ground.data }, { on := 0, ground := Ground.phase }, { on := 1, ground := Ground.phase }, { on := 2, ground := Ground.textOnly Departure.lateStores }, { on := 3, ground := Ground.textOnly Departure.lateStores }, { on := 4, ground := Ground.phase }, { on := 5, ground := Ground.phase }, { on := 6, ground := Ground.textOnly Departure.lateStores }, { on := 7, ground := Ground.textOnly Departure.lateStores }, { on := 8, ground := Ground.textOnly Departure.lateStores }, { on := 9, ground := Ground.textOnly Departure.lateStores }, { on := 10, ground := Ground.phase }, { on := 11, ground := Ground.phase }, { on := 12, ground := Ground.phase }], guard := none }) (v := ?vv13) rfl (by kernel_rfl) (by kernel_rfl) (by kernel_rfl) (fun _ _ _ h => h) (Or.inl ⟨by rfl, ?hy13⟩) (HS.out _ HK1.out) ?rest13
  case hy13 =>
    intro V hV
    obtain ⟨y0, y1, y2⟩ := hV
    go_simp
    all_goals rfl
  simp only [Act.put, List.setIfInBounds_toArray, List.set_cons_zero, List.set_cons_succ]
  refine wpAnyH_take (i := 14) (oi := { dst := some 39, op := Op.fieldAddr 33 (Operand.tmp 38) 0, type := 0, pos := "apply.go:58", after := #[{ on := 13, ground := Ground.data }, { on := 0, ground := Ground.phase }, { on := 1, ground := Ground.phase }, { on := 2, ground := Ground.textOnly Departure.lateStores }, { on := 3, ground := Ground.textOnly Departure.lateStores }, { on := 4, ground := Ground.phase }, { on := 5, ground := Ground.phase }, { on := 6, ground := Ground.textOnly Departure.lateStores }, { on := 7, ground := Ground.textOnly Departure.lateStores }, { on := 8, ground := Ground.textOnly Departure.lateStores }, { on := 9, ground := Ground.textOnly Departure.lateStores }, { on := 10, ground := Ground.phase }, { on := 11, ground := Ground.phase }, { on := 12, ground := Ground.phase }], guard := none }) (v := ?vv14) rfl (by kernel_rfl) (by kernel_rfl) (by kernel_rfl) (fun _ _ _ h => h) (Or.inl ⟨by rfl, ?hy14⟩) (HS.out _ HK1.out) ?rest14
  case hy14 =>
    intro V hV
    obtain ⟨y0, y1, y2⟩ := hV
    go_simp
    all_goals rfl
  simp only [Act.put, List.setIfInBounds_toArray, List.set_cons_zero, List.set_cons_succ]
  refine wpAnyH_ready (rs := [15]) (by kernel_rfl) (by simp) (AllReadyH.cons (o := { dst := none, op := Op.store 9 (Operand.tmp 39) (Operand.tmp 31), type := 0, pos := "apply.go:58", after := #[{ on := 14, ground := Ground.data }, { on := 5, ground := Ground.data }, { on := 12, ground := Ground.chain }, { on := 0, ground := Ground.phase }, { on := 1, ground := Ground.phase }, { on := 2, ground := Ground.textOnly Departure.lateStores }, { on := 3, ground := Ground.textOnly Departure.lateStores }, { on := 4, ground := Ground.phase }, { on := 5, ground := Ground.phase }, { on := 6, ground := Ground.textOnly Departure.lateStores }, { on := 7, ground := Ground.textOnly Departure.lateStores }, { on := 8, ground := Ground.textOnly Departure.lateStores }, { on := 9, ground := Ground.textOnly Departure.lateStores }, { on := 10, ground := Ground.phase }, { on := 11, ground := Ground.phase }, { on := 12, ground := Ground.phase }], guard := none }) rfl (fun K' hK => ?_) AllReadyH.nil)
  obtain ⟨⟨p0, p1, p2, p3, p4, p5, p6, p7, p8⟩, f0, f1, f2, f3, f4, f5, f6, f7, f8⟩ := nineAt HB1.out hso.out
  have HB2 : Hid (((V1).setCell ⟨sb, so, none⟩ (.string nm)).heap[sb]? = some (.cells (pre ++ [.string nm, q1, q2, q3, .int .i64 1, q5, q6, q7, q8] ++ post).toArray T (0, 0))) := blk_set HB1.out hso.out (j := 0) (by simp) _
  have HK2 : Hid (Kept (fun j => j = sb) V0 ((V1).setCell ⟨sb, so, none⟩ (.string nm))) := (HK1.out).and (Kept.setCell (S := fun j => j = sb) _ ⟨sb, so, none⟩ _ rfl)
  go_simp
  clear p0 p1 p2 p3 p4 p5 p6 p7 p8 f0 f1 f2 f3 f4 f5 f6 f7 f8
  refine hK.out _ _ (HS.out _ HK2.out) (fun _ => ?_)
  generalize (V1).setCell ⟨sb, so, none⟩ (.string nm) = V2 at *
  clear hK K'
  try (simp only [Act.put, List.setIfInBounds_toArray, List.set_cons_zero, List.set_cons_succ])
  refine wpAnyH_take (i := 16) (oi := { dst := some 40, op := Op.nilCheck (Operand.tmp 28), type := 0, pos := "apply.go:58", after := #[{ on := 2, ground := Ground.data }, { on := 0, ground := Ground.phase }, { on := 1, ground := Ground.phase }, { on := 2, ground := Ground.phase }, { on := 3, ground := Ground.textOnly Departure.lateStores }, { on := 4, ground := Ground.phase }, { on := 5, ground := Ground.phase }, { on := 6, ground := Ground.phase }, { on := 7, ground := Ground.phase }, { on := 8, ground := Ground.textOnly Departure.lateStores }, { on := 9, ground := Ground.textOnly Departure.lateStores }, { on := 10, ground := Ground.phase }, { on := 11, ground := Ground.phase }, { on := 12, ground := Ground.phase }, { on := 13, ground := Ground.phase }, { on := 14, ground := Ground.phase }, { on := 15, ground := Ground.phase }], guard := none }) (v := ?vv15) rfl (by kernel_rfl) (by kernel_rfl) (by kernel_rfl) (fun _ _ _ h => h) (Or.inl ⟨by rfl, ?hy15⟩) (HS.out _ HK2.out) ?rest15
  case hy15 =>
    intro V hV
    obtain ⟨y0, y1, y2⟩ := hV
    go_simp
    all_goals rfl
  simp only [Act.put, List.setIfInBounds_toArray, List.set_cons_zero, List.set_cons_succ]
  refine wpAnyH_take (i := 17) (oi := { dst := some 41, op := Op.fieldAddr 33 (Operand.tmp 40) 2, type := 0, pos := "apply.go:58", after := #[{ on := 16, ground := Ground.data }, { on := 0, ground := Ground.phase }, { on := 1, ground := Ground.phase }, { on := 2, ground := Ground.phase }, { on := 3, ground := Ground.textOnly Departure.lateStores }, { on := 4, ground := Ground.phase }, { on := 5, ground := Ground.phase }, { on := 6, ground := Ground.phase }, { on := 7, ground := Ground.phase }, { on := 8, ground := Ground.textOnly Departure.lateStores }, { on := 9, ground := Ground.textOnly Departure.lateStores }, { on := 10, ground := Ground.phase }, { on := 11, ground := Ground.phase }, { on := 12, ground := Ground.phase }, { on := 13, ground := Ground.phase }, { on := 14, ground := Ground.phase }, { on := 15, ground := Ground.phase }], guard := none }) (v := ?vv16) rfl (by kernel_rfl) (by kernel_rfl) (by kernel_rfl) (fun _ _ _ h => h) (Or.inl ⟨by rfl, ?hy16⟩) (HS.out _ HK2.out) ?rest16
  case hy16 =>
    intro V hV
    obtain ⟨y0, y1, y2⟩ := hV
    go_simp
    all_goals rfl
  simp only [Act.put, List.setIfInBounds_toArray, List.set_cons_zero, List.set_cons_succ]
  refine wpAnyH_ready (rs := [18]) (by kernel_rfl) (by simp) (AllReadyH.cons (o := { dst := none, op := Op.store 9 (Operand.tmp 41) (Operand.tmp 33), type := 0, pos := "apply.go:58", after := #[{ on := 17, ground := Ground.data }, { on := 7, ground := Ground.data }, { on := 15, ground := Ground.chain }, { on := 0, ground := Ground.phase }, { on := 1, ground := Ground.phase }, { on := 2, ground := Ground.phase }, { on := 3, ground := Ground.textOnly Departure.lateStores }, { on := 4, ground := Ground.phase }, { on := 5, ground := Ground.phase }, { on := 6, ground := Ground.phase }, { on := 7, ground := Ground.phase }, { on := 8, ground := Ground.textOnly Departure.lateStores }, { on := 9, ground := Ground.textOnly Departure.lateStores }, { on := 10, ground := Ground.phase }, { on := 11, ground := Ground.phase }, { on := 12, ground := Ground.phase }, { on := 13, ground := Ground.phase }, { on := 14, ground := Ground.phase }, { on := 15, ground := Ground.phase }], guard := none }) rfl (fun K' hK => ?_) AllReadyH.nil)
  obtain ⟨⟨p0, p1, p2, p3, p4, p5, p6, p7, p8⟩, f0, f1, f2, f3, f4, f5, f6, f7, f8⟩ := nineAt HB2.out hso.out
  have HB3 : Hid (((V2).setCell ⟨sb, so + 2, none⟩ (.string et)).heap[sb]? = some (.cells (pre ++ [.string nm, q1, .string et, q3, .int .i64 1, q5, q6, q7, q8] ++ post).toArray T (0, 0))) := blk_set HB2.out hso.out (j := 2) (by simp) _
  have HK3 : Hid (Kept (fun j => j = sb) V0 ((V2).setCell ⟨sb, so + 2, none⟩ (.string et))) := (HK2.out).and (Kept.setCell (S := fun j => j = sb) _ ⟨sb, so + 2, none⟩ _ rfl)
  go_simp
  clear p0 p1 p2 p3 p4 p5 p6 p7 p8 f0 f1 f2 f3 f4 f5 f6 f7 f8
  refine hK.out _ _ (HS.out _ HK3.out) (fun _ => ?_)
  generalize (V2).setCell ⟨sb, so + 2, none⟩ (.string et) = V3 at *
  clear hK K'
  try (simp only [Act.put, List.setIfInBounds_toArray, List.set_cons_zero, List.set_cons_succ])
  refine wpAnyH_take (i := 19) (oi := { dst := some 42, op := Op.nilCheck (Operand.tmp 29), type := 0, pos := "apply.go:58", after := #[{ on := 3, ground := Ground.data }, { on := 0, ground := Ground.phase }, { on := 1, ground := Ground.phase }, { on := 2, ground := Ground.phase }, { on := 3, ground := Ground.phase }, { on := 4, ground := Ground.phase }, { on := 5, ground := Ground.phase }, { on := 6, ground := Ground.phase }, { on := 7, ground := Ground.phase }, { on := 8, ground := Ground.phase }, { on := 9, ground := Ground.phase }, { on := 10, ground := Ground.phase }, { on := 11, ground := Ground.phase }, { on := 12, ground := Ground.phase }, { on := 13, ground := Ground.phase }, { on := 14, ground := Ground.phase }, { on := 15, ground := Ground.phase }, { on := 16, ground := Ground.phase }, { on := 17, ground := Ground.phase }, { on := 18, ground := Ground.phase }], guard := none }) (v := ?vv17) rfl (by kernel_rfl) (by kernel_rfl) (by kernel_rfl) (fun _ _ _ h => h) (Or.inl ⟨by rfl, ?hy17⟩) (HS.out _ HK3.out) ?rest17
  case hy17 =>
    intro V hV
    obtain ⟨y0, y1, y2⟩ := hV
    go_simp
    all_goals rfl
  simp only [Act.put, List.setIfInBounds_toArray, List.set_cons_zero, List.set_cons_succ]
  refine wpAnyH_take (i := 20) (oi := { dst := some 43, op := Op.fieldAddr 33 (Operand.tmp 42) 3, type := 0, pos := "apply.go:58", after := #[{ on := 19, ground := Ground.data }, { on := 0, ground := Ground.phase }, { on := 1, ground := Ground.phase }, { on := 2, ground := Ground.phase }, { on := 3, ground := Ground.phase }, { on := 4, ground := Ground.phase }, { on := 5, ground := Ground.phase }, { on := 6, ground := Ground.phase }, { on := 7, ground := Ground.phase }, { on := 8, ground := Ground.phase }, { on := 9, ground := Ground.phase }, { on := 10, ground := Ground.phase }, { on := 11, ground := Ground.phase }, { on := 12, ground := Ground.phase }, { on := 13, ground := Ground.phase }, { on := 14, ground := Ground.phase }, { on := 15, ground := Ground.phase }, { on := 16, ground := Ground.phase }, { on := 17, ground := Ground.phase }, { on := 18, ground := Ground.phase }], guard := none }) (v := ?vv18) rfl (by kernel_rfl) (by kernel_rfl) (by kernel_rfl) (fun _ _ _ h => h) (Or.inl ⟨by rfl, ?hy18⟩) (HS.out _ HK3.out) ?rest18
  case hy18 =>
    intro V hV
    obtain ⟨y0, y1, y2⟩ := hV
    go_simp
    all_goals rfl
  simp only [Act.put, List.setIfInBounds_toArray, List.set_cons_zero, List.set_cons_succ]
  refine wpAnyH_ready (rs := [21]) (by kernel_rfl) (by simp) (AllReadyH.cons (o := { dst := none, op := Op.store 9 (Operand.tmp 43) (Operand.tmp 35), type := 0, pos := "apply.go:58", after := #[{ on := 20, ground := Ground.data }, { on := 9, ground := Ground.data }, { on := 18, ground := Ground.chain }, { on := 0, ground := Ground.phase }, { on := 1, ground := Ground.phase }, { on := 2, ground := Ground.phase }, { on := 3, ground := Ground.phase }, { on := 4, ground := Ground.phase }, { on := 5, ground := Ground.phase }, { on := 6, ground := Ground.phase }, { on := 7, ground := Ground.phase }, { on := 8, ground := Ground.phase }, { on := 9, ground := Ground.phase }, { on := 10, ground := Ground.phase }, { on := 11, ground := Ground.phase }, { on := 12, ground := Ground.phase }, { on := 13, ground := Ground.phase }, { on := 14, ground := Ground.phase }, { on := 15, ground := Ground.phase }, { on := 16, ground := Ground.phase }, { on := 17, ground := Ground.phase }, { on := 18, ground := Ground.phase }], guard := none }) rfl (fun K' hK => ?_) AllReadyH.nil)
  obtain ⟨⟨p0, p1, p2, p3, p4, p5, p6, p7, p8⟩, f0, f1, f2, f3, f4, f5, f6, f7, f8⟩ := nineAt HB3.out hso.out
  have HB4 : Hid (((V3).setCell ⟨sb, so + 3, none⟩ (.string en)).heap[sb]? = some (.cells (pre ++ [.string nm, q1, .string et, .string en, .int .i64 1, q5, q6, q7, q8] ++ post).toArray T (0, 0))) := blk_set HB3.out hso.out (j := 3) (by simp) _
  have HK4 : Hid (Kept (fun j => j = sb) V0 ((V3).setCell ⟨sb, so + 3, none⟩ (.string en))) := (HK3.out).and (Kept.setCell (S := fun j => j = sb) _ ⟨sb, so + 3, none⟩ _ rfl)
  go_simp
  clear p0 p1 p2 p3 p4 p5 p6 p7 p8 f0 f1 f2 f3 f4 f5 f6 f7 f8
  refine hK.out _ _ (HS.out _ HK4.out) (fun _ => ?_)
  generalize (V3).setCell ⟨sb, so + 3, none⟩ (.string en) = V4 at *
  clear hK K'
  try (simp only [Act.put, List.setIfInBounds_toArray, List.set_cons_zero, List.set_cons_succ])
  refine wpAnyH_done (by kernel_rfl) ?_ _
  exact HH.out _ _ _ _ _ _ _ _ _ _ _ _ _ _ _ _ _ _ _ HB4.out (HKD.out.and HK4.out)

set_option maxRecDepth 100000 in
set_option maxHeartbeats 8000000 in
theorem ch17 {W : World} {sb so : Nat} {T : TypeId} {pre post : List Value} {eb : Nat} {ez : Int} {et : ByteArray} {q0 q1 q2 q3 q4 q5 q6 q7 q8 : Value} {ds : List Deferred} {u0 u2 u3 u4 u6 u7 u8 u9 u10 u11 u12 u13 u14 u15 u16 u17 u18 u19 u20 u21 u22 u23 u24 u25 u26 u27 u28 u29 u30 u31 u32 u33 u34 u35 u36 u37 u38 u39 u40 u41 u42 u43 u44 u45 u46 u47 u48 u49 u50 u51 u52 u53 u54 u55 u56 u57 u58 u59 u60 u61 u62 u63 u64 u65 u66 u67 u68 u69 u70 u71 u72 u73 u74 u75 u76 u77 u78 u79 u80 u81 u82 u83 u84 u85 u86 u87 u88 u89 u90 u91 u92 u93 u94 u95 u96 u97 u98 u99 u100 u101 : Value} (K : Act → World → Prop)
    (hb : W.heap[sb]? = some (.cells (pre ++ [q0, q1, q2, q3, q4, q5, q6, q7, q8] ++ post).toArray T (0, 0))) (hso0 : pre.length = so) (x0 : W.cell? ⟨eb, 3, none⟩ = some (.int .i64 ez)) (x1 : W.cell? ⟨eb, 2, none⟩ = some (.string et)) (heb : eb ≠ sb)
    (h : ∀ (v83 v84 v85 v86 v87 v88 v89 v90 v91 v92 : Value) (W' : World), W'.heap[sb]? = some (.cells (pre ++ [q0, q1, q2, q3, .int .i64 ez, .string et, q6, q7, q8] ++ post).toArray T (0, 0)) → Kept (fun j => j = sb) W W' → K { tmps := #[u0, .pointer (some ⟨sb, so, none⟩), u2, u3, u4, .pointer (some ⟨eb, 0, none⟩), u6, u7, u8, u9, u10, u11, u12, u13, u14, u15, u16, u17, u18, u19, u20, u21, u22, u23, u24, u25, u26, u27, u28, u29, u30, u31, u32, u33, u34, u35, u36, u37, u38, u39, u40, u41, u42, u43, u44, u45, u46, u47, u48, u49, u50, u51, u52, u53, u54, u55, u56, u57, u58, u59, u60, u61, u62, u63, u64, u65, u66, u67, u68, u69, u70, u71, u72, u73, u74, u75, u76, u77, u78, u79, u80, u81, u82, v83, v84, v85, v86, v87, v88, v89, v90, v91, v92, u93, u94, u95, u96, u97, u98, u99, u100, u101], defers := ds } W') :
    (Code.region 17 #[{ dst := some 83, op := Op.move (Operand.tmp 1), type := 86, pos := "apply.go:65", after := #[], guard := none }, { dst := some 84, op := Op.move (Operand.tmp 1), type := 86, pos := "apply.go:65", after := #[{ on := 8, ground := Ground.gcOnly Departure.lateStores }], guard := none }, { dst := some 85, op := Op.fieldAddr 51 (Operand.tmp 5) 3, type := 0, pos := "apply.go:65", after := #[], guard := none }, { dst := some 86, op := Op.load 3 (Operand.tmp 85), type := 3, pos := "apply.go:65", after := #[{ on := 2, ground := Ground.data }], guard := none }, { dst := some 87, op := Op.fieldAddr 51 (Operand.tmp 5) 2, type := 0, pos := "apply.go:65", after := #[{ on := 8, ground := Ground.gcOnly Departure.lateStores }], guard := none }, { dst := some 88, op := Op.load 9 (Operand.tmp 87), type := 9, pos := "apply.go:65", after := #[{ on := 4, ground := Ground.data }, { on := 8, ground := Ground.gcOnly Departure.lateStores }], guard := none }, { dst := some 89, op := Op.nilCheck (Operand.tmp 83), type := 0, pos := "apply.go:65", after := #[{ on := 0, ground := Ground.data }, { on := 0, ground := Ground.phase }, { on := 1, ground := Ground.textOnly Departure.lateStores }, { on := 2, ground := Ground.phase }, { on := 3, ground := Ground.phase }, { on := 4, ground := Ground.textOnly Departure.lateStores }, { on := 5, ground := Ground.textOnly Departure.lateStores }], guard := none }, { dst := some 90, op := Op.fieldAddr 33 (Operand.tmp 89) 4, type := 0, pos := "apply.go:65", after := #[{ on := 6, ground := Ground.data }, { on := 0, ground := Ground.phase }, { on := 1, ground := Ground.textOnly Departure.lateStores }, { on := 2, ground := Ground.phase }, { on := 3, ground := Ground.phase }, { on := 4, ground := Ground.textOnly Departure.lateStores }, { on := 5, ground := Ground.textOnly Departure.lateStores }], guard := none }, { dst := none, op := Op.store 3 (Operand.tmp 90) (Operand.tmp 86), type := 0, pos := "apply.go:65", after := #[{ on := 7, ground := Ground.data }, { on := 3, ground := Ground.data }, { on := 0, ground := Ground.phase }, { on := 1, ground := Ground.textOnly Departure.lateStores }, { on := 2, ground := Ground.phase }, { on := 3, ground := Ground.phase }, { on := 4, ground := Ground.textOnly Departure.lateStores }, { on := 5, ground := Ground.textOnly Departure.lateStores }], guard := none }, { dst := some 91, op := Op.nilCheck (Operand.tmp 84), type := 0, pos := "apply.go:65", after := #[{ on := 1, ground := Ground.data }, { on := 0, ground := Ground.phase }, { on := 1, ground := Ground.phase }, { on := 2, ground := Ground.phase }, { on := 3, ground := Ground.phase }, { on := 4, ground := Ground.phase }, { on := 5, ground := Ground.phase }, { on := 6, ground := Ground.phase }, { on := 7, ground := Ground.phase }, { on := 8, ground := Ground.phase }], guard := none }, { dst := some 92, op := Op.fieldAddr 33 (Operand.tmp 91) 5, type := 0, pos := "apply.go:65", after := #[{ on := 9, ground := Ground.data }, { on := 0, ground := Ground.phase }, { on := 1, ground := Ground.phase }, { on := 2, ground := Ground.phase }, { on := 3, ground := Ground.phase }, { on := 4, ground := Ground.phase }, { on := 5, ground := Ground.phase }, { on := 6, ground := Ground.phase }, { on := 7, ground := Ground.phase }, { on := 8, ground := Ground.phase }], guard := none }, { dst := none, op := Op.store 9 (Operand.tmp 92) (Operand.tmp 88), type := 0, pos := "apply.go:65", after := #[{ on := 10, ground := Ground.data }, { on := 5, ground := Ground.data }, { on := 8, ground := Ground.chain }, { on := 0, ground := Ground.phase }, { on := 1, ground := Ground.phase }, { on := 2, ground := Ground.phase }, { on := 3, ground := Ground.phase }, { on := 4, ground := Ground.phase }, { on := 5, ground := Ground.phase }, { on := 6, ground := Ground.phase }, { on := 7, ground := Ground.phase }, { on := 8, ground := Ground.phase }], guard := none }] true).wp Tryd.prog (onlyN K) { tmps := #[u0, .pointer (some ⟨sb, so, none⟩), u2, u3, u4, .pointer (some ⟨eb, 0, none⟩), u6, u7, u8, u9, u10, u11, u12, u13, u14, u15, u16, u17, u18, u19, u20, u21, u22, u23, u24, u25, u26, u27, u28, u29, u30, u31, u32, u33, u34, u35, u36, u37, u38, u39, u40, u41, u42, u43, u44, u45, u46, u47, u48, u49, u50, u51, u52, u53, u54, u55, u56, u57, u58, u59, u60, u61, u62, u63, u64, u65, u66, u67, u68, u69, u70, u71, u72, u73, u74, u75, u76, u77, u78, u79, u80, u81, u82, u83, u84, u85, u86, u87, u88, u89, u90, u91, u92, u93, u94, u95, u96, u97, u98, u99, u100, u101], defers := ds } W := by
  have HH : Hid _ := h
  have KD := Kept.drew (fun j => j = sb) W
  have hso : Hid (pre.length = so) := hso0
  have hh : ∀ {V : World} {k b : Nat} {v : Value}, Kept (fun j => j = sb) W V → W.cell? ⟨b, k, none⟩ = some v → b ≠ sb → V.cell? ⟨b, k, none⟩ = some v := fun {V k b v} KV hc hne => by
    rw [World.cell?_of_block (w := W) (KV.block _ (World.block_lt_of_cell? W _ hc) hne)]
    exact hc
  have HS : Hid (∀ V, Kept (fun j => j = sb) W.drew V → V.cell? ⟨eb, 3, none⟩ = some (.int .i64 ez) ∧ V.cell? ⟨eb, 2, none⟩ = some (.string et)) := fun V KV => ⟨hh (KD.and KV) x0 heb, hh (KD.and KV) x1 heb⟩
  have HKD : Hid (Kept (fun j => j = sb) W W.drew) := KD
  have HB0 : Hid (W.drew.heap[sb]? = some (.cells (pre ++ [q0, q1, q2, q3, q4, q5, q6, q7, q8] ++ post).toArray T (0, 0))) := hb
  have hS0 := HS.out W.drew (Kept.refl _ _)
  clear h KD hb hh hso0 x0 x1
  refine wp_region_held_drew (S := fun V => V.cell? ⟨eb, 3, none⟩ = some (.int .i64 ez) ∧ V.cell? ⟨eb, 2, none⟩ = some (.string et)) (by kernel_rfl) hS0 (fun _ => ?_)
  generalize W.drew = V0 at *
  refine wpAnyH_take (i := 0) (oi := { dst := some 83, op := Op.move (Operand.tmp 1), type := 86, pos := "apply.go:65", after := #[], guard := none }) (v := ?vv1) rfl (by kernel_rfl) (by kernel_rfl) (by kernel_rfl) (fun _ _ _ h => h) (Or.inl ⟨by rfl, ?hy1⟩) hS0 ?rest1
  case hy1 =>
    intro V hV
    obtain ⟨y0, y1⟩ := hV
    go_simp
    all_goals rfl
  simp only [Act.put, List.setIfInBounds_toArray, List.set_cons_zero, List.set_cons_succ]
  refine wpAnyH_take (i := 1) (oi := { dst := some 84, op := Op.move (Operand.tmp 1), type := 86, pos := "apply.go:65", after := #[{ on := 8, ground := Ground.gcOnly Departure.lateStores }], guard := none }) (v := ?vv2) rfl (by kernel_rfl) (by kernel_rfl) (by kernel_rfl) (fun _ _ _ h => h) (Or.inl ⟨by rfl, ?hy2⟩) hS0 ?rest2
  case hy2 =>
    intro V hV
    obtain ⟨y0, y1⟩ := hV
    go_simp
    all_goals rfl
  simp only [Act.put, List.setIfInBounds_toArray, List.set_cons_zero, List.set_cons_succ]
  refine wpAnyH_take (i := 2) (oi := { dst := some 85, op := Op.fieldAddr 51 (Operand.tmp 5) 3, type := 0, pos := "apply.go:65", after := #[], guard := none }) (v := ?vv3) rfl (by kernel_rfl) (by kernel_rfl) (by kernel_rfl) (fun _ _ _ h => h) (Or.inl ⟨by rfl, ?hy3⟩) hS0 ?rest3
  case hy3 =>
    intro V hV
    obtain ⟨y0, y1⟩ := hV
    go_simp
    all_goals rfl
  simp only [Act.put, List.setIfInBounds_toArray, List.set_cons_zero, List.set_cons_succ]
  refine wpAnyH_take (i := 3) (oi := { dst := some 86, op := Op.load 3 (Operand.tmp 85), type := 3, pos := "apply.go:65", after := #[{ on := 2, ground := Ground.data }], guard := none }) (v := ?vv4) rfl (by kernel_rfl) (by kernel_rfl) (by kernel_rfl) (fun _ _ _ h => h) (Or.inl ⟨by rfl, ?hy4⟩) hS0 ?rest4
  case hy4 =>
    intro V hV
    obtain ⟨y0, y1⟩ := hV
    go_simp
    all_goals rfl
  simp only [Act.put, List.setIfInBounds_toArray, List.set_cons_zero, List.set_cons_succ]
  refine wpAnyH_take (i := 4) (oi := { dst := some 87, op := Op.fieldAddr 51 (Operand.tmp 5) 2, type := 0, pos := "apply.go:65", after := #[{ on := 8, ground := Ground.gcOnly Departure.lateStores }], guard := none }) (v := ?vv5) rfl (by kernel_rfl) (by kernel_rfl) (by kernel_rfl) (fun _ _ _ h => h) (Or.inl ⟨by rfl, ?hy5⟩) hS0 ?rest5
  case hy5 =>
    intro V hV
    obtain ⟨y0, y1⟩ := hV
    go_simp
    all_goals rfl
  simp only [Act.put, List.setIfInBounds_toArray, List.set_cons_zero, List.set_cons_succ]
  refine wpAnyH_take (i := 5) (oi := { dst := some 88, op := Op.load 9 (Operand.tmp 87), type := 9, pos := "apply.go:65", after := #[{ on := 4, ground := Ground.data }, { on := 8, ground := Ground.gcOnly Departure.lateStores }], guard := none }) (v := ?vv6) rfl (by kernel_rfl) (by kernel_rfl) (by kernel_rfl) (fun _ _ _ h => h) (Or.inl ⟨by rfl, ?hy6⟩) hS0 ?rest6
  case hy6 =>
    intro V hV
    obtain ⟨y0, y1⟩ := hV
    go_simp
    all_goals rfl
  simp only [Act.put, List.setIfInBounds_toArray, List.set_cons_zero, List.set_cons_succ]
  refine wpAnyH_take (i := 6) (oi := { dst := some 89, op := Op.nilCheck (Operand.tmp 83), type := 0, pos := "apply.go:65", after := #[{ on := 0, ground := Ground.data }, { on := 0, ground := Ground.phase }, { on := 1, ground := Ground.textOnly Departure.lateStores }, { on := 2, ground := Ground.phase }, { on := 3, ground := Ground.phase }, { on := 4, ground := Ground.textOnly Departure.lateStores }, { on := 5, ground := Ground.textOnly Departure.lateStores }], guard := none }) (v := ?vv7) rfl (by kernel_rfl) (by kernel_rfl) (by kernel_rfl) (fun _ _ _ h => h) (Or.inl ⟨by rfl, ?hy7⟩) hS0 ?rest7
  case hy7 =>
    intro V hV
    obtain ⟨y0, y1⟩ := hV
    go_simp
    all_goals rfl
  simp only [Act.put, List.setIfInBounds_toArray, List.set_cons_zero, List.set_cons_succ]
  refine wpAnyH_take (i := 7) (oi := { dst := some 90, op := Op.fieldAddr 33 (Operand.tmp 89) 4, type := 0, pos := "apply.go:65", after := #[{ on := 6, ground := Ground.data }, { on := 0, ground := Ground.phase }, { on := 1, ground := Ground.textOnly Departure.lateStores }, { on := 2, ground := Ground.phase }, { on := 3, ground := Ground.phase }, { on := 4, ground := Ground.textOnly Departure.lateStores }, { on := 5, ground := Ground.textOnly Departure.lateStores }], guard := none }) (v := ?vv8) rfl (by kernel_rfl) (by kernel_rfl) (by kernel_rfl) (fun _ _ _ h => h) (Or.inl ⟨by rfl, ?hy8⟩) hS0 ?rest8
  case hy8 =>
    intro V hV
    obtain ⟨y0, y1⟩ := hV
    go_simp
    all_goals rfl
  simp only [Act.put, List.setIfInBounds_toArray, List.set_cons_zero, List.set_cons_succ]
  refine wpAnyH_ready (rs := [8]) (by kernel_rfl) (by simp) (AllReadyH.cons (o := { dst := none, op := Op.store 3 (Operand.tmp 90) (Operand.tmp 86), type := 0, pos := "apply.go:65", after := #[{ on := 7, ground := Ground.data }, { on := 3, ground := Ground.data }, { on := 0, ground := Ground.phase }, { on := 1, ground := Ground.textOnly Departure.lateStores }, { on := 2, ground := Ground.phase }, { on := 3, ground := Ground.phase }, { on := 4, ground := Ground.textOnly Departure.lateStores }, { on := 5, ground := Ground.textOnly Departure.lateStores }], guard := none }) rfl (fun K' hK => ?_) AllReadyH.nil)
  obtain ⟨⟨p0, p1, p2, p3, p4, p5, p6, p7, p8⟩, f0, f1, f2, f3, f4, f5, f6, f7, f8⟩ := nineAt HB0.out hso.out
  have HB1 : Hid (((V0).setCell ⟨sb, so + 4, none⟩ (.int .i64 ez)).heap[sb]? = some (.cells (pre ++ [q0, q1, q2, q3, .int .i64 ez, q5, q6, q7, q8] ++ post).toArray T (0, 0))) := blk_set HB0.out hso.out (j := 4) (by simp) _
  have HK1 : Hid (Kept (fun j => j = sb) V0 ((V0).setCell ⟨sb, so + 4, none⟩ (.int .i64 ez))) := ((Kept.refl (fun j => j = sb) V0)).and (Kept.setCell (S := fun j => j = sb) _ ⟨sb, so + 4, none⟩ _ rfl)
  go_simp
  clear p0 p1 p2 p3 p4 p5 p6 p7 p8 f0 f1 f2 f3 f4 f5 f6 f7 f8
  refine hK.out _ _ (HS.out _ HK1.out) (fun _ => ?_)
  generalize (V0).setCell ⟨sb, so + 4, none⟩ (.int .i64 ez) = V1 at *
  clear hK K'
  try (simp only [Act.put, List.setIfInBounds_toArray, List.set_cons_zero, List.set_cons_succ])
  refine wpAnyH_take (i := 9) (oi := { dst := some 91, op := Op.nilCheck (Operand.tmp 84), type := 0, pos := "apply.go:65", after := #[{ on := 1, ground := Ground.data }, { on := 0, ground := Ground.phase }, { on := 1, ground := Ground.phase }, { on := 2, ground := Ground.phase }, { on := 3, ground := Ground.phase }, { on := 4, ground := Ground.phase }, { on := 5, ground := Ground.phase }, { on := 6, ground := Ground.phase }, { on := 7, ground := Ground.phase }, { on := 8, ground := Ground.phase }], guard := none }) (v := ?vv9) rfl (by kernel_rfl) (by kernel_rfl) (by kernel_rfl) (fun _ _ _ h => h) (Or.inl ⟨by rfl, ?hy9⟩) (HS.out _ HK1.out) ?rest9
  case hy9 =>
    intro V hV
    obtain ⟨y0, y1⟩ := hV
    go_simp
    all_goals rfl
  simp only [Act.put, List.setIfInBounds_toArray, List.set_cons_zero, List.set_cons_succ]
  refine wpAnyH_take (i := 10) (oi := { dst := some 92, op := Op.fieldAddr 33 (Operand.tmp 91) 5, type := 0, pos := "apply.go:65", after := #[{ on := 9, ground := Ground.data }, { on := 0, ground := Ground.phase }, { on := 1, ground := Ground.phase }, { on := 2, ground := Ground.phase }, { on := 3, ground := Ground.phase }, { on := 4, ground := Ground.phase }, { on := 5, ground := Ground.phase }, { on := 6, ground := Ground.phase }, { on := 7, ground := Ground.phase }, { on := 8, ground := Ground.phase }], guard := none }) (v := ?vv10) rfl (by kernel_rfl) (by kernel_rfl) (by kernel_rfl) (fun _ _ _ h => h) (Or.inl ⟨by rfl, ?hy10⟩) (HS.out _ HK1.out) ?rest10
  case hy10 =>
    intro V hV
    obtain ⟨y0, y1⟩ := hV
    go_simp
    all_goals rfl
  simp only [Act.put, List.setIfInBounds_toArray, List.set_cons_zero, List.set_cons_succ]
  refine wpAnyH_ready (rs := [11]) (by kernel_rfl) (by simp) (AllReadyH.cons (o := { dst := none, op := Op.store 9 (Operand.tmp 92) (Operand.tmp 88), type := 0, pos := "apply.go:65", after := #[{ on := 10, ground := Ground.data }, { on := 5, ground := Ground.data }, { on := 8, ground := Ground.chain }, { on := 0, ground := Ground.phase }, { on := 1, ground := Ground.phase }, { on := 2, ground := Ground.phase }, { on := 3, ground := Ground.phase }, { on := 4, ground := Ground.phase }, { on := 5, ground := Ground.phase }, { on := 6, ground := Ground.phase }, { on := 7, ground := Ground.phase }, { on := 8, ground := Ground.phase }], guard := none }) rfl (fun K' hK => ?_) AllReadyH.nil)
  obtain ⟨⟨p0, p1, p2, p3, p4, p5, p6, p7, p8⟩, f0, f1, f2, f3, f4, f5, f6, f7, f8⟩ := nineAt HB1.out hso.out
  have HB2 : Hid (((V1).setCell ⟨sb, so + 5, none⟩ (.string et)).heap[sb]? = some (.cells (pre ++ [q0, q1, q2, q3, .int .i64 ez, .string et, q6, q7, q8] ++ post).toArray T (0, 0))) := blk_set HB1.out hso.out (j := 5) (by simp) _
  have HK2 : Hid (Kept (fun j => j = sb) V0 ((V1).setCell ⟨sb, so + 5, none⟩ (.string et))) := (HK1.out).and (Kept.setCell (S := fun j => j = sb) _ ⟨sb, so + 5, none⟩ _ rfl)
  go_simp
  clear p0 p1 p2 p3 p4 p5 p6 p7 p8 f0 f1 f2 f3 f4 f5 f6 f7 f8
  refine hK.out _ _ (HS.out _ HK2.out) (fun _ => ?_)
  generalize (V1).setCell ⟨sb, so + 5, none⟩ (.string et) = V2 at *
  clear hK K'
  try (simp only [Act.put, List.setIfInBounds_toArray, List.set_cons_zero, List.set_cons_succ])
  refine wpAnyH_done (by kernel_rfl) ?_ _
  exact HH.out _ _ _ _ _ _ _ _ _ _ _ HB2.out (HKD.out.and HK2.out)

set_option maxRecDepth 100000 in
set_option maxHeartbeats 8000000 in
theorem ch13 {W : World} {sb so eb k c7 : Nat} {a7 : Option Addr} {en et : ByteArray} {xs : List Value} {ds : List Deferred} {u0 u2 u3 u4 u6 u7 u8 u9 u10 u11 u12 u13 u14 u15 u16 u17 u18 u19 u20 u21 u22 u23 u24 u25 u26 u27 u28 u29 u30 u31 u32 u33 u34 u35 u36 u37 u38 u39 u40 u41 u42 u43 u44 u45 u46 u47 u48 u49 u50 u51 u52 u53 u54 u55 u56 u57 u58 u59 u60 u61 u62 u63 u64 u65 u66 u67 u68 u69 u70 u71 u72 u73 u74 u75 u76 u77 u78 u79 u80 u81 u82 u83 u84 u85 u86 u87 u88 u89 u90 u91 u92 u93 u94 u95 u96 u97 u98 u99 u100 u101 : Value} (K : Act → World → Prop)
    (x0 : W.cell? ⟨sb, so + 7, none⟩ = some (.slice a7 k c7)) (xz : W.frozen? ⟨sb, so + 7, none⟩ = false) (x1 : W.cell? ⟨eb, 1, none⟩ = some (.string en)) (x2 : W.cell? ⟨eb, 2, none⟩ = some (.string et)) (hne : ∀ g, (Value.slice a7 k c7).ownBlock = some g → g ≠ sb) (hk : k ≤ 1000000) (hR : W.ownsRow 0 88 2 (.slice a7 k c7) k xs)
    (h : ∀ (v53 v54 v55 v56 v57 v58 v59 v60 v61 v62 v63 v64 v65 v66 : Value) (a4 : Option Addr) (c4 : Nat) (w4 : World), w4.ownsRow 0 88 2 (.slice a4 (k + 1) c4) (k + 1) (xs ++ [.string en, .string et]) → ((Value.slice a4 (k + 1) c4).ownBlock = (Value.slice a7 k c7).ownBlock ∨ ∃ g, (Value.slice a4 (k + 1) c4).ownBlock = some g ∧ W.heap.size ≤ g) → Kept (fun j => (Value.slice a7 k c7).ownBlock = some j) W w4 → K { tmps := #[u0, .pointer (some ⟨sb, so, none⟩), u2, u3, u4, .pointer (some ⟨eb, 0, none⟩), u6, u7, u8, u9, u10, u11, u12, u13, u14, u15, u16, u17, u18, u19, u20, u21, u22, u23, u24, u25, u26, u27, u28, u29, u30, u31, u32, u33, u34, u35, u36, u37, u38, u39, u40, u41, u42, u43, u44, u45, u46, u47, u48, u49, u50, u51, u52, v53, v54, v55, v56, v57, v58, v59, v60, v61, v62, v63, v64, v65, v66, u67, u68, u69, u70, u71, u72, u73, u74, u75, u76, u77, u78, u79, u80, u81, u82, u83, u84, u85, u86, u87, u88, u89, u90, u91, u92, u93, u94, u95, u96, u97, u98, u99, u100, u101], defers := ds } (w4.setCell ⟨sb, so + 7, none⟩ (.slice a4 (k + 1) c4))) :
    (Code.region 13 #[{ dst := some 53, op := Op.move (Operand.tmp 1), type := 86, pos := "apply.go:61", after := #[], guard := none }, { dst := some 54, op := Op.move (Operand.tmp 1), type := 86, pos := "apply.go:61", after := #[], guard := none }, { dst := some 55, op := Op.nilCheck (Operand.tmp 54), type := 0, pos := "apply.go:61", after := #[{ on := 1, ground := Ground.data }], guard := none }, { dst := some 56, op := Op.fieldAddr 33 (Operand.tmp 55) 7, type := 0, pos := "apply.go:61", after := #[{ on := 2, ground := Ground.data }], guard := none }, { dst := some 57, op := Op.load 31 (Operand.tmp 56), type := 31, pos := "apply.go:61", after := #[{ on := 3, ground := Ground.data }], guard := none }, { dst := some 58, op := Op.fieldAddr 51 (Operand.tmp 5) 1, type := 0, pos := "apply.go:61", after := #[], guard := none }, { dst := some 59, op := Op.load 9 (Operand.tmp 58), type := 9, pos := "apply.go:61", after := #[{ on := 5, ground := Ground.data }], guard := none }, { dst := some 60, op := Op.fieldAddr 51 (Operand.tmp 5) 2, type := 0, pos := "apply.go:61", after := #[], guard := none }, { dst := some 61, op := Op.load 9 (Operand.tmp 60), type := 9, pos := "apply.go:61", after := #[{ on := 7, ground := Ground.data }], guard := none }, { dst := some 62, op := Op.build 88 #[(0, Operand.tmp 59), (1, Operand.tmp 61)], type := 88, pos := "apply.go:61", after := #[{ on := 6, ground := Ground.data }, { on := 8, ground := Ground.data }], guard := none }, { dst := some 63, op := Op.buildSlice 31 1 #[(0, Operand.tmp 62)], type := 31, pos := "apply.go:61", after := #[{ on := 9, ground := Ground.data }], guard := none }, { dst := some 64, op := Op.call { callee := Callee.builtin Builtin.append, args := #[Operand.tmp 57, Operand.tmp 63], argTypes := #[31, 31] }, type := 31, pos := "apply.go:61", after := #[{ on := 4, ground := Ground.data }, { on := 10, ground := Ground.data }], guard := none }, { dst := some 65, op := Op.nilCheck (Operand.tmp 53), type := 0, pos := "apply.go:61", after := #[{ on := 0, ground := Ground.data }, { on := 0, ground := Ground.phase }, { on := 1, ground := Ground.phase }, { on := 2, ground := Ground.phase }, { on := 3, ground := Ground.phase }, { on := 4, ground := Ground.phase }, { on := 5, ground := Ground.phase }, { on := 6, ground := Ground.phase }, { on := 7, ground := Ground.phase }, { on := 8, ground := Ground.phase }, { on := 9, ground := Ground.phase }, { on := 10, ground := Ground.phase }, { on := 11, ground := Ground.phase }], guard := none }, { dst := some 66, op := Op.fieldAddr 33 (Operand.tmp 65) 7, type := 0, pos := "apply.go:61", after := #[{ on := 12, ground := Ground.data }, { on := 0, ground := Ground.phase }, { on := 1, ground := Ground.phase }, { on := 2, ground := Ground.phase }, { on := 3, ground := Ground.phase }, { on := 4, ground := Ground.phase }, { on := 5, ground := Ground.phase }, { on := 6, ground := Ground.phase }, { on := 7, ground := Ground.phase }, { on := 8, ground := Ground.phase }, { on := 9, ground := Ground.phase }, { on := 10, ground := Ground.phase }, { on := 11, ground := Ground.phase }], guard := none }, { dst := none, op := Op.store 31 (Operand.tmp 66) (Operand.tmp 64), type := 0, pos := "apply.go:61", after := #[{ on := 13, ground := Ground.data }, { on := 11, ground := Ground.data }, { on := 11, ground := Ground.chain }, { on := 0, ground := Ground.phase }, { on := 1, ground := Ground.phase }, { on := 2, ground := Ground.phase }, { on := 3, ground := Ground.phase }, { on := 4, ground := Ground.phase }, { on := 5, ground := Ground.phase }, { on := 6, ground := Ground.phase }, { on := 7, ground := Ground.phase }, { on := 8, ground := Ground.phase }, { on := 9, ground := Ground.phase }, { on := 10, ground := Ground.phase }, { on := 11, ground := Ground.phase }], guard := none }] true).wp Tryd.prog (onlyN K) { tmps := #[u0, .pointer (some ⟨sb, so, none⟩), u2, u3, u4, .pointer (some ⟨eb, 0, none⟩), u6, u7, u8, u9, u10, u11, u12, u13, u14, u15, u16, u17, u18, u19, u20, u21, u22, u23, u24, u25, u26, u27, u28, u29, u30, u31, u32, u33, u34, u35, u36, u37, u38, u39, u40, u41, u42, u43, u44, u45, u46, u47, u48, u49, u50, u51, u52, u53, u54, u55, u56, u57, u58, u59, u60, u61, u62, u63, u64, u65, u66, u67, u68, u69, u70, u71, u72, u73, u74, u75, u76, u77, u78, u79, u80, u81, u82, u83, u84, u85, u86, u87, u88, u89, u90, u91, u92, u93, u94, u95, u96, u97, u98, u99, u100, u101], defers := ds } W := by
  obtain ⟨j0, hj0, hy0, hy1, hy2⟩ := info_parts Tryd.info88
  have HH : Hid _ := h
  have KD := Kept.drew (fun j => (Value.slice a7 k c7).ownBlock = some j) W
  have hlt := World.block_lt_of_cell? W _ x0
  have HC : Hid (∀ V, Kept (fun j => (Value.slice a7 k c7).ownBlock = some j) W.drew V → V.cell? ⟨sb, so + 7, none⟩ = some (.slice a7 k c7) ∧ V.frozen? ⟨sb, so + 7, none⟩ = false) := fun V KV => by
    have hb := (KD.and KV).block sb hlt (fun e => hne sb e rfl)
    exact ⟨(World.cell?_of_block (w := W) hb).trans x0, by rw [← xz]; unfold World.frozen?; rw [hb]⟩
  have HR : Hid (W.drew.ownsRow 0 88 2 (.slice a7 k c7) k xs) := hR
  have HKD : Hid (Kept (fun j => (Value.slice a7 k c7).ownBlock = some j) W W.drew) := KD
  have r0 : W.drew.cell? ⟨sb, so + 7, none⟩ = some (.slice a7 k c7) := x0
  have r1 : W.drew.cell? ⟨eb, 1, none⟩ = some (.string en) := x1
  have r2 : W.drew.cell? ⟨eb, 2, none⟩ = some (.string et) := x2
  have r3 : (W.alloc (.cells #[.string en, .string et] 88)).cell? ⟨sb, so + 7, none⟩ = some (.slice a7 k c7) := keepC (Kept.alloc (fun _ => False) _ _) x0 (fun _ _ h => h)
  clear h KD x0 x1 x2 xz hR
  go_region_law
    (first
      | (refine step_append_sr _ (by rfl) _ _ 31 (by rfl) 0 88 j0 _ 2 32 Tryd.underlying31 hj0 hy0 hy1 hy2 rfl (by decide) (.slice a7 k c7) k xs (by rfl) (HR.out.alloc _) _ (by rfl) 1 [.string en, .string et] (.inl ⟨_, 1, rfl, rfl, World.news_of_block (heap_alloc_new _ _)⟩) (sgF_one [⟨en, et⟩]) (by unfold maxLen; omega) (by omega) (Nat.zero_le _) ?_; intro a4 c4 w4 ho4 hg4 _ hl4; have K4 : Kept (fun j => (Value.slice a7 k c7).ownBlock = some j) W.drew w4 := (Kept.alloc _ _ _).and (Kept.grown hg4 (fun j e => e)); obtain ⟨z0, z1⟩ := HC.out w4 K4)
      | fail)
  all_goals exact HH.out _ _ _ _ _ _ _ _ _ _ _ _ _ _ a4 c4 w4 ho4 (hl4.imp id (fun e => ⟨_, e, by show W.heap.size ≤ (W.alloc _).heap.size; rw [World.size_alloc]; omega⟩)) (HKD.out.and K4)

end Go.Proofs.YtfjekjbkifmpfaaDoor
