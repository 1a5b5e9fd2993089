/-
  The document's text: a character is gathered (a region that draws its order).
-/
import Derived.Test.YtfogkbdbncfleaaGreatDoorFRdr6
import Derived.Deep.RegionHeld3
import Derived.Deep.RegionLaw
namespace Go.Proofs.YtfogkbdbncfleaaGreatDoor
open Go.RowKit

def onlyK (K : Act → World → Prop) : Exit → Act → World → Prop
  | .normal, a, w => K a w
  | _, _, _ => False

theorem wp_onlyK {P : Program} {c : Code} {Q : Exit → Act → World → Prop} {a : Act} {w : World} (h : c.wp P (onlyK (fun a w => Q .normal a w)) a w) : c.wp P Q a w :=
  Code.wp_mono (fun e a w h => by cases e <;> first | exact h | exact h.elim) h

/-- append(v, s...) of a text onto a row that is owned, as a step of a region that draws. -/
theorem step_append_str {P : Program} {ops : Array Oper} {o : Oper} {a : Act} (w : World) {K : Act → World → Prop} {Q : Exit → Act → World → Prop} {E : Prop}
    (hg : o.guard = none) (sl x : Operand) (t u : TypeId) (hop : o.op = Op.call { callee := Callee.builtin Builtin.append, args := #[sl, x], argTypes := #[t, u] })
    (base : Nat) (e : TypeId) (i : TypeInfo) (ht : P.underlying t = some (.slice e)) (hu : P.underlying u = some .string) (hi : P.info? e = some i) (hz : i.zero = some (.int .u8 0))
    (hsize : i.size = 1) (hby : i.bytes = 1)
    (v : Value) (n : Nat) (xs : List Value) (hs : a.eval sl = v) (hown : w.ownsRow base e 1 v n xs) (s : ByteArray) (hx : a.eval x = .string s)
    (h63 : n + s.size ≤ maxLen) (hbytes : n + s.size ≤ 140737488355328) (hbase : base ≤ w.heap.size)
    (hK : ∀ a' cap w', w'.ownsRow base e 1 (.slice a' (n + s.size) cap) (n + s.size) (xs ++ Lib.strCells s) → w.grownBy w' v.ownBlock → K (a.put o.dst (.slice a' (n + s.size) cap)) w') :
    if Region.wanted o (yielded ops a.tmps) = true then Oper.wp P o a w K Q else E := by
  have hw : Region.wanted o (yielded ops a.tmps) = true := by simp [Region.wanted, hg]
  rw [if_pos hw]
  obtain ⟨v', w', hrun, h2, h3, h4⟩ := Lib.run_append_own_string (P := P) w base t u o.type e i ht hu hi hz hsize hby v n xs hown s h63 hbytes hbase
  obtain ⟨a', cap, rfl⟩ := ownsRow_shape h2
  unfold Oper.wp
  simp [execOp, hop, resolve, invoke, builtin, hs, hx, hrun, Result.andThen]
  exact hK a' cap w' h2 h3

set_option maxRecDepth 100000 in
set_option maxHeartbeats 8000000 in
theorem text10 {W : World} {s pc : ByteArray} {g bs n c k zz : Nat} {a : Option Addr} {xs : List Value} {ds : List Deferred} {u1 u2 u4 u6 u7 u8 u9 u10 u11 u12 u13 u14 u15 u16 u17 u18 u19 u20 u21 u22 u23 u24 u25 u26 u27 u28 u29 u30 u31 u32 u33 u34 u35 u36 u37 u38 u39 u40 u41 u42 u43 u44 u45 u46 u47 u48 u49 u50 u51 u52 u53 u54 u55 u56 u57 u58 u59 u60 u61 u62 u63 u64 u65 u66 u67 u68 u69 u70 u71 u72 u73 u74 u75 u76 u77 u78 u79 u80 u81 u82 u83 u84 u85 u86 u87 u88 u89 u90 u91 u92 u93 u94 u95 u96 u97 u98 u99 u100 u101 u102 u103 u104 u105 u106 u107 u108 u109 : Value} (K : Act → World → Prop)
    (x0 : W.cell? ⟨g, 0, none⟩ = some (.string s)) (x1 : W.cell? ⟨g, 1, none⟩ = some (.int .i64 (k : Int))) (own : W.ownsRow bs 5 1 (.slice a n c) n xs) (hbase : bs ≤ W.heap.size) (hgb : g < bs) (hgs : g < W.heap.size)
    (hpc : s.extract k (k + zz) = pc) (hke : k + zz ≤ s.size) (hs : s.size ≤ 281474976710656) (h63 : n + pc.size ≤ maxLen) (hby : n + pc.size ≤ 140737488355328)
    (h : ∀ (v56 v57 v58 v59 v60 v61 v62 v63 v64 v65 v66 v67 v68 v69 v70 v71 v72 : Value) a3 c3 w3, w3.ownsRow bs 5 1 (.slice a3 (n + pc.size) c3) (n + pc.size) (xs ++ Lib.strCells pc) → W.drew.grownBy w3 (Value.slice a n c).ownBlock → K { tmps := #[.pointer (some ⟨g, 0, none⟩), u1, u2, .slice a3 (n + pc.size) c3, u4, .int .i64 (zz : Int), u6, u7, u8, u9, u10, u11, u12, u13, u14, u15, u16, u17, u18, u19, u20, u21, u22, u23, u24, u25, u26, u27, u28, u29, u30, u31, u32, u33, u34, u35, u36, u37, u38, u39, u40, u41, u42, u43, u44, u45, u46, u47, u48, u49, u50, u51, u52, u53, u54, u55, v56, v57, v58, v59, v60, v61, v62, v63, v64, v65, v66, v67, v68, v69, v70, v71, v72, u73, u74, u75, u76, u77, u78, u79, u80, u81, u82, u83, u84, u85, u86, u87, u88, u89, u90, u91, u92, u93, u94, u95, u96, u97, u98, u99, u100, u101, u102, u103, u104, u105, u106, u107, u108, u109], defers := ds } w3) :
    (Code.region 10 #[{ dst := some 56, op := Op.move (Operand.tmp 3), type := 74, pos := "ref.go:307", after := #[], guard := none }, { dst := some 57, op := Op.move (Operand.tmp 0), type := 59, pos := "ref.go:307", after := #[], guard := none }, { dst := some 58, op := Op.nilCheck (Operand.tmp 57), type := 0, pos := "ref.go:307", after := #[{ on := 1, ground := Ground.data }], guard := none }, { dst := some 59, op := Op.fieldAddr 61 (Operand.tmp 58) 0, type := 0, pos := "ref.go:307", after := #[{ on := 2, ground := Ground.data }], guard := none }, { dst := some 60, op := Op.load 9 (Operand.tmp 59), type := 9, pos := "ref.go:307", after := #[{ on := 3, ground := Ground.data }], guard := none }, { dst := some 61, op := Op.move (Operand.tmp 0), type := 59, pos := "ref.go:307", after := #[], guard := none }, { dst := some 62, op := Op.nilCheck (Operand.tmp 61), type := 0, pos := "ref.go:307", after := #[{ on := 5, ground := Ground.data }], guard := none }, { dst := some 63, op := Op.fieldAddr 61 (Operand.tmp 62) 1, type := 0, pos := "ref.go:307", after := #[{ on := 6, ground := Ground.data }], guard := none }, { dst := some 64, op := Op.load 3 (Operand.tmp 63), type := 3, pos := "ref.go:307", after := #[{ on := 7, ground := Ground.data }], guard := none }, { dst := some 65, op := Op.move (Operand.tmp 0), type := 59, pos := "ref.go:307", after := #[], guard := none }, { dst := some 66, op := Op.nilCheck (Operand.tmp 65), type := 0, pos := "ref.go:307", after := #[{ on := 9, ground := Ground.data }], guard := none }, { dst := some 67, op := Op.fieldAddr 61 (Operand.tmp 66) 1, type := 0, pos := "ref.go:307", after := #[{ on := 10, ground := Ground.data }], guard := none }, { dst := some 68, op := Op.load 3 (Operand.tmp 67), type := 3, pos := "ref.go:307", after := #[{ on := 11, ground := Ground.data }], guard := none }, { dst := some 69, op := Op.move (Operand.tmp 5), type := 3, pos := "ref.go:307", after := #[], guard := none }, { dst := some 70, op := Op.binOp BinOp.add 3 (Operand.tmp 68) (Operand.tmp 69) 3, type := 3, pos := "ref.go:307", after := #[{ on := 12, ground := Ground.data }, { on := 13, ground := Ground.data }], guard := none }, { dst := some 71, op := Op.slice 9 (Operand.tmp 60) (some (Operand.tmp 64)) (some (Operand.tmp 70)) none, type := 9, pos := "ref.go:307", after := #[{ on := 4, ground := Ground.data }, { on := 8, ground := Ground.data }, { on := 14, ground := Ground.data }], guard := none }, { dst := some 72, op := Op.call { callee := Callee.builtin Builtin.append, args := #[Operand.tmp 56, Operand.tmp 71], argTypes := #[74, 9] }, type := 74, pos := "ref.go:307", after := #[{ on := 0, ground := Ground.data }, { on := 15, ground := Ground.data }], guard := none }, { dst := some 3, op := Op.assign (Operand.tmp 72), type := 74, pos := "ref.go:307", after := #[{ on := 16, ground := Ground.data }, { on := 16, ground := Ground.chain }, { on := 0, ground := Ground.phase }, { on := 1, ground := Ground.phase }, { on := 2, ground := Ground.phase }, { on := 3, ground := Ground.phase }, { on := 4, ground := Ground.phase }, { on := 5, ground := Ground.phase }, { on := 6, ground := Ground.phase }, { on := 7, ground := Ground.phase }, { on := 8, ground := Ground.phase }, { on := 9, ground := Ground.phase }, { on := 10, ground := Ground.phase }, { on := 11, ground := Ground.phase }, { on := 12, ground := Ground.phase }, { on := 13, ground := Ground.phase }, { on := 14, ground := Ground.phase }, { on := 15, ground := Ground.phase }, { on := 16, ground := Ground.phase }], guard := none }] true).wp Tryz.prog (onlyK K) { tmps := #[.pointer (some ⟨g, 0, none⟩), u1, u2, .slice a n c, u4, .int .i64 (zz : Int), u6, u7, u8, u9, u10, u11, u12, u13, u14, u15, u16, u17, u18, u19, u20, u21, u22, u23, u24, u25, u26, u27, u28, u29, u30, u31, u32, u33, u34, u35, u36, u37, u38, u39, u40, u41, u42, u43, u44, u45, u46, u47, u48, u49, u50, u51, u52, u53, u54, u55, u56, u57, u58, u59, u60, u61, u62, u63, u64, u65, u66, u67, u68, u69, u70, u71, u72, u73, u74, u75, u76, u77, u78, u79, u80, u81, u82, u83, u84, u85, u86, u87, u88, u89, u90, u91, u92, u93, u94, u95, u96, u97, u98, u99, u100, u101, u102, u103, u104, u105, u106, u107, u108, u109], defers := ds } W := by
  obtain ⟨i0, hi0, hz0, hz1, hz2⟩ := info_parts Tryz.info5
  have HH : Hid _ := h
  have own : W.drew.ownsRow bs 5 1 (.slice a n c) n xs := World.ownsRow.drew own
  have hbase : bs ≤ W.drew.heap.size := hbase
  have hlt : ∀ b, (Value.slice a n c).ownBlock = some b → bs ≤ b := fun b e => (own.lt b e).1
  have HG : Hid (∀ V a3 c3, V.ownsRow bs 5 1 (.slice a3 (n + pc.size) c3) (n + pc.size) (xs ++ Lib.strCells pc) → W.drew.grownBy V (Value.slice a n c).ownBlock → V.cell? ⟨g, 0, none⟩ = some (.string s) ∧ V.cell? ⟨g, 1, none⟩ = some (.int .i64 (k : Int)) ∧ (V = W.drew ∨ ∃ a3 c3, V.ownsRow bs 5 1 (.slice a3 (n + pc.size) c3) (n + pc.size) (xs ++ Lib.strCells pc) ∧ W.drew.grownBy V (Value.slice a n c).ownBlock)) := fun V a3 c3 ho hg => by
    have e := (Kept.grown hg (S := fun b => bs ≤ b) hlt).block g (by simpa using hgs) (by omega)
    exact ⟨by rw [← x0]; unfold World.cell?; rw [e]; rfl, by rw [← x1]; unfold World.cell?; rw [e]; rfl, .inr ⟨_, _, ho, hg⟩⟩
  have hS0 : W.drew.cell? ⟨g, 0, none⟩ = some (.string s) ∧ W.drew.cell? ⟨g, 1, none⟩ = some (.int .i64 (k : Int)) ∧ (W.drew = W.drew ∨ ∃ a3 c3, W.drew.ownsRow bs 5 1 (.slice a3 (n + pc.size) c3) (n + pc.size) (xs ++ Lib.strCells pc) ∧ W.drew.grownBy W.drew (Value.slice a n c).ownBlock) := ⟨x0, x1, .inl rfl⟩
  have q0 : IntKind.i64.wrap ((k : Int) + (zz : Int)) = (k : Int) + (zz : Int) := by rw [IntKind.wrap_i64]; omega
  have q1 : (0 : Int) ≤ (k : Int) + (zz : Int) := by omega
  have q2 : (k : Int) + (zz : Int) ≤ (s.size : Int) := by omega
  have q3 : (k : Int) ≤ (k : Int) + (zz : Int) := by omega
  have q4 : ((k : Int) + (zz : Int)).toNat = k + zz := by omega
  clear h x0 x1 hgb hgs hlt hke hs
  refine wp_region_held_drew (S := fun V => V.cell? ⟨g, 0, none⟩ = some (.string s) ∧ V.cell? ⟨g, 1, none⟩ = some (.int .i64 (k : Int)) ∧ (V = W.drew ∨ ∃ a3 c3, V.ownsRow bs 5 1 (.slice a3 (n + pc.size) c3) (n + pc.size) (xs ++ Lib.strCells pc) ∧ W.drew.grownBy V (Value.slice a n c).ownBlock)) (by kernel_rfl) hS0 (fun _ => ?_)
  refine wpAnyH_take (i := 0) (oi := { dst := some 56, op := Op.move (Operand.tmp 3), type := 74, pos := "ref.go:307", after := #[], guard := none }) (v := ?vv1) rfl (by kernel_rfl) (by kernel_rfl) (by kernel_rfl) (fun _ _ _ h => h) (Or.inl ⟨by rfl, ?hy1⟩) hS0 ?rest1
  case hy1 =>
    intro V hV
    obtain ⟨y0, y1, _⟩ := hV
    go_simp
    all_goals rfl
  simp only [Act.put, List.setIfInBounds_toArray, List.set_cons_zero, List.set_cons_succ]
  refine wpAnyH_take (i := 1) (oi := { dst := some 57, op := Op.move (Operand.tmp 0), type := 59, pos := "ref.go:307", after := #[], guard := none }) (v := ?vv2) rfl (by kernel_rfl) (by kernel_rfl) (by kernel_rfl) (fun _ _ _ h => h) (Or.inl ⟨by rfl, ?hy2⟩) hS0 ?rest2
  case hy2 =>
    intro V hV
    obtain ⟨y0, y1, _⟩ := hV
    go_simp
    all_goals rfl
  simp only [Act.put, List.setIfInBounds_toArray, List.set_cons_zero, List.set_cons_succ]
  refine wpAnyH_take (i := 2) (oi := { dst := some 58, op := Op.nilCheck (Operand.tmp 57), type := 0, pos := "ref.go:307", after := #[{ on := 1, ground := Ground.data }], guard := none }) (v := ?vv3) rfl (by kernel_rfl) (by kernel_rfl) (by kernel_rfl) (fun _ _ _ h => h) (Or.inl ⟨by rfl, ?hy3⟩) hS0 ?rest3
  case hy3 =>
    intro V hV
    obtain ⟨y0, y1, _⟩ := hV
    go_simp
    all_goals rfl
  simp only [Act.put, List.setIfInBounds_toArray, List.set_cons_zero, List.set_cons_succ]
  refine wpAnyH_take (i := 3) (oi := { dst := some 59, op := Op.fieldAddr 61 (Operand.tmp 58) 0, type := 0, pos := "ref.go:307", after := #[{ on := 2, ground := Ground.data }], guard := none }) (v := ?vv4) rfl (by kernel_rfl) (by kernel_rfl) (by kernel_rfl) (fun _ _ _ h => h) (Or.inl ⟨by rfl, ?hy4⟩) hS0 ?rest4
  case hy4 =>
    intro V hV
    obtain ⟨y0, y1, _⟩ := hV
    go_simp
    all_goals rfl
  simp only [Act.put, List.setIfInBounds_toArray, List.set_cons_zero, List.set_cons_succ]
  refine wpAnyH_take (i := 4) (oi := { dst := some 60, op := Op.load 9 (Operand.tmp 59), type := 9, pos := "ref.go:307", after := #[{ on := 3, ground := Ground.data }], guard := none }) (v := ?vv5) rfl (by kernel_rfl) (by kernel_rfl) (by kernel_rfl) (fun _ _ _ h => h) (Or.inl ⟨by rfl, ?hy5⟩) hS0 ?rest5
  case hy5 =>
    intro V hV
    obtain ⟨y0, y1, _⟩ := hV
    go_simp
    all_goals rfl
  simp only [Act.put, List.setIfInBounds_toArray, List.set_cons_zero, List.set_cons_succ]
  refine wpAnyH_take (i := 5) (oi := { dst := some 61, op := Op.move (Operand.tmp 0), type := 59, pos := "ref.go:307", after := #[], guard := none }) (v := ?vv6) rfl (by kernel_rfl) (by kernel_rfl) (by kernel_rfl) (fun _ _ _ h => h) (Or.inl ⟨by rfl, ?hy6⟩) hS0 ?rest6
  case hy6 =>
    intro V hV
    obtain ⟨y0, y1, _⟩ := hV
    go_simp
    all_goals rfl
  simp only [Act.put, List.setIfInBounds_toArray, List.set_cons_zero, List.set_cons_succ]
  refine wpAnyH_take (i := 6) (oi := { dst := some 62, op := Op.nilCheck (Operand.tmp 61), type := 0, pos := "ref.go:307", after := #[{ on := 5, ground := Ground.data }], guard := none }) (v := ?vv7) rfl (by kernel_rfl) (by kernel_rfl) (by kernel_rfl) (fun _ _ _ h => h) (Or.inl ⟨by rfl, ?hy7⟩) hS0 ?rest7
  case hy7 =>
    intro V hV
    obtain ⟨y0, y1, _⟩ := hV
    go_simp
    all_goals rfl
  simp only [Act.put, List.setIfInBounds_toArray, List.set_cons_zero, List.set_cons_succ]
  refine wpAnyH_take (i := 7) (oi := { dst := some 63, op := Op.fieldAddr 61 (Operand.tmp 62) 1, type := 0, pos := "ref.go:307", after := #[{ on := 6, ground := Ground.data }], guard := none }) (v := ?vv8) rfl (by kernel_rfl) (by kernel_rfl) (by kernel_rfl) (fun _ _ _ h => h) (Or.inl ⟨by rfl, ?hy8⟩) hS0 ?rest8
  case hy8 =>
    intro V hV
    obtain ⟨y0, y1, _⟩ := hV
    go_simp
    all_goals rfl
  simp only [Act.put, List.setIfInBounds_toArray, List.set_cons_zero, List.set_cons_succ]
  refine wpAnyH_take (i := 8) (oi := { dst := some 64, op := Op.load 3 (Operand.tmp 63), type := 3, pos := "ref.go:307", after := #[{ on := 7, ground := Ground.data }], guard := none }) (v := ?vv9) rfl (by kernel_rfl) (by kernel_rfl) (by kernel_rfl) (fun _ _ _ h => h) (Or.inl ⟨by rfl, ?hy9⟩) hS0 ?rest9
  case hy9 =>
    intro V hV
    obtain ⟨y0, y1, _⟩ := hV
    go_simp
    all_goals rfl
  simp only [Act.put, List.setIfInBounds_toArray, List.set_cons_zero, List.set_cons_succ]
  refine wpAnyH_take (i := 9) (oi := { dst := some 65, op := Op.move (Operand.tmp 0), type := 59, pos := "ref.go:307", after := #[], guard := none }) (v := ?vv10) rfl (by kernel_rfl) (by kernel_rfl) (by kernel_rfl) (fun _ _ _ h => h) (Or.inl ⟨by rfl, ?hy10⟩) hS0 ?rest10
  case hy10 =>
    intro V hV
    obtain ⟨y0, y1, _⟩ := hV
    go_simp
    all_goals rfl
  simp only [Act.put, List.setIfInBounds_toArray, List.set_cons_zero, List.set_cons_succ]
  refine wpAnyH_take (i := 10) (oi := { dst := some 66, op := Op.nilCheck (Operand.tmp 65), type := 0, pos := "ref.go:307", after := #[{ on := 9, ground := Ground.data }], guard := none }) (v := ?vv11) rfl (by kernel_rfl) (by kernel_rfl) (by kernel_rfl) (fun _ _ _ h => h) (Or.inl ⟨by rfl, ?hy11⟩) hS0 ?rest11
  case hy11 =>
    intro V hV
    obtain ⟨y0, y1, _⟩ := hV
    go_simp
    all_goals rfl
  simp only [Act.put, List.setIfInBounds_toArray, List.set_cons_zero, List.set_cons_succ]
  refine wpAnyH_take (i := 11) (oi := { dst := some 67, op := Op.fieldAddr 61 (Operand.tmp 66) 1, type := 0, pos := "ref.go:307", after := #[{ on := 10, ground := Ground.data }], guard := none }) (v := ?vv12) rfl (by kernel_rfl) (by kernel_rfl) (by kernel_rfl) (fun _ _ _ h => h) (Or.inl ⟨by rfl, ?hy12⟩) hS0 ?rest12
  case hy12 =>
    intro V hV
    obtain ⟨y0, y1, _⟩ := hV
    go_simp
    all_goals rfl
  simp only [Act.put, List.setIfInBounds_toArray, List.set_cons_zero, List.set_cons_succ]
  refine wpAnyH_take (i := 12) (oi := { dst := some 68, op := Op.load 3 (Operand.tmp 67), type := 3, pos := "ref.go:307", after := #[{ on := 11, ground := Ground.data }], guard := none }) (v := ?vv13) rfl (by kernel_rfl) (by kernel_rfl) (by kernel_rfl) (fun _ _ _ h => h) (Or.inl ⟨by rfl, ?hy13⟩) hS0 ?rest13
  case hy13 =>
    intro V hV
    obtain ⟨y0, y1, _⟩ := hV
    go_simp
    all_goals rfl
  simp only [Act.put, List.setIfInBounds_toArray, List.set_cons_zero, List.set_cons_succ]
  refine wpAnyH_take (i := 13) (oi := { dst := some 69, op := Op.move (Operand.tmp 5), type := 3, pos := "ref.go:307", after := #[], guard := none }) (v := ?vv14) rfl (by kernel_rfl) (by kernel_rfl) (by kernel_rfl) (fun _ _ _ h => h) (Or.inl ⟨by rfl, ?hy14⟩) hS0 ?rest14
  case hy14 =>
    intro V hV
    obtain ⟨y0, y1, _⟩ := hV
    go_simp
    all_goals rfl
  simp only [Act.put, List.setIfInBounds_toArray, List.set_cons_zero, List.set_cons_succ]
  refine wpAnyH_take (i := 14) (oi := { dst := some 70, op := Op.binOp BinOp.add 3 (Operand.tmp 68) (Operand.tmp 69) 3, type := 3, pos := "ref.go:307", after := #[{ on := 12, ground := Ground.data }, { on := 13, ground := Ground.data }], guard := none }) (v := ?vv15) rfl (by kernel_rfl) (by kernel_rfl) (by kernel_rfl) (fun _ _ _ h => h) (Or.inl ⟨by rfl, ?hy15⟩) hS0 ?rest15
  case hy15 =>
    intro V hV
    obtain ⟨y0, y1, _⟩ := hV
    go_simp
    all_goals rfl
  simp only [Act.put, List.setIfInBounds_toArray, List.set_cons_zero, List.set_cons_succ]
  refine wpAnyH_take (i := 15) (oi := { dst := some 71, op := Op.slice 9 (Operand.tmp 60) (some (Operand.tmp 64)) (some (Operand.tmp 70)) none, type := 9, pos := "ref.go:307", after := #[{ on := 4, ground := Ground.data }, { on := 8, ground := Ground.data }, { on := 14, ground := Ground.data }], guard := none }) (v := ?vv16) rfl (by kernel_rfl) (by kernel_rfl) (by kernel_rfl) (fun _ _ _ h => h) (Or.inl ⟨by rfl, ?hy16⟩) hS0 ?rest16
  case hy16 =>
    intro V hV
    obtain ⟨y0, y1, _⟩ := hV
    go_simp
    all_goals rfl
  simp only [Act.put, List.setIfInBounds_toArray, List.set_cons_zero, List.set_cons_succ]
  refine wpAnyH_ready (rs := [16]) (by kernel_rfl) (by simp) (AllReadyH.cons (o := { dst := some 72, op := Op.call { callee := Callee.builtin Builtin.append, args := #[Operand.tmp 56, Operand.tmp 71], argTypes := #[74, 9] }, type := 74, pos := "ref.go:307", after := #[{ on := 0, ground := Ground.data }, { on := 15, ground := Ground.data }], guard := none }) rfl (fun K' hK => ?_) AllReadyH.nil)
  refine step_append_str _ (by rfl) _ _ _ _ (by rfl) bs 5 i0 Tryz.underlying74 Tryz.underlying9 hi0 hz0 hz1 hz2 (.slice a n c) n xs (by rfl) own pc (by rfl) h63 hby hbase ?_
  intro a3 c3 w3 ho3 hg3
  refine hK.out _ _ (HG.out _ _ _ ho3 hg3) (fun _ => ?_)
  clear hK K'
  try (simp only [Act.put, List.setIfInBounds_toArray, List.set_cons_zero, List.set_cons_succ])
  refine wpAnyH_take (i := 17) (oi := { dst := some 3, op := Op.assign (Operand.tmp 72), type := 74, pos := "ref.go:307", after := #[{ on := 16, ground := Ground.data }, { on := 16, ground := Ground.chain }, { on := 0, ground := Ground.phase }, { on := 1, ground := Ground.phase }, { on := 2, ground := Ground.phase }, { on := 3, ground := Ground.phase }, { on := 4, ground := Ground.phase }, { on := 5, ground := Ground.phase }, { on := 6, ground := Ground.phase }, { on := 7, ground := Ground.phase }, { on := 8, ground := Ground.phase }, { on := 9, ground := Ground.phase }, { on := 10, ground := Ground.phase }, { on := 11, ground := Ground.phase }, { on := 12, ground := Ground.phase }, { on := 13, ground := Ground.phase }, { on := 14, ground := Ground.phase }, { on := 15, ground := Ground.phase }, { on := 16, ground := Ground.phase }], guard := none }) (v := ?vv17) rfl (by kernel_rfl) (by kernel_rfl) (by kernel_rfl) (fun _ _ _ h => h) (Or.inl ⟨by rfl, ?hy17⟩) (HG.out _ _ _ ho3 hg3) ?rest17
  case hy17 =>
    intro V hV
    obtain ⟨y0, y1, _⟩ := hV
    go_simp
    all_goals rfl
  simp only [Act.put, List.setIfInBounds_toArray, List.set_cons_zero, List.set_cons_succ]
  refine wpAnyH_done (by kernel_rfl) ?_ _
  exact HH.out _ _ _ _ _ _ _ _ _ _ _ _ _ _ _ _ _ _ _ _ ho3 hg3

end Go.Proofs.YtfogkbdbncfleaaGreatDoor
