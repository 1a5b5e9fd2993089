/-
  breakAt: a workflow is closed by a node that failed.
-/
import Derived.Test.YtfjekjbkifmpfaaDoorG21
import Derived.Deep.Cut
namespace Go.Proofs.YtfjekjbkifmpfaaDoor
open Go.RowKit

def breakP (nm : ByteArray) (ns : List Nd) (r : Rn) (node tx : ByteArray) : Rn := endP nm ns (tellP nm ns r ⟨6, node, tx, 0⟩ []) 3 tx

theorem flat_none (w : World) : FlatAt w 13 (.slice none ([] : List Tk).length 0) ([] : List Tk).length (tkF []) :=
  ⟨rfl, none, 0, rfl, Nat.le_refl _, Nat.zero_le _, .inl rfl⟩

set_option maxRecDepth 100000 in
set_option maxHeartbeats 8000000 in
theorem breakAt_any {w0 w : World} {H : Nat → Prop} {rb : Nat} {nm : ByteArray} {a : Option Addr} {c : Nat} {ns : List Nd} {r : Rn} {m : Nat} (E : Env w0 w H a ns) (R : RAt w H rb nm a ns.length c r) (F : Fit r m) (hm : m ≤ 999999) (hn : ns.length ≤ 999999) (node tx : ByteArray) :
    Calls Tryd.prog 80 #[.pointer (some ⟨rb, 0, none⟩), .string node, .string tx] w fun e w' => e = .returned (.tuple #[]) ∧ RGoes w H rb nm a ns.length c (breakP nm ns r node tx) w' := by
  have hT := tellE E R F (by omega) ⟨6, node, tx, 0⟩ [] none 0 (flat_none w) (by decide) (fun g h => by cases h)
  rw [List.length_nil] at hT
  have HE := hid E
  have HF1 : Hid (Fit (tellP nm ns r ⟨6, node, tx, 0⟩ []) (m + 1 + 0)) := tellP_fit F E.few _ _
  clear E R F
  go_enter Tryd.func80, Tryd.ntmps80
  go_wp2_with (first
    | (go_at_call 73; refine hT.mono ?_; rintro e w1 ⟨rfl, X1⟩; clear hT; obtain ⟨H1, E1, R1, hH1, K1⟩ := HE.out.goes X1; have hD := end_any E1 R1 HF1.out (by omega) hn 3 tx; have HX : Hid ((∀ g, H1 g → H g ∨ w.heap.size ≤ g) ∧ Kept H w w1) := ⟨hH1, K1⟩; clear X1 E1 R1 hH1 K1)
    | (go_at_call 81; refine hD.mono ?_; rintro e w2 ⟨rfl, X2⟩; clear hD)
    | fail)
  go_end0
  exact ⟨rfl, X2.trans HX.out.1 HX.out.2⟩

end Go.Proofs.YtfjekjbkifmpfaaDoor

/-
  beginWait: its regions that draw their order.
-/
namespace Go.Proofs.YtfjekjbkifmpfaaDoor
open Go.RowKit

set_option maxRecDepth 100000 in
set_option maxHeartbeats 8000000 in
theorem bw1 {W : World} {sb nb : Nat} {arg : ByteArray} {q0 q1 q2 q3 q4 q5 q6 q7 q8 : Value} {z : Value} {ds : List Deferred} {u1 u2 u4 u5 u6 u7 u8 u9 u10 u11 u12 u13 u14 u15 u16 u17 u18 u19 u20 u21 u22 u23 u24 u25 u26 u27 u28 u29 u30 u31 u32 : Value} (K : Act → World → Prop)
    (x0 : W.cell? ⟨sb, 2, none⟩ = some (q0)) (x1 : W.cell? ⟨sb, 3, none⟩ = some (q1)) (x2 : W.cell? ⟨sb, 4, none⟩ = some (q2)) (x3 : W.cell? ⟨sb, 5, none⟩ = some (q3)) (x4 : W.cell? ⟨sb, 6, none⟩ = some (q4)) (x5 : W.cell? ⟨sb, 7, none⟩ = some (q5)) (x6 : W.cell? ⟨sb, 8, none⟩ = some (q6)) (x7 : W.cell? ⟨sb, 9, none⟩ = some (q7)) (x8 : W.cell? ⟨sb, 10, none⟩ = some (q8)) (x9 : W.cell? ⟨nb, 2, none⟩ = some (.string arg))
    (hC : Calls Tryd.prog 90 #[.agg #[q0, q1, q2, q3, q4, q5, q6, q7, q8], .string arg] W.drew fun e w' => e = .returned z ∧ Kept (fun _ => False) W.drew w')
    (h : ∀ (v5 v6 v7 v8 v9 v10 v11 : Value) (w5 : World), Kept (fun _ => False) W w5 → K { tmps := #[.pointer (some ⟨sb, 0, none⟩), u1, u2, .pointer (some ⟨nb, 0, none⟩), z, v5, v6, v7, v8, v9, v10, v11, u12, u13, u14, u15, u16, u17, u18, u19, u20, u21, u22, u23, u24, u25, u26, u27, u28, u29, u30, u31, u32], defers := ds } w5) :
    (Code.region 1 #[{ dst := some 5, op := Op.move (Operand.tmp 0), type := 94, pos := "goon.go:79", after := #[], guard := none }, { dst := some 6, op := Op.nilCheck (Operand.tmp 5), type := 0, pos := "goon.go:79", after := #[{ on := 0, ground := Ground.data }], guard := none }, { dst := some 7, op := Op.fieldAddr 96 (Operand.tmp 6) 1, type := 0, pos := "goon.go:79", after := #[{ on := 1, ground := Ground.data }], guard := none }, { dst := some 8, op := Op.load 33 (Operand.tmp 7), type := 33, pos := "goon.go:79", after := #[{ on := 2, ground := Ground.data }], guard := none }, { dst := some 9, op := Op.fieldAddr 64 (Operand.tmp 3) 2, type := 0, pos := "goon.go:79", after := #[], guard := none }, { dst := some 10, op := Op.load 9 (Operand.tmp 9), type := 9, pos := "goon.go:79", after := #[{ on := 4, ground := Ground.data }], guard := none }, { dst := some 11, op := Op.call { callee := Callee.value (Operand.func 90), args := #[Operand.tmp 8, Operand.tmp 10], argTypes := #[33, 9] }, type := 3, pos := "goon.go:79", after := #[{ on := 3, ground := Ground.data }, { on := 5, ground := Ground.data }], guard := none }, { dst := some 4, op := Op.assign (Operand.tmp 11), type := 3, pos := "goon.go:79", after := #[{ on := 6, ground := Ground.data }, { on := 6, ground := Ground.chain }, { on := 0, ground := Ground.phase }, { on := 1, ground := Ground.phase }, { on := 2, ground := Ground.phase }, { on := 3, ground := Ground.phase }, { on := 4, ground := Ground.phase }, { on := 5, ground := Ground.phase }, { on := 6, ground := Ground.phase }], guard := none }] true).wp Tryd.prog (onlyN K) { tmps := #[.pointer (some ⟨sb, 0, none⟩), u1, u2, .pointer (some ⟨nb, 0, none⟩), u4, u5, u6, u7, u8, u9, u10, u11, u12, u13, u14, u15, u16, u17, u18, u19, u20, u21, u22, u23, u24, u25, u26, u27, u28, u29, u30, u31, u32], defers := ds } W := by
  have HH : Hid _ := h
  have KD := Kept.drew (fun _ => False) W
  have HS : Hid (∀ V, Kept (fun _ => False) W.drew V → V.cell? ⟨sb, 2, none⟩ = some (q0) ∧ V.cell? ⟨sb, 3, none⟩ = some (q1) ∧ V.cell? ⟨sb, 4, none⟩ = some (q2) ∧ V.cell? ⟨sb, 5, none⟩ = some (q3) ∧ V.cell? ⟨sb, 6, none⟩ = some (q4) ∧ V.cell? ⟨sb, 7, none⟩ = some (q5) ∧ V.cell? ⟨sb, 8, none⟩ = some (q6) ∧ V.cell? ⟨sb, 9, none⟩ = some (q7) ∧ V.cell? ⟨sb, 10, none⟩ = some (q8) ∧ V.cell? ⟨nb, 2, none⟩ = some (.string arg)) := fun V KV => ⟨keepC (KD.and KV) x0 (fun _ _ h => h), keepC (KD.and KV) x1 (fun _ _ h => h), keepC (KD.and KV) x2 (fun _ _ h => h), keepC (KD.and KV) x3 (fun _ _ h => h), keepC (KD.and KV) x4 (fun _ _ h => h), keepC (KD.and KV) x5 (fun _ _ h => h), keepC (KD.and KV) x6 (fun _ _ h => h), keepC (KD.and KV) x7 (fun _ _ h => h), keepC (KD.and KV) x8 (fun _ _ h => h), keepC (KD.and KV) x9 (fun _ _ h => h)⟩
  have HKD : Hid (Kept (fun _ => False) W W.drew) := KD
  have hS0 := HS.out W.drew (Kept.refl _ _)
  clear h KD x0 x1 x2 x3 x4 x5 x6 x7 x8 x9
  refine wp_region_held_drew (S := fun V => V.cell? ⟨sb, 2, none⟩ = some (q0) ∧ V.cell? ⟨sb, 3, none⟩ = some (q1) ∧ V.cell? ⟨sb, 4, none⟩ = some (q2) ∧ V.cell? ⟨sb, 5, none⟩ = some (q3) ∧ V.cell? ⟨sb, 6, none⟩ = some (q4) ∧ V.cell? ⟨sb, 7, none⟩ = some (q5) ∧ V.cell? ⟨sb, 8, none⟩ = some (q6) ∧ V.cell? ⟨sb, 9, none⟩ = some (q7) ∧ V.cell? ⟨sb, 10, none⟩ = some (q8) ∧ V.cell? ⟨nb, 2, none⟩ = some (.string arg)) (by kernel_rfl) hS0 (fun _ => ?_)
  refine wpAnyH_take (i := 0) (oi := { dst := some 5, op := Op.move (Operand.tmp 0), type := 94, pos := "goon.go:79", after := #[], guard := none }) (v := ?vv1) rfl (by kernel_rfl) (by kernel_rfl) (by kernel_rfl) (fun _ _ _ h => h) (Or.inl ⟨by rfl, ?hy1⟩) hS0 ?rest1
  case hy1 =>
    intro V hV
    obtain ⟨y0, y1, y2, y3, y4, y5, y6, y7, y8, y9⟩ := hV
    go_simp
    all_goals rfl
  simp only [Act.put, List.setIfInBounds_toArray, List.set_cons_zero, List.set_cons_succ]
  refine wpAnyH_take (i := 1) (oi := { dst := some 6, op := Op.nilCheck (Operand.tmp 5), type := 0, pos := "goon.go:79", after := #[{ on := 0, ground := Ground.data }], guard := none }) (v := ?vv2) rfl (by kernel_rfl) (by kernel_rfl) (by kernel_rfl) (fun _ _ _ h => h) (Or.inl ⟨by rfl, ?hy2⟩) hS0 ?rest2
  case hy2 =>
    intro V hV
    obtain ⟨y0, y1, y2, y3, y4, y5, y6, y7, y8, y9⟩ := hV
    go_simp
    all_goals rfl
  simp only [Act.put, List.setIfInBounds_toArray, List.set_cons_zero, List.set_cons_succ]
  refine wpAnyH_take (i := 2) (oi := { dst := some 7, op := Op.fieldAddr 96 (Operand.tmp 6) 1, type := 0, pos := "goon.go:79", after := #[{ on := 1, ground := Ground.data }], guard := none }) (v := ?vv3) rfl (by kernel_rfl) (by kernel_rfl) (by kernel_rfl) (fun _ _ _ h => h) (Or.inl ⟨by rfl, ?hy3⟩) hS0 ?rest3
  case hy3 =>
    intro V hV
    obtain ⟨y0, y1, y2, y3, y4, y5, y6, y7, y8, y9⟩ := hV
    go_simp
    all_goals rfl
  simp only [Act.put, List.setIfInBounds_toArray, List.set_cons_zero, List.set_cons_succ]
  refine wpAnyH_take (i := 3) (oi := { dst := some 8, op := Op.load 33 (Operand.tmp 7), type := 33, pos := "goon.go:79", after := #[{ on := 2, ground := Ground.data }], guard := none }) (v := ?vv4) rfl (by kernel_rfl) (by kernel_rfl) (by kernel_rfl) (fun _ _ _ h => h) (Or.inl ⟨by rfl, ?hy4⟩) hS0 ?rest4
  case hy4 =>
    intro V hV
    obtain ⟨y0, y1, y2, y3, y4, y5, y6, y7, y8, y9⟩ := hV
    go_simp
    all_goals rfl
  simp only [Act.put, List.setIfInBounds_toArray, List.set_cons_zero, List.set_cons_succ]
  refine wpAnyH_take (i := 4) (oi := { dst := some 9, op := Op.fieldAddr 64 (Operand.tmp 3) 2, type := 0, pos := "goon.go:79", after := #[], guard := none }) (v := ?vv5) rfl (by kernel_rfl) (by kernel_rfl) (by kernel_rfl) (fun _ _ _ h => h) (Or.inl ⟨by rfl, ?hy5⟩) hS0 ?rest5
  case hy5 =>
    intro V hV
    obtain ⟨y0, y1, y2, y3, y4, y5, y6, y7, y8, y9⟩ := hV
    go_simp
    all_goals rfl
  simp only [Act.put, List.setIfInBounds_toArray, List.set_cons_zero, List.set_cons_succ]
  refine wpAnyH_take (i := 5) (oi := { dst := some 10, op := Op.load 9 (Operand.tmp 9), type := 9, pos := "goon.go:79", after := #[{ on := 4, ground := Ground.data }], guard := none }) (v := ?vv6) rfl (by kernel_rfl) (by kernel_rfl) (by kernel_rfl) (fun _ _ _ h => h) (Or.inl ⟨by rfl, ?hy6⟩) hS0 ?rest6
  case hy6 =>
    intro V hV
    obtain ⟨y0, y1, y2, y3, y4, y5, y6, y7, y8, y9⟩ := hV
    go_simp
    all_goals rfl
  simp only [Act.put, List.setIfInBounds_toArray, List.set_cons_zero, List.set_cons_succ]
  refine wpAnyH_ready (rs := [6]) (by kernel_rfl) (by simp) (AllReadyH.cons (o := { dst := some 11, op := Op.call { callee := Callee.value (Operand.func 90), args := #[Operand.tmp 8, Operand.tmp 10], argTypes := #[33, 9] }, type := 3, pos := "goon.go:79", after := #[{ on := 3, ground := Ground.data }, { on := 5, ground := Ground.data }], guard := none }) rfl (fun K' hK => ?_) AllReadyH.nil)
  refine step_call2 _ (by rfl) 90 _ _ _ _ (by rfl) (enters_of Tryd.func90 (by kernel_rfl) rfl) _ _ (by rfl) (by rfl) hC ?_
  rintro e w5 ⟨rfl, K5⟩
  refine ⟨_, rfl, ?_⟩
  refine hK.out _ _ (HS.out _ K5) (fun _ => ?_)
  clear hK K'
  try (simp only [Act.put, List.setIfInBounds_toArray, List.set_cons_zero, List.set_cons_succ])
  refine wpAnyH_take (i := 7) (oi := { dst := some 4, op := Op.assign (Operand.tmp 11), type := 3, pos := "goon.go:79", after := #[{ on := 6, ground := Ground.data }, { on := 6, ground := Ground.chain }, { on := 0, ground := Ground.phase }, { on := 1, ground := Ground.phase }, { on := 2, ground := Ground.phase }, { on := 3, ground := Ground.phase }, { on := 4, ground := Ground.phase }, { on := 5, ground := Ground.phase }, { on := 6, ground := Ground.phase }], guard := none }) (v := ?vv7) rfl (by kernel_rfl) (by kernel_rfl) (by kernel_rfl) (fun _ _ _ h => h) (Or.inl ⟨by rfl, ?hy7⟩) (HS.out _ K5) ?rest7
  case hy7 =>
    intro V hV
    obtain ⟨y0, y1, y2, y3, y4, y5, y6, y7, y8, y9⟩ := hV
    go_simp
    all_goals rfl
  simp only [Act.put, List.setIfInBounds_toArray, List.set_cons_zero, List.set_cons_succ]
  refine wpAnyH_done (by kernel_rfl) ?_ _
  exact HH.out _ _ _ _ _ _ _ w5 (HKD.out.and K5)

set_option maxRecDepth 100000 in
set_option maxHeartbeats 8000000 in
theorem bw4 {W : World} {R : World → Prop} {sb nb g n7 c7 k : Nat} {x tx : ByteArray} {ds : List Deferred} {u1 u2 u5 u6 u7 u8 u9 u10 u11 u12 u13 u14 u15 u16 u17 u18 u19 u20 u21 u22 u23 u24 u25 u26 u27 u28 u29 u30 u31 u32 : Value} (K : Act → World → Prop)
    (x0 : W.cell? ⟨nb, 0, none⟩ = some (.string x)) (x1 : W.cell? ⟨sb, 9, none⟩ = some (.slice (some ⟨g, 0, none⟩) n7 c7)) (x2 : W.cell? ⟨g, k * 2 + 1, none⟩ = some (.string tx)) (hk : k < n7)
    (hT : Calls Tryd.prog 73 #[.pointer (some ⟨sb, 0, none⟩), .agg #[.int .i64 12, .string x, .string tx, .int .i64 1], .slice none 0 0] W.drew fun e w' => e = .returned (.tuple #[]) ∧ R w')
    (h : ∀ (v19 v20 v21 v22 v23 v24 v25 v26 v27 v28 v29 v30 v31 v32 : Value) (w9 : World), R w9 → K { tmps := #[.pointer (some ⟨sb, 0, none⟩), u1, u2, .pointer (some ⟨nb, 0, none⟩), .int .i64 (k : Nat), u5, u6, u7, u8, u9, u10, u11, u12, u13, u14, u15, u16, u17, u18, v19, v20, v21, v22, v23, v24, v25, v26, v27, v28, v29, v30, v31, v32], defers := ds } w9) :
    (Code.region 4 #[{ dst := some 19, op := Op.move (Operand.tmp 0), type := 94, pos := "goon.go:84", after := #[], guard := none }, { dst := some 20, op := Op.fieldAddr 64 (Operand.tmp 3) 0, type := 0, pos := "goon.go:84", after := #[], guard := none }, { dst := some 21, op := Op.load 9 (Operand.tmp 20), type := 9, pos := "goon.go:84", after := #[{ on := 1, ground := Ground.data }], guard := none }, { dst := some 22, op := Op.move (Operand.tmp 0), type := 94, pos := "goon.go:84", after := #[], guard := none }, { dst := some 23, op := Op.nilCheck (Operand.tmp 22), type := 0, pos := "goon.go:84", after := #[{ on := 3, ground := Ground.data }], guard := none }, { dst := some 24, op := Op.fieldAddr 96 (Operand.tmp 23) 1, type := 0, pos := "goon.go:84", after := #[{ on := 4, ground := Ground.data }], guard := none }, { dst := some 25, op := Op.fieldAddr 33 (Operand.tmp 24) 7, type := 0, pos := "goon.go:84", after := #[{ on := 5, ground := Ground.data }], guard := none }, { dst := some 26, op := Op.load 31 (Operand.tmp 25), type := 31, pos := "goon.go:84", after := #[{ on := 6, ground := Ground.data }], guard := none }, { dst := some 27, op := Op.move (Operand.tmp 4), type := 3, pos := "goon.go:84", after := #[], guard := none }, { dst := some 28, op := Op.indexAddr 31 (Operand.tmp 26) (Operand.tmp 27), type := 0, pos := "goon.go:84", after := #[{ on := 7, ground := Ground.data }, { on := 8, ground := Ground.data }], guard := none }, { dst := some 29, op := Op.fieldAddr 88 (Operand.tmp 28) 1, type := 0, pos := "goon.go:84", after := #[{ on := 9, ground := Ground.data }], guard := none }, { dst := some 30, op := Op.load 9 (Operand.tmp 29), type := 9, pos := "goon.go:84", after := #[{ on := 10, ground := Ground.data }], guard := none }, { dst := some 31, op := Op.build 51 #[(0, Operand.const (Value.int IntKind.i64 12)), (1, Operand.tmp 21), (2, Operand.tmp 30), (3, Operand.const (Value.int IntKind.i64 1))], type := 51, pos := "goon.go:84", after := #[{ on := 2, ground := Ground.data }, { on := 11, ground := Ground.data }], guard := none }, { dst := some 32, op := Op.call { callee := Callee.value (Operand.func 73), args := #[Operand.tmp 19, Operand.tmp 31, Operand.const (Value.slice none 0 0)], argTypes := #[94, 51, 56] }, type := 0, pos := "goon.go:84", after := #[{ on := 0, ground := Ground.data }, { on := 12, ground := Ground.data }], guard := none }] true).wp Tryd.prog (onlyN K) { tmps := #[.pointer (some ⟨sb, 0, none⟩), u1, u2, .pointer (some ⟨nb, 0, none⟩), .int .i64 (k : Nat), u5, u6, u7, u8, u9, u10, u11, u12, u13, u14, u15, u16, u17, u18, u19, u20, u21, u22, u23, u24, u25, u26, u27, u28, u29, u30, u31, u32], defers := ds } W := by
  have HH : Hid _ := h
  have r0 : W.drew.cell? ⟨nb, 0, none⟩ = some (.string x) := x0
  have r1 : W.drew.cell? ⟨sb, 9, none⟩ = some (.slice (some ⟨g, 0, none⟩) n7 c7) := x1
  have r2 : W.drew.cell? ⟨g, k * 2 + 1, none⟩ = some (.string tx) := x2
  have e1 : (k : Int) < (n7 : Int) := by omega
  clear h x0 x1 x2
  go_region_law
    (first
      | (refine step_call3 _ (by rfl) 73 _ _ _ _ _ _ (by rfl) (enters_of Tryd.func73 (by kernel_rfl) rfl) _ _ _ (by rfl) (by rfl) (by rfl) hT ?_; rintro e w9 ⟨rfl, R9⟩; refine ⟨_, rfl, ?_⟩)
      | fail)
  all_goals exact HH.out _ _ _ _ _ _ _ _ _ _ _ _ _ _ w9 R9

end Go.Proofs.YtfjekjbkifmpfaaDoor

/-
  beginWait: a node that waits for a signal begins.
-/
namespace Go.Proofs.YtfjekjbkifmpfaaDoor
open Go.RowKit

def waitP (nm : ByteArray) (ns : List Nd) (r : Rn) (x : Nd) : Rn := match keptP r.st.sigs x.arg with
  | none => tellP nm ns r ⟨11, x.name, ⟨#[]⟩, 0⟩ []
  | some i => tellP nm ns r ⟨12, x.name, ((r.st.sigs[i]?).map (fun s => s.text)).getD ⟨#[]⟩, 1⟩ []

theorem sevenC {w : World} {b : Nat} {T : TypeId} {u0 u1 u2 u3 u4 u5 u6 : Value} (h : w.heap[b]? = some (.cells #[u0, u1, u2, u3, u4, u5, u6] T (0, 0))) : w.cell? ⟨b, 0, none⟩ = some u0 ∧ w.cell? ⟨b, 1, none⟩ = some u1 ∧ w.cell? ⟨b, 2, none⟩ = some u2 ∧ w.cell? ⟨b, 3, none⟩ = some u3 ∧ w.cell? ⟨b, 4, none⟩ = some u4 := by
  simp [World.cell?, h]

theorem sgF_get {l : List Sg} {i : Nat} (hi : i < l.length) : (sgF l)[i * 2 + 1]? = some (.string (l[i]).text) := flatMap_at sgC_len (List.getElem?_eq_getElem hi) 1 (by decide)

set_option maxRecDepth 100000 in
set_option maxHeartbeats 8000000 in
theorem beginWait_any {w0 w : World} {H : Nat → Prop} {rb : Nat} {nm : ByteArray} {a : Option Addr} {c : Nat} {ns : List Nd} {r : Rn} {m : Nat} (E : Env w0 w H a ns) (R : RAt w H rb nm a ns.length c r) (F : Fit r m) (hm : m ≤ 1000000) (x : Nd) (av : Option Addr) (an cv : Nat) :
    Calls Tryd.prog 107 #[.pointer (some ⟨rb, 0, none⟩), .agg #[.string x.name, .int .i64 x.kind, .string x.arg, .string x.«to», .int .i64 x.delay, .int .i64 x.tries, .slice av an cv]] w fun e w' => e = .returned (.tuple #[]) ∧ RGoes w H rb nm a ns.length c (waitP nm ns r x) w' := by
  have KA : Kept (fun _ => False) w (w.alloc (.cells #[.string x.name, .int .i64 x.kind, .string x.arg, .string x.«to», .int .i64 x.delay, .int .i64 x.tries, .slice av an cv] 64)) := Kept.alloc _ _ _
  have hA := heap_alloc_new w (.cells #[.string x.name, .int .i64 x.kind, .string x.arg, .string x.«to», .int .i64 x.delay, .int .i64 x.tries, .slice av an cv] 64)
  obtain ⟨n0, _, n2, _, _⟩ := sevenC hA
  have R1 := R.new KA
  have E1 := E.new KA
  have HKA := hid KA
  clear KA hA R E
  go_enter Tryd.func107, Tryd.ntmps107
  go_upto_region 1 with fail
  generalize w.alloc (.cells #[.string x.name, .int .i64 x.kind, .string x.arg, .string x.«to», .int .i64 x.delay, .int .i64 x.tries, .slice av an cv] 64) = W at *
  obtain ⟨v6, v7, v12, v13, hb, hn6, hn7, _, _, htop⟩ := R1.opened
  obtain ⟨_, _, x2, x3, x4, x5, x6, x7, x8, x9, x10, _⟩ := runCells hb
  have hC := kept_any W.drew r.st v6 v7 ⟨flat_of_owns (ownsRow_keep hn6 (fun _ _ => rfl)), flat_of_owns (ownsRow_keep hn7 (fun _ _ => rfl)), F.nodes, by have := F.sigs; omega⟩ x.arg
  unfold stA keptZ at hC
  refine wp_onlyN (bw1 _ x2 x3 x4 x5 x6 x7 x8 x9 x10 n2 hC ?_)
  intro _ _ _ _ _ _ _ w5 K5
  have n0' := keepC K5 n0 (fun _ _ h => h)
  have x9' := keepC K5 x9 (fun _ _ h => h)
  have E5 := E1.new K5
  have R5 := R1.new K5
  have HK5 := hid (HKA.out.and K5)
  have hn7' := ownsRow_keep hn7 (fun g hg => K5.block g (ownsRow_blk hn7 hg) (fun h => h))
  clear x2 x3 x4 x5 x6 x7 x8 x9 x10 hC hb hn6 hn7 n0 n2 E1 R1 K5
  cases hk : keptP r.st.sigs x.arg with
  | none =>
    have HW := hid (show waitP nm ns r x = tellP nm ns r ⟨11, x.name, ⟨#[]⟩, 0⟩ [] by unfold waitP; rw [hk])
    have hT := tellE E5 R5 F hm ⟨11, x.name, ⟨#[]⟩, 0⟩ [] none 0 (flat_none w5) (by decide) (fun g h => by cases h)
    rw [List.length_nil] at hT
    clear E5 R5 hn7' hk
    simp only []
    go_wp2_with (first
      | (go_at_call 73; refine hT.mono ?_; rintro e w9 ⟨rfl, X9⟩; clear hT)
      | fail)
    (try simp only [Exit.inBlock, Exit.then]); refine bodyPost_ret (results_none rfl _ _ _) rfl ?_
    refine ⟨rfl, ?_⟩
    rw [HW.out]
    exact X9.first HK5.out
  | some i =>
    have hi := keptP_lt hk
    obtain ⟨g, cg, hv, _, _, hrow⟩ := row_at hn7' (by omega)
    subst hv
    have q1 := (hrow _ _ (sgF_get hi)).1
    have hT := tellE (E5.new (Kept.drew _ _)) (R5.new (Kept.drew _ _)) F hm ⟨12, x.name, (r.st.sigs[i]).text, 1⟩ [] none 0 (flat_none _) (by decide) (fun g h => by cases h)
    rw [List.length_nil] at hT
    have hg : ((r.st.sigs[i]?).map (fun s => s.text)).getD ⟨#[]⟩ = (r.st.sigs[i]).text := by rw [List.getElem?_eq_getElem hi]; rfl
    have HW := hid (show waitP nm ns r x = tellP nm ns r ⟨12, x.name, (r.st.sigs[i]).text, 1⟩ [] by unfold waitP; rw [hk]; simp only []; rw [hg])
    have e0 : ¬ ((i : Int) < 0) := by omega
    clear E5 R5 hn7' hk hrow hg
    simp only []
    go_upto_region 4 with fail
    refine wp_onlyN (bw4 (R := fun V => RGoes w5.drew H rb nm a ns.length c (tellP nm ns r ⟨12, x.name, (r.st.sigs[i]).text, 1⟩ []) V) _ n0' x9' q1 hi hT ?_)
    intro _ _ _ _ _ _ _ _ _ _ _ _ _ _ w9 X9
    clear n0' x9' q1 hT
    go_wp2_with fail
    go_end0
    refine ⟨rfl, ?_⟩
    rw [HW.out]
    exact X9.first (HK5.out.and (Kept.drew _ _))

end Go.Proofs.YtfjekjbkifmpfaaDoor

/-
  beginChild: its region that draws its order.
-/
namespace Go.Proofs.YtfjekjbkifmpfaaDoor
open Go.RowKit

theorem thirteenF {w : World} {b : Nat} {T : TypeId} {u0 u1 u2 u3 u4 u5 u6 u7 u8 u9 u10 u11 u12 : Value} (h : w.heap[b]? = some (.cells #[u0, u1, u2, u3, u4, u5, u6, u7, u8, u9, u10, u11, u12] T (0, 0))) : (w.cell? ⟨b, 0, none⟩ = some u0 ∧ w.cell? ⟨b, 1, none⟩ = some u1 ∧ w.cell? ⟨b, 2, none⟩ = some u2 ∧ w.cell? ⟨b, 3, none⟩ = some u3 ∧ w.cell? ⟨b, 4, none⟩ = some u4 ∧ w.cell? ⟨b, 5, none⟩ = some u5 ∧ w.cell? ⟨b, 6, none⟩ = some u6 ∧ w.cell? ⟨b, 7, none⟩ = some u7 ∧ w.cell? ⟨b, 8, none⟩ = some u8 ∧ w.cell? ⟨b, 9, none⟩ = some u9 ∧ w.cell? ⟨b, 10, none⟩ = some u10 ∧ w.cell? ⟨b, 11, none⟩ = some u11 ∧ w.cell? ⟨b, 12, none⟩ = some u12) ∧ (w.frozen? ⟨b, 0, none⟩ = false ∧ w.frozen? ⟨b, 1, none⟩ = false ∧ w.frozen? ⟨b, 2, none⟩ = false ∧ w.frozen? ⟨b, 3, none⟩ = false ∧ w.frozen? ⟨b, 4, none⟩ = false ∧ w.frozen? ⟨b, 5, none⟩ = false ∧ w.frozen? ⟨b, 6, none⟩ = false ∧ w.frozen? ⟨b, 7, none⟩ = false ∧ w.frozen? ⟨b, 8, none⟩ = false ∧ w.frozen? ⟨b, 9, none⟩ = false ∧ w.frozen? ⟨b, 10, none⟩ = false ∧ w.frozen? ⟨b, 11, none⟩ = false ∧ w.frozen? ⟨b, 12, none⟩ = false) := by
  simp [World.cell?, World.frozen?, h]

theorem put13 {w : World} {b : Nat} {T : TypeId} {u0 u1 u2 u3 u4 u5 u6 u7 u8 u9 u10 u11 u12 : Value} (h : w.heap[b]? = some (.cells #[u0, u1, u2, u3, u4, u5, u6, u7, u8, u9, u10, u11, u12] T (0, 0))) (y0 y1 y2 y3 y4 y5 y6 y7 y8 y9 y10 y11 y12 : Value) : (((((((((((((w.setCell ⟨b, 0, none⟩ (y0)).setCell ⟨b, 1, none⟩ (y1)).setCell ⟨b, 2, none⟩ (y2)).setCell ⟨b, 3, none⟩ (y3)).setCell ⟨b, 4, none⟩ (y4)).setCell ⟨b, 5, none⟩ (y5)).setCell ⟨b, 6, none⟩ (y6)).setCell ⟨b, 7, none⟩ (y7)).setCell ⟨b, 8, none⟩ (y8)).setCell ⟨b, 9, none⟩ (y9)).setCell ⟨b, 10, none⟩ (y10)).setCell ⟨b, 11, none⟩ (y11)).setCell ⟨b, 12, none⟩ (y12)).heap[b]? = some (.cells #[y0, y1, y2, y3, y4, y5, y6, y7, y8, y9, y10, y11, y12] T (0, 0)) := by
  simp [World.setCell, Array.getElem?_modify, h]

theorem kept13 {S : Nat → Prop} (w : World) {b : Nat} (h : S b) (y0 y1 y2 y3 y4 y5 y6 y7 y8 y9 y10 y11 y12 : Value) : Kept S w (((((((((((((w.setCell ⟨b, 0, none⟩ (y0)).setCell ⟨b, 1, none⟩ (y1)).setCell ⟨b, 2, none⟩ (y2)).setCell ⟨b, 3, none⟩ (y3)).setCell ⟨b, 4, none⟩ (y4)).setCell ⟨b, 5, none⟩ (y5)).setCell ⟨b, 6, none⟩ (y6)).setCell ⟨b, 7, none⟩ (y7)).setCell ⟨b, 8, none⟩ (y8)).setCell ⟨b, 9, none⟩ (y9)).setCell ⟨b, 10, none⟩ (y10)).setCell ⟨b, 11, none⟩ (y11)).setCell ⟨b, 12, none⟩ (y12)) :=
  ((((((((((((Kept.setCell (S := S) w _ y0 h).and (Kept.setCell (S := S) _ _ y1 h)).and (Kept.setCell (S := S) _ _ y2 h)).and (Kept.setCell (S := S) _ _ y3 h)).and (Kept.setCell (S := S) _ _ y4 h)).and (Kept.setCell (S := S) _ _ y5 h)).and (Kept.setCell (S := S) _ _ y6 h)).and (Kept.setCell (S := S) _ _ y7 h)).and (Kept.setCell (S := S) _ _ y8 h)).and (Kept.setCell (S := S) _ _ y9 h)).and (Kept.setCell (S := S) _ _ y10 h)).and (Kept.setCell (S := S) _ _ y11 h)).and (Kept.setCell (S := S) _ _ y12 h)

set_option maxRecDepth 100000 in
set_option maxHeartbeats 8000000 in
theorem bc3 {W : World} {sb nb : Nat} {t : Tk} {x y arg : ByteArray} {ds : List Deferred} {u1 u2 u4 u5 u6 u7 u8 u9 u10 u11 u12 u13 u14 u15 u16 u17 u18 u19 u20 u21 u22 u23 u24 u25 u26 u27 u28 u29 u30 u31 u32 u33 u34 u35 u36 u37 u38 : Value} (K : Act → World → Prop)
    (x0 : W.cell? ⟨nb, 0, none⟩ = some (.string x)) (x1 : W.cell? ⟨nb, 2, none⟩ = some (.string arg))
    (hN : ∀ V, Kept (fun _ => False) W.drew V → Calls Tryd.prog 99 #[.pointer (some ⟨sb, 0, none⟩), .string x] V fun e w' => e = .returned (.string y) ∧ w' = V)
    (hC : ∀ V, Kept (fun _ => False) W.drew V → Calls Tryd.prog 98 #[.pointer (some ⟨sb, 0, none⟩), .agg #[.int .i64 1, .string y, .string ⟨#[]⟩, .string x, .string arg, .string ⟨#[]⟩, .int .i64 0]] V fun e w' => e = .returned (.agg #[.int .i64 t.kind, .complex .f64 0 0, .string t.flow, .string t.node, .int .i64 t.tr, .int .i64 t.tm, .int .i64 t.mail.kind, .string t.mail.dst, .string t.mail.src, .string t.mail.node, .string t.mail.name, .string t.mail.text, .int .i64 t.mail.status]) ∧ Kept (fun _ => False) V w')
    (h : ∀ (v21 v22 v23 v24 v25 v26 v27 v28 v29 v30 v31 : Value) (mb : Nat) (W' : World), W.heap.size ≤ mb → W'.heap[mb]? = some (.cells #[.int .i64 t.kind, .complex .f64 0 0, .string t.flow, .string t.node, .int .i64 t.tr, .int .i64 t.tm, .int .i64 t.mail.kind, .string t.mail.dst, .string t.mail.src, .string t.mail.node, .string t.mail.name, .string t.mail.text, .int .i64 t.mail.status] 78 (0, 0)) → Kept (fun _ => False) W W' → K { tmps := #[.pointer (some ⟨sb, 0, none⟩), u1, u2, .pointer (some ⟨nb, 0, none⟩), .pointer (some ⟨mb, 0, none⟩), u5, u6, u7, u8, u9, u10, u11, u12, u13, u14, u15, u16, u17, u18, u19, u20, v21, v22, v23, v24, v25, v26, v27, v28, v29, v30, v31, u32, u33, u34, u35, u36, u37, u38], defers := ds } W') :
    (Code.region 3 #[{ dst := some 21, op := Op.move (Operand.tmp 0), type := 94, pos := "goon.go:74", after := #[], guard := none }, { dst := some 22, op := Op.move (Operand.tmp 0), type := 94, pos := "goon.go:74", after := #[], guard := none }, { dst := some 23, op := Op.fieldAddr 64 (Operand.tmp 3) 0, type := 0, pos := "goon.go:74", after := #[], guard := none }, { dst := some 24, op := Op.load 9 (Operand.tmp 23), type := 9, pos := "goon.go:74", after := #[{ on := 2, ground := Ground.data }], guard := none }, { dst := some 25, op := Op.call { callee := Callee.value (Operand.func 99), args := #[Operand.tmp 22, Operand.tmp 24], argTypes := #[94, 9] }, type := 9, pos := "goon.go:74", after := #[{ on := 1, ground := Ground.data }, { on := 3, ground := Ground.data }], guard := none }, { dst := some 26, op := Op.fieldAddr 64 (Operand.tmp 3) 0, type := 0, pos := "goon.go:74", after := #[], guard := none }, { dst := some 27, op := Op.load 9 (Operand.tmp 26), type := 9, pos := "goon.go:74", after := #[{ on := 5, ground := Ground.data }], guard := none }, { dst := some 28, op := Op.fieldAddr 64 (Operand.tmp 3) 2, type := 0, pos := "goon.go:74", after := #[], guard := none }, { dst := some 29, op := Op.load 9 (Operand.tmp 28), type := 9, pos := "goon.go:74", after := #[{ on := 7, ground := Ground.data }], guard := none }, { dst := some 30, op := Op.build 76 #[(0, Operand.const (Value.int IntKind.i64 1)), (1, Operand.tmp 25), (3, Operand.tmp 27), (4, Operand.tmp 29)], type := 76, pos := "goon.go:74", after := #[{ on := 4, ground := Ground.data }, { on := 6, ground := Ground.data }, { on := 8, ground := Ground.data }], guard := none }, { dst := some 31, op := Op.call { callee := Callee.value (Operand.func 98), args := #[Operand.tmp 21, Operand.tmp 30], argTypes := #[94, 76] }, type := 78, pos := "goon.go:74", after := #[{ on := 0, ground := Ground.data }, { on := 9, ground := Ground.data }, { on := 4, ground := Ground.chain }], guard := none }, { dst := some 4, op := Op.alloc 78, type := 0, pos := "goon.go:74", after := #[], guard := none }, { dst := none, op := Op.store 78 (Operand.tmp 4) (Operand.tmp 31), type := 0, pos := "goon.go:74", after := #[{ on := 11, ground := Ground.data }, { on := 10, ground := Ground.data }, { on := 10, ground := Ground.chain }, { on := 0, ground := Ground.phase }, { on := 1, ground := Ground.phase }, { on := 2, ground := Ground.phase }, { on := 3, ground := Ground.phase }, { on := 4, ground := Ground.phase }, { on := 5, ground := Ground.phase }, { on := 6, ground := Ground.phase }, { on := 7, ground := Ground.phase }, { on := 8, ground := Ground.phase }, { on := 9, ground := Ground.phase }, { on := 10, ground := Ground.phase }, { on := 11, ground := Ground.phase }], guard := none }] true).wp Tryd.prog (onlyN K) { tmps := #[.pointer (some ⟨sb, 0, none⟩), u1, u2, .pointer (some ⟨nb, 0, none⟩), u4, u5, u6, u7, u8, u9, u10, u11, u12, u13, u14, u15, u16, u17, u18, u19, u20, u21, u22, u23, u24, u25, u26, u27, u28, u29, u30, u31, u32, u33, u34, u35, u36, u37, u38], defers := ds } W := by
  have HH : Hid _ := h
  have KD := Kept.drew (fun _ => False) W
  have HS : Hid (∀ V, Kept (fun _ => False) W.drew V → V.cell? ⟨nb, 0, none⟩ = some (.string x) ∧ V.cell? ⟨nb, 2, none⟩ = some (.string arg)) := fun V KV => ⟨keepC (KD.and KV) x0 (fun _ _ h => h), keepC (KD.and KV) x1 (fun _ _ h => h)⟩
  have HKD : Hid (Kept (fun _ => False) W W.drew) := KD
  have hS0 := HS.out W.drew (Kept.refl _ _)
  have hst := fun (W : World) (a : Addr) (x y : Nat) (m : Mode) => run_store Tryd.prog W a (.complex .f64 x y) m rfl
  clear h KD x0 x1
  refine wp_region_held_drew (S := fun V => V.cell? ⟨nb, 0, none⟩ = some (.string x) ∧ V.cell? ⟨nb, 2, none⟩ = some (.string arg)) (by kernel_rfl) hS0 (fun _ => ?_)
  generalize W.drew = V0 at *
  refine wpAnyH_take (i := 0) (oi := { dst := some 21, op := Op.move (Operand.tmp 0), type := 94, pos := "goon.go:74", after := #[], guard := none }) (v := ?vv1) rfl (by kernel_rfl) (by kernel_rfl) (by kernel_rfl) (fun _ _ _ h => h) (Or.inl ⟨by rfl, ?hy1⟩) hS0 ?rest1
  case hy1 =>
    intro V hV
    obtain ⟨y0, y1⟩ := hV
    go_simp
    all_goals rfl
  simp only [Act.put, List.setIfInBounds_toArray, List.set_cons_zero, List.set_cons_succ]
  refine wpAnyH_take (i := 1) (oi := { dst := some 22, op := Op.move (Operand.tmp 0), type := 94, pos := "goon.go:74", after := #[], guard := none }) (v := ?vv2) rfl (by kernel_rfl) (by kernel_rfl) (by kernel_rfl) (fun _ _ _ h => h) (Or.inl ⟨by rfl, ?hy2⟩) hS0 ?rest2
  case hy2 =>
    intro V hV
    obtain ⟨y0, y1⟩ := hV
    go_simp
    all_goals rfl
  simp only [Act.put, List.setIfInBounds_toArray, List.set_cons_zero, List.set_cons_succ]
  refine wpAnyH_take (i := 2) (oi := { dst := some 23, op := Op.fieldAddr 64 (Operand.tmp 3) 0, type := 0, pos := "goon.go:74", after := #[], guard := none }) (v := ?vv3) rfl (by kernel_rfl) (by kernel_rfl) (by kernel_rfl) (fun _ _ _ h => h) (Or.inl ⟨by rfl, ?hy3⟩) hS0 ?rest3
  case hy3 =>
    intro V hV
    obtain ⟨y0, y1⟩ := hV
    go_simp
    all_goals rfl
  simp only [Act.put, List.setIfInBounds_toArray, List.set_cons_zero, List.set_cons_succ]
  refine wpAnyH_take (i := 3) (oi := { dst := some 24, op := Op.load 9 (Operand.tmp 23), type := 9, pos := "goon.go:74", after := #[{ on := 2, ground := Ground.data }], guard := none }) (v := ?vv4) rfl (by kernel_rfl) (by kernel_rfl) (by kernel_rfl) (fun _ _ _ h => h) (Or.inl ⟨by rfl, ?hy4⟩) hS0 ?rest4
  case hy4 =>
    intro V hV
    obtain ⟨y0, y1⟩ := hV
    go_simp
    all_goals rfl
  simp only [Act.put, List.setIfInBounds_toArray, List.set_cons_zero, List.set_cons_succ]
  refine wpAnyH_take (i := 5) (oi := { dst := some 26, op := Op.fieldAddr 64 (Operand.tmp 3) 0, type := 0, pos := "goon.go:74", after := #[], guard := none }) (v := ?vv5) rfl (by kernel_rfl) (by kernel_rfl) (by kernel_rfl) (fun _ _ _ h => h) (Or.inl ⟨by rfl, ?hy5⟩) hS0 ?rest5
  case hy5 =>
    intro V hV
    obtain ⟨y0, y1⟩ := hV
    go_simp
    all_goals rfl
  simp only [Act.put, List.setIfInBounds_toArray, List.set_cons_zero, List.set_cons_succ]
  refine wpAnyH_take (i := 6) (oi := { dst := some 27, op := Op.load 9 (Operand.tmp 26), type := 9, pos := "goon.go:74", after := #[{ on := 5, ground := Ground.data }], guard := none }) (v := ?vv6) rfl (by kernel_rfl) (by kernel_rfl) (by kernel_rfl) (fun _ _ _ h => h) (Or.inl ⟨by rfl, ?hy6⟩) hS0 ?rest6
  case hy6 =>
    intro V hV
    obtain ⟨y0, y1⟩ := hV
    go_simp
    all_goals rfl
  simp only [Act.put, List.setIfInBounds_toArray, List.set_cons_zero, List.set_cons_succ]
  refine wpAnyH_take (i := 7) (oi := { dst := some 28, op := Op.fieldAddr 64 (Operand.tmp 3) 2, type := 0, pos := "goon.go:74", after := #[], guard := none }) (v := ?vv7) rfl (by kernel_rfl) (by kernel_rfl) (by kernel_rfl) (fun _ _ _ h => h) (Or.inl ⟨by rfl, ?hy7⟩) hS0 ?rest7
  case hy7 =>
    intro V hV
    obtain ⟨y0, y1⟩ := hV
    go_simp
    all_goals rfl
  simp only [Act.put, List.setIfInBounds_toArray, List.set_cons_zero, List.set_cons_succ]
  refine wpAnyH_take (i := 8) (oi := { dst := some 29, op := Op.load 9 (Operand.tmp 28), type := 9, pos := "goon.go:74", after := #[{ on := 7, ground := Ground.data }], guard := none }) (v := ?vv8) rfl (by kernel_rfl) (by kernel_rfl) (by kernel_rfl) (fun _ _ _ h => h) (Or.inl ⟨by rfl, ?hy8⟩) hS0 ?rest8
  case hy8 =>
    intro V hV
    obtain ⟨y0, y1⟩ := hV
    go_simp
    all_goals rfl
  simp only [Act.put, List.setIfInBounds_toArray, List.set_cons_zero, List.set_cons_succ]
  refine wpAnyH_ready (rs := [4, 11]) (by kernel_rfl) (by simp) (AllReadyH.cons (o := { dst := some 25, op := Op.call { callee := Callee.value (Operand.func 99), args := #[Operand.tmp 22, Operand.tmp 24], argTypes := #[94, 9] }, type := 9, pos := "goon.go:74", after := #[{ on := 1, ground := Ground.data }, { on := 3, ground := Ground.data }], guard := none }) rfl (fun K' hK => ?_) (AllReadyH.cons (o := { dst := some 4, op := Op.alloc 78, type := 0, pos := "goon.go:74", after := #[], guard := none }) rfl (fun K' hK => ?_) AllReadyH.nil))
  · refine step_call2 _ (by rfl) 99 _ _ _ _ (by rfl) (enters_of Tryd.func99 (by kernel_rfl) rfl) _ _ (by rfl) (by rfl) (hN _ (Kept.refl (fun _ => False) V0)) ?_
    rintro e w3 ⟨rfl, hw3⟩
    subst w3
    refine ⟨_, rfl, ?_⟩
    refine hK.out _ _ hS0 (fun _ => ?_)
    clear hK K'
    try (simp only [Act.put, List.setIfInBounds_toArray, List.set_cons_zero, List.set_cons_succ])
    refine wpAnyH_take (i := 9) (oi := { dst := some 30, op := Op.build 76 #[(0, Operand.const (Value.int IntKind.i64 1)), (1, Operand.tmp 25), (3, Operand.tmp 27), (4, Operand.tmp 29)], type := 76, pos := "goon.go:74", after := #[{ on := 4, ground := Ground.data }, { on := 6, ground := Ground.data }, { on := 8, ground := Ground.data }], guard := none }) (v := ?vv9) rfl (by kernel_rfl) (by kernel_rfl) (by kernel_rfl) (fun _ _ _ h => h) (Or.inl ⟨by rfl, ?hy9⟩) hS0 ?rest9
    case hy9 =>
      intro V hV
      obtain ⟨y0, y1⟩ := hV
      go_simp
      all_goals rfl
    simp only [Act.put, List.setIfInBounds_toArray, List.set_cons_zero, List.set_cons_succ]
    refine wpAnyH_ready (rs := [10, 11]) (by kernel_rfl) (by simp) (AllReadyH.cons (o := { dst := some 31, op := Op.call { callee := Callee.value (Operand.func 98), args := #[Operand.tmp 21, Operand.tmp 30], argTypes := #[94, 76] }, type := 78, pos := "goon.go:74", after := #[{ on := 0, ground := Ground.data }, { on := 9, ground := Ground.data }, { on := 4, ground := Ground.chain }], guard := none }) rfl (fun K' hK => ?_) (AllReadyH.cons (o := { dst := some 4, op := Op.alloc 78, type := 0, pos := "goon.go:74", after := #[], guard := none }) rfl (fun K' hK => ?_) AllReadyH.nil))
    · refine step_call2 _ (by rfl) 98 _ _ _ _ (by rfl) (enters_of Tryd.func98 (by kernel_rfl) rfl) _ _ (by rfl) (by rfl) (hC _ (Kept.refl (fun _ => False) V0)) ?_
      rintro e w5 ⟨rfl, K5⟩
      have K6 := ((Kept.refl (fun _ => False) V0)).and K5
      refine ⟨_, rfl, ?_⟩
      refine hK.out _ _ (HS.out _ K6) (fun _ => ?_)
      clear K5
      clear hK K'
      try (simp only [Act.put, List.setIfInBounds_toArray, List.set_cons_zero, List.set_cons_succ])
      refine wpAnyH_ready (rs := [11]) (by kernel_rfl) (by simp) (AllReadyH.cons (o := { dst := some 4, op := Op.alloc 78, type := 0, pos := "goon.go:74", after := #[], guard := none }) rfl (fun K' hK => ?_) AllReadyH.nil)
      have hmb : ((w5).alloc (.cells #[.int .i64 0, .complex .f64 0 0, .string ⟨#[]⟩, .string ⟨#[]⟩, .int .i64 0, .int .i64 0, .int .i64 0, .string ⟨#[]⟩, .string ⟨#[]⟩, .string ⟨#[]⟩, .string ⟨#[]⟩, .string ⟨#[]⟩, .int .i64 0] 78)).heap[(w5).heap.size]? = some (.cells #[.int .i64 0, .complex .f64 0 0, .string ⟨#[]⟩, .string ⟨#[]⟩, .int .i64 0, .int .i64 0, .int .i64 0, .string ⟨#[]⟩, .string ⟨#[]⟩, .string ⟨#[]⟩, .string ⟨#[]⟩, .string ⟨#[]⟩, .int .i64 0] 78 (0, 0)) := heap_alloc_new _ _
      have hz : V0.heap.size ≤ (w5).heap.size := (K6).size
      have KA : Kept (fun _ => False) V0 ((w5).alloc (.cells #[.int .i64 0, .complex .f64 0 0, .string ⟨#[]⟩, .string ⟨#[]⟩, .int .i64 0, .int .i64 0, .int .i64 0, .string ⟨#[]⟩, .string ⟨#[]⟩, .string ⟨#[]⟩, .string ⟨#[]⟩, .string ⟨#[]⟩, .int .i64 0] 78)) := (K6).and (Kept.alloc _ _ _)
      go_simp
      refine hK.out _ _ (HS.out _ KA) (fun _ => ?_)
      generalize (w5).alloc (.cells #[.int .i64 0, .complex .f64 0 0, .string ⟨#[]⟩, .string ⟨#[]⟩, .int .i64 0, .int .i64 0, .int .i64 0, .string ⟨#[]⟩, .string ⟨#[]⟩, .string ⟨#[]⟩, .string ⟨#[]⟩, .string ⟨#[]⟩, .int .i64 0] 78) = V6 at *
      obtain ⟨mb, hmbe⟩ : ∃ mb, mb = (w5).heap.size := ⟨_, rfl⟩
      rw [← hmbe] at hmb ⊢
      have hz2 : V0.heap.size ≤ mb := by rw [hmbe]; exact hz
      clear hz
      have hz := hz2
      clear hz2
      clear hmbe
      clear hK K'
      try (simp only [Act.put, List.setIfInBounds_toArray, List.set_cons_zero, List.set_cons_succ])
      refine wpAnyH_ready (rs := [12]) (by kernel_rfl) (by simp) (AllReadyH.cons (o := { dst := none, op := Op.store 78 (Operand.tmp 4) (Operand.tmp 31), type := 0, pos := "goon.go:74", after := #[{ on := 11, ground := Ground.data }, { on := 10, ground := Ground.data }, { on := 10, ground := Ground.chain }, { on := 0, ground := Ground.phase }, { on := 1, ground := Ground.phase }, { on := 2, ground := Ground.phase }, { on := 3, ground := Ground.phase }, { on := 4, ground := Ground.phase }, { on := 5, ground := Ground.phase }, { on := 6, ground := Ground.phase }, { on := 7, ground := Ground.phase }, { on := 8, ground := Ground.phase }, { on := 9, ground := Ground.phase }, { on := 10, ground := Ground.phase }, { on := 11, ground := Ground.phase }], guard := none }) rfl (fun K' hK => ?_) AllReadyH.nil)
      obtain ⟨⟨p0, p1, p2, p3, p4, p5, p6, p7, p8, p9, p10, p11, p12⟩, f0, f1, f2, f3, f4, f5, f6, f7, f8, f9, f10, f11, f12⟩ := thirteenF hmb
      have HM := hid (put13 hmb (.int .i64 t.kind) (.complex .f64 0 0) (.string t.flow) (.string t.node) (.int .i64 t.tr) (.int .i64 t.tm) (.int .i64 t.mail.kind) (.string t.mail.dst) (.string t.mail.src) (.string t.mail.node) (.string t.mail.name) (.string t.mail.text) (.int .i64 t.mail.status))
      have KS := kept13 (S := fun j => j = mb) V6 rfl (.int .i64 t.kind) (.complex .f64 0 0) (.string t.flow) (.string t.node) (.int .i64 t.tr) (.int .i64 t.tm) (.int .i64 t.mail.kind) (.string t.mail.dst) (.string t.mail.src) (.string t.mail.node) (.string t.mail.name) (.string t.mail.text) (.int .i64 t.mail.status)
      have KF := (KA).trans KS (fun j h => .inr (by subst h; exact hz))
      go_simp
      refine hK.out _ _ (HS.out _ KF) (fun _ => ?_)
      have HKF := hid (HKD.out.and KF)
      clear p0 p1 p2 p3 p4 p5 p6 p7 p8 p9 p10 p11 p12 f0 f1 f2 f3 f4 f5 f6 f7 f8 f9 f10 f11 f12 KS
      clear hK K'
      try (simp only [Act.put, List.setIfInBounds_toArray, List.set_cons_zero, List.set_cons_succ])
      refine wpAnyH_done (by kernel_rfl) ?_ _
      exact HH.out _ _ _ _ _ _ _ _ _ _ _ mb _ (Nat.le_trans HKD.out.size hz) HM.out HKF.out
    · have hmb : ((V0).alloc (.cells #[.int .i64 0, .complex .f64 0 0, .string ⟨#[]⟩, .string ⟨#[]⟩, .int .i64 0, .int .i64 0, .int .i64 0, .string ⟨#[]⟩, .string ⟨#[]⟩, .string ⟨#[]⟩, .string ⟨#[]⟩, .string ⟨#[]⟩, .int .i64 0] 78)).heap[(V0).heap.size]? = some (.cells #[.int .i64 0, .complex .f64 0 0, .string ⟨#[]⟩, .string ⟨#[]⟩, .int .i64 0, .int .i64 0, .int .i64 0, .string ⟨#[]⟩, .string ⟨#[]⟩, .string ⟨#[]⟩, .string ⟨#[]⟩, .string ⟨#[]⟩, .int .i64 0] 78 (0, 0)) := heap_alloc_new _ _
      have hz : V0.heap.size ≤ (V0).heap.size := ((Kept.refl (fun _ => False) V0)).size
      have KA : Kept (fun _ => False) V0 ((V0).alloc (.cells #[.int .i64 0, .complex .f64 0 0, .string ⟨#[]⟩, .string ⟨#[]⟩, .int .i64 0, .int .i64 0, .int .i64 0, .string ⟨#[]⟩, .string ⟨#[]⟩, .string ⟨#[]⟩, .string ⟨#[]⟩, .string ⟨#[]⟩, .int .i64 0] 78)) := ((Kept.refl (fun _ => False) V0)).and (Kept.alloc _ _ _)
      go_simp
      refine hK.out _ _ (HS.out _ KA) (fun _ => ?_)
      generalize (V0).alloc (.cells #[.int .i64 0, .complex .f64 0 0, .string ⟨#[]⟩, .string ⟨#[]⟩, .int .i64 0, .int .i64 0, .int .i64 0, .string ⟨#[]⟩, .string ⟨#[]⟩, .string ⟨#[]⟩, .string ⟨#[]⟩, .string ⟨#[]⟩, .int .i64 0] 78) = V6 at *
      obtain ⟨mb, hmbe⟩ : ∃ mb, mb = (V0).heap.size := ⟨_, rfl⟩
      rw [← hmbe] at hmb ⊢
      have hz2 : V0.heap.size ≤ mb := by rw [hmbe]; exact hz
      clear hz
      have hz := hz2
      clear hz2
      clear hmbe
      clear hK K'
      try (simp only [Act.put, List.setIfInBounds_toArray, List.set_cons_zero, List.set_cons_succ])
      refine wpAnyH_ready (rs := [10]) (by kernel_rfl) (by simp) (AllReadyH.cons (o := { dst := some 31, op := Op.call { callee := Callee.value (Operand.func 98), args := #[Operand.tmp 21, Operand.tmp 30], argTypes := #[94, 76] }, type := 78, pos := "goon.go:74", after := #[{ on := 0, ground := Ground.data }, { on := 9, ground := Ground.data }, { on := 4, ground := Ground.chain }], guard := none }) rfl (fun K' hK => ?_) AllReadyH.nil)
      refine step_call2 _ (by rfl) 98 _ _ _ _ (by rfl) (enters_of Tryd.func98 (by kernel_rfl) rfl) _ _ (by rfl) (by rfl) (hC _ KA) ?_
      rintro e w5 ⟨rfl, K5⟩
      have K6 := (KA).and K5
      have hmb2 : w5.heap[mb]? = some (.cells #[.int .i64 0, .complex .f64 0 0, .string ⟨#[]⟩, .string ⟨#[]⟩, .int .i64 0, .int .i64 0, .int .i64 0, .string ⟨#[]⟩, .string ⟨#[]⟩, .string ⟨#[]⟩, .string ⟨#[]⟩, .string ⟨#[]⟩, .int .i64 0] 78 (0, 0)) := (K5.block _ (Array.getElem?_eq_some_iff.1 hmb).1 (fun h => h)).trans hmb
      clear hmb
      have hmb := hmb2
      clear hmb2
      refine ⟨_, rfl, ?_⟩
      refine hK.out _ _ (HS.out _ K6) (fun _ => ?_)
      clear K5
      clear hK K'
      try (simp only [Act.put, List.setIfInBounds_toArray, List.set_cons_zero, List.set_cons_succ])
      refine wpAnyH_ready (rs := [12]) (by kernel_rfl) (by simp) (AllReadyH.cons (o := { dst := none, op := Op.store 78 (Operand.tmp 4) (Operand.tmp 31), type := 0, pos := "goon.go:74", after := #[{ on := 11, ground := Ground.data }, { on := 10, ground := Ground.data }, { on := 10, ground := Ground.chain }, { on := 0, ground := Ground.phase }, { on := 1, ground := Ground.phase }, { on := 2, ground := Ground.phase }, { on := 3, ground := Ground.phase }, { on := 4, ground := Ground.phase }, { on := 5, ground := Ground.phase }, { on := 6, ground := Ground.phase }, { on := 7, ground := Ground.phase }, { on := 8, ground := Ground.phase }, { on := 9, ground := Ground.phase }, { on := 10, ground := Ground.phase }, { on := 11, ground := Ground.phase }], guard := none }) rfl (fun K' hK => ?_) AllReadyH.nil)
      obtain ⟨⟨p0, p1, p2, p3, p4, p5, p6, p7, p8, p9, p10, p11, p12⟩, f0, f1, f2, f3, f4, f5, f6, f7, f8, f9, f10, f11, f12⟩ := thirteenF hmb
      have HM := hid (put13 hmb (.int .i64 t.kind) (.complex .f64 0 0) (.string t.flow) (.string t.node) (.int .i64 t.tr) (.int .i64 t.tm) (.int .i64 t.mail.kind) (.string t.mail.dst) (.string t.mail.src) (.string t.mail.node) (.string t.mail.name) (.string t.mail.text) (.int .i64 t.mail.status))
      have KS := kept13 (S := fun j => j = mb) w5 rfl (.int .i64 t.kind) (.complex .f64 0 0) (.string t.flow) (.string t.node) (.int .i64 t.tr) (.int .i64 t.tm) (.int .i64 t.mail.kind) (.string t.mail.dst) (.string t.mail.src) (.string t.mail.node) (.string t.mail.name) (.string t.mail.text) (.int .i64 t.mail.status)
      have KF := (K6).trans KS (fun j h => .inr (by subst h; exact hz))
      go_simp
      refine hK.out _ _ (HS.out _ KF) (fun _ => ?_)
      have HKF := hid (HKD.out.and KF)
      clear p0 p1 p2 p3 p4 p5 p6 p7 p8 p9 p10 p11 p12 f0 f1 f2 f3 f4 f5 f6 f7 f8 f9 f10 f11 f12 KS
      clear hK K'
      try (simp only [Act.put, List.setIfInBounds_toArray, List.set_cons_zero, List.set_cons_succ])
      refine wpAnyH_done (by kernel_rfl) ?_ _
      exact HH.out _ _ _ _ _ _ _ _ _ _ _ mb _ (Nat.le_trans HKD.out.size hz) HM.out HKF.out
  · have hmb : ((V0).alloc (.cells #[.int .i64 0, .complex .f64 0 0, .string ⟨#[]⟩, .string ⟨#[]⟩, .int .i64 0, .int .i64 0, .int .i64 0, .string ⟨#[]⟩, .string ⟨#[]⟩, .string ⟨#[]⟩, .string ⟨#[]⟩, .string ⟨#[]⟩, .int .i64 0] 78)).heap[(V0).heap.size]? = some (.cells #[.int .i64 0, .complex .f64 0 0, .string ⟨#[]⟩, .string ⟨#[]⟩, .int .i64 0, .int .i64 0, .int .i64 0, .string ⟨#[]⟩, .string ⟨#[]⟩, .string ⟨#[]⟩, .string ⟨#[]⟩, .string ⟨#[]⟩, .int .i64 0] 78 (0, 0)) := heap_alloc_new _ _
    have hz : V0.heap.size ≤ (V0).heap.size := ((Kept.refl (fun _ => False) V0)).size
    have KA : Kept (fun _ => False) V0 ((V0).alloc (.cells #[.int .i64 0, .complex .f64 0 0, .string ⟨#[]⟩, .string ⟨#[]⟩, .int .i64 0, .int .i64 0, .int .i64 0, .string ⟨#[]⟩, .string ⟨#[]⟩, .string ⟨#[]⟩, .string ⟨#[]⟩, .string ⟨#[]⟩, .int .i64 0] 78)) := ((Kept.refl (fun _ => False) V0)).and (Kept.alloc _ _ _)
    go_simp
    refine hK.out _ _ (HS.out _ KA) (fun _ => ?_)
    generalize (V0).alloc (.cells #[.int .i64 0, .complex .f64 0 0, .string ⟨#[]⟩, .string ⟨#[]⟩, .int .i64 0, .int .i64 0, .int .i64 0, .string ⟨#[]⟩, .string ⟨#[]⟩, .string ⟨#[]⟩, .string ⟨#[]⟩, .string ⟨#[]⟩, .int .i64 0] 78) = V6 at *
    obtain ⟨mb, hmbe⟩ : ∃ mb, mb = (V0).heap.size := ⟨_, rfl⟩
    rw [← hmbe] at hmb ⊢
    have hz2 : V0.heap.size ≤ mb := by rw [hmbe]; exact hz
    clear hz
    have hz := hz2
    clear hz2
    clear hmbe
    clear hK K'
    try (simp only [Act.put, List.setIfInBounds_toArray, List.set_cons_zero, List.set_cons_succ])
    refine wpAnyH_ready (rs := [4]) (by kernel_rfl) (by simp) (AllReadyH.cons (o := { dst := some 25, op := Op.call { callee := Callee.value (Operand.func 99), args := #[Operand.tmp 22, Operand.tmp 24], argTypes := #[94, 9] }, type := 9, pos := "goon.go:74", after := #[{ on := 1, ground := Ground.data }, { on := 3, ground := Ground.data }], guard := none }) rfl (fun K' hK => ?_) AllReadyH.nil)
    refine step_call2 _ (by rfl) 99 _ _ _ _ (by rfl) (enters_of Tryd.func99 (by kernel_rfl) rfl) _ _ (by rfl) (by rfl) (hN _ KA) ?_
    rintro e w3 ⟨rfl, hw3⟩
    subst w3
    refine ⟨_, rfl, ?_⟩
    refine hK.out _ _ (HS.out _ KA) (fun _ => ?_)
    clear hK K'
    try (simp only [Act.put, List.setIfInBounds_toArray, List.set_cons_zero, List.set_cons_succ])
    refine wpAnyH_take (i := 9) (oi := { dst := some 30, op := Op.build 76 #[(0, Operand.const (Value.int IntKind.i64 1)), (1, Operand.tmp 25), (3, Operand.tmp 27), (4, Operand.tmp 29)], type := 76, pos := "goon.go:74", after := #[{ on := 4, ground := Ground.data }, { on := 6, ground := Ground.data }, { on := 8, ground := Ground.data }], guard := none }) (v := ?vv10) rfl (by kernel_rfl) (by kernel_rfl) (by kernel_rfl) (fun _ _ _ h => h) (Or.inl ⟨by rfl, ?hy10⟩) (HS.out _ KA) ?rest10
    case hy10 =>
      intro V hV
      obtain ⟨y0, y1⟩ := hV
      go_simp
      all_goals rfl
    simp only [Act.put, List.setIfInBounds_toArray, List.set_cons_zero, List.set_cons_succ]
    refine wpAnyH_ready (rs := [10]) (by kernel_rfl) (by simp) (AllReadyH.cons (o := { dst := some 31, op := Op.call { callee := Callee.value (Operand.func 98), args := #[Operand.tmp 21, Operand.tmp 30], argTypes := #[94, 76] }, type := 78, pos := "goon.go:74", after := #[{ on := 0, ground := Ground.data }, { on := 9, ground := Ground.data }, { on := 4, ground := Ground.chain }], guard := none }) rfl (fun K' hK => ?_) AllReadyH.nil)
    refine step_call2 _ (by rfl) 98 _ _ _ _ (by rfl) (enters_of Tryd.func98 (by kernel_rfl) rfl) _ _ (by rfl) (by rfl) (hC _ KA) ?_
    rintro e w5 ⟨rfl, K5⟩
    have K6 := (KA).and K5
    have hmb2 : w5.heap[mb]? = some (.cells #[.int .i64 0, .complex .f64 0 0, .string ⟨#[]⟩, .string ⟨#[]⟩, .int .i64 0, .int .i64 0, .int .i64 0, .string ⟨#[]⟩, .string ⟨#[]⟩, .string ⟨#[]⟩, .string ⟨#[]⟩, .string ⟨#[]⟩, .int .i64 0] 78 (0, 0)) := (K5.block _ (Array.getElem?_eq_some_iff.1 hmb).1 (fun h => h)).trans hmb
    clear hmb
    have hmb := hmb2
    clear hmb2
    refine ⟨_, rfl, ?_⟩
    refine hK.out _ _ (HS.out _ K6) (fun _ => ?_)
    clear K5
    clear hK K'
    try (simp only [Act.put, List.setIfInBounds_toArray, List.set_cons_zero, List.set_cons_succ])
    refine wpAnyH_ready (rs := [12]) (by kernel_rfl) (by simp) (AllReadyH.cons (o := { dst := none, op := Op.store 78 (Operand.tmp 4) (Operand.tmp 31), type := 0, pos := "goon.go:74", after := #[{ on := 11, ground := Ground.data }, { on := 10, ground := Ground.data }, { on := 10, ground := Ground.chain }, { on := 0, ground := Ground.phase }, { on := 1, ground := Ground.phase }, { on := 2, ground := Ground.phase }, { on := 3, ground := Ground.phase }, { on := 4, ground := Ground.phase }, { on := 5, ground := Ground.phase }, { on := 6, ground := Ground.phase }, { on := 7, ground := Ground.phase }, { on := 8, ground := Ground.phase }, { on := 9, ground := Ground.phase }, { on := 10, ground := Ground.phase }, { on := 11, ground := Ground.phase }], guard := none }) rfl (fun K' hK => ?_) AllReadyH.nil)
    obtain ⟨⟨p0, p1, p2, p3, p4, p5, p6, p7, p8, p9, p10, p11, p12⟩, f0, f1, f2, f3, f4, f5, f6, f7, f8, f9, f10, f11, f12⟩ := thirteenF hmb
    have HM := hid (put13 hmb (.int .i64 t.kind) (.complex .f64 0 0) (.string t.flow) (.string t.node) (.int .i64 t.tr) (.int .i64 t.tm) (.int .i64 t.mail.kind) (.string t.mail.dst) (.string t.mail.src) (.string t.mail.node) (.string t.mail.name) (.string t.mail.text) (.int .i64 t.mail.status))
    have KS := kept13 (S := fun j => j = mb) w5 rfl (.int .i64 t.kind) (.complex .f64 0 0) (.string t.flow) (.string t.node) (.int .i64 t.tr) (.int .i64 t.tm) (.int .i64 t.mail.kind) (.string t.mail.dst) (.string t.mail.src) (.string t.mail.node) (.string t.mail.name) (.string t.mail.text) (.int .i64 t.mail.status)
    have KF := (K6).trans KS (fun j h => .inr (by subst h; exact hz))
    go_simp
    refine hK.out _ _ (HS.out _ KF) (fun _ => ?_)
    have HKF := hid (HKD.out.and KF)
    clear p0 p1 p2 p3 p4 p5 p6 p7 p8 p9 p10 p11 p12 f0 f1 f2 f3 f4 f5 f6 f7 f8 f9 f10 f11 f12 KS
    clear hK K'
    try (simp only [Act.put, List.setIfInBounds_toArray, List.set_cons_zero, List.set_cons_succ])
    refine wpAnyH_done (by kernel_rfl) ?_ _
    exact HH.out _ _ _ _ _ _ _ _ _ _ _ mb _ (Nat.le_trans HKD.out.size hz) HM.out HKF.out

end Go.Proofs.YtfjekjbkifmpfaaDoor

/-
  beginChild: a node that asks for a workflow begins.
-/
namespace Go.Proofs.YtfjekjbkifmpfaaDoor
open Go.RowKit

def longB : ByteArray := ⟨#[108, 111, 110, 103]⟩

def askP (nm : ByteArray) (ns : List Nd) (r : Rn) (x : Nd) : Rn :=
  if 256 < r.st.id.size + 1 + x.name.size then breakP nm ns r x.name longB
  else tellP nm ns r ⟨9, x.name, ⟨#[]⟩, 0⟩ [msgP r.st.id ⟨1, childP r.st.id x.name, ⟨#[]⟩, x.name, x.arg, ⟨#[]⟩, 0⟩]

theorem flat_new (w : World) (t : Tk) : FlatAt (w.alloc (.cells #[.int .i64 t.kind, .complex .f64 0 0, .string t.flow, .string t.node, .int .i64 t.tr, .int .i64 t.tm, .int .i64 t.mail.kind, .string t.mail.dst, .string t.mail.src, .string t.mail.node, .string t.mail.name, .string t.mail.text, .int .i64 t.mail.status] 78)) 13 (.slice (some ⟨w.heap.size, 0, none⟩) [t].length 1) [t].length (tkF [t]) := by
  refine ⟨rfl, _, 1, rfl, Nat.le_refl _, by unfold maxLen; decide, .inr ⟨w.heap.size, 0, rfl, fun j u hu => ?_⟩⟩
  have h := heap_alloc_new w (.cells #[.int .i64 t.kind, .complex .f64 0 0, .string t.flow, .string t.node, .int .i64 t.tr, .int .i64 t.tm, .int .i64 t.mail.kind, .string t.mail.dst, .string t.mail.src, .string t.mail.node, .string t.mail.name, .string t.mail.text, .int .i64 t.mail.status] 78)
  have h2 : (#[.int .i64 t.kind, .complex .f64 0 0, .string t.flow, .string t.node, .int .i64 t.tr, .int .i64 t.tm, .int .i64 t.mail.kind, .string t.mail.dst, .string t.mail.src, .string t.mail.node, .string t.mail.name, .string t.mail.text, .int .i64 t.mail.status] : Array Value) = (tkF [t]).toArray := rfl
  rw [h2] at h ⊢
  rw [Nat.zero_add]
  unfold World.cell?
  rw [h]
  simpa using hu

set_option maxRecDepth 100000 in
set_option maxHeartbeats 8000000 in
theorem beginChild_any {w0 w : World} {H : Nat → Prop} {rb : Nat} {nm : ByteArray} {a : Option Addr} {c : Nat} {ns : List Nd} {r : Rn} {m : Nat} (E : Env w0 w H a ns) (R : RAt w H rb nm a ns.length c r) (F : Fit r m) (hm : m ≤ 999999) (hn : ns.length ≤ 999999) (x : Nd) (hx : x.name.size ≤ 100000000) (av : Option Addr) (an cv : Nat) :
    Calls Tryd.prog 106 #[.pointer (some ⟨rb, 0, none⟩), .agg #[.string x.name, .int .i64 x.kind, .string x.arg, .string x.«to», .int .i64 x.delay, .int .i64 x.tries, .slice av an cv]] w fun e w' => e = .returned (.tuple #[]) ∧ RGoes w H rb nm a ns.length c (askP nm ns r x) w' := by
  have KA : Kept (fun _ => False) w (w.alloc (.cells #[.string x.name, .int .i64 x.kind, .string x.arg, .string x.«to», .int .i64 x.delay, .int .i64 x.tries, .slice av an cv] 64)) := Kept.alloc _ _ _
  have hA := heap_alloc_new w (.cells #[.string x.name, .int .i64 x.kind, .string x.arg, .string x.«to», .int .i64 x.delay, .int .i64 x.tries, .slice av an cv] 64)
  obtain ⟨n0, _, n2, _, _⟩ := sevenC hA
  have R1 := R.new KA
  have E1 := E.new KA
  have HKA := hid KA
  have htop := R.opened
  obtain ⟨_, _, _, _, _, _, _, _, _, htop⟩ := htop
  have Ht := hid htop
  clear KA hA R E htop
  have hid1 := F.idsz
  obtain ⟨v6, v7, v12, v13, hb, hn6, hn7, _, _, _⟩ := R1.opened
  obtain ⟨_, _, _, x3, _⟩ := runCells hb
  have w1 : IntKind.i64.wrap ((r.st.id.size : Int) + 1) = (r.st.id.size : Int) + 1 := by rw [IntKind.wrap_i64]; omega
  have w2 : IntKind.i64.wrap ((r.st.id.size : Int) + 1 + (x.name.size : Int)) = (r.st.id.size : Int) + 1 + (x.name.size : Int) := by rw [IntKind.wrap_i64]; omega
  have HE1 := hid E1
  have HR1 := hid R1
  have HF := hid F
  clear hb hn6 hn7 E1 R1
  by_cases hlong : 256 < r.st.id.size + 1 + x.name.size
  · have e0 : (256 : Int) < (r.st.id.size : Int) + 1 + (x.name.size : Int) := by omega
    have HW := hid (show askP nm ns r x = breakP nm ns r x.name longB by unfold askP; rw [if_pos hlong])
    have hB := fun V (KV : Kept (fun _ => False) (w.alloc (.cells #[.string x.name, .int .i64 x.kind, .string x.arg, .string x.«to», .int .i64 x.delay, .int .i64 x.tries, .slice av an cv] 64)) V) => breakAt_any (HE1.out.new KV) (HR1.out.new KV) HF.out hm hn x.name longB
    unfold longB at hB
    clear hlong
    go_enter Tryd.func106, Tryd.ntmps106
    go_wp2_with (first
      | (go_at_call 80; refine (hB _ (Kept.drewN _ _ _)).mono ?_; rintro e w9 ⟨rfl, X9⟩; clear hB)
      | go_quiet (fail) | fail)
    (try simp only [Exit.inBlock, Exit.then]); refine bodyPost_ret (results_none rfl _ _ _) rfl ?_
    refine ⟨rfl, ?_⟩
    rw [HW.out]
    exact X9.first (HKA.out.and (Kept.drewN _ _ _))
  · have e0 : ¬ ((256 : Int) < (r.st.id.size : Int) + 1 + (x.name.size : Int)) := by omega
    have HW := hid (show askP nm ns r x = tellP nm ns r ⟨9, x.name, ⟨#[]⟩, 0⟩ [msgP r.st.id ⟨1, childP r.st.id x.name, ⟨#[]⟩, x.name, x.arg, ⟨#[]⟩, 0⟩] by unfold askP; rw [if_neg hlong])
    clear hlong
    go_enter Tryd.func106, Tryd.ntmps106
    go_upto_region 3 with (first | go_quiet (fail) | fail)
    have KN := Kept.drewN (fun _ => False) (w.alloc (.cells #[.string x.name, .int .i64 x.kind, .string x.arg, .string x.«to», .int .i64 x.delay, .int .i64 x.tries, .slice av an cv] 64)) nq
    have m0 := keepC KN n0 (fun _ _ h => h)
    have m2 := keepC KN n2 (fun _ _ h => h)
    have E3 := HE1.out.new KN
    have R3 := HR1.out.new KN
    have K3 := HKA.out.and KN
    clear n0 n2 x3 HE1 HR1 KN HKA
    generalize (w.alloc (.cells #[.string x.name, .int .i64 x.kind, .string x.arg, .string x.«to», .int .i64 x.delay, .int .i64 x.tries, .slice av an cv] 64)).drewN nq = W at *
    obtain ⟨t, ht⟩ : ∃ t, t = msgP r.st.id ⟨1, childP r.st.id x.name, ⟨#[]⟩, x.name, x.arg, ⟨#[]⟩, 0⟩ := ⟨_, rfl⟩
    rw [← ht] at HW
    refine wp_onlyN (bc3 (t := t) (x := x.name) (y := childP r.st.id x.name) (arg := x.arg) _ m0 m2 (fun V KV => childName_any V H rb nm a _ c r (R3.new ((Kept.drew _ _).and KV)) x.name (by omega)) (fun V KV => by rw [ht]; exact message_any V H rb nm a _ c r (R3.new ((Kept.drew _ _).and KV)) ⟨1, childP r.st.id x.name, ⟨#[]⟩, x.name, x.arg, ⟨#[]⟩, 0⟩) ?_)
    intro _ _ _ _ _ _ _ _ _ _ _ mb w5 _ hM5 K5
    have n5 := keepC K5 m0 (fun _ _ h => h)
    obtain ⟨d0, d1, d2, d3, d4, d5, d6, d7, d8, d9, d10, d11, d12⟩ := thirteen hM5
    have K6 : Kept (fun _ => False) w5 (w5.alloc (.cells #[.int .i64 t.kind, .complex .f64 0 0, .string t.flow, .string t.node, .int .i64 t.tr, .int .i64 t.tm, .int .i64 t.mail.kind, .string t.mail.dst, .string t.mail.src, .string t.mail.node, .string t.mail.name, .string t.mail.text, .int .i64 t.mail.status] 78)) := Kept.alloc _ _ _
    have hzw : w.heap.size ≤ w5.heap.size := Nat.le_trans K3.size K5.size
    have hT := tellE ((E3.new K5).new K6) ((R3.new K5).new K6) F (by omega) ⟨9, x.name, ⟨#[]⟩, 0⟩ [t] _ 1 (flat_new w5 t) (by simp) (fun g hg hh => by
      obtain rfl : w5.heap.size = g := by simpa [slBlk] using hg
      exact absurd (Ht.out _ hh) (Nat.not_lt.2 hzw))
    rw [show [t].length = 1 from rfl] at hT
    have HK6 := hid ((K3.and K5).and K6)
    clear m0 m2 E3 R3 K3 K5 K6 hM5 ht
    go_wp2_with (first
      | (go_at_call 73; refine hT.mono ?_; rintro e w9 ⟨rfl, X9⟩; clear hT)
      | fail)
    go_end0
    refine ⟨rfl, ?_⟩
    rw [HW.out]
    exact X9.first HK6.out

end Go.Proofs.YtfjekjbkifmpfaaDoor
