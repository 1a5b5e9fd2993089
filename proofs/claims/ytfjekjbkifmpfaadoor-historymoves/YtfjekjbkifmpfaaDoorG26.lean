/-
  Step: its regions that draw their order.
-/
import Derived.Test.YtfjekjbkifmpfaaDoorG25
import Derived.Test.YtfjekjbkifmpfaaDoorG16
import Derived.Test.YtfjekjbkifmpfaaDoorG12
import Derived.Deep.Cut
import Derived.BigQuiet
namespace Go.Proofs.YtfjekjbkifmpfaaDoor
open Go.RowKit

set_option maxRecDepth 100000 in
set_option maxHeartbeats 8000000 in
theorem sp1 {W : World} {db tb qb : Nat} {nw : Int} {d0 d1 q0 q1 q2 q3 q4 q5 q6 q7 q8 : Value} {P : World → Value → Value → Prop} {ds : List Deferred} {u0 u1 u2 u6 u7 u8 u9 u10 u11 u12 u13 u14 u15 u16 u17 u18 u19 u20 u21 u22 u23 u24 u25 u26 u27 u28 u29 u30 u31 u32 u33 u34 u35 u36 u37 : Value} (K : Act → World → Prop)
    (x0 : W.cell? ⟨db, 0, none⟩ = some (d0)) (x1 : W.cell? ⟨db, 1, none⟩ = some (d1)) (x2 : W.cell? ⟨tb, 0, none⟩ = some (q0)) (x3 : W.cell? ⟨tb, 1, none⟩ = some (q1)) (x4 : W.cell? ⟨tb, 2, none⟩ = some (q2)) (x5 : W.cell? ⟨tb, 3, none⟩ = some (q3)) (x6 : W.cell? ⟨tb, 4, none⟩ = some (q4)) (x7 : W.cell? ⟨tb, 5, none⟩ = some (q5)) (x8 : W.cell? ⟨tb, 6, none⟩ = some (q6)) (x9 : W.cell? ⟨tb, 7, none⟩ = some (q7)) (x10 : W.cell? ⟨tb, 8, none⟩ = some (q8)) (x11 : W.cell? ⟨qb, 6, none⟩ = some (.int .i64 nw))
    (hC : Calls Tryd.prog 40 #[.agg #[q0, q1, q2, q3, q4, q5, q6, q7, q8]] W.drew fun e w' => ∃ u6_ u7_, e = .returned (.agg #[q0, q1, q2, q3, q4, q5, u6_, u7_, q8]) ∧ P w' u6_ u7_ ∧ Kept (fun _ => False) W.drew w')
    (h : ∀ (v12 v13 v14 v15 v16 v17 v18 : Value) (u6_ u7_ : Value) (w5 : World), P w5 u6_ u7_ → Kept (fun _ => False) W w5 → K { tmps := #[u0, u1, u2, .pointer (some ⟨db, 0, none⟩), .pointer (some ⟨tb, 0, none⟩), .pointer (some ⟨qb, 0, none⟩), u6, u7, u8, u9, .pointer (some ⟨w5.heap.size, 0, none⟩), u11, v12, v13, v14, v15, v16, v17, v18, u19, u20, u21, u22, u23, u24, u25, u26, u27, u28, u29, u30, u31, u32, u33, u34, u35, u36, u37], defers := ds } (w5.alloc (.cells #[d0, d1, q0, q1, q2, q3, q4, q5, u6_, u7_, q8, .int .i64 nw, .slice none 0 0, .slice none 0 0] 96))) :
    (Code.region 1 #[{ dst := some 12, op := Op.load 24 (Operand.tmp 3), type := 24, pos := "step.go:26", after := #[], guard := none }, { dst := some 13, op := Op.load 33 (Operand.tmp 4), type := 33, pos := "step.go:26", after := #[], guard := none }, { dst := some 14, op := Op.call { callee := Callee.value (Operand.func 40), args := #[Operand.tmp 13], argTypes := #[33] }, type := 33, pos := "step.go:26", after := #[{ on := 1, ground := Ground.data }], guard := none }, { dst := some 15, op := Op.fieldAddr 39 (Operand.tmp 5) 6, type := 0, pos := "step.go:26", after := #[], guard := none }, { dst := some 16, op := Op.load 3 (Operand.tmp 15), type := 3, pos := "step.go:26", after := #[{ on := 3, ground := Ground.data }], guard := none }, { dst := some 17, op := Op.build 96 #[(0, Operand.tmp 12), (1, Operand.tmp 14), (2, Operand.tmp 16)], type := 96, pos := "step.go:26", after := #[{ on := 0, ground := Ground.data }, { on := 2, ground := Ground.data }, { on := 4, ground := Ground.data }], guard := none }, { dst := some 18, op := Op.box 96 (Operand.tmp 17), type := 94, pos := "step.go:26", after := #[{ on := 5, ground := Ground.data }], guard := none }, { dst := some 10, op := Op.assign (Operand.tmp 18), type := 94, pos := "step.go:26", after := #[{ on := 6, ground := Ground.data }, { on := 2, ground := Ground.chain }, { on := 0, ground := Ground.phase }, { on := 1, ground := Ground.phase }, { on := 2, ground := Ground.phase }, { on := 3, ground := Ground.phase }, { on := 4, ground := Ground.phase }, { on := 5, ground := Ground.phase }, { on := 6, ground := Ground.phase }], guard := none }] true).wp Tryd.prog (onlyN K) { tmps := #[u0, u1, u2, .pointer (some ⟨db, 0, none⟩), .pointer (some ⟨tb, 0, none⟩), .pointer (some ⟨qb, 0, none⟩), u6, u7, u8, u9, u10, u11, u12, u13, u14, u15, u16, u17, u18, u19, u20, u21, u22, u23, u24, u25, u26, u27, u28, u29, u30, u31, u32, u33, u34, u35, u36, u37], defers := ds } W := by
  have HH : Hid _ := h
  have KD := Kept.drew (fun _ => False) W
  have HS : Hid (∀ V, Kept (fun _ => False) W.drew V → V.cell? ⟨db, 0, none⟩ = some (d0) ∧ V.cell? ⟨db, 1, none⟩ = some (d1) ∧ V.cell? ⟨tb, 0, none⟩ = some (q0) ∧ V.cell? ⟨tb, 1, none⟩ = some (q1) ∧ V.cell? ⟨tb, 2, none⟩ = some (q2) ∧ V.cell? ⟨tb, 3, none⟩ = some (q3) ∧ V.cell? ⟨tb, 4, none⟩ = some (q4) ∧ V.cell? ⟨tb, 5, none⟩ = some (q5) ∧ V.cell? ⟨tb, 6, none⟩ = some (q6) ∧ V.cell? ⟨tb, 7, none⟩ = some (q7) ∧ V.cell? ⟨tb, 8, none⟩ = some (q8) ∧ V.cell? ⟨qb, 6, none⟩ = some (.int .i64 nw)) := fun V KV => ⟨keepC (KD.and KV) x0 (fun _ _ h => h), keepC (KD.and KV) x1 (fun _ _ h => h), keepC (KD.and KV) x2 (fun _ _ h => h), keepC (KD.and KV) x3 (fun _ _ h => h), keepC (KD.and KV) x4 (fun _ _ h => h), keepC (KD.and KV) x5 (fun _ _ h => h), keepC (KD.and KV) x6 (fun _ _ h => h), keepC (KD.and KV) x7 (fun _ _ h => h), keepC (KD.and KV) x8 (fun _ _ h => h), keepC (KD.and KV) x9 (fun _ _ h => h), keepC (KD.and KV) x10 (fun _ _ h => h), keepC (KD.and KV) x11 (fun _ _ h => h)⟩
  have HKD : Hid (Kept (fun _ => False) W W.drew) := KD
  have hS0 := HS.out W.drew (Kept.refl _ _)
  clear h KD x0 x1 x2 x3 x4 x5 x6 x7 x8 x9 x10 x11
  refine wp_region_held_drew (S := fun V => V.cell? ⟨db, 0, none⟩ = some (d0) ∧ V.cell? ⟨db, 1, none⟩ = some (d1) ∧ V.cell? ⟨tb, 0, none⟩ = some (q0) ∧ V.cell? ⟨tb, 1, none⟩ = some (q1) ∧ V.cell? ⟨tb, 2, none⟩ = some (q2) ∧ V.cell? ⟨tb, 3, none⟩ = some (q3) ∧ V.cell? ⟨tb, 4, none⟩ = some (q4) ∧ V.cell? ⟨tb, 5, none⟩ = some (q5) ∧ V.cell? ⟨tb, 6, none⟩ = some (q6) ∧ V.cell? ⟨tb, 7, none⟩ = some (q7) ∧ V.cell? ⟨tb, 8, none⟩ = some (q8) ∧ V.cell? ⟨qb, 6, none⟩ = some (.int .i64 nw)) (by kernel_rfl) hS0 (fun _ => ?_)
  refine wpAnyH_take (i := 0) (oi := { dst := some 12, op := Op.load 24 (Operand.tmp 3), type := 24, pos := "step.go:26", after := #[], guard := none }) (v := ?vv1) rfl (by kernel_rfl) (by kernel_rfl) (by kernel_rfl) (fun _ _ _ h => h) (Or.inl ⟨by rfl, ?hy1⟩) hS0 ?rest1
  case hy1 =>
    intro V hV
    obtain ⟨y0, y1, y2, y3, y4, y5, y6, y7, y8, y9, y10, y11⟩ := hV
    go_simp
    all_goals rfl
  simp only [Act.put, List.setIfInBounds_toArray, List.set_cons_zero, List.set_cons_succ]
  refine wpAnyH_take (i := 1) (oi := { dst := some 13, op := Op.load 33 (Operand.tmp 4), type := 33, pos := "step.go:26", after := #[], guard := none }) (v := ?vv2) rfl (by kernel_rfl) (by kernel_rfl) (by kernel_rfl) (fun _ _ _ h => h) (Or.inl ⟨by rfl, ?hy2⟩) hS0 ?rest2
  case hy2 =>
    intro V hV
    obtain ⟨y0, y1, y2, y3, y4, y5, y6, y7, y8, y9, y10, y11⟩ := hV
    go_simp
    all_goals rfl
  simp only [Act.put, List.setIfInBounds_toArray, List.set_cons_zero, List.set_cons_succ]
  refine wpAnyH_take (i := 3) (oi := { dst := some 15, op := Op.fieldAddr 39 (Operand.tmp 5) 6, type := 0, pos := "step.go:26", after := #[], guard := none }) (v := ?vv3) rfl (by kernel_rfl) (by kernel_rfl) (by kernel_rfl) (fun _ _ _ h => h) (Or.inl ⟨by rfl, ?hy3⟩) hS0 ?rest3
  case hy3 =>
    intro V hV
    obtain ⟨y0, y1, y2, y3, y4, y5, y6, y7, y8, y9, y10, y11⟩ := hV
    go_simp
    all_goals rfl
  simp only [Act.put, List.setIfInBounds_toArray, List.set_cons_zero, List.set_cons_succ]
  refine wpAnyH_take (i := 4) (oi := { dst := some 16, op := Op.load 3 (Operand.tmp 15), type := 3, pos := "step.go:26", after := #[{ on := 3, ground := Ground.data }], guard := none }) (v := ?vv4) rfl (by kernel_rfl) (by kernel_rfl) (by kernel_rfl) (fun _ _ _ h => h) (Or.inl ⟨by rfl, ?hy4⟩) hS0 ?rest4
  case hy4 =>
    intro V hV
    obtain ⟨y0, y1, y2, y3, y4, y5, y6, y7, y8, y9, y10, y11⟩ := hV
    go_simp
    all_goals rfl
  simp only [Act.put, List.setIfInBounds_toArray, List.set_cons_zero, List.set_cons_succ]
  refine wpAnyH_ready (rs := [2]) (by kernel_rfl) (by simp) (AllReadyH.cons (o := { dst := some 14, op := Op.call { callee := Callee.value (Operand.func 40), args := #[Operand.tmp 13], argTypes := #[33] }, type := 33, pos := "step.go:26", after := #[{ on := 1, ground := Ground.data }], guard := none }) rfl (fun K' hK => ?_) AllReadyH.nil)
  refine step_call1 _ (by rfl) 40 _ _ (by rfl) (enters_of Tryd.func40 (by kernel_rfl) rfl) _ (by rfl) hC ?_
  rintro e w5 ⟨u6_, u7_, rfl, P5, K5⟩
  refine ⟨_, rfl, ?_⟩
  refine hK.out _ _ (HS.out _ K5) (fun _ => ?_)
  clear hK K'
  try (simp only [Act.put, List.setIfInBounds_toArray, List.set_cons_zero, List.set_cons_succ])
  refine wpAnyH_take (i := 5) (oi := { dst := some 17, op := Op.build 96 #[(0, Operand.tmp 12), (1, Operand.tmp 14), (2, Operand.tmp 16)], type := 96, pos := "step.go:26", after := #[{ on := 0, ground := Ground.data }, { on := 2, ground := Ground.data }, { on := 4, ground := Ground.data }], guard := none }) (v := ?vv5) rfl (by kernel_rfl) (by kernel_rfl) (by kernel_rfl) (fun _ _ _ h => h) (Or.inl ⟨by rfl, ?hy5⟩) (HS.out _ K5) ?rest5
  case hy5 =>
    intro V hV
    obtain ⟨y0, y1, y2, y3, y4, y5, y6, y7, y8, y9, y10, y11⟩ := hV
    go_simp
    all_goals rfl
  simp only [Act.put, List.setIfInBounds_toArray, List.set_cons_zero, List.set_cons_succ]
  refine wpAnyH_ready (rs := [6]) (by kernel_rfl) (by simp) (AllReadyH.cons (o := { dst := some 18, op := Op.box 96 (Operand.tmp 17), type := 94, pos := "step.go:26", after := #[{ on := 5, ground := Ground.data }], guard := none }) rfl (fun K' hK => ?_) AllReadyH.nil)
  have KA : Kept (fun _ => False) W.drew (w5.alloc (.cells #[d0, d1, q0, q1, q2, q3, q4, q5, u6_, u7_, q8, .int .i64 nw, .slice none 0 0, .slice none 0 0] 96)) := K5.and (Kept.alloc _ _ _)
  go_simp
  refine hK.out _ _ (HS.out _ KA) (fun _ => ?_)
  clear hK K'
  try (simp only [Act.put, List.setIfInBounds_toArray, List.set_cons_zero, List.set_cons_succ])
  refine wpAnyH_take (i := 7) (oi := { dst := some 10, op := Op.assign (Operand.tmp 18), type := 94, pos := "step.go:26", after := #[{ on := 6, ground := Ground.data }, { on := 2, ground := Ground.chain }, { on := 0, ground := Ground.phase }, { on := 1, ground := Ground.phase }, { on := 2, ground := Ground.phase }, { on := 3, ground := Ground.phase }, { on := 4, ground := Ground.phase }, { on := 5, ground := Ground.phase }, { on := 6, ground := Ground.phase }], guard := none }) (v := ?vv6) rfl (by kernel_rfl) (by kernel_rfl) (by kernel_rfl) (fun _ _ _ h => h) (Or.inl ⟨by rfl, ?hy6⟩) (HS.out _ KA) ?rest6
  case hy6 =>
    intro V hV
    obtain ⟨y0, y1, y2, y3, y4, y5, y6, y7, y8, y9, y10, y11⟩ := hV
    go_simp
    all_goals rfl
  simp only [Act.put, List.setIfInBounds_toArray, List.set_cons_zero, List.set_cons_succ]
  refine wpAnyH_done (by kernel_rfl) ?_ _
  exact HH.out _ _ _ _ _ _ _ u6_ u7_ w5 P5 (HKD.out.and K5)

set_option maxRecDepth 100000 in
set_option maxHeartbeats 8000000 in
theorem sp5 {W : World} {tb rb : Nat} {s0 s1 s2 s3 s5 : ByteArray} {s4 s8 : Int} {a6 a7 : Option Addr} {n6 c6 n7 c7 : Nat} {p12 p13 : Value} {ds : List Deferred} {u0 u1 u2 u3 u4 u5 u6 u8 u9 u11 u12 u13 u14 u15 u16 u17 u18 u19 u20 u21 u22 u23 u24 u25 u26 u27 u28 u29 u30 u31 u32 u33 u34 u35 u36 u37 : Value} (K : Act → World → Prop)
    (x0 : W.cell? ⟨rb, 2, none⟩ = some (.string s0)) (x1 : W.cell? ⟨rb, 3, none⟩ = some (.string s1)) (x2 : W.cell? ⟨rb, 4, none⟩ = some (.string s2)) (x3 : W.cell? ⟨rb, 5, none⟩ = some (.string s3)) (x4 : W.cell? ⟨rb, 6, none⟩ = some (.int .i64 s4)) (x5 : W.cell? ⟨rb, 7, none⟩ = some (.string s5)) (x6 : W.cell? ⟨rb, 8, none⟩ = some (.slice a6 n6 c6)) (x7 : W.cell? ⟨rb, 9, none⟩ = some (.slice a7 n7 c7)) (x8 : W.cell? ⟨rb, 10, none⟩ = some (.int .i64 s8)) (x9 : W.cell? ⟨rb, 12, none⟩ = some (p12)) (x10 : W.cell? ⟨rb, 13, none⟩ = some (p13))
    (hmb0 : W.heap[tb]? = some (.cells #[.string ⟨#[]⟩, .string ⟨#[]⟩, .string ⟨#[]⟩, .string ⟨#[]⟩, .int .i64 0, .string ⟨#[]⟩, .slice none 0 0, .slice none 0 0, .int .i64 0] 33 (0, 0))) (hne : rb ≠ tb)
    (h : ∀ (v26 v27 v28 v29 v30 v31 v32 v33 v34 v35 v36 v37 : Value) (W' : World), W'.heap[tb]? = some (.cells #[.string s0, .string s1, .string s2, .string s3, .int .i64 s4, .string s5, .slice a6 n6 c6, .slice a7 n7 c7, .int .i64 s8] 33 (0, 0)) → Kept (fun j => j = tb) W W' → K { tmps := #[u0, u1, u2, u3, u4, u5, p12, .pointer (some ⟨tb, 0, none⟩), p13, .int .i64 0, .pointer (some ⟨rb, 0, none⟩), u11, u12, u13, u14, u15, u16, u17, u18, u19, u20, u21, u22, u23, u24, u25, v26, v27, v28, v29, v30, v31, v32, v33, v34, v35, v36, v37], defers := ds } W') :
    (Code.region 5 #[{ dst := some 26, op := Op.move (Operand.tmp 10), type := 94, pos := "step.go:30", after := #[], guard := none }, { dst := some 27, op := Op.nilCheck (Operand.tmp 26), type := 0, pos := "step.go:30", after := #[{ on := 0, ground := Ground.data }], guard := none }, { dst := some 28, op := Op.fieldAddr 96 (Operand.tmp 27) 3, type := 0, pos := "step.go:30", after := #[{ on := 1, ground := Ground.data }], guard := none }, { dst := some 29, op := Op.load 34 (Operand.tmp 28), type := 34, pos := "step.go:30", after := #[{ on := 2, ground := Ground.data }], guard := none }, { dst := some 30, op := Op.move (Operand.tmp 10), type := 94, pos := "step.go:30", after := #[{ on := 12, ground := Ground.gcOnly Departure.lateStores }], guard := none }, { dst := some 31, op := Op.nilCheck (Operand.tmp 30), type := 0, pos := "step.go:30", after := #[{ on := 4, ground := Ground.data }, { on := 12, ground := Ground.gcOnly Departure.lateStores }], guard := none }, { dst := some 32, op := Op.fieldAddr 96 (Operand.tmp 31) 1, type := 0, pos := "step.go:30", after := #[{ on := 5, ground := Ground.data }, { on := 12, ground := Ground.gcOnly Departure.lateStores }], guard := none }, { dst := some 33, op := Op.load 33 (Operand.tmp 32), type := 33, pos := "step.go:30", after := #[{ on := 6, ground := Ground.data }, { on := 12, ground := Ground.gcOnly Departure.lateStores }], guard := none }, { dst := some 34, op := Op.move (Operand.tmp 10), type := 94, pos := "step.go:30", after := #[{ on := 13, ground := Ground.gcOnly Departure.lateStores }], guard := none }, { dst := some 35, op := Op.nilCheck (Operand.tmp 34), type := 0, pos := "step.go:30", after := #[{ on := 8, ground := Ground.data }, { on := 13, ground := Ground.gcOnly Departure.lateStores }], guard := none }, { dst := some 36, op := Op.fieldAddr 96 (Operand.tmp 35) 4, type := 0, pos := "step.go:30", after := #[{ on := 9, ground := Ground.data }, { on := 13, ground := Ground.gcOnly Departure.lateStores }], guard := none }, { dst := some 37, op := Op.load 56 (Operand.tmp 36), type := 56, pos := "step.go:30", after := #[{ on := 10, ground := Ground.data }, { on := 13, ground := Ground.gcOnly Departure.lateStores }], guard := none }, { dst := some 6, op := Op.assign (Operand.tmp 29), type := 34, pos := "step.go:30", after := #[{ on := 3, ground := Ground.data }, { on := 0, ground := Ground.phase }, { on := 1, ground := Ground.phase }, { on := 2, ground := Ground.phase }, { on := 3, ground := Ground.phase }, { on := 4, ground := Ground.textOnly Departure.lateStores }, { on := 5, ground := Ground.textOnly Departure.lateStores }, { on := 6, ground := Ground.textOnly Departure.lateStores }, { on := 7, ground := Ground.textOnly Departure.lateStores }, { on := 8, ground := Ground.textOnly Departure.lateStores }, { on := 9, ground := Ground.textOnly Departure.lateStores }, { on := 10, ground := Ground.textOnly Departure.lateStores }, { on := 11, ground := Ground.textOnly Departure.lateStores }], guard := none }, { dst := none, op := Op.store 33 (Operand.tmp 7) (Operand.tmp 33), type := 0, pos := "step.go:30", after := #[{ on := 7, ground := Ground.data }, { on := 12, ground := Ground.chain }, { on := 0, ground := Ground.phase }, { on := 1, ground := Ground.phase }, { on := 2, ground := Ground.phase }, { on := 3, ground := Ground.phase }, { on := 4, ground := Ground.phase }, { on := 5, ground := Ground.phase }, { on := 6, ground := Ground.phase }, { on := 7, ground := Ground.phase }, { on := 8, ground := Ground.textOnly Departure.lateStores }, { on := 9, ground := Ground.textOnly Departure.lateStores }, { on := 10, ground := Ground.textOnly Departure.lateStores }, { on := 11, ground := Ground.textOnly Departure.lateStores }, { on := 12, ground := Ground.phase }], guard := none }, { dst := some 8, op := Op.assign (Operand.tmp 37), type := 56, pos := "step.go:30", after := #[{ on := 11, ground := Ground.data }, { on := 13, ground := Ground.chain }, { on := 0, ground := Ground.phase }, { on := 1, ground := Ground.phase }, { on := 2, ground := Ground.phase }, { on := 3, ground := Ground.phase }, { on := 4, ground := Ground.phase }, { on := 5, ground := Ground.phase }, { on := 6, ground := Ground.phase }, { on := 7, ground := Ground.phase }, { on := 8, ground := Ground.phase }, { on := 9, ground := Ground.phase }, { on := 10, ground := Ground.phase }, { on := 11, ground := Ground.phase }, { on := 12, ground := Ground.phase }, { on := 13, ground := Ground.phase }], guard := none }, { dst := some 9, op := Op.assign (Operand.const (Value.int IntKind.i64 0)), type := 42, pos := "step.go:30", after := #[{ on := 14, ground := Ground.chain }, { on := 0, ground := Ground.phase }, { on := 1, ground := Ground.phase }, { on := 2, ground := Ground.phase }, { on := 3, ground := Ground.phase }, { on := 4, ground := Ground.phase }, { on := 5, ground := Ground.phase }, { on := 6, ground := Ground.phase }, { on := 7, ground := Ground.phase }, { on := 8, ground := Ground.phase }, { on := 9, ground := Ground.phase }, { on := 10, ground := Ground.phase }, { on := 11, ground := Ground.phase }, { on := 12, ground := Ground.phase }, { on := 13, ground := Ground.phase }, { on := 14, ground := Ground.phase }], guard := none }] true).wp Tryd.prog (onlyN K) { tmps := #[u0, u1, u2, u3, u4, u5, u6, .pointer (some ⟨tb, 0, none⟩), u8, u9, .pointer (some ⟨rb, 0, none⟩), u11, u12, u13, u14, u15, u16, u17, u18, u19, u20, u21, u22, u23, u24, u25, u26, u27, u28, u29, u30, u31, u32, u33, u34, u35, u36, u37], defers := ds } W := by
  have HH : Hid _ := h
  have KD := Kept.drew (fun j => j = tb) W
  have hmb : Hid (W.drew.heap[tb]? = some (.cells #[.string ⟨#[]⟩, .string ⟨#[]⟩, .string ⟨#[]⟩, .string ⟨#[]⟩, .int .i64 0, .string ⟨#[]⟩, .slice none 0 0, .slice none 0 0, .int .i64 0] 33 (0, 0))) := hmb0
  have hh : ∀ {V : World} {k : Nat} {v : Value}, Kept (fun j => j = tb) W V → W.cell? ⟨rb, k, none⟩ = some v → V.cell? ⟨rb, k, none⟩ = some v := fun {V k v} KV hc => by
    rw [World.cell?_of_block (w := W) (KV.block _ (World.block_lt_of_cell? W _ hc) hne)]
    exact hc
  have HS : Hid (∀ V, Kept (fun j => j = tb) W.drew V → V.cell? ⟨rb, 2, none⟩ = some (.string s0) ∧ V.cell? ⟨rb, 3, none⟩ = some (.string s1) ∧ V.cell? ⟨rb, 4, none⟩ = some (.string s2) ∧ V.cell? ⟨rb, 5, none⟩ = some (.string s3) ∧ V.cell? ⟨rb, 6, none⟩ = some (.int .i64 s4) ∧ V.cell? ⟨rb, 7, none⟩ = some (.string s5) ∧ V.cell? ⟨rb, 8, none⟩ = some (.slice a6 n6 c6) ∧ V.cell? ⟨rb, 9, none⟩ = some (.slice a7 n7 c7) ∧ V.cell? ⟨rb, 10, none⟩ = some (.int .i64 s8) ∧ V.cell? ⟨rb, 12, none⟩ = some (p12) ∧ V.cell? ⟨rb, 13, none⟩ = some (p13)) := fun V KV => ⟨hh (KD.and KV) x0, hh (KD.and KV) x1, hh (KD.and KV) x2, hh (KD.and KV) x3, hh (KD.and KV) x4, hh (KD.and KV) x5, hh (KD.and KV) x6, hh (KD.and KV) x7, hh (KD.and KV) x8, hh (KD.and KV) x9, hh (KD.and KV) x10⟩
  have HKD : Hid (Kept (fun j => j = tb) W W.drew) := KD
  have hS0 := HS.out W.drew (Kept.refl _ _)
  clear h KD hh hmb0 x0 x1 x2 x3 x4 x5 x6 x7 x8 x9 x10
  refine wp_region_held_drew (S := fun V => V.cell? ⟨rb, 2, none⟩ = some (.string s0) ∧ V.cell? ⟨rb, 3, none⟩ = some (.string s1) ∧ V.cell? ⟨rb, 4, none⟩ = some (.string s2) ∧ V.cell? ⟨rb, 5, none⟩ = some (.string s3) ∧ V.cell? ⟨rb, 6, none⟩ = some (.int .i64 s4) ∧ V.cell? ⟨rb, 7, none⟩ = some (.string s5) ∧ V.cell? ⟨rb, 8, none⟩ = some (.slice a6 n6 c6) ∧ V.cell? ⟨rb, 9, none⟩ = some (.slice a7 n7 c7) ∧ V.cell? ⟨rb, 10, none⟩ = some (.int .i64 s8) ∧ V.cell? ⟨rb, 12, none⟩ = some (p12) ∧ V.cell? ⟨rb, 13, none⟩ = some (p13)) (by kernel_rfl) hS0 (fun _ => ?_)
  generalize W.drew = V0 at *
  refine wpAnyH_take (i := 0) (oi := { dst := some 26, op := Op.move (Operand.tmp 10), type := 94, pos := "step.go:30", after := #[], guard := none }) (v := ?vv1) rfl (by kernel_rfl) (by kernel_rfl) (by kernel_rfl) (fun _ _ _ h => h) (Or.inl ⟨by rfl, ?hy1⟩) hS0 ?rest1
  case hy1 =>
    intro V hV
    obtain ⟨y0, y1, y2, y3, y4, y5, y6, y7, y8, y9, y10⟩ := hV
    go_simp
    all_goals rfl
  simp only [Act.put, List.setIfInBounds_toArray, List.set_cons_zero, List.set_cons_succ]
  refine wpAnyH_take (i := 1) (oi := { dst := some 27, op := Op.nilCheck (Operand.tmp 26), type := 0, pos := "step.go:30", after := #[{ on := 0, ground := Ground.data }], guard := none }) (v := ?vv2) rfl (by kernel_rfl) (by kernel_rfl) (by kernel_rfl) (fun _ _ _ h => h) (Or.inl ⟨by rfl, ?hy2⟩) hS0 ?rest2
  case hy2 =>
    intro V hV
    obtain ⟨y0, y1, y2, y3, y4, y5, y6, y7, y8, y9, y10⟩ := hV
    go_simp
    all_goals rfl
  simp only [Act.put, List.setIfInBounds_toArray, List.set_cons_zero, List.set_cons_succ]
  refine wpAnyH_take (i := 2) (oi := { dst := some 28, op := Op.fieldAddr 96 (Operand.tmp 27) 3, type := 0, pos := "step.go:30", after := #[{ on := 1, ground := Ground.data }], guard := none }) (v := ?vv3) rfl (by kernel_rfl) (by kernel_rfl) (by kernel_rfl) (fun _ _ _ h => h) (Or.inl ⟨by rfl, ?hy3⟩) hS0 ?rest3
  case hy3 =>
    intro V hV
    obtain ⟨y0, y1, y2, y3, y4, y5, y6, y7, y8, y9, y10⟩ := hV
    go_simp
    all_goals rfl
  simp only [Act.put, List.setIfInBounds_toArray, List.set_cons_zero, List.set_cons_succ]
  refine wpAnyH_take (i := 3) (oi := { dst := some 29, op := Op.load 34 (Operand.tmp 28), type := 34, pos := "step.go:30", after := #[{ on := 2, ground := Ground.data }], guard := none }) (v := ?vv4) rfl (by kernel_rfl) (by kernel_rfl) (by kernel_rfl) (fun _ _ _ h => h) (Or.inl ⟨by rfl, ?hy4⟩) hS0 ?rest4
  case hy4 =>
    intro V hV
    obtain ⟨y0, y1, y2, y3, y4, y5, y6, y7, y8, y9, y10⟩ := hV
    go_simp
    all_goals rfl
  simp only [Act.put, List.setIfInBounds_toArray, List.set_cons_zero, List.set_cons_succ]
  refine wpAnyH_take (i := 4) (oi := { dst := some 30, op := Op.move (Operand.tmp 10), type := 94, pos := "step.go:30", after := #[{ on := 12, ground := Ground.gcOnly Departure.lateStores }], guard := none }) (v := ?vv5) rfl (by kernel_rfl) (by kernel_rfl) (by kernel_rfl) (fun _ _ _ h => h) (Or.inl ⟨by rfl, ?hy5⟩) hS0 ?rest5
  case hy5 =>
    intro V hV
    obtain ⟨y0, y1, y2, y3, y4, y5, y6, y7, y8, y9, y10⟩ := hV
    go_simp
    all_goals rfl
  simp only [Act.put, List.setIfInBounds_toArray, List.set_cons_zero, List.set_cons_succ]
  refine wpAnyH_take (i := 5) (oi := { dst := some 31, op := Op.nilCheck (Operand.tmp 30), type := 0, pos := "step.go:30", after := #[{ on := 4, ground := Ground.data }, { on := 12, ground := Ground.gcOnly Departure.lateStores }], guard := none }) (v := ?vv6) rfl (by kernel_rfl) (by kernel_rfl) (by kernel_rfl) (fun _ _ _ h => h) (Or.inl ⟨by rfl, ?hy6⟩) hS0 ?rest6
  case hy6 =>
    intro V hV
    obtain ⟨y0, y1, y2, y3, y4, y5, y6, y7, y8, y9, y10⟩ := hV
    go_simp
    all_goals rfl
  simp only [Act.put, List.setIfInBounds_toArray, List.set_cons_zero, List.set_cons_succ]
  refine wpAnyH_take (i := 6) (oi := { dst := some 32, op := Op.fieldAddr 96 (Operand.tmp 31) 1, type := 0, pos := "step.go:30", after := #[{ on := 5, ground := Ground.data }, { on := 12, ground := Ground.gcOnly Departure.lateStores }], guard := none }) (v := ?vv7) rfl (by kernel_rfl) (by kernel_rfl) (by kernel_rfl) (fun _ _ _ h => h) (Or.inl ⟨by rfl, ?hy7⟩) hS0 ?rest7
  case hy7 =>
    intro V hV
    obtain ⟨y0, y1, y2, y3, y4, y5, y6, y7, y8, y9, y10⟩ := hV
    go_simp
    all_goals rfl
  simp only [Act.put, List.setIfInBounds_toArray, List.set_cons_zero, List.set_cons_succ]
  refine wpAnyH_take (i := 7) (oi := { dst := some 33, op := Op.load 33 (Operand.tmp 32), type := 33, pos := "step.go:30", after := #[{ on := 6, ground := Ground.data }, { on := 12, ground := Ground.gcOnly Departure.lateStores }], guard := none }) (v := ?vv8) rfl (by kernel_rfl) (by kernel_rfl) (by kernel_rfl) (fun _ _ _ h => h) (Or.inl ⟨by rfl, ?hy8⟩) hS0 ?rest8
  case hy8 =>
    intro V hV
    obtain ⟨y0, y1, y2, y3, y4, y5, y6, y7, y8, y9, y10⟩ := hV
    go_simp
    all_goals rfl
  simp only [Act.put, List.setIfInBounds_toArray, List.set_cons_zero, List.set_cons_succ]
  refine wpAnyH_take (i := 8) (oi := { dst := some 34, op := Op.move (Operand.tmp 10), type := 94, pos := "step.go:30", after := #[{ on := 13, ground := Ground.gcOnly Departure.lateStores }], guard := none }) (v := ?vv9) rfl (by kernel_rfl) (by kernel_rfl) (by kernel_rfl) (fun _ _ _ h => h) (Or.inl ⟨by rfl, ?hy9⟩) hS0 ?rest9
  case hy9 =>
    intro V hV
    obtain ⟨y0, y1, y2, y3, y4, y5, y6, y7, y8, y9, y10⟩ := hV
    go_simp
    all_goals rfl
  simp only [Act.put, List.setIfInBounds_toArray, List.set_cons_zero, List.set_cons_succ]
  refine wpAnyH_take (i := 9) (oi := { dst := some 35, op := Op.nilCheck (Operand.tmp 34), type := 0, pos := "step.go:30", after := #[{ on := 8, ground := Ground.data }, { on := 13, ground := Ground.gcOnly Departure.lateStores }], guard := none }) (v := ?vv10) rfl (by kernel_rfl) (by kernel_rfl) (by kernel_rfl) (fun _ _ _ h => h) (Or.inl ⟨by rfl, ?hy10⟩) hS0 ?rest10
  case hy10 =>
    intro V hV
    obtain ⟨y0, y1, y2, y3, y4, y5, y6, y7, y8, y9, y10⟩ := hV
    go_simp
    all_goals rfl
  simp only [Act.put, List.setIfInBounds_toArray, List.set_cons_zero, List.set_cons_succ]
  refine wpAnyH_take (i := 10) (oi := { dst := some 36, op := Op.fieldAddr 96 (Operand.tmp 35) 4, type := 0, pos := "step.go:30", after := #[{ on := 9, ground := Ground.data }, { on := 13, ground := Ground.gcOnly Departure.lateStores }], guard := none }) (v := ?vv11) rfl (by kernel_rfl) (by kernel_rfl) (by kernel_rfl) (fun _ _ _ h => h) (Or.inl ⟨by rfl, ?hy11⟩) hS0 ?rest11
  case hy11 =>
    intro V hV
    obtain ⟨y0, y1, y2, y3, y4, y5, y6, y7, y8, y9, y10⟩ := hV
    go_simp
    all_goals rfl
  simp only [Act.put, List.setIfInBounds_toArray, List.set_cons_zero, List.set_cons_succ]
  refine wpAnyH_take (i := 11) (oi := { dst := some 37, op := Op.load 56 (Operand.tmp 36), type := 56, pos := "step.go:30", after := #[{ on := 10, ground := Ground.data }, { on := 13, ground := Ground.gcOnly Departure.lateStores }], guard := none }) (v := ?vv12) rfl (by kernel_rfl) (by kernel_rfl) (by kernel_rfl) (fun _ _ _ h => h) (Or.inl ⟨by rfl, ?hy12⟩) hS0 ?rest12
  case hy12 =>
    intro V hV
    obtain ⟨y0, y1, y2, y3, y4, y5, y6, y7, y8, y9, y10⟩ := hV
    go_simp
    all_goals rfl
  simp only [Act.put, List.setIfInBounds_toArray, List.set_cons_zero, List.set_cons_succ]
  refine wpAnyH_take (i := 12) (oi := { dst := some 6, op := Op.assign (Operand.tmp 29), type := 34, pos := "step.go:30", after := #[{ on := 3, ground := Ground.data }, { on := 0, ground := Ground.phase }, { on := 1, ground := Ground.phase }, { on := 2, ground := Ground.phase }, { on := 3, ground := Ground.phase }, { on := 4, ground := Ground.textOnly Departure.lateStores }, { on := 5, ground := Ground.textOnly Departure.lateStores }, { on := 6, ground := Ground.textOnly Departure.lateStores }, { on := 7, ground := Ground.textOnly Departure.lateStores }, { on := 8, ground := Ground.textOnly Departure.lateStores }, { on := 9, ground := Ground.textOnly Departure.lateStores }, { on := 10, ground := Ground.textOnly Departure.lateStores }, { on := 11, ground := Ground.textOnly Departure.lateStores }], guard := none }) (v := ?vv13) rfl (by kernel_rfl) (by kernel_rfl) (by kernel_rfl) (fun _ _ _ h => h) (Or.inl ⟨by rfl, ?hy13⟩) hS0 ?rest13
  case hy13 =>
    intro V hV
    obtain ⟨y0, y1, y2, y3, y4, y5, y6, y7, y8, y9, y10⟩ := hV
    go_simp
    all_goals rfl
  simp only [Act.put, List.setIfInBounds_toArray, List.set_cons_zero, List.set_cons_succ]
  refine wpAnyH_ready (rs := [13]) (by kernel_rfl) (by simp) (AllReadyH.cons (o := { dst := none, op := Op.store 33 (Operand.tmp 7) (Operand.tmp 33), type := 0, pos := "step.go:30", after := #[{ on := 7, ground := Ground.data }, { on := 12, ground := Ground.chain }, { on := 0, ground := Ground.phase }, { on := 1, ground := Ground.phase }, { on := 2, ground := Ground.phase }, { on := 3, ground := Ground.phase }, { on := 4, ground := Ground.phase }, { on := 5, ground := Ground.phase }, { on := 6, ground := Ground.phase }, { on := 7, ground := Ground.phase }, { on := 8, ground := Ground.textOnly Departure.lateStores }, { on := 9, ground := Ground.textOnly Departure.lateStores }, { on := 10, ground := Ground.textOnly Departure.lateStores }, { on := 11, ground := Ground.textOnly Departure.lateStores }, { on := 12, ground := Ground.phase }], guard := none }) rfl (fun K' hK => ?_) AllReadyH.nil)
  obtain ⟨⟨p0, p1, p2, p3, p4, p5, p6, p7, p8⟩, f0, f1, f2, f3, f4, f5, f6, f7, f8⟩ := nine hmb.out
  have HM := hid (put9 hmb.out (.string s0) (.string s1) (.string s2) (.string s3) (.int .i64 s4) (.string s5) (.slice a6 n6 c6) (.slice a7 n7 c7) (.int .i64 s8))
  have KS := kept9 (S := fun j => j = tb) V0 rfl (.string s0) (.string s1) (.string s2) (.string s3) (.int .i64 s4) (.string s5) (.slice a6 n6 c6) (.slice a7 n7 c7) (.int .i64 s8)
  go_simp
  refine hK.out _ _ (HS.out _ KS) (fun _ => ?_)
  have HKF := hid (HKD.out.and KS)
  clear p0 p1 p2 p3 p4 p5 p6 p7 p8 f0 f1 f2 f3 f4 f5 f6 f7 f8
  clear hK K'
  try (simp only [Act.put, List.setIfInBounds_toArray, List.set_cons_zero, List.set_cons_succ])
  refine wpAnyH_take (i := 14) (oi := { dst := some 8, op := Op.assign (Operand.tmp 37), type := 56, pos := "step.go:30", after := #[{ on := 11, ground := Ground.data }, { on := 13, ground := Ground.chain }, { on := 0, ground := Ground.phase }, { on := 1, ground := Ground.phase }, { on := 2, ground := Ground.phase }, { on := 3, ground := Ground.phase }, { on := 4, ground := Ground.phase }, { on := 5, ground := Ground.phase }, { on := 6, ground := Ground.phase }, { on := 7, ground := Ground.phase }, { on := 8, ground := Ground.phase }, { on := 9, ground := Ground.phase }, { on := 10, ground := Ground.phase }, { on := 11, ground := Ground.phase }, { on := 12, ground := Ground.phase }, { on := 13, ground := Ground.phase }], guard := none }) (v := ?vv14) rfl (by kernel_rfl) (by kernel_rfl) (by kernel_rfl) (fun _ _ _ h => h) (Or.inl ⟨by rfl, ?hy14⟩) (HS.out _ KS) ?rest14
  case hy14 =>
    intro V hV
    obtain ⟨y0, y1, y2, y3, y4, y5, y6, y7, y8, y9, y10⟩ := hV
    go_simp
    all_goals rfl
  simp only [Act.put, List.setIfInBounds_toArray, List.set_cons_zero, List.set_cons_succ]
  refine wpAnyH_take (i := 15) (oi := { dst := some 9, op := Op.assign (Operand.const (Value.int IntKind.i64 0)), type := 42, pos := "step.go:30", after := #[{ on := 14, ground := Ground.chain }, { on := 0, ground := Ground.phase }, { on := 1, ground := Ground.phase }, { on := 2, ground := Ground.phase }, { on := 3, ground := Ground.phase }, { on := 4, ground := Ground.phase }, { on := 5, ground := Ground.phase }, { on := 6, ground := Ground.phase }, { on := 7, ground := Ground.phase }, { on := 8, ground := Ground.phase }, { on := 9, ground := Ground.phase }, { on := 10, ground := Ground.phase }, { on := 11, ground := Ground.phase }, { on := 12, ground := Ground.phase }, { on := 13, ground := Ground.phase }, { on := 14, ground := Ground.phase }], guard := none }) (v := ?vv15) rfl (by kernel_rfl) (by kernel_rfl) (by kernel_rfl) (fun _ _ _ h => h) (Or.inl ⟨by rfl, ?hy15⟩) (HS.out _ KS) ?rest15
  case hy15 =>
    intro V hV
    obtain ⟨y0, y1, y2, y3, y4, y5, y6, y7, y8, y9, y10⟩ := hV
    go_simp
    all_goals rfl
  simp only [Act.put, List.setIfInBounds_toArray, List.set_cons_zero, List.set_cons_succ]
  refine wpAnyH_done (by kernel_rfl) ?_ _
  exact HH.out _ _ _ _ _ _ _ _ _ _ _ _ _ HM.out HKF.out

end Go.Proofs.YtfjekjbkifmpfaaDoor

/-
  The document's going on: one node after another; it comes to what goOn comes to.
-/
namespace Go.Proofs.YtfjekjbkifmpfaaDoor
open Go.RowKit

/-- A definition whose names are different and whose kinds are right. -/
structure Sound (ns : List Nd) : Prop where
  find : ∀ (i : Nat) (x : Nd), ns[i]? = some x → findP ns x.name = some i
  kind : ∀ x ∈ ns, 1 ≤ x.kind ∧ x.kind ≤ 5

/-- A state as it is reached. -/
structure Fine (ns : List Nd) (s : St) : Prop where
  len : s.nodes.length = ns.length
  bare : Bare s

/-- The document's going on, step by step. -/
inductive On (nm : ByteArray) (ns : List Nd) : Rn → Rn → Prop where
  | stop {r : Rn} : r.st.status ≠ 1 → On nm ns r r
  | step {r r' : Rn} {i : Nat} {x : Nd} : r.st.status = 1 → (goReady ns r).head? = some i → ns[i]? = some x → On nm ns (beginR nm ns r x) r' → On nm ns r r'
  | done {r : Rn} : r.st.status = 1 → goReady ns r = [] → restC r.st.nodes = 0 → On nm ns r (closedR nm ns r 2 (lastP r.st.nodes))
  | rest {r : Rn} : r.st.status = 1 → goReady ns r = [] → restC r.st.nodes ≠ 0 → On nm ns r r

section
variable {nm : ByteArray} {ns : List Nd} {r : Rn}

theorem tell_fit {e : Ev} {ts : List Tk} {t : St} (h : changeP nm ns r.st e = some t) : (tellP nm ns r e ts).st = t := by
  unfold tellP
  rw [h]

/-- What a beginning makes of the nodes: just that one is changed, and it is idle no more. -/
theorem begin_nodes (hs : r.st.status = 1) {i : Nat} {x : Nd} {y : Ns} (hf : findP ns x.name = some i) (hx : ns[i]? = some x) (hy : r.st.nodes[i]? = some y) (hy0 : y.status = 0) (hk0 : 1 ≤ x.kind) (hk1 : x.kind ≤ 5) :
    ∃ (m : Mv) (e : Ev), m.dst ≠ 0 ∧ (m.txt = true → m.dst = 3 ∨ m.dst = 4) ∧ (beginP nm ns r x).st.nodes = setNode r.st.nodes i m e := by
  unfold beginP
  by_cases h1 : x.kind = 1
  · rw [if_pos h1]
    exact ⟨⟨2, 1, 0, 1, false⟩, _, by decide, by simp, by rw [tell_fit (changeP_fit1 (m := ⟨2, 1, 0, 1, false⟩) hs hf hx hy (by rw [h1, hy0]; rfl) (by simp) (by simp) (by simp) (by simp))]⟩
  rw [if_neg h1]
  by_cases h2 : x.kind = 2
  · rw [if_pos h2]
    exact ⟨⟨7, 2, 0, 2, false⟩, _, by decide, by simp, by rw [tell_fit (changeP_fit1 (m := ⟨7, 2, 0, 2, false⟩) hs hf hx hy (by rw [h2, hy0]; rfl) (by simp) (by simp) (by simp) (by simp))]⟩
  rw [if_neg h2]
  by_cases h3 : x.kind = 3
  · rw [if_pos h3]
    unfold askP
    by_cases hl : 256 < r.st.id.size + 1 + x.name.size
    · rw [if_pos hl]
      have hc := changeP_fit1 (nm := nm) (e := ⟨6, x.name, longB, 0⟩) (m := ⟨6, 3, 0, 4, true⟩) hs hf hx hy (by rw [h3, hy0]; rfl) (by simp) (by simp) (by simp) (by simp)
      unfold breakP endP
      have hst : (tellP nm ns r ⟨6, x.name, longB, 0⟩ []).st.status = 1 := by rw [tell_fit hc]; exact hs
      refine ⟨⟨6, 3, 0, 4, true⟩, ⟨6, x.name, longB, 0⟩, by decide, by simp, ?_⟩
      rw [tell_fit (changeP_close hst 3 longB (.inr (.inl rfl)))]
      show (tellP nm ns r ⟨6, x.name, longB, 0⟩ []).st.nodes = _
      rw [tell_fit hc]
    · rw [if_neg hl]
      exact ⟨⟨9, 3, 0, 2, false⟩, _, by decide, by simp, by rw [tell_fit (changeP_fit1 (m := ⟨9, 3, 0, 2, false⟩) hs hf hx hy (by rw [h3, hy0]; rfl) (by simp) (by simp) (by simp) (by simp))]⟩
  rw [if_neg h3]
  by_cases h4 : x.kind = 4
  · rw [if_pos h4]
    unfold waitP
    cases hk : keptP r.st.sigs x.arg with
    | none => exact ⟨⟨11, 4, 0, 2, false⟩, _, by decide, by simp, by rw [tell_fit (changeP_fit1 (m := ⟨11, 4, 0, 2, false⟩) hs hf hx hy (by rw [h4, hy0]; rfl) (by simp) (by simp) (by simp) (by simp))]⟩
    | some k => exact ⟨⟨12, 4, 0, 3, true⟩, _, by decide, by simp, by rw [tell_fit (changeP_fit12 hs rfl hf hx h4 hy hy0 rfl hk)]⟩
  rw [if_neg h4, if_pos (show x.kind = 5 by omega)]
  exact ⟨⟨14, 5, 0, 3, false⟩, _, by decide, by simp, by rw [tell_fit (changeP_fit1 (m := ⟨14, 5, 0, 3, false⟩) hs hf hx hy (by rw [show x.kind = 5 by omega, hy0]; rfl) (by simp) (by simp) (by simp) (by simp))]⟩

theorem begin_fine (F : Fine ns r.st) (hs : r.st.status = 1) {i : Nat} {x : Nd} {y : Ns} (hf : findP ns x.name = some i) (hx : ns[i]? = some x) (hy : r.st.nodes[i]? = some y) (hy0 : y.status = 0) (hk0 : 1 ≤ x.kind) (hk1 : x.kind ≤ 5) : Fine ns (beginP nm ns r x).st := by
  obtain ⟨m, e, _, ht, hn⟩ := begin_nodes (nm := nm) hs hf hx hy hy0 hk0 hk1
  refine ⟨by rw [hn, setNode_len]; exact F.len, fun z hz h => ?_⟩
  rw [hn] at hz
  exact setNode_bare F.bare rfl ht (fun w hw => by rw [hy] at hw; cases hw; exact F.bare y (List.mem_of_getElem? hy) (.inl hy0)) z hz h

theorem filter_drop {p q : Nat → Bool} {n i : Nat} {l : List Nat} (h : (List.range n).filter p = i :: l) (hq : q i = false) (hj : ∀ j, j ≠ i → q j = p j) : (List.range n).filter q = l := by
  have hnd : ((List.range n).filter p).Nodup := List.Nodup.sublist List.filter_sublist List.nodup_range
  rw [h, List.nodup_cons] at hnd
  have e1 : (List.range n).filter q = ((List.range n).filter p).filter (fun j => decide (j ≠ i)) := by
    rw [List.filter_filter]
    apply List.filter_congr
    intro j _
    by_cases hji : j = i
    · subst hji; simp [hq]
    · simp [hji, hj j hji]
  rw [e1, h, List.filter_cons]
  simp only [ne_eq, not_true, decide_false, Bool.false_eq_true, if_false]
  rw [List.filter_eq_self]
  intro j hjl
  have : j ≠ i := fun h => hnd.1 (h ▸ hjl)
  simp [this]

/-- Behind a beginning that leaves its node under way, the other nodes that may begin may begin. -/
theorem ready_next (hs : r.st.status = 1) {i : Nat} {l : List Nat} {x : Nd} {y : Ns} (hL : goReady ns r = i :: l) (hf : findP ns x.name = some i) (hx : ns[i]? = some x) (hy : r.st.nodes[i]? = some y) (hy0 : y.status = 0) (hk0 : 1 ≤ x.kind) (hk1 : x.kind ≤ 5)
    (hno : ((beginP nm ns r x).st.nodes[i]?.map (fun y => y.status)) ≠ some 3) : goReady ns (beginP nm ns r x) = l := by
  obtain ⟨m, e, hm0, _, hn⟩ := begin_nodes (nm := nm) hs hf hx hy hy0 hk0 hk1
  have hi : i < r.st.nodes.length := (List.getElem?_eq_some_iff.1 hy).1
  rw [hn] at hno
  have hm3 : m.dst ≠ 3 := fun h => hno (by unfold setNode; rw [List.getElem?_modify, hy]; simp [h])
  have hov : overL (beginP nm ns r x).st.nodes = overL r.st.nodes := by
    rw [hn]
    unfold overL setNode
    apply List.ext_getElem?
    intro j
    rw [List.getElem?_map, List.getElem?_map, List.getElem?_modify]
    by_cases hij : i = j
    · subst hij
      rw [hy]
      simp [hy0, hm3]
    · simp [hij]
  have hbe : ∀ j, begunB (beginP nm ns r x).st.nodes j = if j = i then true else begunB r.st.nodes j := fun j => by
    rw [hn]
    unfold begunB setNode
    rw [List.getElem?_modify]
    by_cases hij : i = j
    · subst hij
      rw [hy]
      simp [hm0]
    · rw [if_neg (fun h => hij h.symm)]
      simp [hij]
  unfold goReady rdyL at hL ⊢
  rw [hov]
  have hlt : i < ns.length := (List.getElem?_eq_some_iff.1 hx).1
  refine filter_drop hL ?_ (fun j hj => ?_)
  · unfold rdyB begunL
    rw [List.getD_eq_getElem?_getD, List.getElem?_map, List.getElem?_range hlt]
    simp [hbe]
  · unfold rdyB begunL
    by_cases hjn : j < ns.length
    · rw [List.getD_eq_getElem?_getD, List.getD_eq_getElem?_getD, List.getElem?_map, List.getElem?_map, List.getElem?_range hjn]
      simp [hbe, hj]
    · rw [List.getD_eq_getElem?_getD, List.getD_eq_getElem?_getD, List.getElem?_map, List.getElem?_map, List.getElem?_eq_none (by simpa using hjn)]
      rfl

theorem row_on (S : Sound ns) : ∀ (l : List Nat) (r : Rn), goReady ns r = l → Fine ns r.st → r.st.status = 1 → ∀ r', (match goRow nm ns r l with
    | (r1, .stop) => r' = r1
    | (r1, .again) => Fine ns r1.st → r1.st.status = 1 → On nm ns r1 r'
    | (r1, .through) => r' = if restC r1.st.nodes = 0 then endP nm ns r1 2 (lastP r1.st.nodes) else r1) → On nm ns r r'
  | [], r, hL, F, hs, r', h => by
    unfold goRow at h
    dsimp only at h
    by_cases hz : restC r.st.nodes = 0
    · rw [if_pos hz, ← closed_same F.bare hs (.inl rfl)] at h
      rw [h]
      exact .done hs hL hz
    · rw [if_neg hz] at h
      rw [h]
      exact .rest hs hL hz
  | i :: l, r, hL, F, hs, r', h => by
    obtain ⟨hi, y, hy, hy0⟩ := goReady_idle (ns := ns) (r := r) (i := i) (by rw [hL]; exact List.mem_cons_self)
    have hx := List.getElem?_eq_getElem hi
    have hk := S.kind _ (List.getElem_mem hi)
    have hf := S.find i _ hx
    have hb := begin_same (nm := nm) F.bare hs hf hx hy hy0 hk.1 hk.2
    refine .step hs (by rw [hL]; rfl) hx ?_
    rw [hb]
    have hF := begin_fine (nm := nm) F hs hf hx hy hy0 hk.1 hk.2
    have hnext := ready_next (nm := nm) hs hL hf hx hy hy0 hk.1 hk.2
    unfold goRow at h
    rw [hx] at h
    dsimp only at h
    generalize beginP nm ns r ns[i] = r1 at *
    by_cases h1 : r1.st.status ≠ 1
    · rw [if_pos h1] at h
      dsimp only at h
      rw [h]
      exact .stop h1
    · rw [if_neg h1] at h
      by_cases h3 : (r1.st.nodes[i]?.map (fun y => y.status)) = some 3
      · rw [if_pos h3] at h
        dsimp only at h
        exact h hF (by omega)
      · rw [if_neg h3] at h
        exact row_on S l r1 (hnext h3) hF (by omega) r' h

theorem go_on (S : Sound ns) : ∀ (f : Nat) (r : Rn), restC r.st.nodes < f → Fine ns r.st → r.st.status = 1 → On nm ns r (goP nm ns f r)
  | 0, r, hf, _, _ => absurd hf (Nat.not_lt_zero _)
  | f + 1, r, hf, F, hs => by
    refine row_on S (goReady ns r) r rfl F hs _ ?_
    unfold goP
    cases hg : goRow nm ns r (goReady ns r) with
    | mk r1 w =>
      cases w with
      | stop => rfl
      | again =>
        intro F1 hs1
        exact go_on S f r1 (by have := goRow_less hg; omega) F1 hs1
      | through => rfl

theorem goOn_on (S : Sound ns) (F : Fine ns r.st) : On nm ns r (goOnP nm ns r) ∨ r.st.status ≠ 1 := by
  by_cases hs : r.st.status = 1
  · exact .inl (go_on S _ r (Nat.lt_succ_self _) F hs)
  · exact .inr hs

end

end Go.Proofs.YtfjekjbkifmpfaaDoor

/-
  What an input makes of a workflow, as the document has it, as data: it is what the program makes of it.
-/
namespace Go.Proofs.YtfjekjbkifmpfaaDoor
open Go.RowKit

/-- A try of an activity fails. -/
def failR (nm : ByteArray) (ns : List Nd) (r : Rn) (i : Nat) (tx : ByteArray) : Rn := match ns[i]?, r.st.nodes[i]? with
  | some n, some y => if y.tr < n.tries then taskR (evR nm ns r ⟨5, n.name, tx, y.tr⟩) ⟨1, ⟨#[]⟩, n.name, IntKind.i64.wrap (y.tr + 1), 0, zeroMl⟩ else closedR nm ns (evR nm ns r ⟨6, n.name, tx, 0⟩) 3 tx
  | _, _ => r

/-- InTake, InComplete, InFail. (Going on is goOn: HRefO.) -/
def activityR (nm : ByteArray) (ns : List Nd) (r : Rn) (q : Inp) : Rn × Int := match findK ns r.st q.node [1] with
  | none => (r, 6)
  | some i => match ns[i]?, r.st.nodes[i]? with
    | some n, some y =>
      if q.kind = 3 then (if y.status ≠ 1 then (r, 12) else
        (if 0 < n.delay then taskR (evR nm ns r ⟨3, n.name, ⟨#[]⟩, IntKind.i64.wrap (y.tr + 1)⟩) ⟨2, ⟨#[]⟩, n.name, IntKind.i64.wrap (y.tr + 1), IntKind.i64.wrap (q.now + n.delay), zeroMl⟩ else evR nm ns r ⟨3, n.name, ⟨#[]⟩, IntKind.i64.wrap (y.tr + 1)⟩, 0))
      else if y.status ≠ 2 ∨ y.tr ≠ q.tr then (r, 12)
      else if 256 < q.text.size then (r, 9)
      else if q.kind = 5 then (failR nm ns r i q.text, 0)
      else (goOnP nm ns (evR nm ns r ⟨4, n.name, q.text, 0⟩), 0)
    | _, _ => (r, 6)

def fireR (nm : ByteArray) (ns : List Nd) (r : Rn) (q : Inp) : Rn × Int := match findK ns r.st q.node [2] with
  | some i => match ns[i]?, r.st.nodes[i]? with
    | some n, some y => if y.status ≠ 2 then (r, 12) else (goOnP nm ns (evR nm ns r ⟨8, n.name, ⟨#[]⟩, 0⟩), 0)
    | _, _ => (r, 6)
  | none => match findK ns r.st q.node [1] with
    | none => (r, 6)
    | some i => match r.st.nodes[i]? with
      | some y => if y.status ≠ 2 ∨ y.tr ≠ q.tr then (r, 12) else (failR nm ns r i timeoutB, 0)
      | none => (r, 6)

def childR (nm : ByteArray) (ns : List Nd) (r : Rn) (q : Inp) : Rn × Int := match findK ns r.st q.node [3] with
  | none => (r, 6)
  | some i => match ns[i]?, r.st.nodes[i]? with
    | some n, some y => if y.status ≠ 2 then (r, 12) else if q.status = 2 then (goOnP nm ns (evR nm ns r ⟨10, n.name, q.text, 0⟩), 0) else (closedR nm ns (evR nm ns r ⟨6, n.name, q.text, 0⟩) 3 q.text, 0)
    | _, _ => (r, 6)

section
variable {nm : ByteArray} {ns : List Nd} {r : Rn}

/-- A node that was found: itself, its standing, its name. -/
theorem found {s : St} {x : ByteArray} {ks : List Int} {i : Nat} (h : findK ns s x ks = some i) : ∃ n y, ns[i]? = some n ∧ s.nodes[i]? = some y ∧ n.name = x ∧ findP ns n.name = some i ∧ ks.contains n.kind = true := by
  obtain ⟨h1, h2, h3, h4⟩ := findK_some h
  have hn := findP_name h3
  exact ⟨ns[i], s.nodes[i], List.getElem?_eq_getElem h1, List.getElem?_eq_getElem h2, hn, by rw [hn]; exact h3, h4⟩

theorem closed_behind (F : Fine ns r.st) (hs : r.st.status = 1) {e : Ev} {i : Nat} {n : Nd} {y : Ns} {m : Mv} (hf : findP ns e.node = some i) (hn : ns[i]? = some n) (hy : r.st.nodes[i]? = some y) (hm : moveP e.kind n.kind y.status = some m) (hk : e.kind = 6) (hd : m.txt = true → m.dst = 3 ∨ m.dst = 4) (hyt : y.text = ⟨#[]⟩) {st : Int} {tx : ByteArray} (hst : st = 2 ∨ st = 3 ∨ st = 4) :
    closedR nm ns (evR nm ns r e) st tx = endP nm ns (tellP nm ns r e []) st tx := by
  have hc := changeP_fit1 (nm := nm) hs hf hn hy hm (by rw [hk]; decide) (by rw [hk]; decide) (by rw [hk]; decide) (by rw [hk]; decide)
  rw [ev_tell0 F.bare hc]
  refine closed_same ?_ ?_ hst
  · rw [tell_fit hc]
    exact fun z hz h => setNode_bare F.bare rfl hd (fun w hw => by rw [hy] at hw; cases hw; exact hyt) z hz h
  · rw [tell_fit hc]; exact hs

theorem fail_same (F : Fine ns r.st) (hs : r.st.status = 1) {i : Nat} {n : Nd} {y : Ns} (hf : findP ns n.name = some i) (hn : ns[i]? = some n) (hk : n.kind = 1) (hy : r.st.nodes[i]? = some y) (hy2 : y.status = 2) (tx : ByteArray) : failR nm ns r i tx = failTryP nm ns r i tx := by
  unfold failR failTryP
  rw [hn, hy]
  dsimp only
  by_cases h : y.tr < n.tries
  · rw [if_pos h, if_neg (by omega)]
    exact ev_tell1 F.bare (changeP_fit1 (m := ⟨5, 1, 2, 1, false⟩) hs hf hn hy (by rw [hk, hy2]; rfl) (by simp) (by simp) (by simp) (by simp)) _
  · rw [if_neg h, if_pos (by omega)]
    unfold breakP
    exact closed_behind F hs hf hn hy (m := ⟨6, 0, 2, 4, true⟩) (by rw [hy2, moveP_is]; simp) rfl (fun _ => .inr rfl) (F.bare y (List.mem_of_getElem? hy) (.inr (.inr hy2))) (.inr (.inl rfl))

theorem child_same (F : Fine ns r.st) (hs : r.st.status = 1) (q : Inp) : childR nm ns r q = kidP nm ns r q := by
  unfold childR kidP busyP
  cases h : findK ns r.st q.node [3] with
  | none => rfl
  | some i =>
    obtain ⟨n, y, hn, hy, hnm, hf, hk⟩ := found h
    have hk3 : n.kind = 3 := by simpa using hk
    dsimp only
    rw [hn, hy]
    dsimp only
    have hb : busyB ns r.st i q.tr = (y.status == 2) := by unfold busyB; rw [hn, hy]; simp [hk3]
    rw [hb]
    by_cases h2 : y.status = 2
    · rw [if_neg (c := y.status ≠ 2) (by simp [h2]), if_pos (c := (y.status == 2) = true) (by simp [h2])]
      dsimp only
      rw [if_neg (c := (0 : Int) ≠ 0) (by decide)]
      by_cases hq : q.status = 2
      · rw [if_pos hq, if_neg (c := q.status ≠ 2) (by simp [hq]), ev_tell0 F.bare (changeP_fit1 (m := ⟨10, 3, 2, 3, true⟩) hs (e := ⟨10, n.name, q.text, 0⟩) hf hn hy (by rw [hk3, h2]; rfl) (by simp) (by simp) (by simp) (by simp)), hnm]
      · rw [if_neg hq, if_pos hq]
        have := closed_behind (nm := nm) F hs (e := ⟨6, n.name, q.text, 0⟩) hf hn hy (m := ⟨6, 0, 2, 4, true⟩) (by rw [h2, moveP_is]; simp) rfl (fun _ => .inr rfl) (F.bare y (List.mem_of_getElem? hy) (.inr (.inr h2))) (st := 3) (tx := q.text) (.inr (.inl rfl))
        rw [this]
        unfold breakP
        rw [hnm]
    · rw [if_pos h2, if_neg (c := (y.status == 2) = true) (by simp [h2])]
      rfl

theorem activity_same (F : Fine ns r.st) (hs : r.st.status = 1) (q : Inp) (hw : r.now = q.now) : (q.kind = 3 → activityR nm ns r q = takeP nm ns r q) ∧ (q.kind = 4 → activityR nm ns r q = completeP nm ns r q) ∧ (q.kind = 5 → activityR nm ns r q = failP nm ns r q) := by
  unfold activityR takeP completeP failP busyP
  cases h : findK ns r.st q.node [1] with
  | none => exact ⟨fun _ => rfl, fun _ => rfl, fun _ => rfl⟩
  | some i =>
    obtain ⟨n, y, hn, hy, hnm, hf, hk⟩ := found h
    have hk1 : n.kind = 1 := by simpa using hk
    dsimp only
    rw [hn, hy]
    dsimp only
    have hb : busyB ns r.st i q.tr = ((y.status == 2) && (y.tr == q.tr)) := by unfold busyB; rw [hn, hy]; simp [hk1]
    rw [hb]
    refine ⟨fun hq => ?_, fun hq => ?_, fun hq => ?_⟩
    · rw [if_pos hq]
      by_cases h1 : y.status = 1
      · rw [if_neg (c := y.status ≠ 1) (by simp [h1]), if_pos h1]
        unfold alarmL
        have hc := changeP_fit1 (nm := nm) (m := ⟨3, 1, 1, 2, false⟩) hs (e := ⟨3, n.name, ⟨#[]⟩, IntKind.i64.wrap (y.tr + 1)⟩) hf hn hy (by rw [hk1, h1]; rfl) (by simp) (by simp) (by simp) (by simp)
        by_cases hd : 0 < n.delay
        · rw [if_pos hd, if_pos hd, ev_tell1 F.bare hc, hnm, hw]
        · rw [if_neg hd, if_neg hd, ev_tell0 F.bare hc, hnm]
      · rw [if_pos h1, if_neg h1]
    · rw [if_neg (show ¬ q.kind = 3 by omega)]
      by_cases hz : y.status = 2 ∧ y.tr = q.tr
      · rw [if_neg (c := y.status ≠ 2 ∨ y.tr ≠ q.tr) (by simp [hz.1, hz.2]), if_pos (c := ((y.status == 2) && (y.tr == q.tr)) = true) (by simp [hz.1, hz.2])]
        dsimp only
        rw [if_neg (c := (0 : Int) ≠ 0) (by decide)]
        by_cases hl : 256 < q.text.size
        · rw [if_pos hl, if_pos hl]
        · rw [if_neg hl, if_neg hl, if_neg (show ¬ q.kind = 5 by omega), ev_tell0 F.bare (changeP_fit1 (m := ⟨4, 1, 2, 3, true⟩) hs (e := ⟨4, n.name, q.text, 0⟩) hf hn hy (by rw [hk1, hz.1]; rfl) (by simp) (by simp) (by simp) (by simp)), hnm]
      · have hz1 : y.status ≠ 2 ∨ y.tr ≠ q.tr := by omega
        have hz2 : ¬ ((y.status == 2) && (y.tr == q.tr)) = true := by simp; omega
        rw [if_pos hz1, if_neg hz2]
        rfl
    · rw [if_neg (show ¬ q.kind = 3 by omega)]
      by_cases hz : y.status = 2 ∧ y.tr = q.tr
      · rw [if_neg (c := y.status ≠ 2 ∨ y.tr ≠ q.tr) (by simp [hz.1, hz.2]), if_pos (c := ((y.status == 2) && (y.tr == q.tr)) = true) (by simp [hz.1, hz.2])]
        dsimp only
        rw [if_neg (c := (0 : Int) ≠ 0) (by decide)]
        by_cases hl : 256 < q.text.size
        · rw [if_pos hl, if_pos hl]
        · rw [if_neg hl, if_neg hl, if_pos hq, fail_same F hs hf hn hk1 hy hz.1]
      · have hz1 : y.status ≠ 2 ∨ y.tr ≠ q.tr := by omega
        have hz2 : ¬ ((y.status == 2) && (y.tr == q.tr)) = true := by simp; omega
        rw [if_pos hz1, if_neg hz2]
        rfl

end

end Go.Proofs.YtfjekjbkifmpfaaDoor

/-
  HistoryRoots as data: what stands behind a start.
-/
namespace Go.Proofs.YtfjekjbkifmpfaaDoor
open Go.RowKit

section
variable {nm : ByteArray} {ns : List Nd} {r : Rn}

theorem tell_evs {e : Ev} {ts : List Tk} {t : St} (h : changeP nm ns r.st e = some t) : (tellP nm ns r e ts).evs = r.evs ++ [e] := by
  unfold tellP
  rw [h]

/-- The event by which a node begins. -/
theorem begin_evs (hs : r.st.status = 1) {i : Nat} {x : Nd} {y : Ns} (hf : findP ns x.name = some i) (hx : ns[i]? = some x) (hy : r.st.nodes[i]? = some y) (hy0 : y.status = 0) (hk0 : 1 ≤ x.kind) (hk1 : x.kind ≤ 5) (hr : (beginP nm ns r x).st.status = 1) :
    ∃ e : Ev, (beginP nm ns r x).evs = r.evs ++ [e] ∧ e.node = x.name ∧ e.kind ≠ 1 ∧ (e.kind = 7 → e.num = IntKind.i64.wrap (r.now + x.delay)) := by
  unfold beginP at hr ⊢
  by_cases h1 : x.kind = 1
  · rw [if_pos h1]
    exact ⟨_, tell_evs (changeP_fit1 (m := ⟨2, 1, 0, 1, false⟩) hs hf hx hy (by rw [h1, hy0]; rfl) (by simp) (by simp) (by simp) (by simp)), rfl, by simp, by simp⟩
  rw [if_neg h1] at hr ⊢
  by_cases h2 : x.kind = 2
  · rw [if_pos h2]
    exact ⟨_, tell_evs (changeP_fit1 (m := ⟨7, 2, 0, 2, false⟩) hs hf hx hy (by rw [h2, hy0]; rfl) (by simp) (by simp) (by simp) (by simp)), rfl, by simp, fun _ => rfl⟩
  rw [if_neg h2] at hr ⊢
  by_cases h3 : x.kind = 3
  · rw [if_pos h3] at hr ⊢
    unfold askP at hr ⊢
    by_cases hl : 256 < r.st.id.size + 1 + x.name.size
    · rw [if_pos hl] at hr
      have hc := changeP_fit1 (nm := nm) (e := ⟨6, x.name, longB, 0⟩) (m := ⟨6, 3, 0, 4, true⟩) hs hf hx hy (by rw [h3, hy0]; rfl) (by simp) (by simp) (by simp) (by simp)
      have hst : (tellP nm ns r ⟨6, x.name, longB, 0⟩ []).st.status = 1 := by rw [tell_fit hc]; exact hs
      unfold breakP endP at hr
      rw [tell_fit (changeP_close hst 3 longB (.inr (.inl rfl)))] at hr
      cases hr
    · rw [if_neg hl]
      exact ⟨_, tell_evs (changeP_fit1 (m := ⟨9, 3, 0, 2, false⟩) hs hf hx hy (by rw [h3, hy0]; rfl) (by simp) (by simp) (by simp) (by simp)), rfl, by simp, by simp⟩
  rw [if_neg h3] at hr ⊢
  by_cases h4 : x.kind = 4
  · rw [if_pos h4]
    unfold waitP
    cases hk : keptP r.st.sigs x.arg with
    | none => exact ⟨_, tell_evs (changeP_fit1 (m := ⟨11, 4, 0, 2, false⟩) hs hf hx hy (by rw [h4, hy0]; rfl) (by simp) (by simp) (by simp) (by simp)), rfl, by simp, by simp⟩
    | some k => exact ⟨_, tell_evs (changeP_fit12 hs rfl hf hx h4 hy hy0 rfl hk), rfl, by simp, by simp⟩
  rw [if_neg h4, if_pos (show x.kind = 5 by omega)]
  exact ⟨_, tell_evs (changeP_fit1 (m := ⟨14, 5, 0, 3, false⟩) hs hf hx hy (by rw [show x.kind = 5 by omega, hy0]; rfl) (by simp) (by simp) (by simp) (by simp)), rfl, by simp, by simp⟩

/-- How often a node began, by the events. -/
def beganC (evs : List Ev) (name : ByteArray) : Nat := evs.countP (fun e => decide (e.node = name) && decide (e.kind ≠ 1))

/-- What stands while nodes begin. -/
structure Roots (now : Int) (ns : List Nd) (r : Rn) : Prop where
  fine : Fine ns r.st
  tick : r.now = now
  free : ∀ (i : Nat) (x : Nd) (y : Ns), ns[i]? = some x → r.st.nodes[i]? = some y → y.status ≠ 0 → overP ns x (overL r.st.nodes) = true
  once : ∀ (i : Nat) (x : Nd) (y : Ns), ns[i]? = some x → r.st.nodes[i]? = some y → beganC r.evs x.name = if y.status = 0 then 0 else 1
  time : ∀ e ∈ r.evs, e.kind = 7 → ∀ x ∈ ns, e.node = x.name → e.num = IntKind.i64.wrap (now + x.delay)

theorem over_mono {l l' : List Ns} (h : ∀ (i : Nat) (x : Ns), l[i]? = some x → x.status = 3 → l'[i]? = some x) {x : Nd} (ho : overP ns x (overL l) = true) : overP ns x (overL l') = true := by
  unfold overP at ho ⊢
  rw [List.all_eq_true] at ho ⊢
  intro s hs
  have := ho s hs
  unfold oneP at this ⊢
  split at this
  · rename_i j hj
    unfold overL at this ⊢
    rw [List.getD_eq_getElem?_getD, List.getElem?_map] at this ⊢
    cases hl : l[j]? with
    | none => rw [hl] at this; simp at this
    | some z =>
      rw [hl] at this
      have hz : z.status = 3 := by simpa using this
      rw [h j z hl hz]
      simp [hz]
  · cases this

theorem Roots.step (S : Sound ns) {now : Int} (R : Roots now ns r) (hs : r.st.status = 1) {i : Nat} {x : Nd} (hi : i ∈ goReady ns r) (hx : ns[i]? = some x) (hr : (beginP nm ns r x).st.status = 1) : Roots now ns (beginP nm ns r x) := by
  obtain ⟨hin, y, hy, hy0⟩ := goReady_idle hi
  have hk := S.kind x (List.mem_of_getElem? hx)
  have hf := S.find i x hx
  obtain ⟨m, e0, hm0, _, hn⟩ := begin_nodes (nm := nm) hs hf hx hy hy0 hk.1 hk.2
  obtain ⟨e, he, hen, hek, het⟩ := begin_evs (nm := nm) hs hf hx hy hy0 hk.1 hk.2 hr
  have hg := beginP_grow (nm := nm) (ns := ns) (r := r) (x := x)
  have hfr : overP ns x (overL r.st.nodes) = true := by
    unfold goReady rdyL at hi
    rw [List.mem_filter] at hi
    have h2 := hi.2
    unfold rdyB at h2
    rw [Bool.and_eq_true, hx] at h2
    exact h2.2
  have hat : ∀ (j : Nat) (z : Ns), (beginP nm ns r x).st.nodes[j]? = some z → (j = i ∧ z.status ≠ 0) ∨ (j ≠ i ∧ r.st.nodes[j]? = some z) := fun j z hz => by
    rw [hn] at hz
    unfold setNode at hz
    rw [List.getElem?_modify] at hz
    by_cases hij : i = j
    · subst hij
      rw [hy] at hz
      simp at hz
      subst hz
      exact .inl ⟨rfl, hm0⟩
    · simp [hij] at hz
      exact .inr ⟨fun h => hij h.symm, hz⟩
  refine ⟨begin_fine R.fine hs hf hx hy hy0 hk.1 hk.2, beginP_now.trans R.tick, fun j z q hz hq h0 => ?_, fun j z q hz hq => ?_, fun e' he' h7 z hz hnm => ?_⟩
  · rcases hat j q hq with ⟨rfl, _⟩ | ⟨_, hq'⟩
    · rw [hx] at hz
      cases hz
      exact over_mono hg.over hfr
    · exact over_mono hg.over (R.free j z q hz hq' h0)
  · have hc : beganC (beginP nm ns r x).evs z.name = beganC r.evs z.name + if z.name = x.name then 1 else 0 := by
      unfold beganC
      rw [he, List.countP_append, List.countP_cons, List.countP_nil, Nat.zero_add, hen]
      by_cases hzx : z.name = x.name
      · rw [if_pos hzx]
        simp [hzx, hek]
      · have : ¬ x.name = z.name := fun h => hzx h.symm
        simp [hzx, this]
    rw [hc]
    rcases hat j q hq with ⟨rfl, hq0⟩ | ⟨hji, hq'⟩
    · rw [hx] at hz
      cases hz
      rw [if_pos rfl, if_neg hq0, R.once j x y hx hy, if_pos hy0]
    · have hne : ¬ z.name = x.name := fun h => hji (by have h1 := S.find j z hz; rw [h, hf] at h1; exact (Option.some.inj h1).symm)
      rw [if_neg hne, Nat.add_zero]
      exact R.once j z q hz hq'
  · rw [he, List.mem_append, List.mem_singleton] at he'
    rcases he' with he' | rfl
    · exact R.time e' he' h7 z hz hnm
    · have hzx : z = x := by
        obtain ⟨j, hj⟩ := List.mem_iff_getElem?.1 hz
        have h1 := S.find j z hj
        rw [← hnm, hen, hf] at h1
        have h2 : i = j := Option.some.inj h1
        subst h2
        rw [hx] at hj
        exact (Option.some.inj hj).symm
      rw [hzx, het h7, R.tick]

theorem roots_on (S : Sound ns) {now : Int} {r r' : Rn} (h : On nm ns r r') : Roots now ns r → r'.st.status = 1 → Roots now ns r' ∧ goReady ns r' = [] := by
  induction h with
  | stop hs => exact fun _ h => absurd h hs
  | @step r r' i x hs hh hx hon ih =>
    intro R h1
    have hi : i ∈ goReady ns r := List.mem_of_mem_head? (by rw [hh]; rfl)
    obtain ⟨hin, y, hy, hy0⟩ := goReady_idle hi
    have hk := S.kind x (List.mem_of_getElem? hx)
    have hb := begin_same (nm := nm) R.fine.bare hs (S.find i x hx) hx hy hy0 hk.1 hk.2
    rw [hb] at ih hon
    by_cases hr : (beginP nm ns r x).st.status = 1
    · exact ih (R.step S hs hi hx hr) h1
    · cases hon with
      | stop _ => exact absurd h1 hr
      | step hs' => exact absurd hs' hr
      | done hs' => exact absurd hs' hr
      | rest hs' => exact absurd hs' hr
  | @done r hs hz hc =>
    intro R h1
    rw [closed_same R.fine.bare hs (.inl rfl)] at h1
    unfold endP at h1
    rw [tell_fit (changeP_close hs 2 _ (.inl rfl))] at h1
    cases h1
  | rest hs hz hc => exact fun R _ => ⟨R, hz⟩

end

end Go.Proofs.YtfjekjbkifmpfaaDoor

/-
  The document's next: the first node that may begin.
-/
namespace Go.Proofs.YtfjekjbkifmpfaaDoor.Rf
open Go.RowKit

theorem over_take {L : List Ns} {k : Nat} (hk : k < L.length) : ((overL L).take (k + 1)).map Value.bool = ((overL L).take k).map Value.bool ++ [.bool ((L[k]).status == 3)] := by
  have h : k < (overL L).length := by unfold overL; simpa using hk
  rw [List.take_succ_eq_append_getElem h, List.map_append]
  have he : (overL L)[k] = ((L[k]).status == 3) := by simp only [overL, List.getElem_map]
  rw [he]
  rfl

theorem begun_take {L : List Ns} {k : Nat} (hk : k < L.length) : ((begunL L L.length).take (k + 1)).map Value.bool = ((begunL L L.length).take k).map Value.bool ++ [.bool ((L[k]).status != 0)] := by
  have h : k < (begunL L L.length).length := by unfold begunL; simpa using hk
  rw [List.take_succ_eq_append_getElem h, List.map_append]
  have he : (begunL L L.length)[k] = ((L[k]).status != 0) := by
    simp only [begunL, List.getElem_map, List.getElem_range]
    unfold begunB
    rw [List.getElem?_eq_getElem hk]
  rw [he]
  rfl

/-- Two rows of marks on their way. -/
structure NxSt (w wr : World) (L : List Ns) (k : Nat) (a3 : Option Addr) (c3 : Nat) (a4 : Option Addr) (c4 : Nat) : Prop where
  over : wr.ownsRow w.heap.size 4 1 (.slice a3 k c3) k (((overL L).take k).map Value.bool)
  begun : wr.ownsRow w.heap.size 4 1 (.slice a4 k c4) k (((begunL L L.length).take k).map Value.bool)
  apart : ∀ g, (Value.slice a3 k c3).ownBlock = some g → (Value.slice a4 k c4).ownBlock ≠ some g
  kept : Kept (fun _ => False) w wr

theorem own_at {w : World} {B T n c : Nat} {a : Option Addr} {xs : List Value} (h : w.ownsRow B T 1 (.slice a n c) n xs) (hx : xs.length = n) : CellsAt w a xs ∧ (0 < n → ∃ g, a = some ⟨g, 0, none⟩) := by
  by_cases hn : 0 < n
  · obtain ⟨g, cg, hv, _, _, hrow⟩ := row_at h (by omega)
    obtain ⟨rfl, rfl⟩ : a = some ⟨g, 0, none⟩ ∧ c = cg := by simpa using hv
    exact ⟨.inr ⟨g, 0, rfl, fun j u hu => by rw [Nat.zero_add]; exact (hrow j u hu).1⟩, fun _ => ⟨g, rfl⟩⟩
  · have : xs = [] := List.eq_nil_of_length_eq_zero (by omega)
    exact ⟨.inl this, fun h => absurd h hn⟩

def headZ (l : List Nat) : Int := match l with | [] => -1 | i :: _ => (i : Int)

set_option maxRecDepth 100000 in
set_option maxHeartbeats 8000000 in
theorem next_any {w0 w : World} {H : Nat → Prop} {rb : Nat} {nm : ByteArray} {a : Option Addr} {c : Nat} {ns : List Nd} {r : Rn} (E : Env w0 w H a ns) (R : RAt w H rb nm a ns.length c r) (hU : Uniq ns) (hl : r.st.nodes.length = ns.length) (hn : ns.length ≤ 64) :
    Calls Tryd.prog 83 #[.pointer (some ⟨rb, 0, none⟩)] w fun e w' => e = .returned (.int .i64 (headZ (goReady ns r))) ∧ Kept (fun _ => False) w w' := by
  obtain ⟨i0, hi0, hz0, hz1, hz2⟩ := info_parts Tryd.info4
  obtain ⟨v6, v7, v12, v13, hb, hn6, _, _, _, _⟩ := R.opened
  obtain ⟨a6, c6, rfl⟩ := ownsRow_shape hn6
  have HB := hid hb
  have HN6 := hid hn6
  have HN := hid E.here.1
  have hrb : rb < w.heap.size := (Array.getElem?_eq_some_iff.1 hb).1
  have HL := hid hl
  have hrdy : goReady ns r = rdyL ns (overL r.st.nodes) (begunL r.st.nodes r.st.nodes.length) ns.length := by unfold goReady; rw [hl]
  rw [hrdy]
  obtain ⟨T, hT⟩ : ∃ T, T = rdyL ns (overL r.st.nodes) (begunL r.st.nodes r.st.nodes.length) ns.length := ⟨_, rfl⟩
  rw [← hT]
  have HT := hid hT
  clear hb hn6 E R hrdy hT hl
  go_enter Tryd.func83, Tryd.ntmps83
  go_wp2_with fail
  go_loopw [3, 4, 5] (fun o b i wr => ∃ (k : Nat) (a3 : Option Addr) (c3 : Nat) (a4 : Option Addr) (c4 : Nat), k ≤ r.st.nodes.length ∧ o = .slice a3 k c3 ∧ b = .slice a4 k c4 ∧ i = .int .i64 k ∧ NxSt w wr r.st.nodes k a3 c3 a4 c4) (fun _ _ i _ => r.st.nodes.length - (intOf i).toNat)
  case atStart => exact ⟨0, none, 0, none, 0, Nat.zero_le _, rfl, rfl, rfl, ⟨World.ownsRow_nil _ _ _ _, World.ownsRow_nil _ _ _ _, fun g h => (by cases h), Kept.refl _ _⟩⟩
  case round =>
    obtain ⟨k, a3, c3, a4, c4, hk, rfl, rfl, rfl, X⟩ := hrel
    have hn7 := ownsRow_keep HN6.out (fun g hg => X.kept.block g (ownsRow_blk HN6.out hg) (fun h => h))
    obtain ⟨x0, x1, _, _, _, _, _, _, x8, _⟩ := runCells ((X.kept.block rb hrb (fun h => h)).trans HB.out)
    have HX := hid X
    have hzw : w.heap.size ≤ wr.heap.size := X.kept.size
    clear X
    by_cases hlt : k < r.st.nodes.length
    · have e0 : (k : Int) < (r.st.nodes.length : Int) := by omega
      have hl64 : k < 64 := by have := HL.out; omega
      obtain ⟨g6, cg, hv, _, _, hrow⟩ := row_at hn7 (by omega)
      obtain ⟨rfl, rfl⟩ : a6 = some ⟨g6, 0, none⟩ ∧ c6 = cg := by simpa using hv
      have q0 := (hrow _ _ (nsF_get hlt).1).1
      have hg6 : g6 < w.heap.size := ownsRow_blk HN6.out rfl
      have ho := hid (over_take hlt)
      have hb' := hid (begun_take hlt)
      generalize (r.st.nodes[k]).status = s at *
      have HC3 : Hid (∀ u ∈ [Value.bool (s == 3)], u.oneCell' = true) := by
        intro u hu
        obtain rfl := List.mem_singleton.1 hu
        rfl
      have HC4 : Hid (∀ u ∈ [Value.bool (s != 0)], u.oneCell' = true) := by
        intro u hu
        obtain rfl := List.mem_singleton.1 hu
        rfl
      clear hn7 hrow hv
      go_wp2_with (first
        | (at_builtin; refine wpList_append_src _ rfl _ _ 110 rfl w.heap.size 4 i0 _ 1 1 Tryd.underlying110 hi0 hz0 hz1 hz2 rfl (by decide) (.slice a3 k c3) k _ rfl (HX.out.over.alloc _) _ rfl 1 _ (.inl ⟨_, 1, rfl, rfl, World.news_of_block (heap_alloc_new _ _)⟩) HC3.out (by unfold maxLen; omega) (by omega) (by simp; omega) ?_; intro a7 cap7 w7 ho7 hg7 _ hl7; have KG7 : Kept (fun g => (Value.slice a3 k c3).ownBlock = some g) (wr.alloc (.cells #[.bool (s == 3)] 4)) w7 := Kept.grown hg7 (fun g e => e); have x8' := (World.cell?_of_block (w := wr) ((KG7.block rb (by simp; omega) (fun h => by have := (HX.out.over.lt rb h).1; omega)).trans ((Kept.alloc (fun _ => False) wr _).block rb (by omega) (fun h => h)))).trans x8; have q0' := (World.cell?_of_block (w := wr) ((KG7.block g6 (by simp; omega) (fun h => by have := (HX.out.over.lt g6 h).1; omega)).trans ((Kept.alloc (fun _ => False) wr _).block g6 (by omega) (fun h => h)))).trans q0; have HB7 : Hid (w7.ownsRow w.heap.size 4 1 (.slice a4 k c4) k (((begunL r.st.nodes r.st.nodes.length).take k).map Value.bool)) := ownsRow_keep HX.out.begun (fun g hg => (KG7.block g (by have := ownsRow_blk HX.out.begun hg; simp; omega) (fun h => HX.out.apart g h hg)).trans ((Kept.alloc (fun _ => False) wr _).block g (ownsRow_blk HX.out.begun hg) (fun h => h))); have HO7 := hid ho7; have HL7 := hid hl7; have HKG7 := hid KG7; have hz7 := KG7.size; clear ho7 hg7 hl7 KG7)
        | (at_builtin; refine wpList_append_src _ rfl _ _ 110 rfl w.heap.size 4 i0 _ 1 1 Tryd.underlying110 hi0 hz0 hz1 hz2 rfl (by decide) (.slice a4 k c4) k _ rfl (HB7.out.alloc _) _ rfl 1 _ (.inl ⟨_, 1, rfl, rfl, World.news_of_block (heap_alloc_new _ _)⟩) HC4.out (by unfold maxLen; omega) (by omega) (by simp at hz7 ⊢; omega) ?_; intro a9 cap9 w9 ho9 hg9 _ hl9)
        | fail)
      have KG9 : Kept (fun g => (Value.slice a4 k c4).ownBlock = some g) (w7.alloc (.cells #[.bool (s != 0)] 4)) w9 := Kept.grown hg9 (fun g e => e)
      have hs1 : (wr.alloc (.cells #[.bool (s == 3)] 4)).heap.size = wr.heap.size + 1 := by simp
      have hs2 : (w7.alloc (.cells #[.bool (s != 0)] 4)).heap.size = w7.heap.size + 1 := by simp
      have b7 : ∀ g, (Value.slice a7 (k + 1) cap7).ownBlock = some g → (Value.slice a3 k c3).ownBlock = some g ∨ g = wr.heap.size + 1 := fun g hg => by
        rcases HL7.out with h | h
        · exact .inl (h ▸ hg)
        · rw [h] at hg
          simp at hg
          exact .inr (by omega)
      have b9 : ∀ g, (Value.slice a9 (k + 1) cap9).ownBlock = some g → (Value.slice a4 k c4).ownBlock = some g ∨ g = w7.heap.size + 1 := fun g hg => by
        rcases hl9 with h | h
        · exact .inl (h ▸ hg)
        · rw [h] at hg
          simp at hg
          exact .inr (by omega)
      have n7 : ∀ g, (Value.slice a7 (k + 1) cap7).ownBlock = some g → (Value.slice a4 k c4).ownBlock ≠ some g := fun g hg h4 => by
        rcases b7 g hg with h | h
        · exact HX.out.apart g h h4
        · have := ownsRow_blk HX.out.begun h4
          omega
      go_roundw
      case rel =>
        refine ⟨k + 1, a7, cap7, a9, cap9, by omega, rfl, rfl, by go_num, ⟨?_, ?_, ?_, ?_⟩⟩
        · rw [ho.out]
          exact ownsRow_keep HO7.out (fun g hg => (KG9.block g (by have := ownsRow_blk HO7.out hg; omega) (n7 g hg)).trans ((Kept.alloc (fun _ => False) w7 _).block g (ownsRow_blk HO7.out hg) (fun h => h)))
        · rw [hb'.out]
          exact ho9
        · intro g h7 h9
          rcases b9 g h9 with h | h
          · exact n7 g h7 h
          · have := ownsRow_blk HO7.out h7
            omega
        · exact ((HX.out.kept.and (Kept.alloc _ _ _)).trans HKG7.out (fun g h => .inr (HX.out.over.lt g h).1)).and (Kept.alloc _ _ _) |>.trans KG9 (fun g h => .inr (HX.out.begun.lt g h).1)
      case measure => simp [intOf]; omega
    · obtain rfl : k = r.st.nodes.length := by omega
      have e0 : ¬ ((r.st.nodes.length : Int) < (r.st.nodes.length : Int)) := by omega
      have o3 := HX.out.over
      have o4 := HX.out.begun
      rw [List.take_of_length_le (by unfold overL; simp)] at o3
      rw [List.take_of_length_le (by unfold begunL; simp)] at o4
      obtain ⟨C3, g3⟩ := own_at o3 (by unfold overL; simp)
      obtain ⟨C4, g4⟩ := own_at o4 (by unfold begunL; simp)
      have hR := refReady_any wr nm a c ns (keptNew HX.out.kept HN.out) hU (by omega) a3 a4 c3 c4 r.st.nodes.length HL.out (overL r.st.nodes) (begunL r.st.nodes r.st.nodes.length) (by unfold overL; simpa using HL.out) (by unfold begunL; simpa using HL.out) (fun h => g3 (by rw [HL.out]; exact h)) (fun h => g4 (by rw [HL.out]; exact h)) C3 C4
      have hlen := rdyL_len ns (overL r.st.nodes) (begunL r.st.nodes r.st.nodes.length) ns.length
      have hlt : ∀ i ∈ rdyL ns (overL r.st.nodes) (begunL r.st.nodes r.st.nodes.length) ns.length, i < ns.length := fun i hi => by
        unfold rdyL at hi
        exact List.mem_range.1 (List.mem_filter.1 hi).1
      rw [← HT.out] at hR hlen hlt
      clear o3 o4 C3 C4 g3 g4 hn7 HT
      cases T with
      | nil =>
        simp only [List.length_nil] at hR
        go_upto_region 8 with (first
          | (go_at_call 100; refine hR.mono ?_; rintro e w9 ⟨av, cv, rfl, O9, K9⟩; clear hR)
          | fail)
        have HK9 := hid (HX.out.kept.and K9)
        clear K9 O9
        go_region
        -- MARK1
        go_wp2_with fail
        go_ret
        exact ⟨rfl, HK9.out.and (Kept.drew _ _)⟩
      | cons i T =>
        have hi : i < r.st.nodes.length := by rw [HL.out]; exact hlt i List.mem_cons_self
        simp only [List.length_cons] at hR
        obtain ⟨L, hLe⟩ : ∃ L, L = T.length + 1 := ⟨_, rfl⟩
        rw [← hLe] at hR
        have hLp : 0 < L := by omega
        clear hLe
        go_upto_region 8 with (first
          | (go_at_call 100; refine hR.mono ?_; rintro e w9 ⟨av, cv, rfl, O9, K9⟩; clear hR)
          | fail)
        have HK9 := hid (HX.out.kept.and K9)
        obtain ⟨g9, cg9, hv9, _, _, hrow9⟩ := row_at O9 (by omega)
        obtain ⟨rfl, rfl⟩ : av = some ⟨g9, 0, none⟩ ∧ cv = cg9 := by simpa using hv9
        have y0 : w9.cell? ⟨g9, 0, none⟩ = some (.int .i64 (i : Nat)) := (hrow9 0 _ (by simp [natsV])).1
        obtain ⟨z0, z1, _, _, _, _, _, _, z8, _⟩ := runCells ((HK9.out.block rb hrb (fun h => h)).trans HB.out)
        have e1 : (i : Int) < (r.st.nodes.length : Int) := by omega
        have e2 : ¬ (r.st.nodes.length : Int) ≤ (i : Int) := by omega
        have e3 : ((L : Int) == 0) = false := by rw [beq_eq_false_iff_ne]; omega
        clear K9 O9 hrow9 hv9 x0 x1 x8
        -- MARK2
        go_region
        -- MARK3
        go_wp2_with fail
        go_ret
        exact ⟨rfl, HK9.out.and (Kept.drew _ _)⟩

end Go.Proofs.YtfjekjbkifmpfaaDoor.Rf

/-
  The document's Step, as data: it is the program's.
-/
namespace Go.Proofs.YtfjekjbkifmpfaaDoor
open Go.RowKit

def signalR (nm : ByteArray) (ns : List Nd) (r : Rn) (q : Inp) : Rn × Int :=
  if nameP q.name = false then (r, 17)
  else if 256 < q.text.size then (r, 9)
  else match busyWaitP ns r.st q.name with
    | some i => (goOnP nm ns (evR nm ns r ⟨12, nmAt ns i, q.text, 0⟩), 0)
    | none => if 32 ≤ r.st.sigs.length then (r, 8) else (evR nm ns r ⟨13, q.name, q.text, 0⟩, 0)

def doesR (nm : ByteArray) (ns : List Nd) (r : Rn) (q : Inp) : Rn × Int :=
  if q.kind = 1 then (if r.st.status ≠ 0 then (r, 7) else (goOnP nm ns (evR nm ns { r with st := { r.st with id := q.name } } ⟨1, q.pnode, q.par, 0⟩), 0))
  else if r.st.status = 0 then (r, 6)
  else if r.st.status ≠ 1 then (r, 11)
  else if q.kind = 2 then signalR nm ns r q
  else if q.kind = 3 ∨ q.kind = 4 ∨ q.kind = 5 then activityR nm ns r q
  else if q.kind = 6 then fireR nm ns r q
  else if q.kind = 7 then childR nm ns r q
  else if q.kind = 8 then (if 256 < q.text.size then (r, 9) else (closedR nm ns r 4 q.text, 0))
  else (r, 1)

section
variable {nm : ByteArray} {ns : List Nd} {r : Rn}

/-- A node of one of two kinds. -/
theorem find_two {s : St} {x : ByteArray} {a b : Int} : findK ns s x [a, b] = (match findK ns s x [b] with | some i => some i | none => findK ns s x [a]) := by
  unfold findK
  cases findP ns x with
  | none => rfl
  | some i =>
    dsimp only
    cases ns[i]? with
    | none => rfl
    | some n =>
      dsimp only
      by_cases hl : i < s.nodes.length
      · by_cases hb : n.kind = b
        · simp [hl, hb]
        · by_cases ha : n.kind = a
          · have hab : ¬ a = b := fun h => hb (ha.trans h)
            simp [hl, ha, hab]
          · simp [hl, ha, hb]
      · simp [hl]

theorem fire_same (F : Fine ns r.st) (hs : r.st.status = 1) (q : Inp) : fireR nm ns r q = fireP nm ns r q := by
  unfold fireR fireP
  cases h : findK ns r.st q.node [2] with
  | some i =>
    obtain ⟨n, y, hn, hy, hnm, hf, hk⟩ := found h
    have hk2 : n.kind = 2 := by simpa using hk
    have hb : busyB ns r.st i q.tr = (y.status == 2) := by unfold busyB; rw [hn, hy]; simp [hk2]
    have hbp : busyP ns r.st q [1, 2] = if (y.status == 2) = true then (i, 0) else (0, 12) := by unfold busyP; rw [find_two, h]; dsimp only; rw [hb]
    rw [hbp]
    dsimp only
    rw [hn, hy]
    dsimp only
    by_cases h2 : y.status = 2
    · rw [if_neg (c := y.status ≠ 2) (by simp [h2]), if_pos (c := (y.status == 2) = true) (by simp [h2])]
      dsimp only
      rw [if_neg (c := (0 : Int) ≠ 0) (by decide), if_neg (c := kindAt ns i = 1) (by unfold kindAt; rw [hn]; dsimp only; rw [hk2]; decide),
        ev_tell0 F.bare (changeP_fit1 (m := ⟨8, 2, 2, 3, false⟩) hs (e := ⟨8, n.name, ⟨#[]⟩, 0⟩) hf hn hy (by rw [hk2, h2]; rfl) (by simp) (by simp) (by simp) (by simp)), hnm]
    · rw [if_pos h2, if_neg (c := (y.status == 2) = true) (by simp [h2])]
      rfl
  | none =>
    cases h1 : findK ns r.st q.node [1] with
    | none =>
      have hbp : busyP ns r.st q [1, 2] = (0, 6) := by unfold busyP; rw [find_two, h]; dsimp only; rw [h1]
      rw [hbp]
      rfl
    | some i =>
      obtain ⟨n, y, hn, hy, hnm, hf, hk⟩ := found h1
      have hk1 : n.kind = 1 := by simpa using hk
      have hb : busyB ns r.st i q.tr = ((y.status == 2) && (y.tr == q.tr)) := by unfold busyB; rw [hn, hy]; simp [hk1]
      have hbp : busyP ns r.st q [1, 2] = if ((y.status == 2) && (y.tr == q.tr)) = true then (i, 0) else (0, 12) := by unfold busyP; rw [find_two, h]; dsimp only; rw [h1]; dsimp only; rw [hb]
      rw [hbp]
      dsimp only
      rw [hy]
      dsimp only
      by_cases hz : y.status = 2 ∧ y.tr = q.tr
      · rw [if_neg (c := y.status ≠ 2 ∨ y.tr ≠ q.tr) (by simp [hz.1, hz.2]), if_pos (c := ((y.status == 2) && (y.tr == q.tr)) = true) (by simp [hz.1, hz.2])]
        dsimp only
        rw [if_neg (c := (0 : Int) ≠ 0) (by decide), if_pos (c := kindAt ns i = 1) (by unfold kindAt; rw [hn]; exact hk1), fail_same F hs hf hn hk1 hy hz.1]
      · have hz1 : y.status ≠ 2 ∨ y.tr ≠ q.tr := by omega
        have hz2 : ¬ ((y.status == 2) && (y.tr == q.tr)) = true := by simp; omega
        rw [if_pos hz1, if_neg hz2]
        rfl

theorem changeP_busy (hs : r.st.status = 1) {i : Nat} {n : Nd} {y : Ns} (hf : findP ns n.name = some i) (hn : ns[i]? = some n) (hk : n.kind = 4) (hy : r.st.nodes[i]? = some y) (hy2 : y.status = 2) (tx : ByteArray) :
    changeP nm ns r.st ⟨12, n.name, tx, 0⟩ = some { r.st with nodes := setNode r.st.nodes i ⟨12, 4, 2, 3, true⟩ ⟨12, n.name, tx, 0⟩, events := r.st.events + 1 } := by
  have hc : changeNodeP ns r.st ⟨12, n.name, tx, 0⟩ = some { r.st with nodes := setNode r.st.nodes i ⟨12, 4, 2, 3, true⟩ ⟨12, n.name, tx, 0⟩ } := by
    unfold changeNodeP
    dsimp only
    rw [hf]
    dsimp only
    have hmv : nodeMove ns r.st ⟨12, n.name, tx, 0⟩ i = some ⟨12, 4, 2, 3, true⟩ := by unfold nodeMove; rw [hn, hy]; dsimp only; rw [hk, hy2]; rfl
    rw [hmv]
    rfl
  unfold changeP
  dsimp only
  rw [if_neg (c := r.st.status ≠ (if (12 : Int) = 1 then 0 else 1)) (by rw [hs]; decide), if_neg (c := (12 : Int) = 1) (by decide), if_neg (c := (12 : Int) = 13) (by decide), if_neg (c := (12 : Int) = 15) (by decide), hc]
  rfl

theorem signal_same (S : Sound ns) (F : Fine ns r.st) (hs : r.st.status = 1) (q : Inp) : signalR nm ns r q = signalP nm ns r q := by
  unfold signalR signalP
  by_cases h1 : nameP q.name = false
  · rw [if_pos h1, if_pos h1]
  rw [if_neg h1, if_neg h1]
  by_cases h2 : 256 < q.text.size
  · rw [if_pos h2, if_pos h2]
  rw [if_neg h2, if_neg h2]
  cases hb : busyWaitP ns r.st q.name with
  | some i =>
    have hw := List.find?_some hb
    unfold waitB at hw
    split at hw
    · rename_i n y hn hy
      rw [Bool.and_eq_true, Bool.and_eq_true] at hw
      obtain ⟨a1, _, a3⟩ := hw
      have hnm : nmAt ns i = n.name := by unfold nmAt; rw [hn]
      dsimp only
      rw [hnm, ev_tell0 F.bare (changeP_busy hs (S.find i n hn) hn (by simpa using a1) hy (by simpa using a3) q.text)]
    · cases hw
  | none =>
    dsimp only
    by_cases h3 : 32 ≤ r.st.sigs.length
    · rw [if_pos h3, if_pos h3]
    · rw [if_neg h3, if_neg h3]
      have hc : changeP nm ns r.st ⟨13, q.name, q.text, 0⟩ = some { r.st with sigs := r.st.sigs ++ [⟨q.name, q.text⟩], events := r.st.events + 1 } := by
        unfold changeP
        dsimp only
        rw [if_neg (c := r.st.status ≠ (if (13 : Int) = 1 then 0 else 1)) (by rw [hs]; decide), if_neg (c := (13 : Int) = 1) (by decide), if_pos (c := (13 : Int) = 13) rfl]
      rw [ev_tell0 F.bare hc]

/-- The document's answer to an input is the program's: of a state that is reached, or none. -/
theorem does_same (S : Sound ns) (F : r.st.status = 1 → Fine ns r.st) (hB : Bare r.st) (q : Inp) (hw : r.now = q.now) : doesR nm ns r q = doP nm ns r q := by
  unfold doesR doP
  by_cases k1 : q.kind = 1
  · rw [if_pos k1, if_pos k1]
    unfold startP
    by_cases h0 : r.st.status ≠ 0
    · rw [if_pos h0, if_pos h0]
    · rw [if_neg h0, if_neg h0]
      have h0' : r.st.status = 0 := Classical.not_not.1 h0
      have hc : changeP nm ns { r.st with id := q.name } ⟨1, q.pnode, q.par, 0⟩ = some { r.st with id := q.name, status := 1, dfn := nm, par := q.par, pnode := q.pnode, nodes := List.replicate ns.length ⟨0, 0, ⟨#[]⟩⟩, events := r.st.events + 1 } := by
        unfold changeP
        dsimp only
        rw [if_neg (c := r.st.status ≠ (if (1 : Int) = 1 then 0 else 1)) (by rw [h0']; decide), if_pos (c := (1 : Int) = 1) rfl]
      rw [ev_tell0 (r := { r with st := { r.st with id := q.name } }) hB hc]
  rw [if_neg k1, if_neg k1]
  by_cases h0 : r.st.status = 0
  · rw [if_pos h0, if_pos h0]
  rw [if_neg h0, if_neg h0]
  by_cases h1 : r.st.status ≠ 1
  · rw [if_pos h1, if_pos h1]
  rw [if_neg h1, if_neg h1]
  have hs : r.st.status = 1 := Classical.not_not.1 h1
  have F1 := F hs
  by_cases k2 : q.kind = 2
  · rw [if_pos k2, if_pos k2]; exact signal_same S F1 hs q
  rw [if_neg k2, if_neg k2]
  obtain ⟨a3, a4, a5⟩ := activity_same (nm := nm) F1 hs q hw
  by_cases k3 : q.kind = 3
  · rw [if_pos (.inl k3), if_pos k3]; exact a3 k3
  by_cases k4 : q.kind = 4
  · rw [if_pos (.inr (.inl k4)), if_neg k3, if_pos k4]; exact a4 k4
  by_cases k5 : q.kind = 5
  · rw [if_pos (.inr (.inr k5)), if_neg k3, if_neg k4, if_pos k5]; exact a5 k5
  rw [if_neg (by omega), if_neg k3, if_neg k4, if_neg k5]
  by_cases k6 : q.kind = 6
  · rw [if_pos k6, if_pos k6]; exact fire_same F1 hs q
  rw [if_neg k6, if_neg k6]
  by_cases k7 : q.kind = 7
  · rw [if_pos k7, if_pos k7]; exact child_same F1 hs q
  rw [if_neg k7, if_neg k7]
  by_cases k8 : q.kind = 8
  · rw [if_pos k8, if_pos k8]
    unfold cancelP
    by_cases hl : 256 < q.text.size
    · rw [if_pos hl, if_pos hl]
    · rw [if_neg hl, if_neg hl, closed_same F1.bare hs (.inr (.inr rfl))]
  · rw [if_neg k8, if_neg k8]

end

end Go.Proofs.YtfjekjbkifmpfaaDoor
