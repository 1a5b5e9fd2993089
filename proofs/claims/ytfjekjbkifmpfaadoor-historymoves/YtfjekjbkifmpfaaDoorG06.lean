/-
  The document's run: the regions of event and task that draw their order.
-/
import Derived.Test.YtfjekjbkifmpfaaDoorG04
import Derived.Test.YtfjekjbkifmpfaaDoorG02
import Derived.Test.YtfjekjbkifmpfaaDoorG05
import Derived.Deep.Cut
namespace Go.Proofs.YtfjekjbkifmpfaaDoor.Rf
open Go.RowKit

set_option maxRecDepth 100000 in
set_option maxHeartbeats 8000000 in
theorem ev1 {W : World} {sb eb : Nat} {d0 d1 q0 q1 q2 q3 q4 q5 q6 q7 q8 e0 e1 e2 e3 : Value} {Q : Nat → World → St → Value → Value → Int → Prop} {ds : List Deferred} {u1 u2 u3 u4 u5 u6 u7 u8 u9 u11 u12 u13 u14 u15 u16 u17 u18 u19 u20 u21 u22 u23 u24 u25 u26 u27 u28 u29 u30 u31 u32 u33 u34 u35 u36 u37 u38 u39 u40 u41 u42 u43 u44 u45 u46 : Value} (K : Act → World → Prop)
    (x0 : W.cell? ⟨sb, 0, none⟩ = some (d0)) (x1 : W.cell? ⟨sb, 1, none⟩ = some (d1)) (x2 : W.cell? ⟨sb, 2, none⟩ = some (q0)) (x3 : W.cell? ⟨sb, 3, none⟩ = some (q1)) (x4 : W.cell? ⟨sb, 4, none⟩ = some (q2)) (x5 : W.cell? ⟨sb, 5, none⟩ = some (q3)) (x6 : W.cell? ⟨sb, 6, none⟩ = some (q4)) (x7 : W.cell? ⟨sb, 7, none⟩ = some (q5)) (x8 : W.cell? ⟨sb, 8, none⟩ = some (q6)) (x9 : W.cell? ⟨sb, 9, none⟩ = some (q7)) (x10 : W.cell? ⟨sb, 10, none⟩ = some (q8)) (x11 : W.cell? ⟨eb, 0, none⟩ = some (e0)) (x12 : W.cell? ⟨eb, 1, none⟩ = some (e1)) (x13 : W.cell? ⟨eb, 2, none⟩ = some (e2)) (x14 : W.cell? ⟨eb, 3, none⟩ = some (e3))
    (hC : ∀ V, Kept (fun _ => False) W.drew V → Calls Tryd.prog 19 #[.agg #[d0, d1], .agg #[q0, q1, q2, q3, q4, q5, q6, q7, q8], .agg #[e0, e1, e2, e3]] V fun e w' => ∃ (t : St) (a6 : Option Addr) (c6 : Nat) (a7 : Option Addr) (c7 : Nat) (z : Int), e = .returned (.tuple #[.agg #[.string t.dfn, .string t.id, .string t.par, .string t.pnode, .int .i64 t.status, .string t.text, .slice a6 t.nodes.length c6, .slice a7 t.sigs.length c7, .int .i64 t.events], .int .i64 z]) ∧ Q V.heap.size w' t (.slice a6 t.nodes.length c6) (.slice a7 t.sigs.length c7) z ∧ Kept (fun _ => False) V w')
    (hQ : ∀ B w1 w2 t p6 p7 z mb, Q B w1 t p6 p7 z → mb < B ∨ w1.heap.size ≤ mb → Kept (fun j => j = mb) w1 w2 → Q B w2 t p6 p7 z)
    (h : ∀ (v18 v19 v20 v21 v22 v23 v24 v25 v26 v27 v28 v29 v30 : Value) (mb B : Nat) (t : St) (a6 : Option Addr) (c6 : Nat) (a7 : Option Addr) (c7 : Nat) (z : Int) (W' : World), W.heap.size ≤ mb → W.heap.size ≤ B → W'.heap[mb]? = some (.cells #[.string t.dfn, .string t.id, .string t.par, .string t.pnode, .int .i64 t.status, .string t.text, .slice a6 t.nodes.length c6, .slice a7 t.sigs.length c7, .int .i64 t.events] 33 (0, 0)) → Q B W' t (.slice a6 t.nodes.length c6) (.slice a7 t.sigs.length c7) z → Kept (fun _ => False) W W' → K { tmps := #[.pointer (some ⟨sb, 0, none⟩), u1, u2, u3, u4, u5, u6, u7, u8, u9, .pointer (some ⟨eb, 0, none⟩), .pointer (some ⟨mb, 0, none⟩), .int .i64 z, u13, u14, u15, u16, u17, v18, v19, v20, v21, v22, v23, v24, v25, v26, v27, v28, v29, v30, u31, u32, u33, u34, u35, u36, u37, u38, u39, u40, u41, u42, u43, u44, u45, u46], defers := ds } W') :
    (Code.region 1 #[{ dst := some 19, op := Op.move (Operand.tmp 0), type := 104, pos := "ref.go:125", after := #[], guard := none }, { dst := some 20, op := Op.nilCheck (Operand.tmp 19), type := 0, pos := "ref.go:125", after := #[{ on := 0, ground := Ground.data }], guard := none }, { dst := some 21, op := Op.fieldAddr 106 (Operand.tmp 20) 0, type := 0, pos := "ref.go:125", after := #[{ on := 1, ground := Ground.data }], guard := none }, { dst := some 22, op := Op.load 24 (Operand.tmp 21), type := 24, pos := "ref.go:125", after := #[{ on := 2, ground := Ground.data }], guard := none }, { dst := some 23, op := Op.move (Operand.tmp 0), type := 104, pos := "ref.go:125", after := #[], guard := none }, { dst := some 24, op := Op.nilCheck (Operand.tmp 23), type := 0, pos := "ref.go:125", after := #[{ on := 4, ground := Ground.data }], guard := none }, { dst := some 25, op := Op.fieldAddr 106 (Operand.tmp 24) 1, type := 0, pos := "ref.go:125", after := #[{ on := 5, ground := Ground.data }], guard := none }, { dst := some 26, op := Op.load 33 (Operand.tmp 25), type := 33, pos := "ref.go:125", after := #[{ on := 6, ground := Ground.data }], guard := none }, { dst := some 27, op := Op.load 51 (Operand.tmp 10), type := 51, pos := "ref.go:125", after := #[], guard := none }, { dst := some 28, op := Op.call { callee := Callee.value (Operand.func 19), args := #[Operand.tmp 22, Operand.tmp 26, Operand.tmp 27], argTypes := #[24, 33, 51] }, type := 43, pos := "ref.go:125", after := #[{ on := 3, ground := Ground.data }, { on := 7, ground := Ground.data }, { on := 8, ground := Ground.data }], guard := none }, { dst := some 18, op := Op.move (Operand.tmp 28), type := 43, pos := "ref.go:125", after := #[{ on := 9, ground := Ground.data }], guard := none }, { dst := some 29, op := Op.extract (Operand.tmp 18) 0, type := 33, pos := "ref.go:125", after := #[{ on := 10, ground := Ground.data }], guard := none }, { dst := some 30, op := Op.extract (Operand.tmp 18) 1, type := 42, pos := "ref.go:125", after := #[{ on := 10, ground := Ground.data }, { on := 14, ground := Ground.gcOnly Departure.lateStores }], guard := none }, { dst := some 11, op := Op.alloc 33, type := 0, pos := "ref.go:125", after := #[], guard := none }, { dst := none, op := Op.store 33 (Operand.tmp 11) (Operand.tmp 29), type := 0, pos := "ref.go:125", after := #[{ on := 13, ground := Ground.data }, { on := 11, ground := Ground.data }, { on := 9, ground := Ground.chain }, { on := 0, ground := Ground.phase }, { on := 1, ground := Ground.phase }, { on := 2, ground := Ground.phase }, { on := 3, ground := Ground.phase }, { on := 4, ground := Ground.phase }, { on := 5, ground := Ground.phase }, { on := 6, ground := Ground.phase }, { on := 7, ground := Ground.phase }, { on := 8, ground := Ground.phase }, { on := 9, ground := Ground.phase }, { on := 10, ground := Ground.phase }, { on := 11, ground := Ground.phase }, { on := 12, ground := Ground.textOnly Departure.lateStores }, { on := 13, ground := Ground.phase }], guard := none }, { dst := some 12, op := Op.assign (Operand.tmp 30), type := 42, pos := "ref.go:125", after := #[{ on := 12, ground := Ground.data }, { on := 14, ground := Ground.chain }, { on := 0, ground := Ground.phase }, { on := 1, ground := Ground.phase }, { on := 2, ground := Ground.phase }, { on := 3, ground := Ground.phase }, { on := 4, ground := Ground.phase }, { on := 5, ground := Ground.phase }, { on := 6, ground := Ground.phase }, { on := 7, ground := Ground.phase }, { on := 8, ground := Ground.phase }, { on := 9, ground := Ground.phase }, { on := 10, ground := Ground.phase }, { on := 11, ground := Ground.phase }, { on := 12, ground := Ground.phase }, { on := 13, ground := Ground.phase }, { on := 14, ground := Ground.phase }], guard := none }] true).wp Tryd.prog (onlyN K) { tmps := #[.pointer (some ⟨sb, 0, none⟩), u1, u2, u3, u4, u5, u6, u7, u8, u9, .pointer (some ⟨eb, 0, none⟩), u11, u12, u13, u14, u15, u16, u17, u18, u19, u20, u21, u22, u23, u24, u25, u26, u27, u28, u29, u30, u31, u32, u33, u34, u35, u36, u37, u38, u39, u40, u41, u42, u43, u44, u45, u46], defers := ds } W := by
  have HH : Hid _ := h
  have KD := Kept.drew (fun _ => False) W
  have HS : Hid (∀ V, Kept (fun _ => False) W.drew V → V.cell? ⟨sb, 0, none⟩ = some (d0) ∧ V.cell? ⟨sb, 1, none⟩ = some (d1) ∧ V.cell? ⟨sb, 2, none⟩ = some (q0) ∧ V.cell? ⟨sb, 3, none⟩ = some (q1) ∧ V.cell? ⟨sb, 4, none⟩ = some (q2) ∧ V.cell? ⟨sb, 5, none⟩ = some (q3) ∧ V.cell? ⟨sb, 6, none⟩ = some (q4) ∧ V.cell? ⟨sb, 7, none⟩ = some (q5) ∧ V.cell? ⟨sb, 8, none⟩ = some (q6) ∧ V.cell? ⟨sb, 9, none⟩ = some (q7) ∧ V.cell? ⟨sb, 10, none⟩ = some (q8) ∧ V.cell? ⟨eb, 0, none⟩ = some (e0) ∧ V.cell? ⟨eb, 1, none⟩ = some (e1) ∧ V.cell? ⟨eb, 2, none⟩ = some (e2) ∧ V.cell? ⟨eb, 3, none⟩ = some (e3)) := fun V KV => ⟨keepC (KD.and KV) x0 (fun _ _ h => h), keepC (KD.and KV) x1 (fun _ _ h => h), keepC (KD.and KV) x2 (fun _ _ h => h), keepC (KD.and KV) x3 (fun _ _ h => h), keepC (KD.and KV) x4 (fun _ _ h => h), keepC (KD.and KV) x5 (fun _ _ h => h), keepC (KD.and KV) x6 (fun _ _ h => h), keepC (KD.and KV) x7 (fun _ _ h => h), keepC (KD.and KV) x8 (fun _ _ h => h), keepC (KD.and KV) x9 (fun _ _ h => h), keepC (KD.and KV) x10 (fun _ _ h => h), keepC (KD.and KV) x11 (fun _ _ h => h), keepC (KD.and KV) x12 (fun _ _ h => h), keepC (KD.and KV) x13 (fun _ _ h => h), keepC (KD.and KV) x14 (fun _ _ h => h)⟩
  have HKD : Hid (Kept (fun _ => False) W W.drew) := KD
  have hS0 := HS.out W.drew (Kept.refl _ _)
  clear h KD x0 x1 x2 x3 x4 x5 x6 x7 x8 x9 x10 x11 x12 x13 x14
  refine wp_region_held_drew (S := fun V => V.cell? ⟨sb, 0, none⟩ = some (d0) ∧ V.cell? ⟨sb, 1, none⟩ = some (d1) ∧ V.cell? ⟨sb, 2, none⟩ = some (q0) ∧ V.cell? ⟨sb, 3, none⟩ = some (q1) ∧ V.cell? ⟨sb, 4, none⟩ = some (q2) ∧ V.cell? ⟨sb, 5, none⟩ = some (q3) ∧ V.cell? ⟨sb, 6, none⟩ = some (q4) ∧ V.cell? ⟨sb, 7, none⟩ = some (q5) ∧ V.cell? ⟨sb, 8, none⟩ = some (q6) ∧ V.cell? ⟨sb, 9, none⟩ = some (q7) ∧ V.cell? ⟨sb, 10, none⟩ = some (q8) ∧ V.cell? ⟨eb, 0, none⟩ = some (e0) ∧ V.cell? ⟨eb, 1, none⟩ = some (e1) ∧ V.cell? ⟨eb, 2, none⟩ = some (e2) ∧ V.cell? ⟨eb, 3, none⟩ = some (e3)) (by kernel_rfl) hS0 (fun _ => ?_)
  generalize W.drew = V0 at *
  refine wpAnyH_take (i := 0) (oi := { dst := some 19, op := Op.move (Operand.tmp 0), type := 104, pos := "ref.go:125", after := #[], guard := none }) (v := ?vv1) rfl (by kernel_rfl) (by kernel_rfl) (by kernel_rfl) (fun _ _ _ h => h) (Or.inl ⟨by rfl, ?hy1⟩) hS0 ?rest1
  case hy1 =>
    intro V hV
    obtain ⟨y0, y1, y2, y3, y4, y5, y6, y7, y8, y9, y10, y11, y12, y13, y14⟩ := hV
    go_simp
    all_goals rfl
  simp only [Act.put, List.setIfInBounds_toArray, List.set_cons_zero, List.set_cons_succ]
  refine wpAnyH_take (i := 1) (oi := { dst := some 20, op := Op.nilCheck (Operand.tmp 19), type := 0, pos := "ref.go:125", after := #[{ on := 0, ground := Ground.data }], guard := none }) (v := ?vv2) rfl (by kernel_rfl) (by kernel_rfl) (by kernel_rfl) (fun _ _ _ h => h) (Or.inl ⟨by rfl, ?hy2⟩) hS0 ?rest2
  case hy2 =>
    intro V hV
    obtain ⟨y0, y1, y2, y3, y4, y5, y6, y7, y8, y9, y10, y11, y12, y13, y14⟩ := hV
    go_simp
    all_goals rfl
  simp only [Act.put, List.setIfInBounds_toArray, List.set_cons_zero, List.set_cons_succ]
  refine wpAnyH_take (i := 2) (oi := { dst := some 21, op := Op.fieldAddr 106 (Operand.tmp 20) 0, type := 0, pos := "ref.go:125", after := #[{ on := 1, ground := Ground.data }], guard := none }) (v := ?vv3) rfl (by kernel_rfl) (by kernel_rfl) (by kernel_rfl) (fun _ _ _ h => h) (Or.inl ⟨by rfl, ?hy3⟩) hS0 ?rest3
  case hy3 =>
    intro V hV
    obtain ⟨y0, y1, y2, y3, y4, y5, y6, y7, y8, y9, y10, y11, y12, y13, y14⟩ := hV
    go_simp
    all_goals rfl
  simp only [Act.put, List.setIfInBounds_toArray, List.set_cons_zero, List.set_cons_succ]
  refine wpAnyH_take (i := 3) (oi := { dst := some 22, op := Op.load 24 (Operand.tmp 21), type := 24, pos := "ref.go:125", after := #[{ on := 2, ground := Ground.data }], guard := none }) (v := ?vv4) rfl (by kernel_rfl) (by kernel_rfl) (by kernel_rfl) (fun _ _ _ h => h) (Or.inl ⟨by rfl, ?hy4⟩) hS0 ?rest4
  case hy4 =>
    intro V hV
    obtain ⟨y0, y1, y2, y3, y4, y5, y6, y7, y8, y9, y10, y11, y12, y13, y14⟩ := hV
    go_simp
    all_goals rfl
  simp only [Act.put, List.setIfInBounds_toArray, List.set_cons_zero, List.set_cons_succ]
  refine wpAnyH_take (i := 4) (oi := { dst := some 23, op := Op.move (Operand.tmp 0), type := 104, pos := "ref.go:125", after := #[], guard := none }) (v := ?vv5) rfl (by kernel_rfl) (by kernel_rfl) (by kernel_rfl) (fun _ _ _ h => h) (Or.inl ⟨by rfl, ?hy5⟩) hS0 ?rest5
  case hy5 =>
    intro V hV
    obtain ⟨y0, y1, y2, y3, y4, y5, y6, y7, y8, y9, y10, y11, y12, y13, y14⟩ := hV
    go_simp
    all_goals rfl
  simp only [Act.put, List.setIfInBounds_toArray, List.set_cons_zero, List.set_cons_succ]
  refine wpAnyH_take (i := 5) (oi := { dst := some 24, op := Op.nilCheck (Operand.tmp 23), type := 0, pos := "ref.go:125", after := #[{ on := 4, ground := Ground.data }], guard := none }) (v := ?vv6) rfl (by kernel_rfl) (by kernel_rfl) (by kernel_rfl) (fun _ _ _ h => h) (Or.inl ⟨by rfl, ?hy6⟩) hS0 ?rest6
  case hy6 =>
    intro V hV
    obtain ⟨y0, y1, y2, y3, y4, y5, y6, y7, y8, y9, y10, y11, y12, y13, y14⟩ := hV
    go_simp
    all_goals rfl
  simp only [Act.put, List.setIfInBounds_toArray, List.set_cons_zero, List.set_cons_succ]
  refine wpAnyH_take (i := 6) (oi := { dst := some 25, op := Op.fieldAddr 106 (Operand.tmp 24) 1, type := 0, pos := "ref.go:125", after := #[{ on := 5, ground := Ground.data }], guard := none }) (v := ?vv7) rfl (by kernel_rfl) (by kernel_rfl) (by kernel_rfl) (fun _ _ _ h => h) (Or.inl ⟨by rfl, ?hy7⟩) hS0 ?rest7
  case hy7 =>
    intro V hV
    obtain ⟨y0, y1, y2, y3, y4, y5, y6, y7, y8, y9, y10, y11, y12, y13, y14⟩ := hV
    go_simp
    all_goals rfl
  simp only [Act.put, List.setIfInBounds_toArray, List.set_cons_zero, List.set_cons_succ]
  refine wpAnyH_take (i := 7) (oi := { dst := some 26, op := Op.load 33 (Operand.tmp 25), type := 33, pos := "ref.go:125", after := #[{ on := 6, ground := Ground.data }], guard := none }) (v := ?vv8) rfl (by kernel_rfl) (by kernel_rfl) (by kernel_rfl) (fun _ _ _ h => h) (Or.inl ⟨by rfl, ?hy8⟩) hS0 ?rest8
  case hy8 =>
    intro V hV
    obtain ⟨y0, y1, y2, y3, y4, y5, y6, y7, y8, y9, y10, y11, y12, y13, y14⟩ := hV
    go_simp
    all_goals rfl
  simp only [Act.put, List.setIfInBounds_toArray, List.set_cons_zero, List.set_cons_succ]
  refine wpAnyH_take (i := 8) (oi := { dst := some 27, op := Op.load 51 (Operand.tmp 10), type := 51, pos := "ref.go:125", after := #[], guard := none }) (v := ?vv9) rfl (by kernel_rfl) (by kernel_rfl) (by kernel_rfl) (fun _ _ _ h => h) (Or.inl ⟨by rfl, ?hy9⟩) hS0 ?rest9
  case hy9 =>
    intro V hV
    obtain ⟨y0, y1, y2, y3, y4, y5, y6, y7, y8, y9, y10, y11, y12, y13, y14⟩ := hV
    go_simp
    all_goals rfl
  simp only [Act.put, List.setIfInBounds_toArray, List.set_cons_zero, List.set_cons_succ]
  refine wpAnyH_ready (rs := [9, 13]) (by kernel_rfl) (by simp) (AllReadyH.cons (o := { dst := some 28, op := Op.call { callee := Callee.value (Operand.func 19), args := #[Operand.tmp 22, Operand.tmp 26, Operand.tmp 27], argTypes := #[24, 33, 51] }, type := 43, pos := "ref.go:125", after := #[{ on := 3, ground := Ground.data }, { on := 7, ground := Ground.data }, { on := 8, ground := Ground.data }], guard := none }) rfl (fun K' hK => ?_) (AllReadyH.cons (o := { dst := some 11, op := Op.alloc 33, type := 0, pos := "ref.go:125", after := #[], guard := none }) rfl (fun K' hK => ?_) AllReadyH.nil))
  · refine step_call3 _ (by rfl) 19 _ _ _ _ _ _ (by rfl) (enters_of Tryd.func19 (by kernel_rfl) rfl) _ _ _ (by rfl) (by rfl) (by rfl) (hC _ (Kept.refl (fun _ => False) V0)) ?_
    rintro e w9 ⟨t, a6, c6, a7, c7, z, rfl, Q9, K9⟩
    have L9 := ((Kept.refl (fun _ => False) V0)).and K9
    have hB9 : V0.heap.size ≤ V0.heap.size := ((Kept.refl (fun _ => False) V0)).size
    refine ⟨_, rfl, ?_⟩
    refine hK.out _ _ (HS.out _ L9) (fun _ => ?_)
    clear hK K'
    try (simp only [Act.put, List.setIfInBounds_toArray, List.set_cons_zero, List.set_cons_succ])
    refine wpAnyH_take (i := 10) (oi := { dst := some 18, op := Op.move (Operand.tmp 28), type := 43, pos := "ref.go:125", after := #[{ on := 9, ground := Ground.data }], guard := none }) (v := ?vv10) rfl (by kernel_rfl) (by kernel_rfl) (by kernel_rfl) (fun _ _ _ h => h) (Or.inl ⟨by rfl, ?hy10⟩) (HS.out _ L9) ?rest10
    case hy10 =>
      intro V hV
      obtain ⟨y0, y1, y2, y3, y4, y5, y6, y7, y8, y9, y10, y11, y12, y13, y14⟩ := hV
      go_simp
      all_goals rfl
    simp only [Act.put, List.setIfInBounds_toArray, List.set_cons_zero, List.set_cons_succ]
    refine wpAnyH_take (i := 11) (oi := { dst := some 29, op := Op.extract (Operand.tmp 18) 0, type := 33, pos := "ref.go:125", after := #[{ on := 10, ground := Ground.data }], guard := none }) (v := ?vv11) rfl (by kernel_rfl) (by kernel_rfl) (by kernel_rfl) (fun _ _ _ h => h) (Or.inl ⟨by rfl, ?hy11⟩) (HS.out _ L9) ?rest11
    case hy11 =>
      intro V hV
      obtain ⟨y0, y1, y2, y3, y4, y5, y6, y7, y8, y9, y10, y11, y12, y13, y14⟩ := hV
      go_simp
      all_goals rfl
    simp only [Act.put, List.setIfInBounds_toArray, List.set_cons_zero, List.set_cons_succ]
    refine wpAnyH_take (i := 12) (oi := { dst := some 30, op := Op.extract (Operand.tmp 18) 1, type := 42, pos := "ref.go:125", after := #[{ on := 10, ground := Ground.data }, { on := 14, ground := Ground.gcOnly Departure.lateStores }], guard := none }) (v := ?vv12) rfl (by kernel_rfl) (by kernel_rfl) (by kernel_rfl) (fun _ _ _ h => h) (Or.inl ⟨by rfl, ?hy12⟩) (HS.out _ L9) ?rest12
    case hy12 =>
      intro V hV
      obtain ⟨y0, y1, y2, y3, y4, y5, y6, y7, y8, y9, y10, y11, y12, y13, y14⟩ := hV
      go_simp
      all_goals rfl
    simp only [Act.put, List.setIfInBounds_toArray, List.set_cons_zero, List.set_cons_succ]
    refine wpAnyH_ready (rs := [13]) (by kernel_rfl) (by simp) (AllReadyH.cons (o := { dst := some 11, op := Op.alloc 33, type := 0, pos := "ref.go:125", after := #[], guard := none }) rfl (fun K' hK => ?_) AllReadyH.nil)
    have hmb : (w9.alloc (.cells #[.string ⟨#[]⟩, .string ⟨#[]⟩, .string ⟨#[]⟩, .string ⟨#[]⟩, .int .i64 0, .string ⟨#[]⟩, .slice none 0 0, .slice none 0 0, .int .i64 0] 33)).heap[w9.heap.size]? = some (.cells #[.string ⟨#[]⟩, .string ⟨#[]⟩, .string ⟨#[]⟩, .string ⟨#[]⟩, .int .i64 0, .string ⟨#[]⟩, .slice none 0 0, .slice none 0 0, .int .i64 0] 33 (0, 0)) := heap_alloc_new _ _
    have KA0 : Kept (fun _ => False) w9 (w9.alloc (.cells #[.string ⟨#[]⟩, .string ⟨#[]⟩, .string ⟨#[]⟩, .string ⟨#[]⟩, .int .i64 0, .string ⟨#[]⟩, .slice none 0 0, .slice none 0 0, .int .i64 0] 33)) := Kept.alloc _ _ _
    have KA := (L9).and KA0
    go_simp
    refine hK.out _ _ (HS.out _ KA) (fun _ => ?_)
    generalize w9.alloc (.cells #[.string ⟨#[]⟩, .string ⟨#[]⟩, .string ⟨#[]⟩, .string ⟨#[]⟩, .int .i64 0, .string ⟨#[]⟩, .slice none 0 0, .slice none 0 0, .int .i64 0] 33) = V6 at *
    obtain ⟨mb, hmbe⟩ : ∃ mb, mb = w9.heap.size := ⟨_, rfl⟩
    rw [← hmbe] at hmb ⊢
    have hz : V0.heap.size ≤ mb := by rw [hmbe]; exact (L9).size
    have hmC : mb < V0.heap.size ∨ w9.heap.size ≤ mb := .inr (Nat.le_of_eq hmbe.symm)
    have K90 : Kept (fun j => j = mb) w9 V6 := KA0.mono (fun _ h => h.elim)
    clear hmbe KA0
    clear hK K'
    try (simp only [Act.put, List.setIfInBounds_toArray, List.set_cons_zero, List.set_cons_succ])
    refine wpAnyH_ready (rs := [14]) (by kernel_rfl) (by simp) (AllReadyH.cons (o := { dst := none, op := Op.store 33 (Operand.tmp 11) (Operand.tmp 29), type := 0, pos := "ref.go:125", after := #[{ on := 13, ground := Ground.data }, { on := 11, ground := Ground.data }, { on := 9, ground := Ground.chain }, { on := 0, ground := Ground.phase }, { on := 1, ground := Ground.phase }, { on := 2, ground := Ground.phase }, { on := 3, ground := Ground.phase }, { on := 4, ground := Ground.phase }, { on := 5, ground := Ground.phase }, { on := 6, ground := Ground.phase }, { on := 7, ground := Ground.phase }, { on := 8, ground := Ground.phase }, { on := 9, ground := Ground.phase }, { on := 10, ground := Ground.phase }, { on := 11, ground := Ground.phase }, { on := 12, ground := Ground.textOnly Departure.lateStores }, { on := 13, ground := Ground.phase }], guard := none }) rfl (fun K' hK => ?_) AllReadyH.nil)
    obtain ⟨⟨p0, p1, p2, p3, p4, p5, p6, p7, p8⟩, f0, f1, f2, f3, f4, f5, f6, f7, f8⟩ := nine hmb
    have HM := hid (put9 hmb (.string t.dfn) (.string t.id) (.string t.par) (.string t.pnode) (.int .i64 t.status) (.string t.text) (.slice a6 t.nodes.length c6) (.slice a7 t.sigs.length c7) (.int .i64 t.events))
    have KS := kept9 (S := fun j => j = mb) V6 rfl (.string t.dfn) (.string t.id) (.string t.par) (.string t.pnode) (.int .i64 t.status) (.string t.text) (.slice a6 t.nodes.length c6) (.slice a7 t.sigs.length c7) (.int .i64 t.events)
    have QS := hid (hQ _ _ _ _ _ _ _ _ Q9 hmC (K90.and KS))
    have KF := (KA).trans KS (fun j h => .inr (by subst h; exact hz))
    go_simp
    refine hK.out _ _ (HS.out _ KF) (fun _ => ?_)
    have HKF := hid (HKD.out.and KF)
    clear p0 p1 p2 p3 p4 p5 p6 p7 p8 f0 f1 f2 f3 f4 f5 f6 f7 f8 KS
    clear hK K'
    try (simp only [Act.put, List.setIfInBounds_toArray, List.set_cons_zero, List.set_cons_succ])
    refine wpAnyH_take (i := 15) (oi := { dst := some 12, op := Op.assign (Operand.tmp 30), type := 42, pos := "ref.go:125", after := #[{ on := 12, ground := Ground.data }, { on := 14, ground := Ground.chain }, { on := 0, ground := Ground.phase }, { on := 1, ground := Ground.phase }, { on := 2, ground := Ground.phase }, { on := 3, ground := Ground.phase }, { on := 4, ground := Ground.phase }, { on := 5, ground := Ground.phase }, { on := 6, ground := Ground.phase }, { on := 7, ground := Ground.phase }, { on := 8, ground := Ground.phase }, { on := 9, ground := Ground.phase }, { on := 10, ground := Ground.phase }, { on := 11, ground := Ground.phase }, { on := 12, ground := Ground.phase }, { on := 13, ground := Ground.phase }, { on := 14, ground := Ground.phase }], guard := none }) (v := ?vv13) rfl (by kernel_rfl) (by kernel_rfl) (by kernel_rfl) (fun _ _ _ h => h) (Or.inl ⟨by rfl, ?hy13⟩) (HS.out _ KF) ?rest13
    case hy13 =>
      intro V hV
      obtain ⟨y0, y1, y2, y3, y4, y5, y6, y7, y8, y9, y10, y11, y12, y13, y14⟩ := hV
      go_simp
      all_goals rfl
    simp only [Act.put, List.setIfInBounds_toArray, List.set_cons_zero, List.set_cons_succ]
    refine wpAnyH_done (by kernel_rfl) ?_ _
    exact HH.out _ _ _ _ _ _ _ _ _ _ _ _ _ mb _ t a6 c6 a7 c7 z _ (Nat.le_trans HKD.out.size hz) (Nat.le_trans HKD.out.size hB9) HM.out QS.out HKF.out
  · have hmb : (V0.alloc (.cells #[.string ⟨#[]⟩, .string ⟨#[]⟩, .string ⟨#[]⟩, .string ⟨#[]⟩, .int .i64 0, .string ⟨#[]⟩, .slice none 0 0, .slice none 0 0, .int .i64 0] 33)).heap[V0.heap.size]? = some (.cells #[.string ⟨#[]⟩, .string ⟨#[]⟩, .string ⟨#[]⟩, .string ⟨#[]⟩, .int .i64 0, .string ⟨#[]⟩, .slice none 0 0, .slice none 0 0, .int .i64 0] 33 (0, 0)) := heap_alloc_new _ _
    have KA0 : Kept (fun _ => False) V0 (V0.alloc (.cells #[.string ⟨#[]⟩, .string ⟨#[]⟩, .string ⟨#[]⟩, .string ⟨#[]⟩, .int .i64 0, .string ⟨#[]⟩, .slice none 0 0, .slice none 0 0, .int .i64 0] 33)) := Kept.alloc _ _ _
    have KA := ((Kept.refl (fun _ => False) V0)).and KA0
    go_simp
    refine hK.out _ _ (HS.out _ KA) (fun _ => ?_)
    generalize V0.alloc (.cells #[.string ⟨#[]⟩, .string ⟨#[]⟩, .string ⟨#[]⟩, .string ⟨#[]⟩, .int .i64 0, .string ⟨#[]⟩, .slice none 0 0, .slice none 0 0, .int .i64 0] 33) = V6 at *
    obtain ⟨mb, hmbe⟩ : ∃ mb, mb = V0.heap.size := ⟨_, rfl⟩
    rw [← hmbe] at hmb ⊢
    have hz : V0.heap.size ≤ mb := by rw [hmbe]; exact ((Kept.refl (fun _ => False) V0)).size
    clear hmbe KA0
    clear hK K'
    try (simp only [Act.put, List.setIfInBounds_toArray, List.set_cons_zero, List.set_cons_succ])
    refine wpAnyH_ready (rs := [9]) (by kernel_rfl) (by simp) (AllReadyH.cons (o := { dst := some 28, op := Op.call { callee := Callee.value (Operand.func 19), args := #[Operand.tmp 22, Operand.tmp 26, Operand.tmp 27], argTypes := #[24, 33, 51] }, type := 43, pos := "ref.go:125", after := #[{ on := 3, ground := Ground.data }, { on := 7, ground := Ground.data }, { on := 8, ground := Ground.data }], guard := none }) rfl (fun K' hK => ?_) AllReadyH.nil)
    refine step_call3 _ (by rfl) 19 _ _ _ _ _ _ (by rfl) (enters_of Tryd.func19 (by kernel_rfl) rfl) _ _ _ (by rfl) (by rfl) (by rfl) (hC _ KA) ?_
    rintro e w9 ⟨t, a6, c6, a7, c7, z, rfl, Q9, K9⟩
    have L9 := (KA).and K9
    have hB9 : V0.heap.size ≤ V6.heap.size := (KA).size
    have hmC : mb < V6.heap.size ∨ w9.heap.size ≤ mb := .inl (Array.getElem?_eq_some_iff.1 hmb).1
    replace hmb := (K9.block _ (Array.getElem?_eq_some_iff.1 hmb).1 (fun h => h)).trans hmb
    have K90 : Kept (fun j => j = mb) w9 w9 := Kept.refl _ _
    refine ⟨_, rfl, ?_⟩
    refine hK.out _ _ (HS.out _ L9) (fun _ => ?_)
    clear hK K'
    try (simp only [Act.put, List.setIfInBounds_toArray, List.set_cons_zero, List.set_cons_succ])
    refine wpAnyH_take (i := 10) (oi := { dst := some 18, op := Op.move (Operand.tmp 28), type := 43, pos := "ref.go:125", after := #[{ on := 9, ground := Ground.data }], guard := none }) (v := ?vv14) rfl (by kernel_rfl) (by kernel_rfl) (by kernel_rfl) (fun _ _ _ h => h) (Or.inl ⟨by rfl, ?hy14⟩) (HS.out _ L9) ?rest14
    case hy14 =>
      intro V hV
      obtain ⟨y0, y1, y2, y3, y4, y5, y6, y7, y8, y9, y10, y11, y12, y13, y14⟩ := hV
      go_simp
      all_goals rfl
    simp only [Act.put, List.setIfInBounds_toArray, List.set_cons_zero, List.set_cons_succ]
    refine wpAnyH_take (i := 11) (oi := { dst := some 29, op := Op.extract (Operand.tmp 18) 0, type := 33, pos := "ref.go:125", after := #[{ on := 10, ground := Ground.data }], guard := none }) (v := ?vv15) rfl (by kernel_rfl) (by kernel_rfl) (by kernel_rfl) (fun _ _ _ h => h) (Or.inl ⟨by rfl, ?hy15⟩) (HS.out _ L9) ?rest15
    case hy15 =>
      intro V hV
      obtain ⟨y0, y1, y2, y3, y4, y5, y6, y7, y8, y9, y10, y11, y12, y13, y14⟩ := hV
      go_simp
      all_goals rfl
    simp only [Act.put, List.setIfInBounds_toArray, List.set_cons_zero, List.set_cons_succ]
    refine wpAnyH_take (i := 12) (oi := { dst := some 30, op := Op.extract (Operand.tmp 18) 1, type := 42, pos := "ref.go:125", after := #[{ on := 10, ground := Ground.data }, { on := 14, ground := Ground.gcOnly Departure.lateStores }], guard := none }) (v := ?vv16) rfl (by kernel_rfl) (by kernel_rfl) (by kernel_rfl) (fun _ _ _ h => h) (Or.inl ⟨by rfl, ?hy16⟩) (HS.out _ L9) ?rest16
    case hy16 =>
      intro V hV
      obtain ⟨y0, y1, y2, y3, y4, y5, y6, y7, y8, y9, y10, y11, y12, y13, y14⟩ := hV
      go_simp
      all_goals rfl
    simp only [Act.put, List.setIfInBounds_toArray, List.set_cons_zero, List.set_cons_succ]
    refine wpAnyH_ready (rs := [14]) (by kernel_rfl) (by simp) (AllReadyH.cons (o := { dst := none, op := Op.store 33 (Operand.tmp 11) (Operand.tmp 29), type := 0, pos := "ref.go:125", after := #[{ on := 13, ground := Ground.data }, { on := 11, ground := Ground.data }, { on := 9, ground := Ground.chain }, { on := 0, ground := Ground.phase }, { on := 1, ground := Ground.phase }, { on := 2, ground := Ground.phase }, { on := 3, ground := Ground.phase }, { on := 4, ground := Ground.phase }, { on := 5, ground := Ground.phase }, { on := 6, ground := Ground.phase }, { on := 7, ground := Ground.phase }, { on := 8, ground := Ground.phase }, { on := 9, ground := Ground.phase }, { on := 10, ground := Ground.phase }, { on := 11, ground := Ground.phase }, { on := 12, ground := Ground.textOnly Departure.lateStores }, { on := 13, ground := Ground.phase }], guard := none }) rfl (fun K' hK => ?_) AllReadyH.nil)
    obtain ⟨⟨p0, p1, p2, p3, p4, p5, p6, p7, p8⟩, f0, f1, f2, f3, f4, f5, f6, f7, f8⟩ := nine hmb
    have HM := hid (put9 hmb (.string t.dfn) (.string t.id) (.string t.par) (.string t.pnode) (.int .i64 t.status) (.string t.text) (.slice a6 t.nodes.length c6) (.slice a7 t.sigs.length c7) (.int .i64 t.events))
    have KS := kept9 (S := fun j => j = mb) w9 rfl (.string t.dfn) (.string t.id) (.string t.par) (.string t.pnode) (.int .i64 t.status) (.string t.text) (.slice a6 t.nodes.length c6) (.slice a7 t.sigs.length c7) (.int .i64 t.events)
    have QS := hid (hQ _ _ _ _ _ _ _ _ Q9 hmC (K90.and KS))
    have KF := (L9).trans KS (fun j h => .inr (by subst h; exact hz))
    go_simp
    refine hK.out _ _ (HS.out _ KF) (fun _ => ?_)
    have HKF := hid (HKD.out.and KF)
    clear p0 p1 p2 p3 p4 p5 p6 p7 p8 f0 f1 f2 f3 f4 f5 f6 f7 f8 KS
    clear hK K'
    try (simp only [Act.put, List.setIfInBounds_toArray, List.set_cons_zero, List.set_cons_succ])
    refine wpAnyH_take (i := 15) (oi := { dst := some 12, op := Op.assign (Operand.tmp 30), type := 42, pos := "ref.go:125", after := #[{ on := 12, ground := Ground.data }, { on := 14, ground := Ground.chain }, { on := 0, ground := Ground.phase }, { on := 1, ground := Ground.phase }, { on := 2, ground := Ground.phase }, { on := 3, ground := Ground.phase }, { on := 4, ground := Ground.phase }, { on := 5, ground := Ground.phase }, { on := 6, ground := Ground.phase }, { on := 7, ground := Ground.phase }, { on := 8, ground := Ground.phase }, { on := 9, ground := Ground.phase }, { on := 10, ground := Ground.phase }, { on := 11, ground := Ground.phase }, { on := 12, ground := Ground.phase }, { on := 13, ground := Ground.phase }, { on := 14, ground := Ground.phase }], guard := none }) (v := ?vv17) rfl (by kernel_rfl) (by kernel_rfl) (by kernel_rfl) (fun _ _ _ h => h) (Or.inl ⟨by rfl, ?hy17⟩) (HS.out _ KF) ?rest17
    case hy17 =>
      intro V hV
      obtain ⟨y0, y1, y2, y3, y4, y5, y6, y7, y8, y9, y10, y11, y12, y13, y14⟩ := hV
      go_simp
      all_goals rfl
    simp only [Act.put, List.setIfInBounds_toArray, List.set_cons_zero, List.set_cons_succ]
    refine wpAnyH_done (by kernel_rfl) ?_ _
    exact HH.out _ _ _ _ _ _ _ _ _ _ _ _ _ mb _ t a6 c6 a7 c7 z _ (Nat.le_trans HKD.out.size hz) (Nat.le_trans HKD.out.size hB9) HM.out QS.out HKF.out

set_option maxRecDepth 100000 in
set_option maxHeartbeats 8000000 in
theorem ev4 {W : World} {sb eb k c7 : Nat} {a7 : Option Addr} {ek ez : Int} {en et : ByteArray} {xs : List Value} {ds : List Deferred} {u1 u2 u3 u4 u5 u6 u7 u8 u9 u11 u12 u13 u14 u15 u16 u17 u18 u19 u20 u21 u22 u23 u24 u25 u26 u27 u28 u29 u30 u31 u32 u33 u34 u35 u36 u37 u38 u39 u40 u41 u42 u43 u44 u45 u46 : Value} (K : Act → World → Prop)
    (x0 : W.cell? ⟨sb, 12, none⟩ = some (.slice a7 k c7)) (xz : W.frozen? ⟨sb, 12, none⟩ = false) (x1 : W.cell? ⟨eb, 0, none⟩ = some (.int .i64 ek)) (x2 : W.cell? ⟨eb, 1, none⟩ = some (.string en)) (x3 : W.cell? ⟨eb, 2, none⟩ = some (.string et)) (x4 : W.cell? ⟨eb, 3, none⟩ = some (.int .i64 ez)) (hne : ∀ g, (Value.slice a7 k c7).ownBlock = some g → g ≠ sb) (hk : k ≤ 1000000000) (hR : W.ownsRow 0 51 4 (.slice a7 k c7) k xs)
    (h : ∀ (v37 v38 v39 v40 v41 v42 v43 v44 v45 v46 : Value) (a4 : Option Addr) (c4 : Nat) (w4 : World), w4.ownsRow 0 51 4 (.slice a4 (k + 1) c4) (k + 1) (xs ++ [.int .i64 ek, .string en, .string et, .int .i64 ez]) → ((Value.slice a4 (k + 1) c4).ownBlock = (Value.slice a7 k c7).ownBlock ∨ ∃ g, (Value.slice a4 (k + 1) c4).ownBlock = some g ∧ W.heap.size ≤ g) → Kept (fun j => (Value.slice a7 k c7).ownBlock = some j) W w4 → K { tmps := #[.pointer (some ⟨sb, 0, none⟩), u1, u2, u3, u4, u5, u6, u7, u8, u9, .pointer (some ⟨eb, 0, none⟩), u11, u12, u13, u14, u15, u16, u17, u18, u19, u20, u21, u22, u23, u24, u25, u26, u27, u28, u29, u30, u31, u32, u33, u34, u35, u36, v37, v38, v39, v40, v41, v42, v43, v44, v45, v46], defers := ds } (w4.setCell ⟨sb, 12, none⟩ (.slice a4 (k + 1) c4))) :
    (Code.region 4 #[{ dst := some 37, op := Op.move (Operand.tmp 0), type := 104, pos := "ref.go:129", after := #[], guard := none }, { dst := some 38, op := Op.move (Operand.tmp 0), type := 104, pos := "ref.go:129", after := #[], guard := none }, { dst := some 39, op := Op.nilCheck (Operand.tmp 38), type := 0, pos := "ref.go:129", after := #[{ on := 1, ground := Ground.data }], guard := none }, { dst := some 40, op := Op.fieldAddr 106 (Operand.tmp 39) 3, type := 0, pos := "ref.go:129", after := #[{ on := 2, ground := Ground.data }], guard := none }, { dst := some 41, op := Op.load 34 (Operand.tmp 40), type := 34, pos := "ref.go:129", after := #[{ on := 3, ground := Ground.data }], guard := none }, { dst := some 42, op := Op.load 51 (Operand.tmp 10), type := 51, pos := "ref.go:129", after := #[], guard := none }, { dst := some 43, op := Op.buildSlice 34 1 #[(0, Operand.tmp 42)], type := 34, pos := "ref.go:129", after := #[{ on := 5, ground := Ground.data }], guard := none }, { dst := some 44, op := Op.call { callee := Callee.builtin Builtin.append, args := #[Operand.tmp 41, Operand.tmp 43], argTypes := #[34, 34] }, type := 34, pos := "ref.go:129", after := #[{ on := 4, ground := Ground.data }, { on := 6, ground := Ground.data }], guard := none }, { dst := some 45, op := Op.nilCheck (Operand.tmp 37), type := 0, pos := "ref.go:129", after := #[{ on := 0, ground := Ground.data }, { on := 0, ground := Ground.phase }, { on := 1, ground := Ground.phase }, { on := 2, ground := Ground.phase }, { on := 3, ground := Ground.phase }, { on := 4, ground := Ground.phase }, { on := 5, ground := Ground.phase }, { on := 6, ground := Ground.phase }, { on := 7, ground := Ground.phase }], guard := none }, { dst := some 46, op := Op.fieldAddr 106 (Operand.tmp 45) 3, type := 0, pos := "ref.go:129", after := #[{ on := 8, ground := Ground.data }, { on := 0, ground := Ground.phase }, { on := 1, ground := Ground.phase }, { on := 2, ground := Ground.phase }, { on := 3, ground := Ground.phase }, { on := 4, ground := Ground.phase }, { on := 5, ground := Ground.phase }, { on := 6, ground := Ground.phase }, { on := 7, ground := Ground.phase }], guard := none }, { dst := none, op := Op.store 34 (Operand.tmp 46) (Operand.tmp 44), type := 0, pos := "ref.go:129", after := #[{ on := 9, ground := Ground.data }, { on := 7, ground := Ground.data }, { on := 7, ground := Ground.chain }, { on := 0, ground := Ground.phase }, { on := 1, ground := Ground.phase }, { on := 2, ground := Ground.phase }, { on := 3, ground := Ground.phase }, { on := 4, ground := Ground.phase }, { on := 5, ground := Ground.phase }, { on := 6, ground := Ground.phase }, { on := 7, ground := Ground.phase }], guard := none }] true).wp Tryd.prog (onlyN K) { tmps := #[.pointer (some ⟨sb, 0, none⟩), u1, u2, u3, u4, u5, u6, u7, u8, u9, .pointer (some ⟨eb, 0, none⟩), u11, u12, u13, u14, u15, u16, u17, u18, u19, u20, u21, u22, u23, u24, u25, u26, u27, u28, u29, u30, u31, u32, u33, u34, u35, u36, u37, u38, u39, u40, u41, u42, u43, u44, u45, u46], defers := ds } W := by
  obtain ⟨j0, hj0, hy0, hy1, hy2⟩ := info_parts Tryd.info51
  have HH : Hid _ := h
  have KD := Kept.drew (fun j => (Value.slice a7 k c7).ownBlock = some j) W
  have hlt := World.block_lt_of_cell? W _ x0
  have HC : Hid (∀ V, Kept (fun j => (Value.slice a7 k c7).ownBlock = some j) W.drew V → V.cell? ⟨sb, 12, none⟩ = some (.slice a7 k c7) ∧ V.frozen? ⟨sb, 12, none⟩ = false) := fun V KV => by
    have hb := (KD.and KV).block sb hlt (fun e => hne sb e rfl)
    exact ⟨(World.cell?_of_block (w := W) hb).trans x0, by rw [← xz]; unfold World.frozen?; rw [hb]⟩
  have HR : Hid (W.drew.ownsRow 0 51 4 (.slice a7 k c7) k xs) := hR
  have HKD : Hid (Kept (fun j => (Value.slice a7 k c7).ownBlock = some j) W W.drew) := KD
  have r0 : W.drew.cell? ⟨sb, 12, none⟩ = some (.slice a7 k c7) := x0
  have r1 : W.drew.cell? ⟨eb, 0, none⟩ = some (.int .i64 ek) := x1
  have r2 : W.drew.cell? ⟨eb, 1, none⟩ = some (.string en) := x2
  have r3 : W.drew.cell? ⟨eb, 2, none⟩ = some (.string et) := x3
  have r4 : W.drew.cell? ⟨eb, 3, none⟩ = some (.int .i64 ez) := x4
  have r99 : (W.alloc (.cells #[.int .i64 ek, .string en, .string et, .int .i64 ez] 51)).cell? ⟨sb, 12, none⟩ = some (.slice a7 k c7) := keepC (Kept.alloc (fun _ => False) _ _) x0 (fun _ _ h => h)
  clear h KD x0 x1 x2 x3 x4 xz hR
  go_region_law
    (first
      | (refine step_append_sr _ (by rfl) _ _ 34 (by rfl) 0 51 j0 _ 4 48 Tryd.underlying34 hj0 hy0 hy1 hy2 rfl (by decide) (.slice a7 k c7) k xs (by rfl) (HR.out.alloc _) _ (by rfl) 1 [.int .i64 ek, .string en, .string et, .int .i64 ez] (.inl ⟨_, 1, rfl, rfl, World.news_of_block (heap_alloc_new _ _)⟩) (evF_one [⟨ek, en, et, ez⟩]) (by unfold maxLen; omega) (by omega) (Nat.zero_le _) ?_; intro a4 c4 w4 ho4 hg4 _ hl4; have K4 : Kept (fun j => (Value.slice a7 k c7).ownBlock = some j) W.drew w4 := (Kept.alloc _ _ _).and (Kept.grown hg4 (fun j e => e)); obtain ⟨z0, z1⟩ := HC.out w4 K4)
      | fail)
  all_goals exact HH.out _ _ _ _ _ _ _ _ _ _ a4 c4 w4 ho4 (hl4.imp id (fun e => ⟨_, e, by show W.heap.size ≤ (W.alloc _).heap.size; rw [World.size_alloc]; omega⟩)) (HKD.out.and K4)

set_option maxRecDepth 100000 in
set_option maxHeartbeats 8000000 in
theorem tk2 {W : World} {sb tb k c7 : Nat} {a7 : Option Addr} {tk tt ta mk ms : Int} {tf tn mt mf mn ma mx : ByteArray} {xs : List Value} {ds : List Deferred} {u1 u2 u4 u5 u6 u7 u8 u9 u10 u11 u12 u13 u14 u15 u16 u17 u18 u19 : Value} (K : Act → World → Prop)
    (x0 : W.cell? ⟨sb, 13, none⟩ = some (.slice a7 k c7)) (xz : W.frozen? ⟨sb, 13, none⟩ = false) (x1 : W.cell? ⟨tb, 0, none⟩ = some (.int .i64 tk)) (x2 : W.cell? ⟨tb, 1, none⟩ = some (.complex .f64 0 0)) (x3 : W.cell? ⟨tb, 2, none⟩ = some (.string tf)) (x4 : W.cell? ⟨tb, 3, none⟩ = some (.string tn)) (x5 : W.cell? ⟨tb, 4, none⟩ = some (.int .i64 tt)) (x6 : W.cell? ⟨tb, 5, none⟩ = some (.int .i64 ta)) (x7 : W.cell? ⟨tb, 6, none⟩ = some (.int .i64 mk)) (x8 : W.cell? ⟨tb, 7, none⟩ = some (.string mt)) (x9 : W.cell? ⟨tb, 8, none⟩ = some (.string mf)) (x10 : W.cell? ⟨tb, 9, none⟩ = some (.string mn)) (x11 : W.cell? ⟨tb, 10, none⟩ = some (.string ma)) (x12 : W.cell? ⟨tb, 11, none⟩ = some (.string mx)) (x13 : W.cell? ⟨tb, 12, none⟩ = some (.int .i64 ms)) (hne : ∀ g, (Value.slice a7 k c7).ownBlock = some g → g ≠ sb) (hk : k ≤ 1000000000) (hR : W.ownsRow 0 78 13 (.slice a7 k c7) k xs)
    (h : ∀ (v10 v11 v12 v13 v14 v15 v16 v17 v18 v19 : Value) (a4 : Option Addr) (c4 : Nat) (w4 : World), w4.ownsRow 0 78 13 (.slice a4 (k + 1) c4) (k + 1) (xs ++ [.int .i64 tk, .complex .f64 0 0, .string tf, .string tn, .int .i64 tt, .int .i64 ta, .int .i64 mk, .string mt, .string mf, .string mn, .string ma, .string mx, .int .i64 ms]) → ((Value.slice a4 (k + 1) c4).ownBlock = (Value.slice a7 k c7).ownBlock ∨ ∃ g, (Value.slice a4 (k + 1) c4).ownBlock = some g ∧ W.heap.size ≤ g) → Kept (fun j => (Value.slice a7 k c7).ownBlock = some j) W w4 → K { tmps := #[.pointer (some ⟨sb, 0, none⟩), u1, u2, .pointer (some ⟨tb, 0, none⟩), u4, u5, u6, u7, u8, u9, v10, v11, v12, v13, v14, v15, v16, v17, v18, v19], defers := ds } (w4.setCell ⟨sb, 13, none⟩ (.slice a4 (k + 1) c4))) :
    (Code.region 2 #[{ dst := some 10, op := Op.move (Operand.tmp 0), type := 104, pos := "ref.go:135", after := #[], guard := none }, { dst := some 11, op := Op.move (Operand.tmp 0), type := 104, pos := "ref.go:135", after := #[], guard := none }, { dst := some 12, op := Op.nilCheck (Operand.tmp 11), type := 0, pos := "ref.go:135", after := #[{ on := 1, ground := Ground.data }], guard := none }, { dst := some 13, op := Op.fieldAddr 106 (Operand.tmp 12) 4, type := 0, pos := "ref.go:135", after := #[{ on := 2, ground := Ground.data }], guard := none }, { dst := some 14, op := Op.load 56 (Operand.tmp 13), type := 56, pos := "ref.go:135", after := #[{ on := 3, ground := Ground.data }], guard := none }, { dst := some 15, op := Op.load 78 (Operand.tmp 3), type := 78, pos := "ref.go:135", after := #[], guard := none }, { dst := some 16, op := Op.buildSlice 56 1 #[(0, Operand.tmp 15)], type := 56, pos := "ref.go:135", after := #[{ on := 5, ground := Ground.data }], guard := none }, { dst := some 17, op := Op.call { callee := Callee.builtin Builtin.append, args := #[Operand.tmp 14, Operand.tmp 16], argTypes := #[56, 56] }, type := 56, pos := "ref.go:135", after := #[{ on := 4, ground := Ground.data }, { on := 6, ground := Ground.data }], guard := none }, { dst := some 18, op := Op.nilCheck (Operand.tmp 10), type := 0, pos := "ref.go:135", after := #[{ on := 0, ground := Ground.data }, { on := 0, ground := Ground.phase }, { on := 1, ground := Ground.phase }, { on := 2, ground := Ground.phase }, { on := 3, ground := Ground.phase }, { on := 4, ground := Ground.phase }, { on := 5, ground := Ground.phase }, { on := 6, ground := Ground.phase }, { on := 7, ground := Ground.phase }], guard := none }, { dst := some 19, op := Op.fieldAddr 106 (Operand.tmp 18) 4, type := 0, pos := "ref.go:135", after := #[{ on := 8, ground := Ground.data }, { on := 0, ground := Ground.phase }, { on := 1, ground := Ground.phase }, { on := 2, ground := Ground.phase }, { on := 3, ground := Ground.phase }, { on := 4, ground := Ground.phase }, { on := 5, ground := Ground.phase }, { on := 6, ground := Ground.phase }, { on := 7, ground := Ground.phase }], guard := none }, { dst := none, op := Op.store 56 (Operand.tmp 19) (Operand.tmp 17), type := 0, pos := "ref.go:135", after := #[{ on := 9, ground := Ground.data }, { on := 7, ground := Ground.data }, { on := 7, ground := Ground.chain }, { on := 0, ground := Ground.phase }, { on := 1, ground := Ground.phase }, { on := 2, ground := Ground.phase }, { on := 3, ground := Ground.phase }, { on := 4, ground := Ground.phase }, { on := 5, ground := Ground.phase }, { on := 6, ground := Ground.phase }, { on := 7, ground := Ground.phase }], guard := none }] true).wp Tryd.prog (onlyN K) { tmps := #[.pointer (some ⟨sb, 0, none⟩), u1, u2, .pointer (some ⟨tb, 0, none⟩), u4, u5, u6, u7, u8, u9, u10, u11, u12, u13, u14, u15, u16, u17, u18, u19], defers := ds } W := by
  obtain ⟨j0, hj0, hy0, hy1, hy2⟩ := info_parts Tryd.info78
  have HH : Hid _ := h
  have KD := Kept.drew (fun j => (Value.slice a7 k c7).ownBlock = some j) W
  have hlt := World.block_lt_of_cell? W _ x0
  have HC : Hid (∀ V, Kept (fun j => (Value.slice a7 k c7).ownBlock = some j) W.drew V → V.cell? ⟨sb, 13, none⟩ = some (.slice a7 k c7) ∧ V.frozen? ⟨sb, 13, none⟩ = false) := fun V KV => by
    have hb := (KD.and KV).block sb hlt (fun e => hne sb e rfl)
    exact ⟨(World.cell?_of_block (w := W) hb).trans x0, by rw [← xz]; unfold World.frozen?; rw [hb]⟩
  have HR : Hid (W.drew.ownsRow 0 78 13 (.slice a7 k c7) k xs) := hR
  have HKD : Hid (Kept (fun j => (Value.slice a7 k c7).ownBlock = some j) W W.drew) := KD
  have r0 : W.drew.cell? ⟨sb, 13, none⟩ = some (.slice a7 k c7) := x0
  have r1 : W.drew.cell? ⟨tb, 0, none⟩ = some (.int .i64 tk) := x1
  have r2 : W.drew.cell? ⟨tb, 1, none⟩ = some (.complex .f64 0 0) := x2
  have r3 : W.drew.cell? ⟨tb, 2, none⟩ = some (.string tf) := x3
  have r4 : W.drew.cell? ⟨tb, 3, none⟩ = some (.string tn) := x4
  have r5 : W.drew.cell? ⟨tb, 4, none⟩ = some (.int .i64 tt) := x5
  have r6 : W.drew.cell? ⟨tb, 5, none⟩ = some (.int .i64 ta) := x6
  have r7 : W.drew.cell? ⟨tb, 6, none⟩ = some (.int .i64 mk) := x7
  have r8 : W.drew.cell? ⟨tb, 7, none⟩ = some (.string mt) := x8
  have r9 : W.drew.cell? ⟨tb, 8, none⟩ = some (.string mf) := x9
  have r10 : W.drew.cell? ⟨tb, 9, none⟩ = some (.string mn) := x10
  have r11 : W.drew.cell? ⟨tb, 10, none⟩ = some (.string ma) := x11
  have r12 : W.drew.cell? ⟨tb, 11, none⟩ = some (.string mx) := x12
  have r13 : W.drew.cell? ⟨tb, 12, none⟩ = some (.int .i64 ms) := x13
  have r99 : (W.alloc (.cells #[.int .i64 tk, .complex .f64 0 0, .string tf, .string tn, .int .i64 tt, .int .i64 ta, .int .i64 mk, .string mt, .string mf, .string mn, .string ma, .string mx, .int .i64 ms] 78)).cell? ⟨sb, 13, none⟩ = some (.slice a7 k c7) := keepC (Kept.alloc (fun _ => False) _ _) x0 (fun _ _ h => h)
  clear h KD x0 x1 x2 x3 x4 x5 x6 x7 x8 x9 x10 x11 x12 x13 xz hR
  go_region_law
    (first
      | (refine step_append_sr _ (by rfl) _ _ 56 (by rfl) 0 78 j0 _ 13 168 Tryd.underlying56 hj0 hy0 hy1 hy2 rfl (by decide) (.slice a7 k c7) k xs (by rfl) (HR.out.alloc _) _ (by rfl) 1 [.int .i64 tk, .complex .f64 0 0, .string tf, .string tn, .int .i64 tt, .int .i64 ta, .int .i64 mk, .string mt, .string mf, .string mn, .string ma, .string mx, .int .i64 ms] (.inl ⟨_, 1, rfl, rfl, World.news_of_block (heap_alloc_new _ _)⟩) (tkF_one [⟨tk, tf, tn, tt, ta, ⟨mk, mt, mf, mn, ma, mx, ms⟩⟩]) (by unfold maxLen; omega) (by omega) (Nat.zero_le _) ?_; intro a4 c4 w4 ho4 hg4 _ hl4; have K4 : Kept (fun j => (Value.slice a7 k c7).ownBlock = some j) W.drew w4 := (Kept.alloc _ _ _).and (Kept.grown hg4 (fun j e => e)); obtain ⟨z0, z1⟩ := HC.out w4 K4)
      | fail)
  all_goals exact HH.out _ _ _ _ _ _ _ _ _ _ a4 c4 w4 ho4 (hl4.imp id (fun e => ⟨_, e, by show W.heap.size ≤ (W.alloc _).heap.size; rw [World.size_alloc]; omega⟩)) (HKD.out.and K4)

end Go.Proofs.YtfjekjbkifmpfaaDoor.Rf

/-
  changeNode: an event of a node.
-/
namespace Go.Proofs.YtfjekjbkifmpfaaDoor
open Go.RowKit

def ChgPost (w : World) (F : Nat → Prop) (sb so : Nat) (T : TypeId) (pre post : List Value) (r : Option St) (e : Ending) (w' : World) : Prop :=
  e = .returned (.bool r.isSome) ∧ match r with
    | none => Kept (fun _ => False) w w'
    | some s => Goes w F sb so T pre post s w'

theorem StIn.setNodes {w w' : World} {F : Nat → Prop} {sb so g n c : Nat} {T : TypeId} {pre post : List Value} {s : St} {v7 : Value} {l : List Ns} (S : StIn w F sb so T pre post s (.slice (some ⟨g, 0, none⟩) n c) v7) (K : Kept (fun j => j = g) w w')
    (hr : w'.ownsRow 0 61 3 (.slice (some ⟨g, 0, none⟩) n c) l.length (nsF l)) (h7 : v7.ownBlock ≠ some g) : StIn w' F sb so T pre post { s with nodes := l } (.slice (some ⟨g, 0, none⟩) n c) v7 := by
  have hg := S.in6 g rfl
  exact ⟨(K.block _ S.lt (fun h => hg.2 h.symm)).trans S.blk, S.off, hr, ownsRow_keep S.sigs (fun q hq => K.block q (ownsRow_blk S.sigs hq) (fun h => h7 (h ▸ hq))), S.inS, S.in6, S.in7, fun q h => Nat.lt_of_lt_of_le (S.top q h) K.size⟩

theorem rows_apart {w : World} {F : Nat → Prop} {sb so : Nat} {T : TypeId} {pre post : List Value} {s : St} {v6 v7 : Value} (S : StIn w F sb so T pre post s v6 v7) {g : Nat} (hg : v6.ownBlock = some g) : v7.ownBlock ≠ some g := by
  intro h7
  rcases S.nodes.2 with ⟨h0, _⟩ | ⟨g', cap, cur, rfl, _, hh, _⟩
  · rw [h0] at hg; cases hg
  · obtain rfl : g' = g := by simpa [Value.ownBlock] using hg
    rcases S.sigs.2 with ⟨h1, _⟩ | ⟨g2, cap2, cur2, rfl, _, hh2, _⟩
    · rw [h1] at h7; cases h7
    · obtain rfl : g2 = g' := by simpa [Value.ownBlock] using h7
      rw [hh] at hh2
      simp only [Option.some.injEq, Obj.cells.injEq] at hh2
      exact absurd hh2.2.1 (by decide)

theorem hid {p : Prop} (h : p) : Hid p := h

theorem four {w : World} {b : Nat} {T : TypeId} {u0 u1 u2 u3 : Value} (h : w.heap[b]? = some (.cells #[u0, u1, u2, u3] T (0, 0))) :
    (w.cell? ⟨b, 0, none⟩ = some u0 ∧ w.cell? ⟨b, 1, none⟩ = some u1 ∧ w.cell? ⟨b, 2, none⟩ = some u2 ∧ w.cell? ⟨b, 3, none⟩ = some u3) ∧
    (w.frozen? ⟨b, 0, none⟩ = false ∧ w.frozen? ⟨b, 1, none⟩ = false ∧ w.frozen? ⟨b, 2, none⟩ = false ∧ w.frozen? ⟨b, 3, none⟩ = false) := by
  simp [World.cell?, World.frozen?, h]

theorem twoB {w : World} {b : Nat} {T : TypeId} {u0 u1 : Value} (h : w.heap[b]? = some (.cells #[u0, u1] T (0, 0))) : w.cell? ⟨b, 0, none⟩ = some u0 ∧ w.cell? ⟨b, 1, none⟩ = some u1 := by
  simp [World.cell?, h]

/-- The definition and the event, boxed. -/
structure BxSt (w V : World) (nm : ByteArray) (a : Option Addr) (n c : Nat) (ek : Int) (en et : ByteArray) (ez : Int) : Prop where
  b0 : V.heap[w.heap.size]? = some (.cells #[.string nm, .slice a n c] 24 (0, 0))
  b1 : V.heap[w.heap.size + 1]? = some (.cells #[.int .i64 ek, .string en, .string et, .int .i64 ez] 51 (0, 0))

theorem BxSt.kept {w V V' : World} {G : Nat → Prop} {nm : ByteArray} {a : Option Addr} {n c : Nat} {ek : Int} {en et : ByteArray} {ez : Int} (B : BxSt w V nm a n c ek en et ez) (K : Kept G V V') (hG : ∀ g, G g → g < w.heap.size) : BxSt w V' nm a n c ek en et ez :=
  ⟨(K.block _ (Array.getElem?_eq_some_iff.1 B.b0).1 (fun h => by have := hG _ h; omega)).trans B.b0, (K.block _ (Array.getElem?_eq_some_iff.1 B.b1).1 (fun h => by have := hG _ h; omega)).trans B.b1⟩

theorem BxSt.begun (w : World) (nm : ByteArray) (a : Option Addr) (n c : Nat) (ek : Int) (en et : ByteArray) (ez : Int) : BxSt w ((w.alloc (.cells #[.string nm, .slice a n c] 24)).alloc (.cells #[.int .i64 ek, .string en, .string et, .int .i64 ez] 51)) nm a n c ek en et ez := by
  refine ⟨?_, ?_⟩
  · rw [Below.heap_alloc _ _ _ (by rw [World.size_alloc]; omega)]
    exact heap_alloc_new _ _
  · have h := heap_alloc_new (w.alloc (.cells #[.string nm, .slice a n c] 24)) (.cells #[.int .i64 ek, .string en, .string et, .int .i64 ez] 51)
    rw [World.size_alloc] at h
    exact h

set_option maxRecDepth 100000 in
set_option maxHeartbeats 8000000 in
theorem changeNode_any (w : World) (F : Nat → Prop) (sb so : Nat) (T : TypeId) (pre post : List Value) (s : St) (v6 v7 : Value) (S : StIn w F sb so T pre post s v6 v7) (h6 : s.nodes.length ≤ 1000000) (h7 : s.sigs.length ≤ 1000000)
    (nm : ByteArray) (a : Option Addr) (c : Nat) (ns : List Nd) (hN : NodesAt w a ns) (hn : ns.length ≤ 1000000) (hNF : ∀ b o, a = some ⟨b, o, none⟩ → ¬ F b) (M : MovesAt w) (ev : Ev) :
    Calls Tryd.prog 49 #[.agg #[.string nm, .slice a ns.length c], .pointer (some ⟨sb, so, none⟩), .agg #[.int .i64 ev.kind, .string ev.node, .string ev.text, .int .i64 ev.num]] w (ChgPost w F sb so T pre post (changeNodeP ns s ev)) := by
  obtain ⟨ek, en, et, ez⟩ := ev
  simp only []
  have K0 : Kept (fun _ => False) w ((w.alloc (.cells #[.string nm, .slice a ns.length c] 24)).alloc (.cells #[.int .i64 ek, .string en, .string et, .int .i64 ez] 51)) := (Kept.alloc _ _ _).and (Kept.alloc _ _ _)
  have hF := fun V (KV : Kept (fun _ => False) w V) => hfind_any V nm a c ns (keptNew KV hN) hn s v6 v7 ((S.rd h6 h7).new KV) en
  have S0 := S.new K0
  have hb := S0.blk
  unfold stL at hb
  obtain ⟨⟨c0, c1, c2, c3, c4, c5, c6, c7, c8⟩, _⟩ := nineAt hb S0.off
  have HS : Hid (StIn w F sb so T pre post s v6 v7) := S
  have HN : Hid (NodesAt w a ns) := hN
  have HM : Hid (MovesAt w) := M
  have HK0 : Hid (Kept (fun _ => False) w ((w.alloc (.cells #[.string nm, .slice a ns.length c] 24)).alloc (.cells #[.int .i64 ek, .string en, .string et, .int .i64 ez] 51))) := K0
  have B0 := BxSt.begun w nm a ns.length c ek en et ez
  have HB0 : Hid (BxSt w ((w.alloc (.cells #[.string nm, .slice a ns.length c] 24)).alloc (.cells #[.int .i64 ek, .string en, .string et, .int .i64 ez] 51)) nm a ns.length c ek en et ez) := B0
  obtain ⟨x0, x1⟩ := twoB B0.b0
  obtain ⟨⟨_, x2, _, _⟩, _⟩ := four B0.b1
  unfold stA at hF
  have hF0 := hF _ (K0.and (Kept.drew _ _))
  unfold changeNodeP
  simp only []
  clear S S0 hb hN M K0 hF B0
  cases hf : findP ns en with
  | none =>
    have hq : findS ns s.nodes.length en = false := by unfold findS; rw [hf]
    rw [hf, hq] at hF0
    simp only [Option.getD_none] at hF0 ⊢
    clear hf hq
    go_enter Tryd.func49, Tryd.ntmps49
    go_wp2_with fail
    refine wp_onlyN (cn1 _ x0 x1 c0 c1 c2 c3 c4 c5 c6 c7 c8 x2 hF0 ?_)
    intro _ _ _ _ _ _ _ _ _ _ w5 K5
    clear hF0 x0 x1 x2 c0 c1 c2 c3 c4 c5 c6 c7 c8
    go_wp2_with fail
    go_ret
    exact ⟨rfl, HK0.out.and K5⟩
  | some i =>
    have hi := findP_lt hf
    by_cases him : i < s.nodes.length
    · have hq : findS ns s.nodes.length en = true := by unfold findS; rw [hf]; exact decide_eq_true him
      rw [hf, hq] at hF0
      simp only [Option.getD_some] at hF0 ⊢
      clear hf hq
      have hm : nodeMove ns s ⟨ek, en, et, ez⟩ i = moveP ek (ns[i]).kind (s.nodes[i]).status := by unfold nodeMove; rw [List.getElem?_eq_getElem hi, List.getElem?_eq_getElem him]
      have ha : argAt ns i = (ns[i]).arg := by unfold argAt; rw [List.getElem?_eq_getElem hi]
      rw [hm, ha]
      clear hm ha
      obtain ⟨b, o, av, cv, hae, hT, k0, k1, k2, k3, k4, k5, k6⟩ := HN.out.at hi
      have hFb := hNF b o hae
      subst hae
      obtain ⟨g, cg, hv6, hown, hcap, hrow⟩ := row_at HS.out.nodes (by omega)
      subst hv6
      obtain ⟨q0, q1, q2⟩ := nsF_get him
      have hMv := fun V (KV : Kept (fun _ => False) w V) => moveOf_any V (HM.out.kept KV (fun h => h)) ek (ns[i]).kind (s.nodes[i]).status
      have hgF := HS.out.in6 g rfl
      have hgt := HS.out.top g hgF.1
      have hap := rows_apart HS.out (g := g) rfl
      clear hNF hT k0 k3 k4 k5 k6
      generalize ns[i] = nd at *
      cases hmv : moveP ek nd.kind (s.nodes[i]).status with
      | none =>
        rw [hmv] at hMv
        simp only [Option.getD_none, Option.isSome_none] at hMv ⊢
        clear hmv
        go_enter Tryd.func49, Tryd.ntmps49
        go_wp2_with fail
        refine wp_onlyN (cn1 _ x0 x1 c0 c1 c2 c3 c4 c5 c6 c7 c8 x2 hF0 ?_)
        intro _ _ _ _ _ _ _ _ _ _ w5 K5
        have K05 := HK0.out.and K5
        have B5 := HB0.out.kept K5 (fun g h => h.elim)
        obtain ⟨⟨b10, _, _, _⟩, _⟩ := four B5.b1
        obtain ⟨_, b01⟩ := twoB B5.b0
        have S5 := HS.out.new K05
        have hb5 := S5.blk
        unfold stL at hb5
        obtain ⟨⟨_, _, _, _, _, _, s6, _, _⟩, _⟩ := nineAt hb5 S5.off
        have r1 := keepC K05 k1 (fun _ _ h => h)
        have r2 := keepC K05 (hrow _ _ q0).1 (fun _ _ h => h)
        have HMv : Hid _ := hMv
        have HS5 : Hid (StIn w5 F sb so T pre post s (.slice (some ⟨g, 0, none⟩) s.nodes.length cg) v7) := S5
        have HB5 : Hid (BxSt w w5 nm (some ⟨b, o, none⟩) ns.length c ek en et ez) := B5
        have HK05 : Hid (Kept (fun _ => False) w w5) := K05
        clear hF0 x0 x1 x2 c0 c1 c2 c3 c4 c5 c6 c7 c8 hMv S5 hb5 B5
        go_wp2_with fail
        refine wp_onlyN (cn4 (mv := zeroMv) (z8 := false) _ b10 b01 r1 s6 r2 hi him hn (fun V KV => HMv.out V (K05.and ((Kept.drew _ _).and KV))) ?_)
        intro _ _ _ _ _ _ _ _ _ _ _ _ _ _ _ _ _ _ _ _ mb w6 hmb hM6 K6
        clear b10 b01 r1 s6 r2
        go_wp2_with (first | go_quiet (fail) | fail)
        go_ret
        exact ⟨rfl, (K05.and K6).and (Kept.drewN _ _ _)⟩
      | some m =>
        rw [hmv] at hMv
        simp only [Option.getD_some, Option.isSome_some] at hMv ⊢
        clear hmv
        by_cases h12 : ek = 12
        · subst h12
          rw [if_pos rfl]
          generalize hrc : receiveP s.sigs nd.arg m.src ez = rx
          go_enter Tryd.func49, Tryd.ntmps49
          go_wp2_with fail
          refine wp_onlyN (cn1 _ x0 x1 c0 c1 c2 c3 c4 c5 c6 c7 c8 x2 hF0 ?_)
          intro _ _ _ _ _ _ _ _ _ _ w5 K5
          have K05 := HK0.out.and K5
          have B5 := HB0.out.kept K5 (fun g h => h.elim)
          obtain ⟨⟨b10, _, _, _⟩, _⟩ := four B5.b1
          obtain ⟨_, b01⟩ := twoB B5.b0
          have S5 := HS.out.new K05
          have hb5 := S5.blk
          unfold stL at hb5
          obtain ⟨⟨_, _, _, _, _, _, s6, _, _⟩, _⟩ := nineAt hb5 S5.off
          have r1 := keepC K05 k1 (fun _ _ h => h)
          have r2 := keepC K05 (hrow _ _ q0).1 (fun _ _ h => h)
          have HMv : Hid _ := hMv
          have HS5 : Hid (StIn w5 F sb so T pre post s (.slice (some ⟨g, 0, none⟩) s.nodes.length cg) v7) := S5
          have HB5 : Hid (BxSt w w5 nm (some ⟨b, o, none⟩) ns.length c 12 en et ez) := B5
          have HK05 : Hid (Kept (fun _ => False) w w5) := K05
          clear hF0 x0 x1 x2 c0 c1 c2 c3 c4 c5 c6 c7 c8 hMv S5 hb5 B5
          go_wp2_with fail
          refine wp_onlyN (cn4 (mv := m) (z8 := true) _ b10 b01 r1 s6 r2 hi him hn (fun V KV => HMv.out V (K05.and ((Kept.drew _ _).and KV))) ?_)
          intro _ _ _ _ _ _ _ _ _ _ _ _ _ _ _ _ _ _ _ _ mb w6 hmb hM6 K6
          clear b10 b01 r1 s6 r2
          have B6 := HB5.out.kept K6 (fun g h => h.elim)
          obtain ⟨⟨t0, _, _, t3⟩, _⟩ := four B6.b1
          obtain ⟨_, d1⟩ := twoB B6.b0
          obtain ⟨⟨_, _, m2, _, _⟩, _⟩ := five hM6
          have S6 := HS5.out.new K6
          have K06 := K05.and K6
          have x2 := keepC K06 k2 (fun _ _ h => h)
          have hR := receive_any w6.drew F sb so T pre post s _ v7 (S6.new (Kept.drew _ _)) h6 h7 nd.arg m.src ez
          have htop : ∀ q, F q → q < w.heap.size := HS.out.top
          have HB6 : Hid (BxSt w w6 nm (some ⟨b, o, none⟩) ns.length c 12 en et ez) := B6
          have HK06 : Hid (Kept (fun _ => False) w w6) := K06
          have HM6 : Hid (w6.heap[mb]? = some (.cells #[.int .i64 m.event, .int .i64 m.kind, .int .i64 m.src, .int .i64 m.dst, .bool m.txt] 116 (0, 0))) := hM6
          have hz5 := K05.size
          clear S6 B6 hM6 K6 K06 K05 K5 HK05 HS5 HB5 HB0 HK0 HS HN HM HMv hown hcap hgt k1 k2 hgF hap hrow
          rw [hrc] at hR
          clear hrc
          cases rx with
          | none =>
            simp only []
            go_wp2_with fail
            refine wp_onlyN (cn5 (F := fun _ => False) (R := fun V => Kept (fun _ => False) w6.drew V) (r := false) _ t0 d1 x2 m2 t3 hi hn (fun h => h) (fun h => h) (fun h => h) (fun h => h) hR (fun _ h => h) ?_)
            intro _ _ _ _ _ _ _ _ _ _ _ _ _ _ _ _ _ _ _ _ _ w7 K7
            clear t0 d1 x2 m2 t3 hR
            go_wp2_with fail
            go_ret
            exact ⟨rfl, (HK06.out.and (Kept.drew _ _)).and K7⟩
          | some l =>
            simp only []
            have n0 : ¬ F (w.heap.size + 1) := fun h => by have := htop _ h; omega
            have n1 : ¬ F w.heap.size := fun h => by have := htop _ h; omega
            have n3 : ¬ F mb := fun h => by have := htop _ h; omega
            go_wp2_with fail
            refine wp_onlyN (cn5 (F := F) (R := fun V => Goes w6.drew F sb so T pre post { s with sigs := l } V) (r := true) _ t0 d1 x2 m2 t3 hi hn n0 n1 hFb n3 hR (fun _ h => h.2) ?_)
            intro _ _ _ _ _ _ _ _ _ _ _ _ _ _ _ _ _ _ _ _ _ w7 R7
            clear t0 d1 x2 m2 t3 hR
            obtain ⟨⟨F7, u6, v7x, S7, hF7⟩, K7d⟩ := R7
            have K7 : Kept F w6 w7 := (Kept.drew F w6).and K7d
            have hz6 : mb < w6.heap.size := (Array.getElem?_eq_some_iff.1 HM6.out).1
            have hz7 : w.heap.size + 1 < w6.heap.size := (Array.getElem?_eq_some_iff.1 HB6.out.b1).1
            have hM7 := (K7.block mb hz6 n3).trans HM6.out
            have B7 := HB6.out.kept K7 htop
            have hF7' : ∀ q, F7 q → F q ∨ w6.heap.size ≤ q := hF7
            obtain ⟨⟨t0, _, t2, t3⟩, _⟩ := four B7.b1
            obtain ⟨⟨_, _, _, m3, m4⟩, _⟩ := five hM7
            have hb7 := S7.blk
            unfold stL at hb7
            obtain ⟨⟨_, _, _, _, _, _, s6, _, _⟩, _⟩ := nineAt hb7 S7.off
            obtain ⟨g7, cg7, hv7, _, _, hrow7⟩ := row_at S7.nodes (Nat.lt_of_le_of_lt (Nat.zero_le _) him)
            subst hv7
            have n0 := hrow7 _ _ q0
            have n1 := hrow7 _ _ q1
            have n2 := hrow7 _ _ q2
            have hg7 : F7 g7 := (S7.in6 g7 rfl).1
            have hmg : mb ≠ g7 := fun h => by
              rcases hF7' _ hg7 with h1 | h1
              · exact n3 (h ▸ h1)
              · omega
            have heg : w.heap.size + 1 ≠ g7 := fun h => by
              rcases hF7' _ hg7 with h1 | h1
              · have := htop _ h1
                omega
              · omega
            have hap7 : v7x.ownBlock ≠ some g7 := rows_apart S7 (g := g7) rfl
            have HS7 : Hid (StIn w7 F7 sb so T pre post { s with sigs := l } (.slice (some ⟨g7, 0, none⟩) s.nodes.length cg7) v7x) := S7
            have o7 : Hid (w7.ownsRow 0 61 3 (.slice (some ⟨g7, 0, none⟩) s.nodes.length cg7) s.nodes.length (nsF s.nodes)) := S7.nodes
            have oth : ∀ (V : World) (q k j : Nat) (u v : Value), q ≠ g7 → V.cell? ⟨q, k, none⟩ = some v → (V.setCell ⟨g7, j, none⟩ u).cell? ⟨q, k, none⟩ = some v := fun V q k j u v hq hc => by
              rw [World.cell?_setCell_other _ _ _ _ (fun h => hq (by cases h; rfl))]
              exact hc
            have HFr : Hid ((∀ q, F7 q → F q ∨ w.heap.size ≤ q) ∧ Kept F w w7) := ⟨fun q h => (hF7' q h).imp id (fun h => Nat.le_trans HK06.out.size h), (HK06.out.mono (fun _ h => h.elim)).and K7⟩
            clear hb7 S7 B7 hM7 K7 K7d HK06 HM6 HB6 n3 hF7 hF7' htop hz5 hz6 hz7 hmb hFb
            cases htx : m.txt with
            | true =>
              rw [htx] at m4
              have a1 := oth w7 mb 4 (i * 3) (.int .i64 m.dst) _ hmg m4
              have a2 := oth w7 (w.heap.size + 1) 0 (i * 3) (.int .i64 m.dst) _ heg t0
              have a3 := oth w7 (w.heap.size + 1) 2 (i * 3) (.int .i64 m.dst) _ heg t2
              have r1 := ownsRow_put o7.out (i * 3) (.int .i64 m.dst)
              obtain ⟨g1, cg1, hv1, _, _, hr1⟩ := row_at r1 (by omega)
              obtain ⟨rfl, rfl⟩ : g7 = g1 ∧ cg7 = cg1 := by simpa using hv1
              have z1 := hr1 (i * 3 + 1) _ (by rw [List.getElem?_set_ne (by omega)]; exact q1)
              have z2 := hr1 (i * 3 + 2) _ (by rw [List.getElem?_set_ne (by omega)]; exact q2)
              have a5 := oth (w7.setCell ⟨g7, i * 3, none⟩ (.int .i64 m.dst)) (w.heap.size + 1) 0 (i * 3 + 2) (.string et) _ heg a2
              have r2 := ownsRow_put r1 (i * 3 + 2) (.string et)
              obtain ⟨g2, cg2, hv2, _, _, hr2⟩ := row_at r2 (by omega)
              obtain ⟨rfl, rfl⟩ : g7 = g2 ∧ cg7 = cg2 := by simpa using hv2
              have z3 := hr2 (i * 3 + 1) _ (by rw [List.getElem?_set_ne (by omega), List.getElem?_set_ne (by omega)]; exact q1)
              have Kg := (Kept.setCell (S := fun j => j = g7) w7 ⟨g7, i * 3, none⟩ (.int .i64 m.dst) rfl).and (Kept.setCell (S := fun j => j = g7) _ ⟨g7, i * 3 + 2, none⟩ (.string et) rfl)
              have hlist := nl_tf him m ⟨12, en, et, ez⟩ htx (show (12 : Int) ≠ 3 by decide)
              have HRow := hid r2
              obtain ⟨n00, n01⟩ := n0
              obtain ⟨z10, z11⟩ := z1
              obtain ⟨z20, z21⟩ := z2
              obtain ⟨z30, z31⟩ := z3
              have HKg := hid Kg
              have HL := hid hlist
              clear r1 hr1 hv1 n1 n2 oth q0 q1 q2 hrow7 Kg hlist r2 hr2 hv2
              go_wp2_with fail
              go_ret
              refine ⟨rfl, ⟨F7, _, v7x, HS7.out.setNodes HKg.out ?_ hap7, HFr.out.1⟩, HFr.out.2.trans HKg.out (fun j h => by subst h; exact HFr.out.1 _ hg7)⟩
              rw [setNode_len]
              have hrw := HRow.out
              rw [← HL.out] at hrw
              exact hrw
            | false =>
              rw [htx] at m4
              have a1 := oth w7 mb 4 (i * 3) (.int .i64 m.dst) _ hmg m4
              have a2 := oth w7 (w.heap.size + 1) 0 (i * 3) (.int .i64 m.dst) _ heg t0
              have r1 := ownsRow_put o7.out (i * 3) (.int .i64 m.dst)
              obtain ⟨g1, cg1, hv1, _, _, hr1⟩ := row_at r1 (by omega)
              obtain ⟨rfl, rfl⟩ : g7 = g1 ∧ cg7 = cg1 := by simpa using hv1
              have z1 := hr1 (i * 3 + 1) _ (by rw [List.getElem?_set_ne (by omega)]; exact q1)
              have z2 := hr1 (i * 3 + 2) _ (by rw [List.getElem?_set_ne (by omega)]; exact q2)
              have Kg := Kept.setCell (S := fun j => j = g7) w7 ⟨g7, i * 3, none⟩ (.int .i64 m.dst) rfl
              have hlist := nl_ff him m ⟨12, en, et, ez⟩ htx (show (12 : Int) ≠ 3 by decide)
              have HRow := hid r1
              obtain ⟨n00, n01⟩ := n0
              obtain ⟨z10, z11⟩ := z1
              obtain ⟨z20, z21⟩ := z2
              have HKg := hid Kg
              have HL := hid hlist
              clear r1 hr1 hv1 n1 n2 oth q0 q1 q2 hrow7 Kg hlist
              go_wp2_with fail
              go_ret
              refine ⟨rfl, ⟨F7, _, v7x, HS7.out.setNodes HKg.out ?_ hap7, HFr.out.1⟩, HFr.out.2.trans HKg.out (fun j h => by subst h; exact HFr.out.1 _ hg7)⟩
              rw [setNode_len]
              have hrw := HRow.out
              rw [← HL.out] at hrw
              exact hrw
        · have e12 : (ek == 12) = false := by simp [h12]
          rw [if_neg h12]
          simp only []
          clear h12
          go_enter Tryd.func49, Tryd.ntmps49
          go_wp2_with fail
          refine wp_onlyN (cn1 _ x0 x1 c0 c1 c2 c3 c4 c5 c6 c7 c8 x2 hF0 ?_)
          intro _ _ _ _ _ _ _ _ _ _ w5 K5
          have K05 := HK0.out.and K5
          have B5 := HB0.out.kept K5 (fun g h => h.elim)
          obtain ⟨⟨b10, _, _, _⟩, _⟩ := four B5.b1
          obtain ⟨_, b01⟩ := twoB B5.b0
          have S5 := HS.out.new K05
          have hb5 := S5.blk
          unfold stL at hb5
          obtain ⟨⟨_, _, _, _, _, _, s6, _, _⟩, _⟩ := nineAt hb5 S5.off
          have r1 := keepC K05 k1 (fun _ _ h => h)
          have r2 := keepC K05 (hrow _ _ q0).1 (fun _ _ h => h)
          have HMv : Hid _ := hMv
          have HS5 : Hid (StIn w5 F sb so T pre post s (.slice (some ⟨g, 0, none⟩) s.nodes.length cg) v7) := S5
          have HB5 : Hid (BxSt w w5 nm (some ⟨b, o, none⟩) ns.length c ek en et ez) := B5
          have HK05 : Hid (Kept (fun _ => False) w w5) := K05
          clear hF0 x0 x1 x2 c0 c1 c2 c3 c4 c5 c6 c7 c8 hMv S5 hb5 B5
          go_wp2_with fail
          refine wp_onlyN (cn4 (mv := m) (z8 := true) _ b10 b01 r1 s6 r2 hi him hn (fun V KV => HMv.out V (K05.and ((Kept.drew _ _).and KV))) ?_)
          intro _ _ _ _ _ _ _ _ _ _ _ _ _ _ _ _ _ _ _ _ mb w6 hmb hM6 K6
          clear b10 b01 r1 s6 r2
          have B6 := HB5.out.kept K6 (fun g h => h.elim)
          obtain ⟨⟨t0, t1, t2, t3⟩, _⟩ := four B6.b1
          have HK6 : Hid (Kept (fun _ => False) w5 w6) := K6
          have HM6 : Hid (w6.heap[mb]? = some (.cells #[.int .i64 m.event, .int .i64 m.kind, .int .i64 m.src, .int .i64 m.dst, .bool m.txt] 116 (0, 0))) := hM6
          clear B6 hM6 K6
          go_upto_region 7 with (first | go_quiet (fail) | fail)
          clear t0 t1 t2 t3
          have K7 : Kept (fun _ => False) w5 (w6.drewN nq) := HK6.out.and (Kept.drewN _ _ _)
          have hM7 : (w6.drewN nq).heap[mb]? = some (.cells #[.int .i64 m.event, .int .i64 m.kind, .int .i64 m.src, .int .i64 m.dst, .bool m.txt] 116 (0, 0)) := HM6.out
          generalize w6.drewN nq = w7 at *
          have S7 := HS5.out.new K7
          have B7 := HB5.out.kept K7 (fun g h => h.elim)
          obtain ⟨⟨t0, _, t2, t3⟩, _⟩ := four B7.b1
          obtain ⟨⟨_, _, _, m3, m4⟩, _⟩ := five hM7
          have hb7 := S7.blk
          unfold stL at hb7
          obtain ⟨⟨_, _, _, _, _, _, s6, _, _⟩, _⟩ := nineAt hb7 S7.off
          obtain ⟨g', cg', hv', _, _, hrow7⟩ := row_at S7.nodes (by omega)
          obtain ⟨rfl, rfl⟩ : g = g' ∧ cg = cg' := by simpa using hv'
          have n0 := hrow7 _ _ q0
          have n1 := hrow7 _ _ q1
          have n2 := hrow7 _ _ q2
          have hmg : mb ≠ g := by have := K05.size; omega
          have heg : w.heap.size + 1 ≠ g := by omega
          have HS7 : Hid (StIn w7 F sb so T pre post s (.slice (some ⟨g, 0, none⟩) s.nodes.length cg) v7) := S7
          have o7 : Hid (w7.ownsRow 0 61 3 (.slice (some ⟨g, 0, none⟩) s.nodes.length cg) s.nodes.length (nsF s.nodes)) := S7.nodes
          have HK7 : Hid (Kept (fun _ => False) w5 w7) := K7
          have oth : ∀ (V : World) (q k j : Nat) (u v : Value), q ≠ g → V.cell? ⟨q, k, none⟩ = some v → (V.setCell ⟨g, j, none⟩ u).cell? ⟨q, k, none⟩ = some v := fun V q k j u v hq hc => by
            rw [World.cell?_setCell_other _ _ _ _ (fun h => hq (by cases h; rfl))]
            exact hc
          have hap7 : v7.ownBlock ≠ some g := hap
          have hg7 : F g := hgF.1
          have HFr : Hid ((∀ g, F g → F g ∨ w.heap.size ≤ g) ∧ Kept F w w7) := ⟨fun _ h => .inl h, (K05.and K7).mono (fun _ h => h.elim)⟩
          clear hb7 S7 B7 hM7 K7 K05 K5 HK05 HK6 HM6 HS5 HB5 HB0 HK0 HS HN HM HMv hown hcap hgt hmb hFb k1 k2 HK7 hgF hap
          cases htx : m.txt with
          | true =>
            rw [htx] at m4
            by_cases hk3 : ek = 3
            · have e3 : (ek == 3) = true := by simp [hk3]
              have a1 := oth w7 mb 4 (i * 3) (.int .i64 m.dst) _ hmg m4
              have a2 := oth w7 (w.heap.size + 1) 0 (i * 3) (.int .i64 m.dst) _ heg t0
              have a3 := oth w7 (w.heap.size + 1) 2 (i * 3) (.int .i64 m.dst) _ heg t2
              have a4 := oth w7 (w.heap.size + 1) 3 (i * 3) (.int .i64 m.dst) _ heg t3
              have r1 := ownsRow_put o7.out (i * 3) (.int .i64 m.dst)
              obtain ⟨g1, cg1, hv1, _, _, hr1⟩ := row_at r1 (by omega)
              obtain ⟨rfl, rfl⟩ : g = g1 ∧ cg = cg1 := by simpa using hv1
              have z1 := hr1 (i * 3 + 1) _ (by rw [List.getElem?_set_ne (by omega)]; exact q1)
              have z2 := hr1 (i * 3 + 2) _ (by rw [List.getElem?_set_ne (by omega)]; exact q2)
              have a5 := oth (w7.setCell ⟨g, i * 3, none⟩ (.int .i64 m.dst)) (w.heap.size + 1) 0 (i * 3 + 2) (.string et) _ heg a2
              have a6 := oth (w7.setCell ⟨g, i * 3, none⟩ (.int .i64 m.dst)) (w.heap.size + 1) 3 (i * 3 + 2) (.string et) _ heg a4
              have r2 := ownsRow_put r1 (i * 3 + 2) (.string et)
              obtain ⟨g2, cg2, hv2, _, _, hr2⟩ := row_at r2 (by omega)
              obtain ⟨rfl, rfl⟩ : g = g2 ∧ cg = cg2 := by simpa using hv2
              have z3 := hr2 (i * 3 + 1) _ (by rw [List.getElem?_set_ne (by omega), List.getElem?_set_ne (by omega)]; exact q1)
              have r3 := ownsRow_put r2 (i * 3 + 1) (.int .i64 ez)
              have Kg := ((Kept.setCell (S := fun j => j = g) w7 ⟨g, i * 3, none⟩ (.int .i64 m.dst) rfl).and (Kept.setCell (S := fun j => j = g) _ ⟨g, i * 3 + 2, none⟩ (.string et) rfl)).and (Kept.setCell (S := fun j => j = g) _ ⟨g, i * 3 + 1, none⟩ (.int .i64 ez) rfl)
              have hlist := nl_tt him m ⟨ek, en, et, ez⟩ htx hk3
              have HRow := hid r3
              obtain ⟨n00, n01⟩ := n0
              obtain ⟨z10, z11⟩ := z1
              obtain ⟨z20, z21⟩ := z2
              obtain ⟨z30, z31⟩ := z3
              have HKg := hid Kg
              have HL := hid hlist
              clear hk3 r1 hr1 hv1 n1 n2 oth q0 q1 q2 hrow hrow7 hv' Kg hlist r2 hr2 hv2 r3
              go_wp2_with fail
              go_ret
              refine ⟨rfl, ⟨F, _, v7, HS7.out.setNodes HKg.out ?_ hap7, HFr.out.1⟩, HFr.out.2.trans HKg.out (fun j h => by subst h; exact HFr.out.1 _ hg7)⟩
              rw [setNode_len]
              have hrw := HRow.out
              rw [← HL.out] at hrw
              exact hrw
            · have e3 : (ek == 3) = false := by simp [hk3]
              have a1 := oth w7 mb 4 (i * 3) (.int .i64 m.dst) _ hmg m4
              have a2 := oth w7 (w.heap.size + 1) 0 (i * 3) (.int .i64 m.dst) _ heg t0
              have a3 := oth w7 (w.heap.size + 1) 2 (i * 3) (.int .i64 m.dst) _ heg t2
              have r1 := ownsRow_put o7.out (i * 3) (.int .i64 m.dst)
              obtain ⟨g1, cg1, hv1, _, _, hr1⟩ := row_at r1 (by omega)
              obtain ⟨rfl, rfl⟩ : g = g1 ∧ cg = cg1 := by simpa using hv1
              have z1 := hr1 (i * 3 + 1) _ (by rw [List.getElem?_set_ne (by omega)]; exact q1)
              have z2 := hr1 (i * 3 + 2) _ (by rw [List.getElem?_set_ne (by omega)]; exact q2)
              have a5 := oth (w7.setCell ⟨g, i * 3, none⟩ (.int .i64 m.dst)) (w.heap.size + 1) 0 (i * 3 + 2) (.string et) _ heg a2
              have r2 := ownsRow_put r1 (i * 3 + 2) (.string et)
              obtain ⟨g2, cg2, hv2, _, _, hr2⟩ := row_at r2 (by omega)
              obtain ⟨rfl, rfl⟩ : g = g2 ∧ cg = cg2 := by simpa using hv2
              have z3 := hr2 (i * 3 + 1) _ (by rw [List.getElem?_set_ne (by omega), List.getElem?_set_ne (by omega)]; exact q1)
              have Kg := (Kept.setCell (S := fun j => j = g) w7 ⟨g, i * 3, none⟩ (.int .i64 m.dst) rfl).and (Kept.setCell (S := fun j => j = g) _ ⟨g, i * 3 + 2, none⟩ (.string et) rfl)
              have hlist := nl_tf him m ⟨ek, en, et, ez⟩ htx hk3
              have HRow := hid r2
              obtain ⟨n00, n01⟩ := n0
              obtain ⟨z10, z11⟩ := z1
              obtain ⟨z20, z21⟩ := z2
              obtain ⟨z30, z31⟩ := z3
              have HKg := hid Kg
              have HL := hid hlist
              clear hk3 r1 hr1 hv1 n1 n2 oth q0 q1 q2 hrow hrow7 hv' Kg hlist r2 hr2 hv2
              go_wp2_with fail
              go_ret
              refine ⟨rfl, ⟨F, _, v7, HS7.out.setNodes HKg.out ?_ hap7, HFr.out.1⟩, HFr.out.2.trans HKg.out (fun j h => by subst h; exact HFr.out.1 _ hg7)⟩
              rw [setNode_len]
              have hrw := HRow.out
              rw [← HL.out] at hrw
              exact hrw
          | false =>
            rw [htx] at m4
            by_cases hk3 : ek = 3
            · have e3 : (ek == 3) = true := by simp [hk3]
              have a1 := oth w7 mb 4 (i * 3) (.int .i64 m.dst) _ hmg m4
              have a2 := oth w7 (w.heap.size + 1) 0 (i * 3) (.int .i64 m.dst) _ heg t0
              have a4 := oth w7 (w.heap.size + 1) 3 (i * 3) (.int .i64 m.dst) _ heg t3
              have r1 := ownsRow_put o7.out (i * 3) (.int .i64 m.dst)
              obtain ⟨g1, cg1, hv1, _, _, hr1⟩ := row_at r1 (by omega)
              obtain ⟨rfl, rfl⟩ : g = g1 ∧ cg = cg1 := by simpa using hv1
              have z1 := hr1 (i * 3 + 1) _ (by rw [List.getElem?_set_ne (by omega)]; exact q1)
              have z2 := hr1 (i * 3 + 2) _ (by rw [List.getElem?_set_ne (by omega)]; exact q2)
              have r3 := ownsRow_put r1 (i * 3 + 1) (.int .i64 ez)
              have Kg := (Kept.setCell (S := fun j => j = g) w7 ⟨g, i * 3, none⟩ (.int .i64 m.dst) rfl).and (Kept.setCell (S := fun j => j = g) _ ⟨g, i * 3 + 1, none⟩ (.int .i64 ez) rfl)
              have hlist := nl_ft him m ⟨ek, en, et, ez⟩ htx hk3
              have HRow := hid r3
              obtain ⟨n00, n01⟩ := n0
              obtain ⟨z10, z11⟩ := z1
              obtain ⟨z20, z21⟩ := z2
              have HKg := hid Kg
              have HL := hid hlist
              clear hk3 r1 hr1 hv1 n1 n2 oth q0 q1 q2 hrow hrow7 hv' Kg hlist r3
              go_wp2_with fail
              go_ret
              refine ⟨rfl, ⟨F, _, v7, HS7.out.setNodes HKg.out ?_ hap7, HFr.out.1⟩, HFr.out.2.trans HKg.out (fun j h => by subst h; exact HFr.out.1 _ hg7)⟩
              rw [setNode_len]
              have hrw := HRow.out
              rw [← HL.out] at hrw
              exact hrw
            · have e3 : (ek == 3) = false := by simp [hk3]
              have a1 := oth w7 mb 4 (i * 3) (.int .i64 m.dst) _ hmg m4
              have a2 := oth w7 (w.heap.size + 1) 0 (i * 3) (.int .i64 m.dst) _ heg t0
              have r1 := ownsRow_put o7.out (i * 3) (.int .i64 m.dst)
              obtain ⟨g1, cg1, hv1, _, _, hr1⟩ := row_at r1 (by omega)
              obtain ⟨rfl, rfl⟩ : g = g1 ∧ cg = cg1 := by simpa using hv1
              have z1 := hr1 (i * 3 + 1) _ (by rw [List.getElem?_set_ne (by omega)]; exact q1)
              have z2 := hr1 (i * 3 + 2) _ (by rw [List.getElem?_set_ne (by omega)]; exact q2)
              have Kg := Kept.setCell (S := fun j => j = g) w7 ⟨g, i * 3, none⟩ (.int .i64 m.dst) rfl
              have hlist := nl_ff him m ⟨ek, en, et, ez⟩ htx hk3
              have HRow := hid r1
              obtain ⟨n00, n01⟩ := n0
              obtain ⟨z10, z11⟩ := z1
              obtain ⟨z20, z21⟩ := z2
              have HKg := hid Kg
              have HL := hid hlist
              clear hk3 r1 hr1 hv1 n1 n2 oth q0 q1 q2 hrow hrow7 hv' Kg hlist
              go_wp2_with fail
              go_ret
              refine ⟨rfl, ⟨F, _, v7, HS7.out.setNodes HKg.out ?_ hap7, HFr.out.1⟩, HFr.out.2.trans HKg.out (fun j h => by subst h; exact HFr.out.1 _ hg7)⟩
              rw [setNode_len]
              have hrw := HRow.out
              rw [← HL.out] at hrw
              exact hrw
    · have hq : findS ns s.nodes.length en = false := by unfold findS; rw [hf]; exact decide_eq_false him
      have hm : nodeMove ns s ⟨ek, en, et, ez⟩ i = none := by unfold nodeMove; rw [List.getElem?_eq_none (l := s.nodes) (by omega)]; cases ns[i]? <;> rfl
      rw [hf, hq] at hF0
      simp only [Option.getD_some, hm] at hF0 ⊢
      clear hf hq hm
      go_enter Tryd.func49, Tryd.ntmps49
      go_wp2_with fail
      refine wp_onlyN (cn1 _ x0 x1 c0 c1 c2 c3 c4 c5 c6 c7 c8 x2 hF0 ?_)
      intro _ _ _ _ _ _ _ _ _ _ w5 K5
      clear hF0 x0 x1 x2 c0 c1 c2 c3 c4 c5 c6 c7 c8
      go_wp2_with fail
      go_ret
      exact ⟨rfl, HK0.out.and K5⟩

end Go.Proofs.YtfjekjbkifmpfaaDoor

/-
  play's input: its regions that draw their order.
-/
namespace Go.Proofs.YtfjekjbkifmpfaaDoor.Rf
open Go.RowKit

set_option maxRecDepth 100000 in
set_option maxHeartbeats 8000000 in
theorem pl4 {W : World} {pb wb ma mb : Nat} {va vt vb_ vu q0 q1 q2 q3 q4 q5 q6 q7 q8 r0 r1 r2 r3 r4 r5 r6 r7 r8 s0 s1 s2 s3 s4 s5 s6 s7 s8 : Value} {z : Int} {ds : List Deferred} {u1 u2 u3 u4 u14 u15 u16 u17 u18 u19 u20 u21 u22 u23 u24 u25 u26 u27 u28 u29 u30 u31 u32 u33 u34 u35 u36 u37 u38 u39 u40 u41 u42 u43 u44 u45 u46 u47 u48 u49 u50 u51 u52 u53 u54 u55 u56 u57 u58 u59 u60 u61 u62 u63 u64 u65 u66 u67 u68 u69 u70 u71 u72 u73 u74 u75 u76 u77 u78 u79 u80 u81 u82 u83 u84 u85 u86 u87 u88 u89 u90 u91 u92 u93 u94 u95 u96 u97 u98 : Value} (K : Act → World → Prop)
    (x0 : W.cell? ⟨pb, 2, none⟩ = some (q0)) (x1 : W.cell? ⟨pb, 3, none⟩ = some (q1)) (x2 : W.cell? ⟨pb, 4, none⟩ = some (q2)) (x3 : W.cell? ⟨pb, 5, none⟩ = some (q3)) (x4 : W.cell? ⟨pb, 6, none⟩ = some (q4)) (x5 : W.cell? ⟨pb, 7, none⟩ = some (q5)) (x6 : W.cell? ⟨pb, 8, none⟩ = some (q6)) (x7 : W.cell? ⟨pb, 9, none⟩ = some (q7)) (x8 : W.cell? ⟨pb, 10, none⟩ = some (q8)) (x9 : W.cell? ⟨wb, 0, none⟩ = some (q0)) (x10 : W.cell? ⟨wb, 1, none⟩ = some (q1)) (x11 : W.cell? ⟨wb, 2, none⟩ = some (q2)) (x12 : W.cell? ⟨wb, 3, none⟩ = some (q3)) (x13 : W.cell? ⟨wb, 4, none⟩ = some (q4)) (x14 : W.cell? ⟨wb, 5, none⟩ = some (q5)) (x15 : W.cell? ⟨wb, 6, none⟩ = some (q6)) (x16 : W.cell? ⟨wb, 7, none⟩ = some (q7)) (x17 : W.cell? ⟨wb, 8, none⟩ = some (q8)) (x18 : W.cell? ⟨ma, 0, none⟩ = some (r0)) (x19 : W.cell? ⟨ma, 1, none⟩ = some (r1)) (x20 : W.cell? ⟨ma, 2, none⟩ = some (r2)) (x21 : W.cell? ⟨ma, 3, none⟩ = some (r3)) (x22 : W.cell? ⟨ma, 4, none⟩ = some (r4)) (x23 : W.cell? ⟨ma, 5, none⟩ = some (r5)) (x24 : W.cell? ⟨ma, 6, none⟩ = some (r6)) (x25 : W.cell? ⟨ma, 7, none⟩ = some (r7)) (x26 : W.cell? ⟨ma, 8, none⟩ = some (r8)) (x27 : W.cell? ⟨mb, 0, none⟩ = some (s0)) (x28 : W.cell? ⟨mb, 1, none⟩ = some (s1)) (x29 : W.cell? ⟨mb, 2, none⟩ = some (s2)) (x30 : W.cell? ⟨mb, 3, none⟩ = some (s3)) (x31 : W.cell? ⟨mb, 4, none⟩ = some (s4)) (x32 : W.cell? ⟨mb, 5, none⟩ = some (s5)) (x33 : W.cell? ⟨mb, 6, none⟩ = some (s6)) (x34 : W.cell? ⟨mb, 7, none⟩ = some (s7)) (x35 : W.cell? ⟨mb, 8, none⟩ = some (s8))
    (hE : ∀ V, Kept (fun _ => False) W.drew V → Calls Tryd.prog 32 #[va, vb_] V fun e w' => e = .returned (.bool true) ∧ Kept (fun _ => False) V w')
    (hS1 : ∀ V, Kept (fun _ => False) W.drew V → Calls Tryd.prog 15 #[.agg #[r0, r1, r2, r3, r4, r5, r6, r7, r8], .agg #[s0, s1, s2, s3, s4, s5, s6, s7, s8]] V fun e w' => e = .returned (.bool true) ∧ Kept (fun _ => False) V w')
    (hT : ∀ V, Kept (fun _ => False) W.drew V → Calls Tryd.prog 33 #[vt, vu] V fun e w' => e = .returned (.bool true) ∧ Kept (fun _ => False) V w')
    (hS2 : ∀ V, Kept (fun _ => False) W.drew V → Calls Tryd.prog 15 #[.agg #[q0, q1, q2, q3, q4, q5, q6, q7, q8], .agg #[q0, q1, q2, q3, q4, q5, q6, q7, q8]] V fun e w' => e = .returned (.bool true) ∧ Kept (fun _ => False) V w')
    (h : ∀ (v48 v49 v50 v51 v52 v53 v54 v55 v56 v57 v58 v59 v60 v61 v62 v63 v64 v65 v66 v67 v68 v69 v70 v71 v72 v73 v74 v75 v76 : Value) (w5 : World), Kept (fun _ => False) W w5 → K { tmps := #[.pointer (some ⟨pb, 0, none⟩), u1, u2, u3, u4, .pointer (some ⟨wb, 0, none⟩), va, .pointer (some ⟨ma, 0, none⟩), vt, .int .i64 z, vb_, .pointer (some ⟨mb, 0, none⟩), vu, .int .i64 z, u14, u15, u16, u17, u18, u19, u20, u21, u22, u23, u24, u25, u26, u27, u28, u29, u30, u31, u32, u33, u34, u35, u36, u37, u38, u39, u40, u41, u42, u43, u44, u45, u46, u47, v48, v49, v50, v51, v52, v53, v54, v55, v56, v57, v58, v59, v60, v61, v62, v63, v64, v65, v66, v67, v68, v69, v70, v71, v72, v73, v74, v75, v76, .bool false, u78, u79, u80, u81, u82, u83, u84, u85, u86, u87, u88, u89, u90, u91, u92, u93, u94, u95, u96, u97, u98], defers := ds } w5) :
    (Code.region 4 #[{ dst := some 48, op := Op.move (Operand.tmp 9), type := 42, pos := "law.go:63", after := #[], guard := none }, { dst := some 49, op := Op.move (Operand.tmp 13), type := 42, pos := "law.go:63", after := #[], guard := none }, { dst := some 50, op := Op.binOp BinOp.neq 42 (Operand.tmp 48) (Operand.tmp 49) 42, type := 4, pos := "law.go:63", after := #[{ on := 0, ground := Ground.data }, { on := 1, ground := Ground.data }], guard := none }, { dst := some 51, op := Op.move (Operand.tmp 50), type := 4, pos := "law.go:63", after := #[{ on := 2, ground := Ground.data }], guard := none }, { dst := some 52, op := Op.move (Operand.tmp 6), type := 34, pos := "law.go:63", after := #[{ on := 3, ground := Ground.guard }], guard := some (3, false) }, { dst := some 53, op := Op.move (Operand.tmp 10), type := 34, pos := "law.go:63", after := #[{ on := 3, ground := Ground.guard }], guard := some (3, false) }, { dst := some 54, op := Op.call { callee := Callee.value (Operand.func 32), args := #[Operand.tmp 52, Operand.tmp 53], argTypes := #[34, 34] }, type := 4, pos := "law.go:63", after := #[{ on := 4, ground := Ground.data }, { on := 5, ground := Ground.data }, { on := 3, ground := Ground.chain }, { on := 3, ground := Ground.guard }], guard := some (3, false) }, { dst := some 55, op := Op.unOp UnOp.not 4 (Operand.tmp 54), type := 4, pos := "law.go:63", after := #[{ on := 6, ground := Ground.data }, { on := 3, ground := Ground.guard }], guard := some (3, false) }, { dst := some 56, op := Op.pick (Operand.tmp 51) (Operand.const (Value.bool true)) (Operand.tmp 55), type := 4, pos := "law.go:63", after := #[{ on := 3, ground := Ground.data }, { on := 7, ground := Ground.data }], guard := none }, { dst := some 57, op := Op.move (Operand.tmp 56), type := 4, pos := "law.go:63", after := #[{ on := 8, ground := Ground.data }, { on := 6, ground := Ground.chain }], guard := none }, { dst := some 58, op := Op.load 33 (Operand.tmp 7), type := 33, pos := "law.go:63", after := #[{ on := 9, ground := Ground.guard }], guard := some (9, false) }, { dst := some 59, op := Op.load 33 (Operand.tmp 11), type := 33, pos := "law.go:63", after := #[{ on := 9, ground := Ground.guard }], guard := some (9, false) }, { dst := some 60, op := Op.call { callee := Callee.value (Operand.func 15), args := #[Operand.tmp 58, Operand.tmp 59], argTypes := #[33, 33] }, type := 4, pos := "law.go:63", after := #[{ on := 10, ground := Ground.data }, { on := 11, ground := Ground.data }, { on := 9, ground := Ground.chain }, { on := 9, ground := Ground.guard }], guard := some (9, false) }, { dst := some 61, op := Op.unOp UnOp.not 4 (Operand.tmp 60), type := 4, pos := "law.go:63", after := #[{ on := 12, ground := Ground.data }, { on := 9, ground := Ground.guard }], guard := some (9, false) }, { dst := some 62, op := Op.pick (Operand.tmp 57) (Operand.const (Value.bool true)) (Operand.tmp 61), type := 4, pos := "law.go:63", after := #[{ on := 9, ground := Ground.data }, { on := 13, ground := Ground.data }], guard := none }, { dst := some 63, op := Op.move (Operand.tmp 62), type := 4, pos := "law.go:63", after := #[{ on := 14, ground := Ground.data }, { on := 12, ground := Ground.chain }], guard := none }, { dst := some 64, op := Op.move (Operand.tmp 8), type := 56, pos := "law.go:63", after := #[{ on := 15, ground := Ground.guard }], guard := some (15, false) }, { dst := some 65, op := Op.move (Operand.tmp 12), type := 56, pos := "law.go:63", after := #[{ on := 15, ground := Ground.guard }], guard := some (15, false) }, { dst := some 66, op := Op.call { callee := Callee.value (Operand.func 33), args := #[Operand.tmp 64, Operand.tmp 65], argTypes := #[56, 56] }, type := 4, pos := "law.go:63", after := #[{ on := 16, ground := Ground.data }, { on := 17, ground := Ground.data }, { on := 15, ground := Ground.chain }, { on := 15, ground := Ground.guard }], guard := some (15, false) }, { dst := some 67, op := Op.unOp UnOp.not 4 (Operand.tmp 66), type := 4, pos := "law.go:63", after := #[{ on := 18, ground := Ground.data }, { on := 15, ground := Ground.guard }], guard := some (15, false) }, { dst := some 68, op := Op.pick (Operand.tmp 63) (Operand.const (Value.bool true)) (Operand.tmp 67), type := 4, pos := "law.go:63", after := #[{ on := 15, ground := Ground.data }, { on := 19, ground := Ground.data }], guard := none }, { dst := some 69, op := Op.move (Operand.tmp 68), type := 4, pos := "law.go:63", after := #[{ on := 20, ground := Ground.data }, { on := 18, ground := Ground.chain }], guard := none }, { dst := some 70, op := Op.move (Operand.tmp 0), type := 29, pos := "law.go:63", after := #[{ on := 21, ground := Ground.guard }], guard := some (21, false) }, { dst := some 71, op := Op.nilCheck (Operand.tmp 70), type := 0, pos := "law.go:63", after := #[{ on := 22, ground := Ground.data }, { on := 21, ground := Ground.guard }], guard := some (21, false) }, { dst := some 72, op := Op.fieldAddr 36 (Operand.tmp 71) 1, type := 0, pos := "law.go:63", after := #[{ on := 23, ground := Ground.data }, { on := 21, ground := Ground.guard }], guard := some (21, false) }, { dst := some 73, op := Op.load 33 (Operand.tmp 72), type := 33, pos := "law.go:63", after := #[{ on := 24, ground := Ground.data }, { on := 21, ground := Ground.guard }], guard := some (21, false) }, { dst := some 74, op := Op.load 33 (Operand.tmp 5), type := 33, pos := "law.go:63", after := #[{ on := 21, ground := Ground.guard }], guard := some (21, false) }, { dst := some 75, op := Op.call { callee := Callee.value (Operand.func 15), args := #[Operand.tmp 73, Operand.tmp 74], argTypes := #[33, 33] }, type := 4, pos := "law.go:63", after := #[{ on := 25, ground := Ground.data }, { on := 26, ground := Ground.data }, { on := 21, ground := Ground.chain }, { on := 21, ground := Ground.guard }], guard := some (21, false) }, { dst := some 76, op := Op.unOp UnOp.not 4 (Operand.tmp 75), type := 4, pos := "law.go:63", after := #[{ on := 27, ground := Ground.data }, { on := 21, ground := Ground.guard }], guard := some (21, false) }, { dst := some 77, op := Op.pick (Operand.tmp 69) (Operand.const (Value.bool true)) (Operand.tmp 76), type := 4, pos := "law.go:63", after := #[{ on := 21, ground := Ground.data }, { on := 28, ground := Ground.data }], guard := none }] true).wp Tryd.prog (onlyN K) { tmps := #[.pointer (some ⟨pb, 0, none⟩), u1, u2, u3, u4, .pointer (some ⟨wb, 0, none⟩), va, .pointer (some ⟨ma, 0, none⟩), vt, .int .i64 z, vb_, .pointer (some ⟨mb, 0, none⟩), vu, .int .i64 z, u14, u15, u16, u17, u18, u19, u20, u21, u22, u23, u24, u25, u26, u27, u28, u29, u30, u31, u32, u33, u34, u35, u36, u37, u38, u39, u40, u41, u42, u43, u44, u45, u46, u47, u48, u49, u50, u51, u52, u53, u54, u55, u56, u57, u58, u59, u60, u61, u62, u63, u64, u65, u66, u67, u68, u69, u70, u71, u72, u73, u74, u75, u76, u77, u78, u79, u80, u81, u82, u83, u84, u85, u86, u87, u88, u89, u90, u91, u92, u93, u94, u95, u96, u97, u98], defers := ds } W := by
  have HH : Hid _ := h
  have KD := Kept.drew (fun _ => False) W
  have HS : Hid (∀ V, Kept (fun _ => False) W.drew V → V.cell? ⟨pb, 2, none⟩ = some (q0) ∧ V.cell? ⟨pb, 3, none⟩ = some (q1) ∧ V.cell? ⟨pb, 4, none⟩ = some (q2) ∧ V.cell? ⟨pb, 5, none⟩ = some (q3) ∧ V.cell? ⟨pb, 6, none⟩ = some (q4) ∧ V.cell? ⟨pb, 7, none⟩ = some (q5) ∧ V.cell? ⟨pb, 8, none⟩ = some (q6) ∧ V.cell? ⟨pb, 9, none⟩ = some (q7) ∧ V.cell? ⟨pb, 10, none⟩ = some (q8) ∧ V.cell? ⟨wb, 0, none⟩ = some (q0) ∧ V.cell? ⟨wb, 1, none⟩ = some (q1) ∧ V.cell? ⟨wb, 2, none⟩ = some (q2) ∧ V.cell? ⟨wb, 3, none⟩ = some (q3) ∧ V.cell? ⟨wb, 4, none⟩ = some (q4) ∧ V.cell? ⟨wb, 5, none⟩ = some (q5) ∧ V.cell? ⟨wb, 6, none⟩ = some (q6) ∧ V.cell? ⟨wb, 7, none⟩ = some (q7) ∧ V.cell? ⟨wb, 8, none⟩ = some (q8) ∧ V.cell? ⟨ma, 0, none⟩ = some (r0) ∧ V.cell? ⟨ma, 1, none⟩ = some (r1) ∧ V.cell? ⟨ma, 2, none⟩ = some (r2) ∧ V.cell? ⟨ma, 3, none⟩ = some (r3) ∧ V.cell? ⟨ma, 4, none⟩ = some (r4) ∧ V.cell? ⟨ma, 5, none⟩ = some (r5) ∧ V.cell? ⟨ma, 6, none⟩ = some (r6) ∧ V.cell? ⟨ma, 7, none⟩ = some (r7) ∧ V.cell? ⟨ma, 8, none⟩ = some (r8) ∧ V.cell? ⟨mb, 0, none⟩ = some (s0) ∧ V.cell? ⟨mb, 1, none⟩ = some (s1) ∧ V.cell? ⟨mb, 2, none⟩ = some (s2) ∧ V.cell? ⟨mb, 3, none⟩ = some (s3) ∧ V.cell? ⟨mb, 4, none⟩ = some (s4) ∧ V.cell? ⟨mb, 5, none⟩ = some (s5) ∧ V.cell? ⟨mb, 6, none⟩ = some (s6) ∧ V.cell? ⟨mb, 7, none⟩ = some (s7) ∧ V.cell? ⟨mb, 8, none⟩ = some (s8)) := fun V KV => ⟨keepC (KD.and KV) x0 (fun _ _ h => h), keepC (KD.and KV) x1 (fun _ _ h => h), keepC (KD.and KV) x2 (fun _ _ h => h), keepC (KD.and KV) x3 (fun _ _ h => h), keepC (KD.and KV) x4 (fun _ _ h => h), keepC (KD.and KV) x5 (fun _ _ h => h), keepC (KD.and KV) x6 (fun _ _ h => h), keepC (KD.and KV) x7 (fun _ _ h => h), keepC (KD.and KV) x8 (fun _ _ h => h), keepC (KD.and KV) x9 (fun _ _ h => h), keepC (KD.and KV) x10 (fun _ _ h => h), keepC (KD.and KV) x11 (fun _ _ h => h), keepC (KD.and KV) x12 (fun _ _ h => h), keepC (KD.and KV) x13 (fun _ _ h => h), keepC (KD.and KV) x14 (fun _ _ h => h), keepC (KD.and KV) x15 (fun _ _ h => h), keepC (KD.and KV) x16 (fun _ _ h => h), keepC (KD.and KV) x17 (fun _ _ h => h), keepC (KD.and KV) x18 (fun _ _ h => h), keepC (KD.and KV) x19 (fun _ _ h => h), keepC (KD.and KV) x20 (fun _ _ h => h), keepC (KD.and KV) x21 (fun _ _ h => h), keepC (KD.and KV) x22 (fun _ _ h => h), keepC (KD.and KV) x23 (fun _ _ h => h), keepC (KD.and KV) x24 (fun _ _ h => h), keepC (KD.and KV) x25 (fun _ _ h => h), keepC (KD.and KV) x26 (fun _ _ h => h), keepC (KD.and KV) x27 (fun _ _ h => h), keepC (KD.and KV) x28 (fun _ _ h => h), keepC (KD.and KV) x29 (fun _ _ h => h), keepC (KD.and KV) x30 (fun _ _ h => h), keepC (KD.and KV) x31 (fun _ _ h => h), keepC (KD.and KV) x32 (fun _ _ h => h), keepC (KD.and KV) x33 (fun _ _ h => h), keepC (KD.and KV) x34 (fun _ _ h => h), keepC (KD.and KV) x35 (fun _ _ h => h)⟩
  have HKD : Hid (Kept (fun _ => False) W W.drew) := KD
  have hS0 := HS.out W.drew (Kept.refl _ _)
  clear h KD x0 x1 x2 x3 x4 x5 x6 x7 x8 x9 x10 x11 x12 x13 x14 x15 x16 x17 x18 x19 x20 x21 x22 x23 x24 x25 x26 x27 x28 x29 x30 x31 x32 x33 x34 x35
  refine wp_region_held_drew (S := fun V => V.cell? ⟨pb, 2, none⟩ = some (q0) ∧ V.cell? ⟨pb, 3, none⟩ = some (q1) ∧ V.cell? ⟨pb, 4, none⟩ = some (q2) ∧ V.cell? ⟨pb, 5, none⟩ = some (q3) ∧ V.cell? ⟨pb, 6, none⟩ = some (q4) ∧ V.cell? ⟨pb, 7, none⟩ = some (q5) ∧ V.cell? ⟨pb, 8, none⟩ = some (q6) ∧ V.cell? ⟨pb, 9, none⟩ = some (q7) ∧ V.cell? ⟨pb, 10, none⟩ = some (q8) ∧ V.cell? ⟨wb, 0, none⟩ = some (q0) ∧ V.cell? ⟨wb, 1, none⟩ = some (q1) ∧ V.cell? ⟨wb, 2, none⟩ = some (q2) ∧ V.cell? ⟨wb, 3, none⟩ = some (q3) ∧ V.cell? ⟨wb, 4, none⟩ = some (q4) ∧ V.cell? ⟨wb, 5, none⟩ = some (q5) ∧ V.cell? ⟨wb, 6, none⟩ = some (q6) ∧ V.cell? ⟨wb, 7, none⟩ = some (q7) ∧ V.cell? ⟨wb, 8, none⟩ = some (q8) ∧ V.cell? ⟨ma, 0, none⟩ = some (r0) ∧ V.cell? ⟨ma, 1, none⟩ = some (r1) ∧ V.cell? ⟨ma, 2, none⟩ = some (r2) ∧ V.cell? ⟨ma, 3, none⟩ = some (r3) ∧ V.cell? ⟨ma, 4, none⟩ = some (r4) ∧ V.cell? ⟨ma, 5, none⟩ = some (r5) ∧ V.cell? ⟨ma, 6, none⟩ = some (r6) ∧ V.cell? ⟨ma, 7, none⟩ = some (r7) ∧ V.cell? ⟨ma, 8, none⟩ = some (r8) ∧ V.cell? ⟨mb, 0, none⟩ = some (s0) ∧ V.cell? ⟨mb, 1, none⟩ = some (s1) ∧ V.cell? ⟨mb, 2, none⟩ = some (s2) ∧ V.cell? ⟨mb, 3, none⟩ = some (s3) ∧ V.cell? ⟨mb, 4, none⟩ = some (s4) ∧ V.cell? ⟨mb, 5, none⟩ = some (s5) ∧ V.cell? ⟨mb, 6, none⟩ = some (s6) ∧ V.cell? ⟨mb, 7, none⟩ = some (s7) ∧ V.cell? ⟨mb, 8, none⟩ = some (s8)) (by kernel_rfl) hS0 (fun _ => ?_)
  refine wpAnyH_take (i := 0) (oi := { dst := some 48, op := Op.move (Operand.tmp 9), type := 42, pos := "law.go:63", after := #[], guard := none }) (v := ?vv1) rfl (by kernel_rfl) (by kernel_rfl) (by kernel_rfl) (fun _ _ _ h => h) (Or.inl ⟨by rfl, ?hy1⟩) hS0 ?rest1
  case hy1 =>
    intro V hV
    obtain ⟨y0, y1, y2, y3, y4, y5, y6, y7, y8, y9, y10, y11, y12, y13, y14, y15, y16, y17, y18, y19, y20, y21, y22, y23, y24, y25, y26, y27, y28, y29, y30, y31, y32, y33, y34, y35⟩ := hV
    go_simp
    all_goals rfl
  simp only [Act.put, List.setIfInBounds_toArray, List.set_cons_zero, List.set_cons_succ]
  refine wpAnyH_take (i := 1) (oi := { dst := some 49, op := Op.move (Operand.tmp 13), type := 42, pos := "law.go:63", after := #[], guard := none }) (v := ?vv2) rfl (by kernel_rfl) (by kernel_rfl) (by kernel_rfl) (fun _ _ _ h => h) (Or.inl ⟨by rfl, ?hy2⟩) hS0 ?rest2
  case hy2 =>
    intro V hV
    obtain ⟨y0, y1, y2, y3, y4, y5, y6, y7, y8, y9, y10, y11, y12, y13, y14, y15, y16, y17, y18, y19, y20, y21, y22, y23, y24, y25, y26, y27, y28, y29, y30, y31, y32, y33, y34, y35⟩ := hV
    go_simp
    all_goals rfl
  simp only [Act.put, List.setIfInBounds_toArray, List.set_cons_zero, List.set_cons_succ]
  refine wpAnyH_take (i := 2) (oi := { dst := some 50, op := Op.binOp BinOp.neq 42 (Operand.tmp 48) (Operand.tmp 49) 42, type := 4, pos := "law.go:63", after := #[{ on := 0, ground := Ground.data }, { on := 1, ground := Ground.data }], guard := none }) (v := ?vv3) rfl (by kernel_rfl) (by kernel_rfl) (by kernel_rfl) (fun _ _ _ h => h) (Or.inl ⟨by rfl, ?hy3⟩) hS0 ?rest3
  case hy3 =>
    intro V hV
    obtain ⟨y0, y1, y2, y3, y4, y5, y6, y7, y8, y9, y10, y11, y12, y13, y14, y15, y16, y17, y18, y19, y20, y21, y22, y23, y24, y25, y26, y27, y28, y29, y30, y31, y32, y33, y34, y35⟩ := hV
    go_simp
    all_goals rfl
  simp only [Act.put, List.setIfInBounds_toArray, List.set_cons_zero, List.set_cons_succ]
  refine wpAnyH_take (i := 3) (oi := { dst := some 51, op := Op.move (Operand.tmp 50), type := 4, pos := "law.go:63", after := #[{ on := 2, ground := Ground.data }], guard := none }) (v := ?vv4) rfl (by kernel_rfl) (by kernel_rfl) (by kernel_rfl) (fun _ _ _ h => h) (Or.inl ⟨by rfl, ?hy4⟩) hS0 ?rest4
  case hy4 =>
    intro V hV
    obtain ⟨y0, y1, y2, y3, y4, y5, y6, y7, y8, y9, y10, y11, y12, y13, y14, y15, y16, y17, y18, y19, y20, y21, y22, y23, y24, y25, y26, y27, y28, y29, y30, y31, y32, y33, y34, y35⟩ := hV
    go_simp
    all_goals rfl
  simp only [Act.put, List.setIfInBounds_toArray, List.set_cons_zero, List.set_cons_succ]
  refine wpAnyH_take (i := 4) (oi := { dst := some 52, op := Op.move (Operand.tmp 6), type := 34, pos := "law.go:63", after := #[{ on := 3, ground := Ground.guard }], guard := some (3, false) }) (v := ?vv5) rfl (by kernel_rfl) (by kernel_rfl) (by kernel_rfl) (fun _ _ _ h => h) (Or.inl ⟨by rfl, ?hy5⟩) hS0 ?rest5
  case hy5 =>
    intro V hV
    obtain ⟨y0, y1, y2, y3, y4, y5, y6, y7, y8, y9, y10, y11, y12, y13, y14, y15, y16, y17, y18, y19, y20, y21, y22, y23, y24, y25, y26, y27, y28, y29, y30, y31, y32, y33, y34, y35⟩ := hV
    go_simp
    all_goals rfl
  simp only [Act.put, List.setIfInBounds_toArray, List.set_cons_zero, List.set_cons_succ]
  refine wpAnyH_take (i := 5) (oi := { dst := some 53, op := Op.move (Operand.tmp 10), type := 34, pos := "law.go:63", after := #[{ on := 3, ground := Ground.guard }], guard := some (3, false) }) (v := ?vv6) rfl (by kernel_rfl) (by kernel_rfl) (by kernel_rfl) (fun _ _ _ h => h) (Or.inl ⟨by rfl, ?hy6⟩) hS0 ?rest6
  case hy6 =>
    intro V hV
    obtain ⟨y0, y1, y2, y3, y4, y5, y6, y7, y8, y9, y10, y11, y12, y13, y14, y15, y16, y17, y18, y19, y20, y21, y22, y23, y24, y25, y26, y27, y28, y29, y30, y31, y32, y33, y34, y35⟩ := hV
    go_simp
    all_goals rfl
  simp only [Act.put, List.setIfInBounds_toArray, List.set_cons_zero, List.set_cons_succ]
  refine wpAnyH_ready (rs := [6]) (by kernel_rfl) (by simp) (AllReadyH.cons (o := { dst := some 54, op := Op.call { callee := Callee.value (Operand.func 32), args := #[Operand.tmp 52, Operand.tmp 53], argTypes := #[34, 34] }, type := 4, pos := "law.go:63", after := #[{ on := 4, ground := Ground.data }, { on := 5, ground := Ground.data }, { on := 3, ground := Ground.chain }, { on := 3, ground := Ground.guard }], guard := some (3, false) }) rfl (fun K' hK => ?_) AllReadyH.nil)
  refine step_call2 _ (by rfl) 32 _ _ _ _ (by rfl) (enters_of Tryd.func32 (by kernel_rfl) rfl) _ _ (by rfl) (by rfl) (hE _ (Kept.refl (fun _ => False) W.drew)) ?_
  rintro e w21 ⟨rfl, Kw21⟩
  have Lw21 := ((Kept.refl (fun _ => False) W.drew)).and Kw21
  refine ⟨_, rfl, ?_⟩
  refine hK.out _ _ (HS.out _ Lw21) (fun _ => ?_)
  clear hK K'
  try (simp only [Act.put, List.setIfInBounds_toArray, List.set_cons_zero, List.set_cons_succ])
  refine wpAnyH_take (i := 7) (oi := { dst := some 55, op := Op.unOp UnOp.not 4 (Operand.tmp 54), type := 4, pos := "law.go:63", after := #[{ on := 6, ground := Ground.data }, { on := 3, ground := Ground.guard }], guard := some (3, false) }) (v := ?vv7) rfl (by kernel_rfl) (by kernel_rfl) (by kernel_rfl) (fun _ _ _ h => h) (Or.inl ⟨by rfl, ?hy7⟩) (HS.out _ Lw21) ?rest7
  case hy7 =>
    intro V hV
    obtain ⟨y0, y1, y2, y3, y4, y5, y6, y7, y8, y9, y10, y11, y12, y13, y14, y15, y16, y17, y18, y19, y20, y21, y22, y23, y24, y25, y26, y27, y28, y29, y30, y31, y32, y33, y34, y35⟩ := hV
    go_simp
    all_goals rfl
  simp only [Act.put, List.setIfInBounds_toArray, List.set_cons_zero, List.set_cons_succ]
  refine wpAnyH_take (i := 8) (oi := { dst := some 56, op := Op.pick (Operand.tmp 51) (Operand.const (Value.bool true)) (Operand.tmp 55), type := 4, pos := "law.go:63", after := #[{ on := 3, ground := Ground.data }, { on := 7, ground := Ground.data }], guard := none }) (v := ?vv8) rfl (by kernel_rfl) (by kernel_rfl) (by kernel_rfl) (fun _ _ _ h => h) (Or.inl ⟨by rfl, ?hy8⟩) (HS.out _ Lw21) ?rest8
  case hy8 =>
    intro V hV
    obtain ⟨y0, y1, y2, y3, y4, y5, y6, y7, y8, y9, y10, y11, y12, y13, y14, y15, y16, y17, y18, y19, y20, y21, y22, y23, y24, y25, y26, y27, y28, y29, y30, y31, y32, y33, y34, y35⟩ := hV
    go_simp
    all_goals rfl
  simp only [Act.put, List.setIfInBounds_toArray, List.set_cons_zero, List.set_cons_succ]
  refine wpAnyH_take (i := 9) (oi := { dst := some 57, op := Op.move (Operand.tmp 56), type := 4, pos := "law.go:63", after := #[{ on := 8, ground := Ground.data }, { on := 6, ground := Ground.chain }], guard := none }) (v := ?vv9) rfl (by kernel_rfl) (by kernel_rfl) (by kernel_rfl) (fun _ _ _ h => h) (Or.inl ⟨by rfl, ?hy9⟩) (HS.out _ Lw21) ?rest9
  case hy9 =>
    intro V hV
    obtain ⟨y0, y1, y2, y3, y4, y5, y6, y7, y8, y9, y10, y11, y12, y13, y14, y15, y16, y17, y18, y19, y20, y21, y22, y23, y24, y25, y26, y27, y28, y29, y30, y31, y32, y33, y34, y35⟩ := hV
    go_simp
    all_goals rfl
  simp only [Act.put, List.setIfInBounds_toArray, List.set_cons_zero, List.set_cons_succ]
  refine wpAnyH_take (i := 10) (oi := { dst := some 58, op := Op.load 33 (Operand.tmp 7), type := 33, pos := "law.go:63", after := #[{ on := 9, ground := Ground.guard }], guard := some (9, false) }) (v := ?vv10) rfl (by kernel_rfl) (by kernel_rfl) (by kernel_rfl) (fun _ _ _ h => h) (Or.inl ⟨by rfl, ?hy10⟩) (HS.out _ Lw21) ?rest10
  case hy10 =>
    intro V hV
    obtain ⟨y0, y1, y2, y3, y4, y5, y6, y7, y8, y9, y10, y11, y12, y13, y14, y15, y16, y17, y18, y19, y20, y21, y22, y23, y24, y25, y26, y27, y28, y29, y30, y31, y32, y33, y34, y35⟩ := hV
    go_simp
    all_goals rfl
  simp only [Act.put, List.setIfInBounds_toArray, List.set_cons_zero, List.set_cons_succ]
  refine wpAnyH_take (i := 11) (oi := { dst := some 59, op := Op.load 33 (Operand.tmp 11), type := 33, pos := "law.go:63", after := #[{ on := 9, ground := Ground.guard }], guard := some (9, false) }) (v := ?vv11) rfl (by kernel_rfl) (by kernel_rfl) (by kernel_rfl) (fun _ _ _ h => h) (Or.inl ⟨by rfl, ?hy11⟩) (HS.out _ Lw21) ?rest11
  case hy11 =>
    intro V hV
    obtain ⟨y0, y1, y2, y3, y4, y5, y6, y7, y8, y9, y10, y11, y12, y13, y14, y15, y16, y17, y18, y19, y20, y21, y22, y23, y24, y25, y26, y27, y28, y29, y30, y31, y32, y33, y34, y35⟩ := hV
    go_simp
    all_goals rfl
  simp only [Act.put, List.setIfInBounds_toArray, List.set_cons_zero, List.set_cons_succ]
  refine wpAnyH_ready (rs := [12]) (by kernel_rfl) (by simp) (AllReadyH.cons (o := { dst := some 60, op := Op.call { callee := Callee.value (Operand.func 15), args := #[Operand.tmp 58, Operand.tmp 59], argTypes := #[33, 33] }, type := 4, pos := "law.go:63", after := #[{ on := 10, ground := Ground.data }, { on := 11, ground := Ground.data }, { on := 9, ground := Ground.chain }, { on := 9, ground := Ground.guard }], guard := some (9, false) }) rfl (fun K' hK => ?_) AllReadyH.nil)
  refine step_call2 _ (by rfl) 15 _ _ _ _ (by rfl) (enters_of Tryd.func15 (by kernel_rfl) rfl) _ _ (by rfl) (by rfl) (hS1 _ Lw21) ?_
  rintro e w22 ⟨rfl, Kw22⟩
  have Lw22 := (Lw21).and Kw22
  refine ⟨_, rfl, ?_⟩
  refine hK.out _ _ (HS.out _ Lw22) (fun _ => ?_)
  clear hK K'
  try (simp only [Act.put, List.setIfInBounds_toArray, List.set_cons_zero, List.set_cons_succ])
  refine wpAnyH_take (i := 13) (oi := { dst := some 61, op := Op.unOp UnOp.not 4 (Operand.tmp 60), type := 4, pos := "law.go:63", after := #[{ on := 12, ground := Ground.data }, { on := 9, ground := Ground.guard }], guard := some (9, false) }) (v := ?vv12) rfl (by kernel_rfl) (by kernel_rfl) (by kernel_rfl) (fun _ _ _ h => h) (Or.inl ⟨by rfl, ?hy12⟩) (HS.out _ Lw22) ?rest12
  case hy12 =>
    intro V hV
    obtain ⟨y0, y1, y2, y3, y4, y5, y6, y7, y8, y9, y10, y11, y12, y13, y14, y15, y16, y17, y18, y19, y20, y21, y22, y23, y24, y25, y26, y27, y28, y29, y30, y31, y32, y33, y34, y35⟩ := hV
    go_simp
    all_goals rfl
  simp only [Act.put, List.setIfInBounds_toArray, List.set_cons_zero, List.set_cons_succ]
  refine wpAnyH_take (i := 14) (oi := { dst := some 62, op := Op.pick (Operand.tmp 57) (Operand.const (Value.bool true)) (Operand.tmp 61), type := 4, pos := "law.go:63", after := #[{ on := 9, ground := Ground.data }, { on := 13, ground := Ground.data }], guard := none }) (v := ?vv13) rfl (by kernel_rfl) (by kernel_rfl) (by kernel_rfl) (fun _ _ _ h => h) (Or.inl ⟨by rfl, ?hy13⟩) (HS.out _ Lw22) ?rest13
  case hy13 =>
    intro V hV
    obtain ⟨y0, y1, y2, y3, y4, y5, y6, y7, y8, y9, y10, y11, y12, y13, y14, y15, y16, y17, y18, y19, y20, y21, y22, y23, y24, y25, y26, y27, y28, y29, y30, y31, y32, y33, y34, y35⟩ := hV
    go_simp
    all_goals rfl
  simp only [Act.put, List.setIfInBounds_toArray, List.set_cons_zero, List.set_cons_succ]
  refine wpAnyH_take (i := 15) (oi := { dst := some 63, op := Op.move (Operand.tmp 62), type := 4, pos := "law.go:63", after := #[{ on := 14, ground := Ground.data }, { on := 12, ground := Ground.chain }], guard := none }) (v := ?vv14) rfl (by kernel_rfl) (by kernel_rfl) (by kernel_rfl) (fun _ _ _ h => h) (Or.inl ⟨by rfl, ?hy14⟩) (HS.out _ Lw22) ?rest14
  case hy14 =>
    intro V hV
    obtain ⟨y0, y1, y2, y3, y4, y5, y6, y7, y8, y9, y10, y11, y12, y13, y14, y15, y16, y17, y18, y19, y20, y21, y22, y23, y24, y25, y26, y27, y28, y29, y30, y31, y32, y33, y34, y35⟩ := hV
    go_simp
    all_goals rfl
  simp only [Act.put, List.setIfInBounds_toArray, List.set_cons_zero, List.set_cons_succ]
  refine wpAnyH_take (i := 16) (oi := { dst := some 64, op := Op.move (Operand.tmp 8), type := 56, pos := "law.go:63", after := #[{ on := 15, ground := Ground.guard }], guard := some (15, false) }) (v := ?vv15) rfl (by kernel_rfl) (by kernel_rfl) (by kernel_rfl) (fun _ _ _ h => h) (Or.inl ⟨by rfl, ?hy15⟩) (HS.out _ Lw22) ?rest15
  case hy15 =>
    intro V hV
    obtain ⟨y0, y1, y2, y3, y4, y5, y6, y7, y8, y9, y10, y11, y12, y13, y14, y15, y16, y17, y18, y19, y20, y21, y22, y23, y24, y25, y26, y27, y28, y29, y30, y31, y32, y33, y34, y35⟩ := hV
    go_simp
    all_goals rfl
  simp only [Act.put, List.setIfInBounds_toArray, List.set_cons_zero, List.set_cons_succ]
  refine wpAnyH_take (i := 17) (oi := { dst := some 65, op := Op.move (Operand.tmp 12), type := 56, pos := "law.go:63", after := #[{ on := 15, ground := Ground.guard }], guard := some (15, false) }) (v := ?vv16) rfl (by kernel_rfl) (by kernel_rfl) (by kernel_rfl) (fun _ _ _ h => h) (Or.inl ⟨by rfl, ?hy16⟩) (HS.out _ Lw22) ?rest16
  case hy16 =>
    intro V hV
    obtain ⟨y0, y1, y2, y3, y4, y5, y6, y7, y8, y9, y10, y11, y12, y13, y14, y15, y16, y17, y18, y19, y20, y21, y22, y23, y24, y25, y26, y27, y28, y29, y30, y31, y32, y33, y34, y35⟩ := hV
    go_simp
    all_goals rfl
  simp only [Act.put, List.setIfInBounds_toArray, List.set_cons_zero, List.set_cons_succ]
  refine wpAnyH_ready (rs := [18]) (by kernel_rfl) (by simp) (AllReadyH.cons (o := { dst := some 66, op := Op.call { callee := Callee.value (Operand.func 33), args := #[Operand.tmp 64, Operand.tmp 65], argTypes := #[56, 56] }, type := 4, pos := "law.go:63", after := #[{ on := 16, ground := Ground.data }, { on := 17, ground := Ground.data }, { on := 15, ground := Ground.chain }, { on := 15, ground := Ground.guard }], guard := some (15, false) }) rfl (fun K' hK => ?_) AllReadyH.nil)
  refine step_call2 _ (by rfl) 33 _ _ _ _ (by rfl) (enters_of Tryd.func33 (by kernel_rfl) rfl) _ _ (by rfl) (by rfl) (hT _ Lw22) ?_
  rintro e w23 ⟨rfl, Kw23⟩
  have Lw23 := (Lw22).and Kw23
  refine ⟨_, rfl, ?_⟩
  refine hK.out _ _ (HS.out _ Lw23) (fun _ => ?_)
  clear hK K'
  try (simp only [Act.put, List.setIfInBounds_toArray, List.set_cons_zero, List.set_cons_succ])
  refine wpAnyH_take (i := 19) (oi := { dst := some 67, op := Op.unOp UnOp.not 4 (Operand.tmp 66), type := 4, pos := "law.go:63", after := #[{ on := 18, ground := Ground.data }, { on := 15, ground := Ground.guard }], guard := some (15, false) }) (v := ?vv17) rfl (by kernel_rfl) (by kernel_rfl) (by kernel_rfl) (fun _ _ _ h => h) (Or.inl ⟨by rfl, ?hy17⟩) (HS.out _ Lw23) ?rest17
  case hy17 =>
    intro V hV
    obtain ⟨y0, y1, y2, y3, y4, y5, y6, y7, y8, y9, y10, y11, y12, y13, y14, y15, y16, y17, y18, y19, y20, y21, y22, y23, y24, y25, y26, y27, y28, y29, y30, y31, y32, y33, y34, y35⟩ := hV
    go_simp
    all_goals rfl
  simp only [Act.put, List.setIfInBounds_toArray, List.set_cons_zero, List.set_cons_succ]
  refine wpAnyH_take (i := 20) (oi := { dst := some 68, op := Op.pick (Operand.tmp 63) (Operand.const (Value.bool true)) (Operand.tmp 67), type := 4, pos := "law.go:63", after := #[{ on := 15, ground := Ground.data }, { on := 19, ground := Ground.data }], guard := none }) (v := ?vv18) rfl (by kernel_rfl) (by kernel_rfl) (by kernel_rfl) (fun _ _ _ h => h) (Or.inl ⟨by rfl, ?hy18⟩) (HS.out _ Lw23) ?rest18
  case hy18 =>
    intro V hV
    obtain ⟨y0, y1, y2, y3, y4, y5, y6, y7, y8, y9, y10, y11, y12, y13, y14, y15, y16, y17, y18, y19, y20, y21, y22, y23, y24, y25, y26, y27, y28, y29, y30, y31, y32, y33, y34, y35⟩ := hV
    go_simp
    all_goals rfl
  simp only [Act.put, List.setIfInBounds_toArray, List.set_cons_zero, List.set_cons_succ]
  refine wpAnyH_take (i := 21) (oi := { dst := some 69, op := Op.move (Operand.tmp 68), type := 4, pos := "law.go:63", after := #[{ on := 20, ground := Ground.data }, { on := 18, ground := Ground.chain }], guard := none }) (v := ?vv19) rfl (by kernel_rfl) (by kernel_rfl) (by kernel_rfl) (fun _ _ _ h => h) (Or.inl ⟨by rfl, ?hy19⟩) (HS.out _ Lw23) ?rest19
  case hy19 =>
    intro V hV
    obtain ⟨y0, y1, y2, y3, y4, y5, y6, y7, y8, y9, y10, y11, y12, y13, y14, y15, y16, y17, y18, y19, y20, y21, y22, y23, y24, y25, y26, y27, y28, y29, y30, y31, y32, y33, y34, y35⟩ := hV
    go_simp
    all_goals rfl
  simp only [Act.put, List.setIfInBounds_toArray, List.set_cons_zero, List.set_cons_succ]
  refine wpAnyH_take (i := 22) (oi := { dst := some 70, op := Op.move (Operand.tmp 0), type := 29, pos := "law.go:63", after := #[{ on := 21, ground := Ground.guard }], guard := some (21, false) }) (v := ?vv20) rfl (by kernel_rfl) (by kernel_rfl) (by kernel_rfl) (fun _ _ _ h => h) (Or.inl ⟨by rfl, ?hy20⟩) (HS.out _ Lw23) ?rest20
  case hy20 =>
    intro V hV
    obtain ⟨y0, y1, y2, y3, y4, y5, y6, y7, y8, y9, y10, y11, y12, y13, y14, y15, y16, y17, y18, y19, y20, y21, y22, y23, y24, y25, y26, y27, y28, y29, y30, y31, y32, y33, y34, y35⟩ := hV
    go_simp
    all_goals rfl
  simp only [Act.put, List.setIfInBounds_toArray, List.set_cons_zero, List.set_cons_succ]
  refine wpAnyH_take (i := 23) (oi := { dst := some 71, op := Op.nilCheck (Operand.tmp 70), type := 0, pos := "law.go:63", after := #[{ on := 22, ground := Ground.data }, { on := 21, ground := Ground.guard }], guard := some (21, false) }) (v := ?vv21) rfl (by kernel_rfl) (by kernel_rfl) (by kernel_rfl) (fun _ _ _ h => h) (Or.inl ⟨by rfl, ?hy21⟩) (HS.out _ Lw23) ?rest21
  case hy21 =>
    intro V hV
    obtain ⟨y0, y1, y2, y3, y4, y5, y6, y7, y8, y9, y10, y11, y12, y13, y14, y15, y16, y17, y18, y19, y20, y21, y22, y23, y24, y25, y26, y27, y28, y29, y30, y31, y32, y33, y34, y35⟩ := hV
    go_simp
    all_goals rfl
  simp only [Act.put, List.setIfInBounds_toArray, List.set_cons_zero, List.set_cons_succ]
  refine wpAnyH_take (i := 24) (oi := { dst := some 72, op := Op.fieldAddr 36 (Operand.tmp 71) 1, type := 0, pos := "law.go:63", after := #[{ on := 23, ground := Ground.data }, { on := 21, ground := Ground.guard }], guard := some (21, false) }) (v := ?vv22) rfl (by kernel_rfl) (by kernel_rfl) (by kernel_rfl) (fun _ _ _ h => h) (Or.inl ⟨by rfl, ?hy22⟩) (HS.out _ Lw23) ?rest22
  case hy22 =>
    intro V hV
    obtain ⟨y0, y1, y2, y3, y4, y5, y6, y7, y8, y9, y10, y11, y12, y13, y14, y15, y16, y17, y18, y19, y20, y21, y22, y23, y24, y25, y26, y27, y28, y29, y30, y31, y32, y33, y34, y35⟩ := hV
    go_simp
    all_goals rfl
  simp only [Act.put, List.setIfInBounds_toArray, List.set_cons_zero, List.set_cons_succ]
  refine wpAnyH_take (i := 25) (oi := { dst := some 73, op := Op.load 33 (Operand.tmp 72), type := 33, pos := "law.go:63", after := #[{ on := 24, ground := Ground.data }, { on := 21, ground := Ground.guard }], guard := some (21, false) }) (v := ?vv23) rfl (by kernel_rfl) (by kernel_rfl) (by kernel_rfl) (fun _ _ _ h => h) (Or.inl ⟨by rfl, ?hy23⟩) (HS.out _ Lw23) ?rest23
  case hy23 =>
    intro V hV
    obtain ⟨y0, y1, y2, y3, y4, y5, y6, y7, y8, y9, y10, y11, y12, y13, y14, y15, y16, y17, y18, y19, y20, y21, y22, y23, y24, y25, y26, y27, y28, y29, y30, y31, y32, y33, y34, y35⟩ := hV
    go_simp
    all_goals rfl
  simp only [Act.put, List.setIfInBounds_toArray, List.set_cons_zero, List.set_cons_succ]
  refine wpAnyH_take (i := 26) (oi := { dst := some 74, op := Op.load 33 (Operand.tmp 5), type := 33, pos := "law.go:63", after := #[{ on := 21, ground := Ground.guard }], guard := some (21, false) }) (v := ?vv24) rfl (by kernel_rfl) (by kernel_rfl) (by kernel_rfl) (fun _ _ _ h => h) (Or.inl ⟨by rfl, ?hy24⟩) (HS.out _ Lw23) ?rest24
  case hy24 =>
    intro V hV
    obtain ⟨y0, y1, y2, y3, y4, y5, y6, y7, y8, y9, y10, y11, y12, y13, y14, y15, y16, y17, y18, y19, y20, y21, y22, y23, y24, y25, y26, y27, y28, y29, y30, y31, y32, y33, y34, y35⟩ := hV
    go_simp
    all_goals rfl
  simp only [Act.put, List.setIfInBounds_toArray, List.set_cons_zero, List.set_cons_succ]
  refine wpAnyH_ready (rs := [27]) (by kernel_rfl) (by simp) (AllReadyH.cons (o := { dst := some 75, op := Op.call { callee := Callee.value (Operand.func 15), args := #[Operand.tmp 73, Operand.tmp 74], argTypes := #[33, 33] }, type := 4, pos := "law.go:63", after := #[{ on := 25, ground := Ground.data }, { on := 26, ground := Ground.data }, { on := 21, ground := Ground.chain }, { on := 21, ground := Ground.guard }], guard := some (21, false) }) rfl (fun K' hK => ?_) AllReadyH.nil)
  refine step_call2 _ (by rfl) 15 _ _ _ _ (by rfl) (enters_of Tryd.func15 (by kernel_rfl) rfl) _ _ (by rfl) (by rfl) (hS2 _ Lw23) ?_
  rintro e w24 ⟨rfl, Kw24⟩
  have Lw24 := (Lw23).and Kw24
  refine ⟨_, rfl, ?_⟩
  refine hK.out _ _ (HS.out _ Lw24) (fun _ => ?_)
  clear hK K'
  try (simp only [Act.put, List.setIfInBounds_toArray, List.set_cons_zero, List.set_cons_succ])
  refine wpAnyH_take (i := 28) (oi := { dst := some 76, op := Op.unOp UnOp.not 4 (Operand.tmp 75), type := 4, pos := "law.go:63", after := #[{ on := 27, ground := Ground.data }, { on := 21, ground := Ground.guard }], guard := some (21, false) }) (v := ?vv25) rfl (by kernel_rfl) (by kernel_rfl) (by kernel_rfl) (fun _ _ _ h => h) (Or.inl ⟨by rfl, ?hy25⟩) (HS.out _ Lw24) ?rest25
  case hy25 =>
    intro V hV
    obtain ⟨y0, y1, y2, y3, y4, y5, y6, y7, y8, y9, y10, y11, y12, y13, y14, y15, y16, y17, y18, y19, y20, y21, y22, y23, y24, y25, y26, y27, y28, y29, y30, y31, y32, y33, y34, y35⟩ := hV
    go_simp
    all_goals rfl
  simp only [Act.put, List.setIfInBounds_toArray, List.set_cons_zero, List.set_cons_succ]
  refine wpAnyH_take (i := 29) (oi := { dst := some 77, op := Op.pick (Operand.tmp 69) (Operand.const (Value.bool true)) (Operand.tmp 76), type := 4, pos := "law.go:63", after := #[{ on := 21, ground := Ground.data }, { on := 28, ground := Ground.data }], guard := none }) (v := ?vv26) rfl (by kernel_rfl) (by kernel_rfl) (by kernel_rfl) (fun _ _ _ h => h) (Or.inl ⟨by rfl, ?hy26⟩) (HS.out _ Lw24) ?rest26
  case hy26 =>
    intro V hV
    obtain ⟨y0, y1, y2, y3, y4, y5, y6, y7, y8, y9, y10, y11, y12, y13, y14, y15, y16, y17, y18, y19, y20, y21, y22, y23, y24, y25, y26, y27, y28, y29, y30, y31, y32, y33, y34, y35⟩ := hV
    go_simp
    all_goals rfl
  simp only [Act.put, List.setIfInBounds_toArray, List.set_cons_zero, List.set_cons_succ]
  refine wpAnyH_done (by kernel_rfl) ?_ _
  exact HH.out _ _ _ _ _ _ _ _ _ _ _ _ _ _ _ _ _ _ _ _ _ _ _ _ _ _ _ _ _ _ (HKD.out.and (Lw24))

end Go.Proofs.YtfjekjbkifmpfaaDoor.Rf
