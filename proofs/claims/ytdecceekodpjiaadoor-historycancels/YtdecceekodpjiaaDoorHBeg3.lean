/-
  beginChild: its region that draws its order.
-/
import Derived.Test.YtdecceekodpjiaaDoorHBreak
namespace Go.Proofs.YtdecceekodpjiaaDoor
open Go.RowKit

theorem thirteenF {w : World} {b : Nat} {T : TypeId} {u0 u1 u2 u3 u4 u5 u6 u7 u8 u9 u10 u11 u12 : Value} (h : w.heap[b]? = some (.cells #[u0, u1, u2, u3, u4, u5, u6, u7, u8, u9, u10, u11, u12] T (0, 0))) : (w.cell? ⟨b, 0, none⟩ = some u0 ∧ w.cell? ⟨b, 1, none⟩ = some u1 ∧ w.cell? ⟨b, 2, none⟩ = some u2 ∧ w.cell? ⟨b, 3, none⟩ = some u3 ∧ w.cell? ⟨b, 4, none⟩ = some u4 ∧ w.cell? ⟨b, 5, none⟩ = some u5 ∧ w.cell? ⟨b, 6, none⟩ = some u6 ∧ w.cell? ⟨b, 7, none⟩ = some u7 ∧ w.cell? ⟨b, 8, none⟩ = some u8 ∧ w.cell? ⟨b, 9, none⟩ = some u9 ∧ w.cell? ⟨b, 10, none⟩ = some u10 ∧ w.cell? ⟨b, 11, none⟩ = some u11 ∧ w.cell? ⟨b, 12, none⟩ = some u12) ∧ (w.frozen? ⟨b, 0, none⟩ = false ∧ w.frozen? ⟨b, 1, none⟩ = false ∧ w.frozen? ⟨b, 2, none⟩ = false ∧ w.frozen? ⟨b, 3, none⟩ = false ∧ w.frozen? ⟨b, 4, none⟩ = false ∧ w.frozen? ⟨b, 5, none⟩ = false ∧ w.frozen? ⟨b, 6, none⟩ = false ∧ w.frozen? ⟨b, 7, none⟩ = false ∧ w.frozen? ⟨b, 8, none⟩ = false ∧ w.frozen? ⟨b, 9, none⟩ = false ∧ w.frozen? ⟨b, 10, none⟩ = false ∧ w.frozen? ⟨b, 11, none⟩ = false ∧ w.frozen? ⟨b, 12, none⟩ = false) := by
  simp [World.cell?, World.frozen?, h]

theorem put13 {w : World} {b : Nat} {T : TypeId} {u0 u1 u2 u3 u4 u5 u6 u7 u8 u9 u10 u11 u12 : Value} (h : w.heap[b]? = some (.cells #[u0, u1, u2, u3, u4, u5, u6, u7, u8, u9, u10, u11, u12] T (0, 0))) (y0 y1 y2 y3 y4 y5 y6 y7 y8 y9 y10 y11 y12 : Value) : (((((((((((((w.setCell ⟨b, 0, none⟩ (y0)).setCell ⟨b, 1, none⟩ (y1)).setCell ⟨b, 2, none⟩ (y2)).setCell ⟨b, 3, none⟩ (y3)).setCell ⟨b, 4, none⟩ (y4)).setCell ⟨b, 5, none⟩ (y5)).setCell ⟨b, 6, none⟩ (y6)).setCell ⟨b, 7, none⟩ (y7)).setCell ⟨b, 8, none⟩ (y8)).setCell ⟨b, 9, none⟩ (y9)).setCell ⟨b, 10, none⟩ (y10)).setCell ⟨b, 11, none⟩ (y11)).setCell ⟨b, 12, none⟩ (y12)).heap[b]? = some (.cells #[y0, y1, y2, y3, y4, y5, y6, y7, y8, y9, y10, y11, y12] T (0, 0)) := by
  simp [World.setCell, Array.getElem?_modify, h]

theorem kept13 {S : Nat → Prop} (w : World) {b : Nat} (h : S b) (y0 y1 y2 y3 y4 y5 y6 y7 y8 y9 y10 y11 y12 : Value) : Kept S w (((((((((((((w.setCell ⟨b, 0, none⟩ (y0)).setCell ⟨b, 1, none⟩ (y1)).setCell ⟨b, 2, none⟩ (y2)).setCell ⟨b, 3, none⟩ (y3)).setCell ⟨b, 4, none⟩ (y4)).setCell ⟨b, 5, none⟩ (y5)).setCell ⟨b, 6, none⟩ (y6)).setCell ⟨b, 7, none⟩ (y7)).setCell ⟨b, 8, none⟩ (y8)).setCell ⟨b, 9, none⟩ (y9)).setCell ⟨b, 10, none⟩ (y10)).setCell ⟨b, 11, none⟩ (y11)).setCell ⟨b, 12, none⟩ (y12)) :=
  ((((((((((((Kept.setCell (S := S) w _ y0 h).and (Kept.setCell (S := S) _ _ y1 h)).and (Kept.setCell (S := S) _ _ y2 h)).and (Kept.setCell (S := S) _ _ y3 h)).and (Kept.setCell (S := S) _ _ y4 h)).and (Kept.setCell (S := S) _ _ y5 h)).and (Kept.setCell (S := S) _ _ y6 h)).and (Kept.setCell (S := S) _ _ y7 h)).and (Kept.setCell (S := S) _ _ y8 h)).and (Kept.setCell (S := S) _ _ y9 h)).and (Kept.setCell (S := S) _ _ y10 h)).and (Kept.setCell (S := S) _ _ y11 h)).and (Kept.setCell (S := S) _ _ y12 h)

set_option maxRecDepth 100000 in
set_option maxHeartbeats 8000000 in
theorem bc3 {W : World} {sb nb : Nat} {t : Tk} {x y arg : ByteArray} {ds : List Deferred} {u1 u2 u4 u5 u6 u7 u8 u9 u10 u11 u12 u13 u14 u15 u16 u17 u18 u19 u20 u21 u22 u23 u24 u25 u26 u27 u28 u29 u30 u31 u32 u33 u34 u35 u36 u37 u38 : Value} (K : Act → World → Prop)
    (x0 : W.cell? ⟨nb, 0, none⟩ = some (.string x)) (x1 : W.cell? ⟨nb, 2, none⟩ = some (.string arg))
    (hN : ∀ V, Kept (fun _ => False) W.drew V → Calls Tryd.prog 57 #[.pointer (some ⟨sb, 0, none⟩), .string x] V fun e w' => e = .returned (.string y) ∧ w' = V)
    (hC : ∀ V, Kept (fun _ => False) W.drew V → Calls Tryd.prog 56 #[.pointer (some ⟨sb, 0, none⟩), .agg #[.int .i64 1, .string y, .string ⟨#[]⟩, .string x, .string arg, .string ⟨#[]⟩, .int .i64 0]] V fun e w' => e = .returned (.agg #[.int .i64 t.kind, .complex .f64 0 0, .string t.flow, .string t.node, .int .i64 t.tr, .int .i64 t.tm, .int .i64 t.mail.kind, .string t.mail.dst, .string t.mail.src, .string t.mail.node, .string t.mail.name, .string t.mail.text, .int .i64 t.mail.status]) ∧ Kept (fun _ => False) V w')
    (h : ∀ (v21 v22 v23 v24 v25 v26 v27 v28 v29 v30 v31 : Value) (mb : Nat) (W' : World), W.heap.size ≤ mb → W'.heap[mb]? = some (.cells #[.int .i64 t.kind, .complex .f64 0 0, .string t.flow, .string t.node, .int .i64 t.tr, .int .i64 t.tm, .int .i64 t.mail.kind, .string t.mail.dst, .string t.mail.src, .string t.mail.node, .string t.mail.name, .string t.mail.text, .int .i64 t.mail.status] 50 (0, 0)) → Kept (fun _ => False) W W' → K { tmps := #[.pointer (some ⟨sb, 0, none⟩), u1, u2, .pointer (some ⟨nb, 0, none⟩), .pointer (some ⟨mb, 0, none⟩), u5, u6, u7, u8, u9, u10, u11, u12, u13, u14, u15, u16, u17, u18, u19, u20, v21, v22, v23, v24, v25, v26, v27, v28, v29, v30, v31, u32, u33, u34, u35, u36, u37, u38], defers := ds } W') :
    (Code.region 3 #[{ dst := some 21, op := Op.move (Operand.tmp 0), type := 70, pos := "goon.go:74", after := #[], guard := none }, { dst := some 22, op := Op.move (Operand.tmp 0), type := 70, pos := "goon.go:74", after := #[], guard := none }, { dst := some 23, op := Op.fieldAddr 32 (Operand.tmp 3) 0, type := 0, pos := "goon.go:74", after := #[], guard := none }, { dst := some 24, op := Op.load 9 (Operand.tmp 23), type := 9, pos := "goon.go:74", after := #[{ on := 2, ground := Ground.data }], guard := none }, { dst := some 25, op := Op.call { callee := Callee.value (Operand.func 57), args := #[Operand.tmp 22, Operand.tmp 24], argTypes := #[70, 9] }, type := 9, pos := "goon.go:74", after := #[{ on := 1, ground := Ground.data }, { on := 3, ground := Ground.data }], guard := none }, { dst := some 26, op := Op.fieldAddr 32 (Operand.tmp 3) 0, type := 0, pos := "goon.go:74", after := #[], guard := none }, { dst := some 27, op := Op.load 9 (Operand.tmp 26), type := 9, pos := "goon.go:74", after := #[{ on := 5, ground := Ground.data }], guard := none }, { dst := some 28, op := Op.fieldAddr 32 (Operand.tmp 3) 2, type := 0, pos := "goon.go:74", after := #[], guard := none }, { dst := some 29, op := Op.load 9 (Operand.tmp 28), type := 9, pos := "goon.go:74", after := #[{ on := 7, ground := Ground.data }], guard := none }, { dst := some 30, op := Op.build 48 #[(0, Operand.const (Value.int IntKind.i64 1)), (1, Operand.tmp 25), (3, Operand.tmp 27), (4, Operand.tmp 29)], type := 48, pos := "goon.go:74", after := #[{ on := 4, ground := Ground.data }, { on := 6, ground := Ground.data }, { on := 8, ground := Ground.data }], guard := none }, { dst := some 31, op := Op.call { callee := Callee.value (Operand.func 56), args := #[Operand.tmp 21, Operand.tmp 30], argTypes := #[70, 48] }, type := 50, pos := "goon.go:74", after := #[{ on := 0, ground := Ground.data }, { on := 9, ground := Ground.data }, { on := 4, ground := Ground.chain }], guard := none }, { dst := some 4, op := Op.alloc 50, type := 0, pos := "goon.go:74", after := #[], guard := none }, { dst := none, op := Op.store 50 (Operand.tmp 4) (Operand.tmp 31), type := 0, pos := "goon.go:74", after := #[{ on := 11, ground := Ground.data }, { on := 10, ground := Ground.data }, { on := 10, ground := Ground.chain }, { on := 0, ground := Ground.phase }, { on := 1, ground := Ground.phase }, { on := 2, ground := Ground.phase }, { on := 3, ground := Ground.phase }, { on := 4, ground := Ground.phase }, { on := 5, ground := Ground.phase }, { on := 6, ground := Ground.phase }, { on := 7, ground := Ground.phase }, { on := 8, ground := Ground.phase }, { on := 9, ground := Ground.phase }, { on := 10, ground := Ground.phase }, { on := 11, ground := Ground.phase }], guard := none }] true).wp Tryd.prog (onlyN K) { tmps := #[.pointer (some ⟨sb, 0, none⟩), u1, u2, .pointer (some ⟨nb, 0, none⟩), u4, u5, u6, u7, u8, u9, u10, u11, u12, u13, u14, u15, u16, u17, u18, u19, u20, u21, u22, u23, u24, u25, u26, u27, u28, u29, u30, u31, u32, u33, u34, u35, u36, u37, u38], defers := ds } W := by
  have HH : Hid _ := h
  have KD := Kept.drew (fun _ => False) W
  have HS : Hid (∀ V, Kept (fun _ => False) W.drew V → V.cell? ⟨nb, 0, none⟩ = some (.string x) ∧ V.cell? ⟨nb, 2, none⟩ = some (.string arg)) := fun V KV => ⟨keepC (KD.and KV) x0 (fun _ _ h => h), keepC (KD.and KV) x1 (fun _ _ h => h)⟩
  have HKD : Hid (Kept (fun _ => False) W W.drew) := KD
  have hS0 := HS.out W.drew (Kept.refl _ _)
  have hst := fun (W : World) (a : Addr) (x y : Nat) (m : Mode) => run_store Tryd.prog W a (.complex .f64 x y) m rfl
  clear h KD x0 x1
  refine wp_region_held_drew (S := fun V => V.cell? ⟨nb, 0, none⟩ = some (.string x) ∧ V.cell? ⟨nb, 2, none⟩ = some (.string arg)) (by kernel_rfl) hS0 (fun _ => ?_)
  generalize W.drew = V0 at *
  refine wpAnyH_take (i := 0) (oi := { dst := some 21, op := Op.move (Operand.tmp 0), type := 70, pos := "goon.go:74", after := #[], guard := none }) (v := ?vv1) rfl (by kernel_rfl) (by kernel_rfl) (by kernel_rfl) (fun _ _ _ h => h) (Or.inl ⟨by rfl, ?hy1⟩) hS0 ?rest1
  case hy1 =>
    intro V hV
    obtain ⟨y0, y1⟩ := hV
    go_simp
    all_goals rfl
  simp only [Act.put, List.setIfInBounds_toArray, List.set_cons_zero, List.set_cons_succ]
  refine wpAnyH_take (i := 1) (oi := { dst := some 22, op := Op.move (Operand.tmp 0), type := 70, pos := "goon.go:74", after := #[], guard := none }) (v := ?vv2) rfl (by kernel_rfl) (by kernel_rfl) (by kernel_rfl) (fun _ _ _ h => h) (Or.inl ⟨by rfl, ?hy2⟩) hS0 ?rest2
  case hy2 =>
    intro V hV
    obtain ⟨y0, y1⟩ := hV
    go_simp
    all_goals rfl
  simp only [Act.put, List.setIfInBounds_toArray, List.set_cons_zero, List.set_cons_succ]
  refine wpAnyH_take (i := 2) (oi := { dst := some 23, op := Op.fieldAddr 32 (Operand.tmp 3) 0, type := 0, pos := "goon.go:74", after := #[], guard := none }) (v := ?vv3) rfl (by kernel_rfl) (by kernel_rfl) (by kernel_rfl) (fun _ _ _ h => h) (Or.inl ⟨by rfl, ?hy3⟩) hS0 ?rest3
  case hy3 =>
    intro V hV
    obtain ⟨y0, y1⟩ := hV
    go_simp
    all_goals rfl
  simp only [Act.put, List.setIfInBounds_toArray, List.set_cons_zero, List.set_cons_succ]
  refine wpAnyH_take (i := 3) (oi := { dst := some 24, op := Op.load 9 (Operand.tmp 23), type := 9, pos := "goon.go:74", after := #[{ on := 2, ground := Ground.data }], guard := none }) (v := ?vv4) rfl (by kernel_rfl) (by kernel_rfl) (by kernel_rfl) (fun _ _ _ h => h) (Or.inl ⟨by rfl, ?hy4⟩) hS0 ?rest4
  case hy4 =>
    intro V hV
    obtain ⟨y0, y1⟩ := hV
    go_simp
    all_goals rfl
  simp only [Act.put, List.setIfInBounds_toArray, List.set_cons_zero, List.set_cons_succ]
  refine wpAnyH_take (i := 5) (oi := { dst := some 26, op := Op.fieldAddr 32 (Operand.tmp 3) 0, type := 0, pos := "goon.go:74", after := #[], guard := none }) (v := ?vv5) rfl (by kernel_rfl) (by kernel_rfl) (by kernel_rfl) (fun _ _ _ h => h) (Or.inl ⟨by rfl, ?hy5⟩) hS0 ?rest5
  case hy5 =>
    intro V hV
    obtain ⟨y0, y1⟩ := hV
    go_simp
    all_goals rfl
  simp only [Act.put, List.setIfInBounds_toArray, List.set_cons_zero, List.set_cons_succ]
  refine wpAnyH_take (i := 6) (oi := { dst := some 27, op := Op.load 9 (Operand.tmp 26), type := 9, pos := "goon.go:74", after := #[{ on := 5, ground := Ground.data }], guard := none }) (v := ?vv6) rfl (by kernel_rfl) (by kernel_rfl) (by kernel_rfl) (fun _ _ _ h => h) (Or.inl ⟨by rfl, ?hy6⟩) hS0 ?rest6
  case hy6 =>
    intro V hV
    obtain ⟨y0, y1⟩ := hV
    go_simp
    all_goals rfl
  simp only [Act.put, List.setIfInBounds_toArray, List.set_cons_zero, List.set_cons_succ]
  refine wpAnyH_take (i := 7) (oi := { dst := some 28, op := Op.fieldAddr 32 (Operand.tmp 3) 2, type := 0, pos := "goon.go:74", after := #[], guard := none }) (v := ?vv7) rfl (by kernel_rfl) (by kernel_rfl) (by kernel_rfl) (fun _ _ _ h => h) (Or.inl ⟨by rfl, ?hy7⟩) hS0 ?rest7
  case hy7 =>
    intro V hV
    obtain ⟨y0, y1⟩ := hV
    go_simp
    all_goals rfl
  simp only [Act.put, List.setIfInBounds_toArray, List.set_cons_zero, List.set_cons_succ]
  refine wpAnyH_take (i := 8) (oi := { dst := some 29, op := Op.load 9 (Operand.tmp 28), type := 9, pos := "goon.go:74", after := #[{ on := 7, ground := Ground.data }], guard := none }) (v := ?vv8) rfl (by kernel_rfl) (by kernel_rfl) (by kernel_rfl) (fun _ _ _ h => h) (Or.inl ⟨by rfl, ?hy8⟩) hS0 ?rest8
  case hy8 =>
    intro V hV
    obtain ⟨y0, y1⟩ := hV
    go_simp
    all_goals rfl
  simp only [Act.put, List.setIfInBounds_toArray, List.set_cons_zero, List.set_cons_succ]
  refine wpAnyH_ready (rs := [4, 11]) (by kernel_rfl) (by simp) (AllReadyH.cons (o := { dst := some 25, op := Op.call { callee := Callee.value (Operand.func 57), args := #[Operand.tmp 22, Operand.tmp 24], argTypes := #[70, 9] }, type := 9, pos := "goon.go:74", after := #[{ on := 1, ground := Ground.data }, { on := 3, ground := Ground.data }], guard := none }) rfl (fun K' hK => ?_) (AllReadyH.cons (o := { dst := some 4, op := Op.alloc 50, type := 0, pos := "goon.go:74", after := #[], guard := none }) rfl (fun K' hK => ?_) AllReadyH.nil))
  · refine step_call2 _ (by rfl) 57 _ _ _ _ (by rfl) (enters_of Tryd.func57 (by kernel_rfl) rfl) _ _ (by rfl) (by rfl) (hN _ (Kept.refl (fun _ => False) V0)) ?_
    rintro e w3 ⟨rfl, hw3⟩
    subst w3
    refine ⟨_, rfl, ?_⟩
    refine hK.out _ _ hS0 (fun _ => ?_)
    clear hK K'
    try (simp only [Act.put, List.setIfInBounds_toArray, List.set_cons_zero, List.set_cons_succ])
    refine wpAnyH_take (i := 9) (oi := { dst := some 30, op := Op.build 48 #[(0, Operand.const (Value.int IntKind.i64 1)), (1, Operand.tmp 25), (3, Operand.tmp 27), (4, Operand.tmp 29)], type := 48, pos := "goon.go:74", after := #[{ on := 4, ground := Ground.data }, { on := 6, ground := Ground.data }, { on := 8, ground := Ground.data }], guard := none }) (v := ?vv9) rfl (by kernel_rfl) (by kernel_rfl) (by kernel_rfl) (fun _ _ _ h => h) (Or.inl ⟨by rfl, ?hy9⟩) hS0 ?rest9
    case hy9 =>
      intro V hV
      obtain ⟨y0, y1⟩ := hV
      go_simp
      all_goals rfl
    simp only [Act.put, List.setIfInBounds_toArray, List.set_cons_zero, List.set_cons_succ]
    refine wpAnyH_ready (rs := [10, 11]) (by kernel_rfl) (by simp) (AllReadyH.cons (o := { dst := some 31, op := Op.call { callee := Callee.value (Operand.func 56), args := #[Operand.tmp 21, Operand.tmp 30], argTypes := #[70, 48] }, type := 50, pos := "goon.go:74", after := #[{ on := 0, ground := Ground.data }, { on := 9, ground := Ground.data }, { on := 4, ground := Ground.chain }], guard := none }) rfl (fun K' hK => ?_) (AllReadyH.cons (o := { dst := some 4, op := Op.alloc 50, type := 0, pos := "goon.go:74", after := #[], guard := none }) rfl (fun K' hK => ?_) AllReadyH.nil))
    · refine step_call2 _ (by rfl) 56 _ _ _ _ (by rfl) (enters_of Tryd.func56 (by kernel_rfl) rfl) _ _ (by rfl) (by rfl) (hC _ (Kept.refl (fun _ => False) V0)) ?_
      rintro e w5 ⟨rfl, K5⟩
      have K6 := ((Kept.refl (fun _ => False) V0)).and K5
      refine ⟨_, rfl, ?_⟩
      refine hK.out _ _ (HS.out _ K6) (fun _ => ?_)
      clear K5
      clear hK K'
      try (simp only [Act.put, List.setIfInBounds_toArray, List.set_cons_zero, List.set_cons_succ])
      refine wpAnyH_ready (rs := [11]) (by kernel_rfl) (by simp) (AllReadyH.cons (o := { dst := some 4, op := Op.alloc 50, type := 0, pos := "goon.go:74", after := #[], guard := none }) rfl (fun K' hK => ?_) AllReadyH.nil)
      have hmb : ((w5).alloc (.cells #[.int .i64 0, .complex .f64 0 0, .string ⟨#[]⟩, .string ⟨#[]⟩, .int .i64 0, .int .i64 0, .int .i64 0, .string ⟨#[]⟩, .string ⟨#[]⟩, .string ⟨#[]⟩, .string ⟨#[]⟩, .string ⟨#[]⟩, .int .i64 0] 50)).heap[(w5).heap.size]? = some (.cells #[.int .i64 0, .complex .f64 0 0, .string ⟨#[]⟩, .string ⟨#[]⟩, .int .i64 0, .int .i64 0, .int .i64 0, .string ⟨#[]⟩, .string ⟨#[]⟩, .string ⟨#[]⟩, .string ⟨#[]⟩, .string ⟨#[]⟩, .int .i64 0] 50 (0, 0)) := heap_alloc_new _ _
      have hz : V0.heap.size ≤ (w5).heap.size := (K6).size
      have KA : Kept (fun _ => False) V0 ((w5).alloc (.cells #[.int .i64 0, .complex .f64 0 0, .string ⟨#[]⟩, .string ⟨#[]⟩, .int .i64 0, .int .i64 0, .int .i64 0, .string ⟨#[]⟩, .string ⟨#[]⟩, .string ⟨#[]⟩, .string ⟨#[]⟩, .string ⟨#[]⟩, .int .i64 0] 50)) := (K6).and (Kept.alloc _ _ _)
      go_simp
      refine hK.out _ _ (HS.out _ KA) (fun _ => ?_)
      generalize (w5).alloc (.cells #[.int .i64 0, .complex .f64 0 0, .string ⟨#[]⟩, .string ⟨#[]⟩, .int .i64 0, .int .i64 0, .int .i64 0, .string ⟨#[]⟩, .string ⟨#[]⟩, .string ⟨#[]⟩, .string ⟨#[]⟩, .string ⟨#[]⟩, .int .i64 0] 50) = V6 at *
      obtain ⟨mb, hmbe⟩ : ∃ mb, mb = (w5).heap.size := ⟨_, rfl⟩
      rw [← hmbe] at hmb ⊢
      have hz2 : V0.heap.size ≤ mb := by rw [hmbe]; exact hz
      clear hz
      have hz := hz2
      clear hz2
      clear hmbe
      clear hK K'
      try (simp only [Act.put, List.setIfInBounds_toArray, List.set_cons_zero, List.set_cons_succ])
      refine wpAnyH_ready (rs := [12]) (by kernel_rfl) (by simp) (AllReadyH.cons (o := { dst := none, op := Op.store 50 (Operand.tmp 4) (Operand.tmp 31), type := 0, pos := "goon.go:74", after := #[{ on := 11, ground := Ground.data }, { on := 10, ground := Ground.data }, { on := 10, ground := Ground.chain }, { on := 0, ground := Ground.phase }, { on := 1, ground := Ground.phase }, { on := 2, ground := Ground.phase }, { on := 3, ground := Ground.phase }, { on := 4, ground := Ground.phase }, { on := 5, ground := Ground.phase }, { on := 6, ground := Ground.phase }, { on := 7, ground := Ground.phase }, { on := 8, ground := Ground.phase }, { on := 9, ground := Ground.phase }, { on := 10, ground := Ground.phase }, { on := 11, ground := Ground.phase }], guard := none }) rfl (fun K' hK => ?_) AllReadyH.nil)
      obtain ⟨⟨p0, p1, p2, p3, p4, p5, p6, p7, p8, p9, p10, p11, p12⟩, f0, f1, f2, f3, f4, f5, f6, f7, f8, f9, f10, f11, f12⟩ := thirteenF hmb
      have HM := hid (put13 hmb (.int .i64 t.kind) (.complex .f64 0 0) (.string t.flow) (.string t.node) (.int .i64 t.tr) (.int .i64 t.tm) (.int .i64 t.mail.kind) (.string t.mail.dst) (.string t.mail.src) (.string t.mail.node) (.string t.mail.name) (.string t.mail.text) (.int .i64 t.mail.status))
      have KS := kept13 (S := fun j => j = mb) V6 rfl (.int .i64 t.kind) (.complex .f64 0 0) (.string t.flow) (.string t.node) (.int .i64 t.tr) (.int .i64 t.tm) (.int .i64 t.mail.kind) (.string t.mail.dst) (.string t.mail.src) (.string t.mail.node) (.string t.mail.name) (.string t.mail.text) (.int .i64 t.mail.status)
      have KF := (KA).trans KS (fun j h => .inr (by subst h; exact hz))
      go_simp
      refine hK.out _ _ (HS.out _ KF) (fun _ => ?_)
      have HKF := hid (HKD.out.and KF)
      clear p0 p1 p2 p3 p4 p5 p6 p7 p8 p9 p10 p11 p12 f0 f1 f2 f3 f4 f5 f6 f7 f8 f9 f10 f11 f12 KS
      clear hK K'
      try (simp only [Act.put, List.setIfInBounds_toArray, List.set_cons_zero, List.set_cons_succ])
      refine wpAnyH_done (by kernel_rfl) ?_ _
      exact HH.out _ _ _ _ _ _ _ _ _ _ _ mb _ (Nat.le_trans HKD.out.size hz) HM.out HKF.out
    · have hmb : ((V0).alloc (.cells #[.int .i64 0, .complex .f64 0 0, .string ⟨#[]⟩, .string ⟨#[]⟩, .int .i64 0, .int .i64 0, .int .i64 0, .string ⟨#[]⟩, .string ⟨#[]⟩, .string ⟨#[]⟩, .string ⟨#[]⟩, .string ⟨#[]⟩, .int .i64 0] 50)).heap[(V0).heap.size]? = some (.cells #[.int .i64 0, .complex .f64 0 0, .string ⟨#[]⟩, .string ⟨#[]⟩, .int .i64 0, .int .i64 0, .int .i64 0, .string ⟨#[]⟩, .string ⟨#[]⟩, .string ⟨#[]⟩, .string ⟨#[]⟩, .string ⟨#[]⟩, .int .i64 0] 50 (0, 0)) := heap_alloc_new _ _
      have hz : V0.heap.size ≤ (V0).heap.size := ((Kept.refl (fun _ => False) V0)).size
      have KA : Kept (fun _ => False) V0 ((V0).alloc (.cells #[.int .i64 0, .complex .f64 0 0, .string ⟨#[]⟩, .string ⟨#[]⟩, .int .i64 0, .int .i64 0, .int .i64 0, .string ⟨#[]⟩, .string ⟨#[]⟩, .string ⟨#[]⟩, .string ⟨#[]⟩, .string ⟨#[]⟩, .int .i64 0] 50)) := ((Kept.refl (fun _ => False) V0)).and (Kept.alloc _ _ _)
      go_simp
      refine hK.out _ _ (HS.out _ KA) (fun _ => ?_)
      generalize (V0).alloc (.cells #[.int .i64 0, .complex .f64 0 0, .string ⟨#[]⟩, .string ⟨#[]⟩, .int .i64 0, .int .i64 0, .int .i64 0, .string ⟨#[]⟩, .string ⟨#[]⟩, .string ⟨#[]⟩, .string ⟨#[]⟩, .string ⟨#[]⟩, .int .i64 0] 50) = V6 at *
      obtain ⟨mb, hmbe⟩ : ∃ mb, mb = (V0).heap.size := ⟨_, rfl⟩
      rw [← hmbe] at hmb ⊢
      have hz2 : V0.heap.size ≤ mb := by rw [hmbe]; exact hz
      clear hz
      have hz := hz2
      clear hz2
      clear hmbe
      clear hK K'
      try (simp only [Act.put, List.setIfInBounds_toArray, List.set_cons_zero, List.set_cons_succ])
      refine wpAnyH_ready (rs := [10]) (by kernel_rfl) (by simp) (AllReadyH.cons (o := { dst := some 31, op := Op.call { callee := Callee.value (Operand.func 56), args := #[Operand.tmp 21, Operand.tmp 30], argTypes := #[70, 48] }, type := 50, pos := "goon.go:74", after := #[{ on := 0, ground := Ground.data }, { on := 9, ground := Ground.data }, { on := 4, ground := Ground.chain }], guard := none }) rfl (fun K' hK => ?_) AllReadyH.nil)
      refine step_call2 _ (by rfl) 56 _ _ _ _ (by rfl) (enters_of Tryd.func56 (by kernel_rfl) rfl) _ _ (by rfl) (by rfl) (hC _ KA) ?_
      rintro e w5 ⟨rfl, K5⟩
      have K6 := (KA).and K5
      have hmb2 : w5.heap[mb]? = some (.cells #[.int .i64 0, .complex .f64 0 0, .string ⟨#[]⟩, .string ⟨#[]⟩, .int .i64 0, .int .i64 0, .int .i64 0, .string ⟨#[]⟩, .string ⟨#[]⟩, .string ⟨#[]⟩, .string ⟨#[]⟩, .string ⟨#[]⟩, .int .i64 0] 50 (0, 0)) := (K5.block _ (Array.getElem?_eq_some_iff.1 hmb).1 (fun h => h)).trans hmb
      clear hmb
      have hmb := hmb2
      clear hmb2
      refine ⟨_, rfl, ?_⟩
      refine hK.out _ _ (HS.out _ K6) (fun _ => ?_)
      clear K5
      clear hK K'
      try (simp only [Act.put, List.setIfInBounds_toArray, List.set_cons_zero, List.set_cons_succ])
      refine wpAnyH_ready (rs := [12]) (by kernel_rfl) (by simp) (AllReadyH.cons (o := { dst := none, op := Op.store 50 (Operand.tmp 4) (Operand.tmp 31), type := 0, pos := "goon.go:74", after := #[{ on := 11, ground := Ground.data }, { on := 10, ground := Ground.data }, { on := 10, ground := Ground.chain }, { on := 0, ground := Ground.phase }, { on := 1, ground := Ground.phase }, { on := 2, ground := Ground.phase }, { on := 3, ground := Ground.phase }, { on := 4, ground := Ground.phase }, { on := 5, ground := Ground.phase }, { on := 6, ground := Ground.phase }, { on := 7, ground := Ground.phase }, { on := 8, ground := Ground.phase }, { on := 9, ground := Ground.phase }, { on := 10, ground := Ground.phase }, { on := 11, ground := Ground.phase }], guard := none }) rfl (fun K' hK => ?_) AllReadyH.nil)
      obtain ⟨⟨p0, p1, p2, p3, p4, p5, p6, p7, p8, p9, p10, p11, p12⟩, f0, f1, f2, f3, f4, f5, f6, f7, f8, f9, f10, f11, f12⟩ := thirteenF hmb
      have HM := hid (put13 hmb (.int .i64 t.kind) (.complex .f64 0 0) (.string t.flow) (.string t.node) (.int .i64 t.tr) (.int .i64 t.tm) (.int .i64 t.mail.kind) (.string t.mail.dst) (.string t.mail.src) (.string t.mail.node) (.string t.mail.name) (.string t.mail.text) (.int .i64 t.mail.status))
      have KS := kept13 (S := fun j => j = mb) w5 rfl (.int .i64 t.kind) (.complex .f64 0 0) (.string t.flow) (.string t.node) (.int .i64 t.tr) (.int .i64 t.tm) (.int .i64 t.mail.kind) (.string t.mail.dst) (.string t.mail.src) (.string t.mail.node) (.string t.mail.name) (.string t.mail.text) (.int .i64 t.mail.status)
      have KF := (K6).trans KS (fun j h => .inr (by subst h; exact hz))
      go_simp
      refine hK.out _ _ (HS.out _ KF) (fun _ => ?_)
      have HKF := hid (HKD.out.and KF)
      clear p0 p1 p2 p3 p4 p5 p6 p7 p8 p9 p10 p11 p12 f0 f1 f2 f3 f4 f5 f6 f7 f8 f9 f10 f11 f12 KS
      clear hK K'
      try (simp only [Act.put, List.setIfInBounds_toArray, List.set_cons_zero, List.set_cons_succ])
      refine wpAnyH_done (by kernel_rfl) ?_ _
      exact HH.out _ _ _ _ _ _ _ _ _ _ _ mb _ (Nat.le_trans HKD.out.size hz) HM.out HKF.out
  · have hmb : ((V0).alloc (.cells #[.int .i64 0, .complex .f64 0 0, .string ⟨#[]⟩, .string ⟨#[]⟩, .int .i64 0, .int .i64 0, .int .i64 0, .string ⟨#[]⟩, .string ⟨#[]⟩, .string ⟨#[]⟩, .string ⟨#[]⟩, .string ⟨#[]⟩, .int .i64 0] 50)).heap[(V0).heap.size]? = some (.cells #[.int .i64 0, .complex .f64 0 0, .string ⟨#[]⟩, .string ⟨#[]⟩, .int .i64 0, .int .i64 0, .int .i64 0, .string ⟨#[]⟩, .string ⟨#[]⟩, .string ⟨#[]⟩, .string ⟨#[]⟩, .string ⟨#[]⟩, .int .i64 0] 50 (0, 0)) := heap_alloc_new _ _
    have hz : V0.heap.size ≤ (V0).heap.size := ((Kept.refl (fun _ => False) V0)).size
    have KA : Kept (fun _ => False) V0 ((V0).alloc (.cells #[.int .i64 0, .complex .f64 0 0, .string ⟨#[]⟩, .string ⟨#[]⟩, .int .i64 0, .int .i64 0, .int .i64 0, .string ⟨#[]⟩, .string ⟨#[]⟩, .string ⟨#[]⟩, .string ⟨#[]⟩, .string ⟨#[]⟩, .int .i64 0] 50)) := ((Kept.refl (fun _ => False) V0)).and (Kept.alloc _ _ _)
    go_simp
    refine hK.out _ _ (HS.out _ KA) (fun _ => ?_)
    generalize (V0).alloc (.cells #[.int .i64 0, .complex .f64 0 0, .string ⟨#[]⟩, .string ⟨#[]⟩, .int .i64 0, .int .i64 0, .int .i64 0, .string ⟨#[]⟩, .string ⟨#[]⟩, .string ⟨#[]⟩, .string ⟨#[]⟩, .string ⟨#[]⟩, .int .i64 0] 50) = V6 at *
    obtain ⟨mb, hmbe⟩ : ∃ mb, mb = (V0).heap.size := ⟨_, rfl⟩
    rw [← hmbe] at hmb ⊢
    have hz2 : V0.heap.size ≤ mb := by rw [hmbe]; exact hz
    clear hz
    have hz := hz2
    clear hz2
    clear hmbe
    clear hK K'
    try (simp only [Act.put, List.setIfInBounds_toArray, List.set_cons_zero, List.set_cons_succ])
    refine wpAnyH_ready (rs := [4]) (by kernel_rfl) (by simp) (AllReadyH.cons (o := { dst := some 25, op := Op.call { callee := Callee.value (Operand.func 57), args := #[Operand.tmp 22, Operand.tmp 24], argTypes := #[70, 9] }, type := 9, pos := "goon.go:74", after := #[{ on := 1, ground := Ground.data }, { on := 3, ground := Ground.data }], guard := none }) rfl (fun K' hK => ?_) AllReadyH.nil)
    refine step_call2 _ (by rfl) 57 _ _ _ _ (by rfl) (enters_of Tryd.func57 (by kernel_rfl) rfl) _ _ (by rfl) (by rfl) (hN _ KA) ?_
    rintro e w3 ⟨rfl, hw3⟩
    subst w3
    refine ⟨_, rfl, ?_⟩
    refine hK.out _ _ (HS.out _ KA) (fun _ => ?_)
    clear hK K'
    try (simp only [Act.put, List.setIfInBounds_toArray, List.set_cons_zero, List.set_cons_succ])
    refine wpAnyH_take (i := 9) (oi := { dst := some 30, op := Op.build 48 #[(0, Operand.const (Value.int IntKind.i64 1)), (1, Operand.tmp 25), (3, Operand.tmp 27), (4, Operand.tmp 29)], type := 48, pos := "goon.go:74", after := #[{ on := 4, ground := Ground.data }, { on := 6, ground := Ground.data }, { on := 8, ground := Ground.data }], guard := none }) (v := ?vv10) rfl (by kernel_rfl) (by kernel_rfl) (by kernel_rfl) (fun _ _ _ h => h) (Or.inl ⟨by rfl, ?hy10⟩) (HS.out _ KA) ?rest10
    case hy10 =>
      intro V hV
      obtain ⟨y0, y1⟩ := hV
      go_simp
      all_goals rfl
    simp only [Act.put, List.setIfInBounds_toArray, List.set_cons_zero, List.set_cons_succ]
    refine wpAnyH_ready (rs := [10]) (by kernel_rfl) (by simp) (AllReadyH.cons (o := { dst := some 31, op := Op.call { callee := Callee.value (Operand.func 56), args := #[Operand.tmp 21, Operand.tmp 30], argTypes := #[70, 48] }, type := 50, pos := "goon.go:74", after := #[{ on := 0, ground := Ground.data }, { on := 9, ground := Ground.data }, { on := 4, ground := Ground.chain }], guard := none }) rfl (fun K' hK => ?_) AllReadyH.nil)
    refine step_call2 _ (by rfl) 56 _ _ _ _ (by rfl) (enters_of Tryd.func56 (by kernel_rfl) rfl) _ _ (by rfl) (by rfl) (hC _ KA) ?_
    rintro e w5 ⟨rfl, K5⟩
    have K6 := (KA).and K5
    have hmb2 : w5.heap[mb]? = some (.cells #[.int .i64 0, .complex .f64 0 0, .string ⟨#[]⟩, .string ⟨#[]⟩, .int .i64 0, .int .i64 0, .int .i64 0, .string ⟨#[]⟩, .string ⟨#[]⟩, .string ⟨#[]⟩, .string ⟨#[]⟩, .string ⟨#[]⟩, .int .i64 0] 50 (0, 0)) := (K5.block _ (Array.getElem?_eq_some_iff.1 hmb).1 (fun h => h)).trans hmb
    clear hmb
    have hmb := hmb2
    clear hmb2
    refine ⟨_, rfl, ?_⟩
    refine hK.out _ _ (HS.out _ K6) (fun _ => ?_)
    clear K5
    clear hK K'
    try (simp only [Act.put, List.setIfInBounds_toArray, List.set_cons_zero, List.set_cons_succ])
    refine wpAnyH_ready (rs := [12]) (by kernel_rfl) (by simp) (AllReadyH.cons (o := { dst := none, op := Op.store 50 (Operand.tmp 4) (Operand.tmp 31), type := 0, pos := "goon.go:74", after := #[{ on := 11, ground := Ground.data }, { on := 10, ground := Ground.data }, { on := 10, ground := Ground.chain }, { on := 0, ground := Ground.phase }, { on := 1, ground := Ground.phase }, { on := 2, ground := Ground.phase }, { on := 3, ground := Ground.phase }, { on := 4, ground := Ground.phase }, { on := 5, ground := Ground.phase }, { on := 6, ground := Ground.phase }, { on := 7, ground := Ground.phase }, { on := 8, ground := Ground.phase }, { on := 9, ground := Ground.phase }, { on := 10, ground := Ground.phase }, { on := 11, ground := Ground.phase }], guard := none }) rfl (fun K' hK => ?_) AllReadyH.nil)
    obtain ⟨⟨p0, p1, p2, p3, p4, p5, p6, p7, p8, p9, p10, p11, p12⟩, f0, f1, f2, f3, f4, f5, f6, f7, f8, f9, f10, f11, f12⟩ := thirteenF hmb
    have HM := hid (put13 hmb (.int .i64 t.kind) (.complex .f64 0 0) (.string t.flow) (.string t.node) (.int .i64 t.tr) (.int .i64 t.tm) (.int .i64 t.mail.kind) (.string t.mail.dst) (.string t.mail.src) (.string t.mail.node) (.string t.mail.name) (.string t.mail.text) (.int .i64 t.mail.status))
    have KS := kept13 (S := fun j => j = mb) w5 rfl (.int .i64 t.kind) (.complex .f64 0 0) (.string t.flow) (.string t.node) (.int .i64 t.tr) (.int .i64 t.tm) (.int .i64 t.mail.kind) (.string t.mail.dst) (.string t.mail.src) (.string t.mail.node) (.string t.mail.name) (.string t.mail.text) (.int .i64 t.mail.status)
    have KF := (K6).trans KS (fun j h => .inr (by subst h; exact hz))
    go_simp
    refine hK.out _ _ (HS.out _ KF) (fun _ => ?_)
    have HKF := hid (HKD.out.and KF)
    clear p0 p1 p2 p3 p4 p5 p6 p7 p8 p9 p10 p11 p12 f0 f1 f2 f3 f4 f5 f6 f7 f8 f9 f10 f11 f12 KS
    clear hK K'
    try (simp only [Act.put, List.setIfInBounds_toArray, List.set_cons_zero, List.set_cons_succ])
    refine wpAnyH_done (by kernel_rfl) ?_ _
    exact HH.out _ _ _ _ _ _ _ _ _ _ _ mb _ (Nat.le_trans HKD.out.size hz) HM.out HKF.out

end Go.Proofs.YtdecceekodpjiaaDoor
