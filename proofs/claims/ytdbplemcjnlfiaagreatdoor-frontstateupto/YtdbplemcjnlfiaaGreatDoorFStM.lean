/-
  FrontState: its texts are made short and stored back (a region that draws its order).
-/
import Derived.Test.YtdbplemcjnlfiaaGreatDoorFStK
namespace Go.Proofs.YtdbplemcjnlfiaaGreatDoor
open Go.RowKit

theorem set_heap {w : World} {g i : Nat} {cs : Array Value} {T : TypeId} {f : Nat × Nat} (v : Value) (h : w.heap[g]? = some (.cells cs T f)) : (w.setCell ⟨g, i, none⟩ v).heap[g]? = some (.cells (cs.setIfInBounds i v) T f) := by
  simp [World.setCell, Array.getElem?_modify, h]

set_option maxRecDepth 100000 in
set_option maxHeartbeats 8000000 in
theorem law5 {W : World} {df id pa pn tx : ByteArray} {an ag : Option Addr} {ln cn lg cg gs : Nat} {st ev : Int} {il tl : List UInt8} {ds : List Deferred} {u0 u1 u2 u4 u5 u6 u7 u8 u9 u10 u11 u12 u13 u14 u15 u16 u17 u18 u19 u20 u21 u22 u23 u24 u25 u26 u27 u28 u29 u30 u31 u32 u33 u34 u35 u36 u37 u38 : Value} (K : Act → World → Prop)
    (hb : W.heap[gs]? = some (.cells #[.string df, .string id, .string pa, .string pn, .int .i64 st, .string tx, .slice an ln cn, .slice ag lg cg, .int .i64 ev] 42))
    (hI : ∀ V, Calls Tryz.prog 12 #[.string id] V fun e w' => e = .returned (.string (mkB il)) ∧ w' = V)
    (hT : ∀ V, Calls Tryz.prog 12 #[.string tx] V fun e w' => e = .returned (.string (mkB tl)) ∧ w' = V)
    (h : ∀ (v21 v22 v23 v24 v25 v26 v27 v28 : Value) (W' : World), W'.heap[gs]? = some (.cells #[.string df, .string (mkB il), .string pa, .string pn, .int .i64 st, .string (mkB tl), .slice an ln cn, .slice ag lg cg, .int .i64 ev] 42) → Kept (fun j => j = gs) W W' → K { tmps := #[u0, u1, u2, .pointer (some ⟨gs, 0, none⟩), u4, u5, u6, u7, u8, u9, u10, u11, u12, u13, u14, u15, u16, u17, u18, u19, u20, v21, v22, v23, v24, v25, v26, v27, v28, u29, u30, u31, u32, u33, u34, u35, u36, u37, u38], defers := ds } W') :
    (Code.region 5 #[{ dst := some 21, op := Op.fieldAddr 42 (Operand.tmp 3) 5, type := 0, pos := "law.go:163", after := #[], guard := none }, { dst := some 22, op := Op.load 9 (Operand.tmp 21), type := 9, pos := "law.go:163", after := #[{ on := 0, ground := Ground.data }], guard := none }, { dst := some 23, op := Op.call { callee := Callee.value (Operand.func 12), args := #[Operand.tmp 22], argTypes := #[9] }, type := 9, pos := "law.go:163", after := #[{ on := 1, ground := Ground.data }], guard := none }, { dst := some 24, op := Op.fieldAddr 42 (Operand.tmp 3) 1, type := 0, pos := "law.go:163", after := #[], guard := none }, { dst := some 25, op := Op.load 9 (Operand.tmp 24), type := 9, pos := "law.go:163", after := #[{ on := 3, ground := Ground.data }], guard := none }, { dst := some 26, op := Op.call { callee := Callee.value (Operand.func 12), args := #[Operand.tmp 25], argTypes := #[9] }, type := 9, pos := "law.go:163", after := #[{ on := 4, ground := Ground.data }, { on := 2, ground := Ground.chain }], guard := none }, { dst := some 27, op := Op.fieldAddr 42 (Operand.tmp 3) 5, type := 0, pos := "law.go:163", after := #[{ on := 0, ground := Ground.phase }, { on := 1, ground := Ground.phase }, { on := 2, ground := Ground.phase }, { on := 3, ground := Ground.phase }, { on := 4, ground := Ground.phase }, { on := 5, ground := Ground.textOnly Departure.lateStoresUnsure }], guard := none }, { dst := none, op := Op.store 9 (Operand.tmp 27) (Operand.tmp 23), type := 0, pos := "law.go:163", after := #[{ on := 6, ground := Ground.data }, { on := 2, ground := Ground.data }, { on := 5, ground := Ground.chain }, { on := 0, ground := Ground.phase }, { on := 1, ground := Ground.phase }, { on := 2, ground := Ground.phase }, { on := 3, ground := Ground.phase }, { on := 4, ground := Ground.phase }, { on := 5, ground := Ground.textOnly Departure.lateStoresUnsure }], guard := none }, { dst := some 28, op := Op.fieldAddr 42 (Operand.tmp 3) 1, type := 0, pos := "law.go:163", after := #[{ on := 0, ground := Ground.phase }, { on := 1, ground := Ground.phase }, { on := 2, ground := Ground.phase }, { on := 3, ground := Ground.phase }, { on := 4, ground := Ground.phase }, { on := 5, ground := Ground.phase }, { on := 6, ground := Ground.phase }, { on := 7, ground := Ground.phase }], guard := none }, { dst := none, op := Op.store 9 (Operand.tmp 28) (Operand.tmp 26), type := 0, pos := "law.go:163", after := #[{ on := 8, ground := Ground.data }, { on := 5, ground := Ground.data }, { on := 7, ground := Ground.chain }, { on := 0, ground := Ground.phase }, { on := 1, ground := Ground.phase }, { on := 2, ground := Ground.phase }, { on := 3, ground := Ground.phase }, { on := 4, ground := Ground.phase }, { on := 5, ground := Ground.phase }, { on := 6, ground := Ground.phase }, { on := 7, ground := Ground.phase }], guard := none }] true).wp Tryz.prog (onlyN K) { tmps := #[u0, u1, u2, .pointer (some ⟨gs, 0, none⟩), u4, u5, u6, u7, u8, u9, u10, u11, u12, u13, u14, u15, u16, u17, u18, u19, u20, u21, u22, u23, u24, u25, u26, u27, u28, u29, u30, u31, u32, u33, u34, u35, u36, u37, u38], defers := ds } W := by
  have HH := hid h
  have HKD := hid (Kept.drew (fun j => j = gs) W)
  have HB0 : Hid (W.drew.heap[gs]? = some (.cells #[.string df, .string id, .string pa, .string pn, .int .i64 st, .string tx, .slice an ln cn, .slice ag lg cg, .int .i64 ev] 42)) := hb
  clear h hb
  refine wp_region_held_drew (S := fun _ => True) (by kernel_rfl) trivial (fun _ => ?_)
  generalize W.drew = V0 at *
  have y1 : V0.cell? ⟨gs, 1, none⟩ = some (.string id) := by simp [World.cell?, HB0.out]
  have y5 : V0.cell? ⟨gs, 5, none⟩ = some (.string tx) := by simp [World.cell?, HB0.out]
  refine wpAnyH_take (i := 0) (oi := { dst := some 21, op := Op.fieldAddr 42 (Operand.tmp 3) 5, type := 0, pos := "law.go:163", after := #[], guard := none }) (v := ?vv1) rfl (by kernel_rfl) (by kernel_rfl) (by kernel_rfl) (fun _ _ _ h => h) (Or.inl ⟨by rfl, ?hy1⟩) trivial ?rest1
  case hy1 =>
    intro V hV
    obtain _ := hV
    go_simp
    all_goals rfl
  simp only [Act.put, List.setIfInBounds_toArray, List.set_cons_zero, List.set_cons_succ]
  refine wpAnyH_take (i := 3) (oi := { dst := some 24, op := Op.fieldAddr 42 (Operand.tmp 3) 1, type := 0, pos := "law.go:163", after := #[], guard := none }) (v := ?vv2) rfl (by kernel_rfl) (by kernel_rfl) (by kernel_rfl) (fun _ _ _ h => h) (Or.inl ⟨by rfl, ?hy2⟩) trivial ?rest2
  case hy2 =>
    intro V hV
    obtain _ := hV
    go_simp
    all_goals rfl
  simp only [Act.put, List.setIfInBounds_toArray, List.set_cons_zero, List.set_cons_succ]
  refine wpAnyH_ready (rs := [1, 4]) (by kernel_rfl) (by simp) (AllReadyH.cons (o := { dst := some 22, op := Op.load 9 (Operand.tmp 21), type := 9, pos := "law.go:163", after := #[{ on := 0, ground := Ground.data }], guard := none }) rfl (fun K' hK => ?_) (AllReadyH.cons (o := { dst := some 25, op := Op.load 9 (Operand.tmp 24), type := 9, pos := "law.go:163", after := #[{ on := 3, ground := Ground.data }], guard := none }) rfl (fun K' hK => ?_) AllReadyH.nil))
  · go_simp
    refine hK.out _ _ trivial (fun _ => ?_)
    clear hK K'
    try (simp only [Act.put, List.setIfInBounds_toArray, List.set_cons_zero, List.set_cons_succ])
    refine wpAnyH_ready (rs := [2, 4]) (by kernel_rfl) (by simp) (AllReadyH.cons (o := { dst := some 23, op := Op.call { callee := Callee.value (Operand.func 12), args := #[Operand.tmp 22], argTypes := #[9] }, type := 9, pos := "law.go:163", after := #[{ on := 1, ground := Ground.data }], guard := none }) rfl (fun K' hK => ?_) (AllReadyH.cons (o := { dst := some 25, op := Op.load 9 (Operand.tmp 24), type := 9, pos := "law.go:163", after := #[{ on := 3, ground := Ground.data }], guard := none }) rfl (fun K' hK => ?_) AllReadyH.nil))
    · refine step_call1f _ (by rfl) 12 _ _ (by rfl) (enters_of Tryz.func12 (by kernel_rfl) rfl) _ (by rfl) (hT _) ?_
      rintro e ws ⟨rfl, hws⟩
      subst ws
      refine ⟨_, rfl, ?_⟩
      refine hK.out _ _ trivial (fun _ => ?_)
      clear hK K'
      try (simp only [Act.put, List.setIfInBounds_toArray, List.set_cons_zero, List.set_cons_succ])
      refine wpAnyH_ready (rs := [4]) (by kernel_rfl) (by simp) (AllReadyH.cons (o := { dst := some 25, op := Op.load 9 (Operand.tmp 24), type := 9, pos := "law.go:163", after := #[{ on := 3, ground := Ground.data }], guard := none }) rfl (fun K' hK => ?_) AllReadyH.nil)
      go_simp
      refine hK.out _ _ trivial (fun _ => ?_)
      clear hK K'
      try (simp only [Act.put, List.setIfInBounds_toArray, List.set_cons_zero, List.set_cons_succ])
      refine wpAnyH_take (i := 6) (oi := { dst := some 27, op := Op.fieldAddr 42 (Operand.tmp 3) 5, type := 0, pos := "law.go:163", after := #[{ on := 0, ground := Ground.phase }, { on := 1, ground := Ground.phase }, { on := 2, ground := Ground.phase }, { on := 3, ground := Ground.phase }, { on := 4, ground := Ground.phase }, { on := 5, ground := Ground.textOnly Departure.lateStoresUnsure }], guard := none }) (v := ?vv3) rfl (by kernel_rfl) (by kernel_rfl) (by kernel_rfl) (fun _ _ _ h => h) (Or.inl ⟨by rfl, ?hy3⟩) trivial ?rest3
      case hy3 =>
        intro V hV
        obtain _ := hV
        go_simp
        all_goals rfl
      simp only [Act.put, List.setIfInBounds_toArray, List.set_cons_zero, List.set_cons_succ]
      refine wpAnyH_ready (rs := [5]) (by kernel_rfl) (by simp) (AllReadyH.cons (o := { dst := some 26, op := Op.call { callee := Callee.value (Operand.func 12), args := #[Operand.tmp 25], argTypes := #[9] }, type := 9, pos := "law.go:163", after := #[{ on := 4, ground := Ground.data }, { on := 2, ground := Ground.chain }], guard := none }) rfl (fun K' hK => ?_) AllReadyH.nil)
      refine step_call1f _ (by rfl) 12 _ _ (by rfl) (enters_of Tryz.func12 (by kernel_rfl) rfl) _ (by rfl) (hI _) ?_
      rintro e ws ⟨rfl, hws⟩
      subst ws
      refine ⟨_, rfl, ?_⟩
      refine hK.out _ _ trivial (fun _ => ?_)
      clear hK K'
      try (simp only [Act.put, List.setIfInBounds_toArray, List.set_cons_zero, List.set_cons_succ])
      refine wpAnyH_ready (rs := [7]) (by kernel_rfl) (by simp) (AllReadyH.cons (o := { dst := none, op := Op.store 9 (Operand.tmp 27) (Operand.tmp 23), type := 0, pos := "law.go:163", after := #[{ on := 6, ground := Ground.data }, { on := 2, ground := Ground.data }, { on := 5, ground := Ground.chain }, { on := 0, ground := Ground.phase }, { on := 1, ground := Ground.phase }, { on := 2, ground := Ground.phase }, { on := 3, ground := Ground.phase }, { on := 4, ground := Ground.phase }, { on := 5, ground := Ground.textOnly Departure.lateStoresUnsure }], guard := none }) rfl (fun K' hK => ?_) AllReadyH.nil)
      have HB1 : Hid (((V0).setCell ⟨gs, 5, none⟩ (.string (mkB tl))).heap[gs]? = some (.cells #[.string df, .string id, .string pa, .string pn, .int .i64 st, .string (mkB tl), .slice an ln cn, .slice ag lg cg, .int .i64 ev] 42)) := set_heap (i := 5) (.string (mkB tl)) HB0.out
      have HK1 : Hid (Kept (fun j => j = gs) V0 ((V0).setCell ⟨gs, 5, none⟩ (.string (mkB tl)))) := ((Kept.refl (fun j => j = gs) V0)).and (Kept.setCell (S := fun j => j = gs) _ ⟨gs, 5, none⟩ _ rfl)
      have y1a : (V0).cell? ⟨gs, 5, none⟩ = some (.string tx) := by simp [World.cell?, HB0.out]
      have y1b : (V0).frozen? ⟨gs, 5, none⟩ = false := by simp [World.frozen?, HB0.out]
      go_simp
      refine hK.out _ _ trivial (fun _ => ?_)
      clear y1a y1b
      generalize (V0).setCell ⟨gs, 5, none⟩ (.string (mkB tl)) = V1 at *
      clear hK K'
      try (simp only [Act.put, List.setIfInBounds_toArray, List.set_cons_zero, List.set_cons_succ])
      refine wpAnyH_take (i := 8) (oi := { dst := some 28, op := Op.fieldAddr 42 (Operand.tmp 3) 1, type := 0, pos := "law.go:163", after := #[{ on := 0, ground := Ground.phase }, { on := 1, ground := Ground.phase }, { on := 2, ground := Ground.phase }, { on := 3, ground := Ground.phase }, { on := 4, ground := Ground.phase }, { on := 5, ground := Ground.phase }, { on := 6, ground := Ground.phase }, { on := 7, ground := Ground.phase }], guard := none }) (v := ?vv4) rfl (by kernel_rfl) (by kernel_rfl) (by kernel_rfl) (fun _ _ _ h => h) (Or.inl ⟨by rfl, ?hy4⟩) trivial ?rest4
      case hy4 =>
        intro V hV
        obtain _ := hV
        go_simp
        all_goals rfl
      simp only [Act.put, List.setIfInBounds_toArray, List.set_cons_zero, List.set_cons_succ]
      refine wpAnyH_ready (rs := [9]) (by kernel_rfl) (by simp) (AllReadyH.cons (o := { dst := none, op := Op.store 9 (Operand.tmp 28) (Operand.tmp 26), type := 0, pos := "law.go:163", after := #[{ on := 8, ground := Ground.data }, { on := 5, ground := Ground.data }, { on := 7, ground := Ground.chain }, { on := 0, ground := Ground.phase }, { on := 1, ground := Ground.phase }, { on := 2, ground := Ground.phase }, { on := 3, ground := Ground.phase }, { on := 4, ground := Ground.phase }, { on := 5, ground := Ground.phase }, { on := 6, ground := Ground.phase }, { on := 7, ground := Ground.phase }], guard := none }) rfl (fun K' hK => ?_) AllReadyH.nil)
      have HB2 : Hid (((V1).setCell ⟨gs, 1, none⟩ (.string (mkB il))).heap[gs]? = some (.cells #[.string df, .string (mkB il), .string pa, .string pn, .int .i64 st, .string (mkB tl), .slice an ln cn, .slice ag lg cg, .int .i64 ev] 42)) := set_heap (i := 1) (.string (mkB il)) HB1.out
      have HK2 : Hid (Kept (fun j => j = gs) V0 ((V1).setCell ⟨gs, 1, none⟩ (.string (mkB il)))) := (HK1.out).and (Kept.setCell (S := fun j => j = gs) _ ⟨gs, 1, none⟩ _ rfl)
      have y2a : (V1).cell? ⟨gs, 1, none⟩ = some (.string id) := by simp [World.cell?, HB1.out]
      have y2b : (V1).frozen? ⟨gs, 1, none⟩ = false := by simp [World.frozen?, HB1.out]
      go_simp
      refine hK.out _ _ trivial (fun _ => ?_)
      clear y2a y2b
      generalize (V1).setCell ⟨gs, 1, none⟩ (.string (mkB il)) = V2 at *
      clear hK K'
      try (simp only [Act.put, List.setIfInBounds_toArray, List.set_cons_zero, List.set_cons_succ])
      refine wpAnyH_done (by kernel_rfl) ?_ _
      exact HH.out _ _ _ _ _ _ _ _ _ HB2.out (HKD.out.and HK2.out)
    · go_simp
      refine hK.out _ _ trivial (fun _ => ?_)
      clear hK K'
      try (simp only [Act.put, List.setIfInBounds_toArray, List.set_cons_zero, List.set_cons_succ])
      refine wpAnyH_ready (rs := [2]) (by kernel_rfl) (by simp) (AllReadyH.cons (o := { dst := some 23, op := Op.call { callee := Callee.value (Operand.func 12), args := #[Operand.tmp 22], argTypes := #[9] }, type := 9, pos := "law.go:163", after := #[{ on := 1, ground := Ground.data }], guard := none }) rfl (fun K' hK => ?_) AllReadyH.nil)
      refine step_call1f _ (by rfl) 12 _ _ (by rfl) (enters_of Tryz.func12 (by kernel_rfl) rfl) _ (by rfl) (hT _) ?_
      rintro e ws ⟨rfl, hws⟩
      subst ws
      refine ⟨_, rfl, ?_⟩
      refine hK.out _ _ trivial (fun _ => ?_)
      clear hK K'
      try (simp only [Act.put, List.setIfInBounds_toArray, List.set_cons_zero, List.set_cons_succ])
      refine wpAnyH_take (i := 6) (oi := { dst := some 27, op := Op.fieldAddr 42 (Operand.tmp 3) 5, type := 0, pos := "law.go:163", after := #[{ on := 0, ground := Ground.phase }, { on := 1, ground := Ground.phase }, { on := 2, ground := Ground.phase }, { on := 3, ground := Ground.phase }, { on := 4, ground := Ground.phase }, { on := 5, ground := Ground.textOnly Departure.lateStoresUnsure }], guard := none }) (v := ?vv5) rfl (by kernel_rfl) (by kernel_rfl) (by kernel_rfl) (fun _ _ _ h => h) (Or.inl ⟨by rfl, ?hy5⟩) trivial ?rest5
      case hy5 =>
        intro V hV
        obtain _ := hV
        go_simp
        all_goals rfl
      simp only [Act.put, List.setIfInBounds_toArray, List.set_cons_zero, List.set_cons_succ]
      refine wpAnyH_ready (rs := [5]) (by kernel_rfl) (by simp) (AllReadyH.cons (o := { dst := some 26, op := Op.call { callee := Callee.value (Operand.func 12), args := #[Operand.tmp 25], argTypes := #[9] }, type := 9, pos := "law.go:163", after := #[{ on := 4, ground := Ground.data }, { on := 2, ground := Ground.chain }], guard := none }) rfl (fun K' hK => ?_) AllReadyH.nil)
      refine step_call1f _ (by rfl) 12 _ _ (by rfl) (enters_of Tryz.func12 (by kernel_rfl) rfl) _ (by rfl) (hI _) ?_
      rintro e ws ⟨rfl, hws⟩
      subst ws
      refine ⟨_, rfl, ?_⟩
      refine hK.out _ _ trivial (fun _ => ?_)
      clear hK K'
      try (simp only [Act.put, List.setIfInBounds_toArray, List.set_cons_zero, List.set_cons_succ])
      refine wpAnyH_ready (rs := [7]) (by kernel_rfl) (by simp) (AllReadyH.cons (o := { dst := none, op := Op.store 9 (Operand.tmp 27) (Operand.tmp 23), type := 0, pos := "law.go:163", after := #[{ on := 6, ground := Ground.data }, { on := 2, ground := Ground.data }, { on := 5, ground := Ground.chain }, { on := 0, ground := Ground.phase }, { on := 1, ground := Ground.phase }, { on := 2, ground := Ground.phase }, { on := 3, ground := Ground.phase }, { on := 4, ground := Ground.phase }, { on := 5, ground := Ground.textOnly Departure.lateStoresUnsure }], guard := none }) rfl (fun K' hK => ?_) AllReadyH.nil)
      have HB3 : Hid (((V0).setCell ⟨gs, 5, none⟩ (.string (mkB tl))).heap[gs]? = some (.cells #[.string df, .string id, .string pa, .string pn, .int .i64 st, .string (mkB tl), .slice an ln cn, .slice ag lg cg, .int .i64 ev] 42)) := set_heap (i := 5) (.string (mkB tl)) HB0.out
      have HK3 : Hid (Kept (fun j => j = gs) V0 ((V0).setCell ⟨gs, 5, none⟩ (.string (mkB tl)))) := ((Kept.refl (fun j => j = gs) V0)).and (Kept.setCell (S := fun j => j = gs) _ ⟨gs, 5, none⟩ _ rfl)
      have y3a : (V0).cell? ⟨gs, 5, none⟩ = some (.string tx) := by simp [World.cell?, HB0.out]
      have y3b : (V0).frozen? ⟨gs, 5, none⟩ = false := by simp [World.frozen?, HB0.out]
      go_simp
      refine hK.out _ _ trivial (fun _ => ?_)
      clear y3a y3b
      generalize (V0).setCell ⟨gs, 5, none⟩ (.string (mkB tl)) = V3 at *
      clear hK K'
      try (simp only [Act.put, List.setIfInBounds_toArray, List.set_cons_zero, List.set_cons_succ])
      refine wpAnyH_take (i := 8) (oi := { dst := some 28, op := Op.fieldAddr 42 (Operand.tmp 3) 1, type := 0, pos := "law.go:163", after := #[{ on := 0, ground := Ground.phase }, { on := 1, ground := Ground.phase }, { on := 2, ground := Ground.phase }, { on := 3, ground := Ground.phase }, { on := 4, ground := Ground.phase }, { on := 5, ground := Ground.phase }, { on := 6, ground := Ground.phase }, { on := 7, ground := Ground.phase }], guard := none }) (v := ?vv6) rfl (by kernel_rfl) (by kernel_rfl) (by kernel_rfl) (fun _ _ _ h => h) (Or.inl ⟨by rfl, ?hy6⟩) trivial ?rest6
      case hy6 =>
        intro V hV
        obtain _ := hV
        go_simp
        all_goals rfl
      simp only [Act.put, List.setIfInBounds_toArray, List.set_cons_zero, List.set_cons_succ]
      refine wpAnyH_ready (rs := [9]) (by kernel_rfl) (by simp) (AllReadyH.cons (o := { dst := none, op := Op.store 9 (Operand.tmp 28) (Operand.tmp 26), type := 0, pos := "law.go:163", after := #[{ on := 8, ground := Ground.data }, { on := 5, ground := Ground.data }, { on := 7, ground := Ground.chain }, { on := 0, ground := Ground.phase }, { on := 1, ground := Ground.phase }, { on := 2, ground := Ground.phase }, { on := 3, ground := Ground.phase }, { on := 4, ground := Ground.phase }, { on := 5, ground := Ground.phase }, { on := 6, ground := Ground.phase }, { on := 7, ground := Ground.phase }], guard := none }) rfl (fun K' hK => ?_) AllReadyH.nil)
      have HB4 : Hid (((V3).setCell ⟨gs, 1, none⟩ (.string (mkB il))).heap[gs]? = some (.cells #[.string df, .string (mkB il), .string pa, .string pn, .int .i64 st, .string (mkB tl), .slice an ln cn, .slice ag lg cg, .int .i64 ev] 42)) := set_heap (i := 1) (.string (mkB il)) HB3.out
      have HK4 : Hid (Kept (fun j => j = gs) V0 ((V3).setCell ⟨gs, 1, none⟩ (.string (mkB il)))) := (HK3.out).and (Kept.setCell (S := fun j => j = gs) _ ⟨gs, 1, none⟩ _ rfl)
      have y4a : (V3).cell? ⟨gs, 1, none⟩ = some (.string id) := by simp [World.cell?, HB3.out]
      have y4b : (V3).frozen? ⟨gs, 1, none⟩ = false := by simp [World.frozen?, HB3.out]
      go_simp
      refine hK.out _ _ trivial (fun _ => ?_)
      clear y4a y4b
      generalize (V3).setCell ⟨gs, 1, none⟩ (.string (mkB il)) = V4 at *
      clear hK K'
      try (simp only [Act.put, List.setIfInBounds_toArray, List.set_cons_zero, List.set_cons_succ])
      refine wpAnyH_done (by kernel_rfl) ?_ _
      exact HH.out _ _ _ _ _ _ _ _ _ HB4.out (HKD.out.and HK4.out)
  · go_simp
    refine hK.out _ _ trivial (fun _ => ?_)
    clear hK K'
    try (simp only [Act.put, List.setIfInBounds_toArray, List.set_cons_zero, List.set_cons_succ])
    refine wpAnyH_ready (rs := [1]) (by kernel_rfl) (by simp) (AllReadyH.cons (o := { dst := some 22, op := Op.load 9 (Operand.tmp 21), type := 9, pos := "law.go:163", after := #[{ on := 0, ground := Ground.data }], guard := none }) rfl (fun K' hK => ?_) AllReadyH.nil)
    go_simp
    refine hK.out _ _ trivial (fun _ => ?_)
    clear hK K'
    try (simp only [Act.put, List.setIfInBounds_toArray, List.set_cons_zero, List.set_cons_succ])
    refine wpAnyH_ready (rs := [2]) (by kernel_rfl) (by simp) (AllReadyH.cons (o := { dst := some 23, op := Op.call { callee := Callee.value (Operand.func 12), args := #[Operand.tmp 22], argTypes := #[9] }, type := 9, pos := "law.go:163", after := #[{ on := 1, ground := Ground.data }], guard := none }) rfl (fun K' hK => ?_) AllReadyH.nil)
    refine step_call1f _ (by rfl) 12 _ _ (by rfl) (enters_of Tryz.func12 (by kernel_rfl) rfl) _ (by rfl) (hT _) ?_
    rintro e ws ⟨rfl, hws⟩
    subst ws
    refine ⟨_, rfl, ?_⟩
    refine hK.out _ _ trivial (fun _ => ?_)
    clear hK K'
    try (simp only [Act.put, List.setIfInBounds_toArray, List.set_cons_zero, List.set_cons_succ])
    refine wpAnyH_take (i := 6) (oi := { dst := some 27, op := Op.fieldAddr 42 (Operand.tmp 3) 5, type := 0, pos := "law.go:163", after := #[{ on := 0, ground := Ground.phase }, { on := 1, ground := Ground.phase }, { on := 2, ground := Ground.phase }, { on := 3, ground := Ground.phase }, { on := 4, ground := Ground.phase }, { on := 5, ground := Ground.textOnly Departure.lateStoresUnsure }], guard := none }) (v := ?vv7) rfl (by kernel_rfl) (by kernel_rfl) (by kernel_rfl) (fun _ _ _ h => h) (Or.inl ⟨by rfl, ?hy7⟩) trivial ?rest7
    case hy7 =>
      intro V hV
      obtain _ := hV
      go_simp
      all_goals rfl
    simp only [Act.put, List.setIfInBounds_toArray, List.set_cons_zero, List.set_cons_succ]
    refine wpAnyH_ready (rs := [5]) (by kernel_rfl) (by simp) (AllReadyH.cons (o := { dst := some 26, op := Op.call { callee := Callee.value (Operand.func 12), args := #[Operand.tmp 25], argTypes := #[9] }, type := 9, pos := "law.go:163", after := #[{ on := 4, ground := Ground.data }, { on := 2, ground := Ground.chain }], guard := none }) rfl (fun K' hK => ?_) AllReadyH.nil)
    refine step_call1f _ (by rfl) 12 _ _ (by rfl) (enters_of Tryz.func12 (by kernel_rfl) rfl) _ (by rfl) (hI _) ?_
    rintro e ws ⟨rfl, hws⟩
    subst ws
    refine ⟨_, rfl, ?_⟩
    refine hK.out _ _ trivial (fun _ => ?_)
    clear hK K'
    try (simp only [Act.put, List.setIfInBounds_toArray, List.set_cons_zero, List.set_cons_succ])
    refine wpAnyH_ready (rs := [7]) (by kernel_rfl) (by simp) (AllReadyH.cons (o := { dst := none, op := Op.store 9 (Operand.tmp 27) (Operand.tmp 23), type := 0, pos := "law.go:163", after := #[{ on := 6, ground := Ground.data }, { on := 2, ground := Ground.data }, { on := 5, ground := Ground.chain }, { on := 0, ground := Ground.phase }, { on := 1, ground := Ground.phase }, { on := 2, ground := Ground.phase }, { on := 3, ground := Ground.phase }, { on := 4, ground := Ground.phase }, { on := 5, ground := Ground.textOnly Departure.lateStoresUnsure }], guard := none }) rfl (fun K' hK => ?_) AllReadyH.nil)
    have HB5 : Hid (((V0).setCell ⟨gs, 5, none⟩ (.string (mkB tl))).heap[gs]? = some (.cells #[.string df, .string id, .string pa, .string pn, .int .i64 st, .string (mkB tl), .slice an ln cn, .slice ag lg cg, .int .i64 ev] 42)) := set_heap (i := 5) (.string (mkB tl)) HB0.out
    have HK5 : Hid (Kept (fun j => j = gs) V0 ((V0).setCell ⟨gs, 5, none⟩ (.string (mkB tl)))) := ((Kept.refl (fun j => j = gs) V0)).and (Kept.setCell (S := fun j => j = gs) _ ⟨gs, 5, none⟩ _ rfl)
    have y5a : (V0).cell? ⟨gs, 5, none⟩ = some (.string tx) := by simp [World.cell?, HB0.out]
    have y5b : (V0).frozen? ⟨gs, 5, none⟩ = false := by simp [World.frozen?, HB0.out]
    go_simp
    refine hK.out _ _ trivial (fun _ => ?_)
    clear y5a y5b
    generalize (V0).setCell ⟨gs, 5, none⟩ (.string (mkB tl)) = V5 at *
    clear hK K'
    try (simp only [Act.put, List.setIfInBounds_toArray, List.set_cons_zero, List.set_cons_succ])
    refine wpAnyH_take (i := 8) (oi := { dst := some 28, op := Op.fieldAddr 42 (Operand.tmp 3) 1, type := 0, pos := "law.go:163", after := #[{ on := 0, ground := Ground.phase }, { on := 1, ground := Ground.phase }, { on := 2, ground := Ground.phase }, { on := 3, ground := Ground.phase }, { on := 4, ground := Ground.phase }, { on := 5, ground := Ground.phase }, { on := 6, ground := Ground.phase }, { on := 7, ground := Ground.phase }], guard := none }) (v := ?vv8) rfl (by kernel_rfl) (by kernel_rfl) (by kernel_rfl) (fun _ _ _ h => h) (Or.inl ⟨by rfl, ?hy8⟩) trivial ?rest8
    case hy8 =>
      intro V hV
      obtain _ := hV
      go_simp
      all_goals rfl
    simp only [Act.put, List.setIfInBounds_toArray, List.set_cons_zero, List.set_cons_succ]
    refine wpAnyH_ready (rs := [9]) (by kernel_rfl) (by simp) (AllReadyH.cons (o := { dst := none, op := Op.store 9 (Operand.tmp 28) (Operand.tmp 26), type := 0, pos := "law.go:163", after := #[{ on := 8, ground := Ground.data }, { on := 5, ground := Ground.data }, { on := 7, ground := Ground.chain }, { on := 0, ground := Ground.phase }, { on := 1, ground := Ground.phase }, { on := 2, ground := Ground.phase }, { on := 3, ground := Ground.phase }, { on := 4, ground := Ground.phase }, { on := 5, ground := Ground.phase }, { on := 6, ground := Ground.phase }, { on := 7, ground := Ground.phase }], guard := none }) rfl (fun K' hK => ?_) AllReadyH.nil)
    have HB6 : Hid (((V5).setCell ⟨gs, 1, none⟩ (.string (mkB il))).heap[gs]? = some (.cells #[.string df, .string (mkB il), .string pa, .string pn, .int .i64 st, .string (mkB tl), .slice an ln cn, .slice ag lg cg, .int .i64 ev] 42)) := set_heap (i := 1) (.string (mkB il)) HB5.out
    have HK6 : Hid (Kept (fun j => j = gs) V0 ((V5).setCell ⟨gs, 1, none⟩ (.string (mkB il)))) := (HK5.out).and (Kept.setCell (S := fun j => j = gs) _ ⟨gs, 1, none⟩ _ rfl)
    have y6a : (V5).cell? ⟨gs, 1, none⟩ = some (.string id) := by simp [World.cell?, HB5.out]
    have y6b : (V5).frozen? ⟨gs, 1, none⟩ = false := by simp [World.frozen?, HB5.out]
    go_simp
    refine hK.out _ _ trivial (fun _ => ?_)
    clear y6a y6b
    generalize (V5).setCell ⟨gs, 1, none⟩ (.string (mkB il)) = V6 at *
    clear hK K'
    try (simp only [Act.put, List.setIfInBounds_toArray, List.set_cons_zero, List.set_cons_succ])
    refine wpAnyH_done (by kernel_rfl) ?_ _
    exact HH.out _ _ _ _ _ _ _ _ _ HB6.out (HKD.out.and HK6.out)

end Go.Proofs.YtdbplemcjnlfiaaGreatDoor
