/-
  The second test of RingPoints: two points, held against each other.
-/
import Derived.Test.YtnhmdeglaoilcaaDoorRPts6
namespace Go.Proofs.YtnhmdeglaoilcaaDoor
open Go.RowKit Go.Sort

set_option maxRecDepth 100000 in
set_option maxHeartbeats 4000000 in
theorem points13 {W : World} {pb qb : Nat} {z y : Pt} {ds : List Deferred} {u0 u1 u2 u3 u6 u9 u10 u11 u12 u13 u14 u15 u16 u17 u18 u19 u20 u21 u22 u23 u24 u25 u26 u27 u28 u29 u30 u31 u32 u33 u34 u35 u36 u37 u38 u39 u40 u41 u42 u43 u44 u45 u46 u47 u48 u49 u50 u51 u52 u53 u54 u55 u56 u57 u58 u59 u60 u61 u62 u63 u64 u65 u66 u67 u68 u69 u70 u71 u72 u73 u74 u75 u76 u77 u78 u79 u80 u81 u82 u83 u84 u85 u86 u87 u88 u89 u90 u91 u92 u93 u94 u95 u96 u97 u98 u99 u100 : Value} (K : Act → World → Prop) (hz : InSq z) (hy : InSq y) (h0 : W.cell? ⟨pb, 0, none⟩ = some (.int .i64 z.1)) (h1 : W.cell? ⟨pb, 1, none⟩ = some (.int .i64 z.2)) (h2 : W.cell? ⟨qb, 0, none⟩ = some (.int .i64 y.1)) (h3 : W.cell? ⟨qb, 1, none⟩ = some (.int .i64 y.2))
    (h : ∀ (v79 v80 v81 v82 v83 v84 v85 v86 v87 v88 v89 v90 v91 v92 v93 v94 v95 v96 v97 v98 : Value) (w9 : World), Kept (fun _ => False) W.drew w9 → K { tmps := #[u0, u1, u2, u3, .pointer (some ⟨pb, 0, none⟩), .complex .f64 (fl z.1) (fl z.2), u6, .pointer (some ⟨qb, 0, none⟩), .complex .f64 (fl y.1) (fl y.2), u9, u10, u11, u12, u13, u14, u15, u16, u17, u18, u19, u20, u21, u22, u23, u24, u25, u26, u27, u28, u29, u30, u31, u32, u33, u34, u35, u36, u37, u38, u39, u40, u41, u42, u43, u44, u45, u46, u47, u48, u49, u50, u51, u52, u53, u54, u55, u56, u57, u58, u59, u60, u61, u62, u63, u64, u65, u66, u67, u68, u69, u70, u71, u72, u73, u74, u75, u76, u77, u78, v79, v80, v81, v82, v83, v84, v85, v86, v87, v88, v89, v90, v91, v92, v93, v94, v95, v96, v97, v98, .bool false, u100], defers := ds } w9) :
    (Code.region 13 #[{ dst := some 79, op := Op.move (Operand.tmp 5), type := 27, pos := "law.go:56", after := #[], guard := none }, { dst := some 80, op := Op.move (Operand.tmp 8), type := 27, pos := "law.go:56", after := #[], guard := none }, { dst := some 81, op := Op.call { callee := Callee.value (Operand.func 14), args := #[Operand.tmp 79, Operand.tmp 80], argTypes := #[27, 27] }, type := 4, pos := "law.go:56", after := #[{ on := 0, ground := Ground.data }, { on := 1, ground := Ground.data }], guard := none }, { dst := some 82, op := Op.load 24 (Operand.tmp 4), type := 24, pos := "law.go:56", after := #[], guard := none }, { dst := some 83, op := Op.load 24 (Operand.tmp 7), type := 24, pos := "law.go:56", after := #[], guard := none }, { dst := some 84, op := Op.call { callee := Callee.value (Operand.func 15), args := #[Operand.tmp 82, Operand.tmp 83], argTypes := #[24, 24] }, type := 4, pos := "law.go:56", after := #[{ on := 3, ground := Ground.data }, { on := 4, ground := Ground.data }, { on := 2, ground := Ground.chain }], guard := none }, { dst := some 85, op := Op.binOp BinOp.neq 4 (Operand.tmp 81) (Operand.tmp 84) 4, type := 4, pos := "law.go:56", after := #[{ on := 2, ground := Ground.data }, { on := 5, ground := Ground.data }], guard := none }, { dst := some 86, op := Op.move (Operand.tmp 85), type := 4, pos := "law.go:56", after := #[{ on := 6, ground := Ground.data }, { on := 5, ground := Ground.chain }], guard := none }, { dst := some 87, op := Op.move (Operand.tmp 5), type := 27, pos := "law.go:56", after := #[{ on := 7, ground := Ground.guard }], guard := some (7, false) }, { dst := some 88, op := Op.move (Operand.tmp 8), type := 27, pos := "law.go:56", after := #[{ on := 7, ground := Ground.guard }], guard := some (7, false) }, { dst := some 89, op := Op.binOp BinOp.neq 27 (Operand.tmp 87) (Operand.tmp 88) 27, type := 4, pos := "law.go:56", after := #[{ on := 8, ground := Ground.data }, { on := 9, ground := Ground.data }, { on := 7, ground := Ground.guard }], guard := some (7, false) }, { dst := some 90, op := Op.move (Operand.tmp 89), type := 4, pos := "law.go:56", after := #[{ on := 10, ground := Ground.data }, { on := 7, ground := Ground.chain }, { on := 7, ground := Ground.guard }], guard := some (7, false) }, { dst := some 91, op := Op.move (Operand.tmp 5), type := 27, pos := "law.go:56", after := #[{ on := 11, ground := Ground.guard }], guard := some (11, true) }, { dst := some 92, op := Op.move (Operand.tmp 8), type := 27, pos := "law.go:56", after := #[{ on := 11, ground := Ground.guard }], guard := some (11, true) }, { dst := some 93, op := Op.call { callee := Callee.value (Operand.func 14), args := #[Operand.tmp 91, Operand.tmp 92], argTypes := #[27, 27] }, type := 4, pos := "law.go:56", after := #[{ on := 12, ground := Ground.data }, { on := 13, ground := Ground.data }, { on := 11, ground := Ground.chain }, { on := 11, ground := Ground.guard }], guard := some (11, true) }, { dst := some 94, op := Op.move (Operand.tmp 8), type := 27, pos := "law.go:56", after := #[{ on := 11, ground := Ground.guard }], guard := some (11, true) }, { dst := some 95, op := Op.move (Operand.tmp 5), type := 27, pos := "law.go:56", after := #[{ on := 11, ground := Ground.guard }], guard := some (11, true) }, { dst := some 96, op := Op.call { callee := Callee.value (Operand.func 14), args := #[Operand.tmp 94, Operand.tmp 95], argTypes := #[27, 27] }, type := 4, pos := "law.go:56", after := #[{ on := 15, ground := Ground.data }, { on := 16, ground := Ground.data }, { on := 14, ground := Ground.chain }, { on := 11, ground := Ground.guard }], guard := some (11, true) }, { dst := some 97, op := Op.binOp BinOp.eql 4 (Operand.tmp 93) (Operand.tmp 96) 4, type := 4, pos := "law.go:56", after := #[{ on := 14, ground := Ground.data }, { on := 17, ground := Ground.data }, { on := 11, ground := Ground.guard }], guard := some (11, true) }, { dst := some 98, op := Op.pick (Operand.tmp 90) (Operand.tmp 97) (Operand.const (Value.bool false)), type := 4, pos := "law.go:56", after := #[{ on := 11, ground := Ground.data }, { on := 18, ground := Ground.data }, { on := 7, ground := Ground.guard }], guard := some (7, false) }, { dst := some 99, op := Op.pick (Operand.tmp 86) (Operand.const (Value.bool true)) (Operand.tmp 98), type := 4, pos := "law.go:56", after := #[{ on := 7, ground := Ground.data }, { on := 19, ground := Ground.data }], guard := none }] true).wp Tryd.prog (onlyN K) { tmps := #[u0, u1, u2, u3, .pointer (some ⟨pb, 0, none⟩), .complex .f64 (fl z.1) (fl z.2), u6, .pointer (some ⟨qb, 0, none⟩), .complex .f64 (fl y.1) (fl y.2), u9, u10, u11, u12, u13, u14, u15, u16, u17, u18, u19, u20, u21, u22, u23, u24, u25, u26, u27, u28, u29, u30, u31, u32, u33, u34, u35, u36, u37, u38, u39, u40, u41, u42, u43, u44, u45, u46, u47, u48, u49, u50, u51, u52, u53, u54, u55, u56, u57, u58, u59, u60, u61, u62, u63, u64, u65, u66, u67, u68, u69, u70, u71, u72, u73, u74, u75, u76, u77, u78, u79, u80, u81, u82, u83, u84, u85, u86, u87, u88, u89, u90, u91, u92, u93, u94, u95, u96, u97, u98, u99, u100], defers := ds } W := by
  have KD : Kept (fun _ => False) W W.drew := Kept.drew _ W
  have HS : Hid (∀ V, Kept (fun _ => False) W.drew V → Kept (fun _ => False) W.drew V ∧ V.cell? ⟨pb, 0, none⟩ = some (.int .i64 z.1) ∧ V.cell? ⟨pb, 1, none⟩ = some (.int .i64 z.2) ∧ V.cell? ⟨qb, 0, none⟩ = some (.int .i64 y.1) ∧ V.cell? ⟨qb, 1, none⟩ = some (.int .i64 y.2)) := fun V K => ⟨K, cellKp (KD.and K) h0, cellKp (KD.and K) h1, cellKp (KD.and K) h2, cellKp (KD.and K) h3⟩
  have q1 := isF_eq hz.f1 hy.f1
  have q2 := isF_eq hz.f2 hy.f2
  have B1 := fun V => before_any V z y hz hy
  have B2 := fun V => before_any V y z hy hz
  have B3 := fun V => before_any V z y hz hy
  have R := fun V => refBefore_any V z y
  have hne : ¬ z = y → (ahead z y == ahead y z) = false := fun hn => by
    obtain ⟨a1, a2⟩ := z
    obtain ⟨b1, b2⟩ := y
    cases hA : ahead (a1, a2) (b1, b2)
    · cases hB : ahead (b1, b2) (a1, a2)
      · exfalso
        rw [ahead_no] at hA hB
        simp only at hA hB
        exact hn (by rw [Prod.mk.injEq]; omega)
      · rfl
    · cases hB : ahead (b1, b2) (a1, a2)
      · rfl
      · exfalso
        rw [ahead_iff] at hA hB
        simp only at hA hB
        omega
  unfold pv at R
  unfold cx at B1 B2 B3
  clear hz hy h0 h1 h2 h3
  by_cases he : z = y
  · subst he
    clear B2 B3 hne
    simp only [decide_true] at q1 q2
    have hnq : ∀ V, (binOp .neq 27 (.complex .f64 (fl z.1) (fl z.2)) (.complex .f64 (fl z.1) (fl z.2))).run Tryd.prog V = .ok (.bool false) V := fun V => by
      rw [run_neq_complex, q1, q2]
      rfl
    generalize ahead z z = A at *
    clear q1 q2
    generalize fl z.1 = p at *
    generalize fl z.2 = q at *
    first
    | (go_region_held (fun V => Kept (fun _ => False) W.drew V ∧ V.cell? ⟨pb, 0, none⟩ = some (.int .i64 z.1) ∧ V.cell? ⟨pb, 1, none⟩ = some (.int .i64 z.2) ∧ V.cell? ⟨qb, 0, none⟩ = some (.int .i64 z.1) ∧ V.cell? ⟨qb, 1, none⟩ = some (.int .i64 z.2)) (first | exact HS.out _ (Kept.refl _ _) | exact HS.out _ (by assumption)) (first
      | (go_at_call 14; have _t := B1 W; refine (B1 _).mono ?_; rintro e w2 ⟨rfl, hw2⟩; subst w2; clear B1 _t)
      | (go_at_call 14; have _t := B3 W; refine (B3 _).mono ?_; rintro e w2 ⟨rfl, hw2⟩; subst w2; clear B3 _t)
      | (go_at_call 14; refine (B2 _).mono ?_; rintro e w2 ⟨rfl, hw2⟩; subst w2)
      | (go_at_call 15; refine (R _).mono ?_; rintro e w1 ⟨rfl, K1⟩; clear R)
      | fail))
    | fail
    all_goals exact h _ _ _ _ _ _ _ _ _ _ _ _ _ _ _ _ _ _ _ _ _ K1
  · have hab := hne he
    have hq : ((FloatKind.f64.format.order (fl z.1) (fl y.1) == some .eq) && (FloatKind.f64.format.order (fl z.2) (fl y.2) == some .eq)) = false := by
      rw [q1, q2]
      obtain ⟨a1, a2⟩ := z
      obtain ⟨b1, b2⟩ := y
      simp at he ⊢
      exact he
    have hnq : ∀ V, (binOp .neq 27 (.complex .f64 (fl z.1) (fl z.2)) (.complex .f64 (fl y.1) (fl y.2))).run Tryd.prog V = .ok (.bool true) V := fun V => by
      rw [run_neq_complex, hq]
      rfl
    generalize ahead z y = A at *
    generalize ahead y z = B at *
    clear hne q1 q2 hq
    generalize fl z.1 = p at *
    generalize fl z.2 = q at *
    generalize fl y.1 = r at *
    generalize fl y.2 = t at *
    go_region_held (fun V => Kept (fun _ => False) W.drew V ∧ V.cell? ⟨pb, 0, none⟩ = some (.int .i64 z.1) ∧ V.cell? ⟨pb, 1, none⟩ = some (.int .i64 z.2) ∧ V.cell? ⟨qb, 0, none⟩ = some (.int .i64 y.1) ∧ V.cell? ⟨qb, 1, none⟩ = some (.int .i64 y.2)) (first | exact HS.out _ (Kept.refl _ _) | exact HS.out _ (by assumption)) (first
      | (go_at_call 14; have _t := B1 W; refine (B1 _).mono ?_; rintro e w2 ⟨rfl, hw2⟩; subst w2; clear B1 _t)
      | (go_at_call 14; have _t := B3 W; refine (B3 _).mono ?_; rintro e w2 ⟨rfl, hw2⟩; subst w2; clear B3 _t)
      | (go_at_call 14; refine (B2 _).mono ?_; rintro e w2 ⟨rfl, hw2⟩; subst w2)
      | (go_at_call 15; refine (R _).mono ?_; rintro e w1 ⟨rfl, K1⟩; clear R)
      | fail)
    all_goals exact h _ _ _ _ _ _ _ _ _ _ _ _ _ _ _ _ _ _ _ _ _ K1

end Go.Proofs.YtnhmdeglaoilcaaDoor
