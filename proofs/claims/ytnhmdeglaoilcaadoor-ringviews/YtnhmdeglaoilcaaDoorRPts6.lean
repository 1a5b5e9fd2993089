/-
  The first test of RingPoints: a point, its turns, itself against itself.
-/
import Derived.Test.YtnhmdeglaoilcaaDoorRRefMore
import Derived.Deep.RegionHeld
namespace Go.Proofs.YtnhmdeglaoilcaaDoor
open Go.RowKit Go.Sort

/-- What is said of the one way out. -/
def onlyN (K : Act → World → Prop) : Exit → Act → World → Prop
  | .normal => K
  | _ => fun _ _ => False

theorem wp_onlyN {P : Program} {c : Code} {Q : Exit → Act → World → Prop} {a : Act} {w : World} (h : c.wp P (onlyN (fun a w => Q .normal a w)) a w) : c.wp P Q a w :=
  Code.wp_mono (fun e a w hh => by cases e <;> first | exact hh | exact hh.elim) h

theorem cellKp {w w' : World} {a : Addr} {v : Value} (K : Kept (fun _ => False) w w') (h : w.cell? a = some v) : w'.cell? a = some v :=
  (World.cell?_of_block (K.block _ (World.block_lt_of_cell? w _ h) (fun h => h))).trans h

set_option maxRecDepth 100000 in
set_option maxHeartbeats 400000 in
theorem turnAt (w : World) (x y u v : Nat) (e : cMulBits x y 0 4607182418800017408 = some (u, v)) :
    Calls Tryd.prog 13 #[.complex .f64 x y] w fun e w' => e = .returned (.complex .f64 u v) ∧ w' = w := by
  have m1 : ∀ W, (binOp .mul 27 (.complex .f64 x y) (.complex .f64 0 4607182418800017408)).run Tryd.prog W = .ok (.complex .f64 u v) W := fun W => run_complex_mul W _ _ _ _ _ _ _ e
  clear e
  go_enter Tryd.func13, Tryd.ntmps13
  go_wp2
  go_ret
  exact ⟨rfl, rfl⟩

set_option maxRecDepth 100000 in
set_option maxHeartbeats 4000000 in
theorem points6 {W : World} {pb : Nat} {z : Pt} {ds : List Deferred} {u0 u1 u2 u3 u6 u7 u8 u9 u10 u11 u12 u13 u14 u15 u16 u17 u18 u19 u20 u21 u22 u23 u24 u25 u26 u27 u28 u29 u30 u31 u32 u33 u34 u35 u36 u37 u38 u39 u40 u41 u42 u43 u44 u45 u46 u47 u48 u49 u50 u51 u52 u53 u54 u55 u56 u57 u58 u59 u60 u61 u62 u63 u64 u65 u66 u67 u68 u69 u70 u71 u72 u73 u74 u75 u76 u77 u78 u79 u80 u81 u82 u83 u84 u85 u86 u87 u88 u89 u90 u91 u92 u93 u94 u95 u96 u97 u98 u99 u100 : Value} (K : Act → World → Prop) (hz : InSq z) (h0 : W.cell? ⟨pb, 0, none⟩ = some (.int .i64 z.1)) (h1 : W.cell? ⟨pb, 1, none⟩ = some (.int .i64 z.2))
    (h : ∀ (v31 v32 v33 v34 v35 v36 v37 v38 v39 v40 v41 v42 v43 v44 v45 v46 v47 v48 v49 v50 v51 v52 v53 v54 v55 v56 v57 v58 v59 v60 : Value) (w9 : World), Kept (fun _ => False) W.drew w9 → K { tmps := #[u0, u1, u2, u3, .pointer (some ⟨pb, 0, none⟩), .complex .f64 (fl z.1) (fl z.2), u6, u7, u8, u9, u10, u11, u12, u13, u14, u15, u16, u17, u18, u19, u20, u21, u22, u23, u24, u25, u26, u27, u28, u29, u30, v31, v32, v33, v34, v35, v36, v37, v38, v39, v40, v41, v42, v43, v44, v45, v46, v47, v48, v49, v50, v51, v52, v53, v54, v55, v56, v57, v58, v59, v60, .bool false, u62, u63, u64, u65, u66, u67, u68, u69, u70, u71, u72, u73, u74, u75, u76, u77, u78, u79, u80, u81, u82, u83, u84, u85, u86, u87, u88, u89, u90, u91, u92, u93, u94, u95, u96, u97, u98, u99, u100], defers := ds } w9) :
    (Code.region 6 #[{ dst := some 31, op := Op.move (Operand.tmp 5), type := 27, pos := "law.go:50", after := #[], guard := none }, { dst := some 32, op := Op.load 24 (Operand.tmp 4), type := 24, pos := "law.go:50", after := #[], guard := none }, { dst := some 33, op := Op.call { callee := Callee.value (Operand.func 12), args := #[Operand.tmp 32], argTypes := #[24] }, type := 27, pos := "law.go:50", after := #[{ on := 1, ground := Ground.data }], guard := none }, { dst := some 34, op := Op.binOp BinOp.neq 27 (Operand.tmp 31) (Operand.tmp 33) 27, type := 4, pos := "law.go:50", after := #[{ on := 0, ground := Ground.data }, { on := 2, ground := Ground.data }], guard := none }, { dst := some 35, op := Op.move (Operand.tmp 34), type := 4, pos := "law.go:50", after := #[{ on := 3, ground := Ground.data }, { on := 2, ground := Ground.chain }], guard := none }, { dst := some 36, op := Op.move (Operand.tmp 5), type := 27, pos := "law.go:50", after := #[{ on := 4, ground := Ground.guard }], guard := some (4, false) }, { dst := some 37, op := Op.call { callee := Callee.value (Operand.func 13), args := #[Operand.tmp 36], argTypes := #[27] }, type := 27, pos := "law.go:50", after := #[{ on := 5, ground := Ground.data }, { on := 4, ground := Ground.chain }, { on := 4, ground := Ground.guard }], guard := some (4, false) }, { dst := some 38, op := Op.fieldAddr 24 (Operand.tmp 4) 1, type := 0, pos := "law.go:50", after := #[{ on := 4, ground := Ground.guard }], guard := some (4, false) }, { dst := some 39, op := Op.load 3 (Operand.tmp 38), type := 3, pos := "law.go:50", after := #[{ on := 7, ground := Ground.data }, { on := 4, ground := Ground.guard }], guard := some (4, false) }, { dst := some 40, op := Op.convert 3 31 (Operand.tmp 39), type := 31, pos := "law.go:50", after := #[{ on := 8, ground := Ground.data }, { on := 4, ground := Ground.guard }], guard := some (4, false) }, { dst := some 41, op := Op.unOp UnOp.neg 31 (Operand.tmp 40), type := 31, pos := "law.go:50", after := #[{ on := 9, ground := Ground.data }, { on := 4, ground := Ground.guard }], guard := some (4, false) }, { dst := some 42, op := Op.fieldAddr 24 (Operand.tmp 4) 0, type := 0, pos := "law.go:50", after := #[{ on := 4, ground := Ground.guard }], guard := some (4, false) }, { dst := some 43, op := Op.load 3 (Operand.tmp 42), type := 3, pos := "law.go:50", after := #[{ on := 11, ground := Ground.data }, { on := 4, ground := Ground.guard }], guard := some (4, false) }, { dst := some 44, op := Op.convert 3 31 (Operand.tmp 43), type := 31, pos := "law.go:50", after := #[{ on := 12, ground := Ground.data }, { on := 4, ground := Ground.guard }], guard := some (4, false) }, { dst := some 45, op := Op.call { callee := Callee.builtin Builtin.complex, args := #[Operand.tmp 41, Operand.tmp 44], argTypes := #[31, 31] }, type := 27, pos := "law.go:50", after := #[{ on := 10, ground := Ground.data }, { on := 13, ground := Ground.data }, { on := 4, ground := Ground.guard }], guard := some (4, false) }, { dst := some 46, op := Op.binOp BinOp.neq 27 (Operand.tmp 37) (Operand.tmp 45) 27, type := 4, pos := "law.go:50", after := #[{ on := 6, ground := Ground.data }, { on := 14, ground := Ground.data }, { on := 4, ground := Ground.guard }], guard := some (4, false) }, { dst := some 47, op := Op.pick (Operand.tmp 35) (Operand.const (Value.bool true)) (Operand.tmp 46), type := 4, pos := "law.go:50", after := #[{ on := 4, ground := Ground.data }, { on := 15, ground := Ground.data }], guard := none }, { dst := some 48, op := Op.move (Operand.tmp 47), type := 4, pos := "law.go:50", after := #[{ on := 16, ground := Ground.data }, { on := 6, ground := Ground.chain }], guard := none }, { dst := some 49, op := Op.move (Operand.tmp 5), type := 27, pos := "law.go:50", after := #[{ on := 17, ground := Ground.guard }], guard := some (17, false) }, { dst := some 50, op := Op.call { callee := Callee.value (Operand.func 13), args := #[Operand.tmp 49], argTypes := #[27] }, type := 27, pos := "law.go:50", after := #[{ on := 18, ground := Ground.data }, { on := 17, ground := Ground.chain }, { on := 17, ground := Ground.guard }], guard := some (17, false) }, { dst := some 51, op := Op.call { callee := Callee.value (Operand.func 13), args := #[Operand.tmp 50], argTypes := #[27] }, type := 27, pos := "law.go:50", after := #[{ on := 19, ground := Ground.data }, { on := 19, ground := Ground.chain }, { on := 17, ground := Ground.guard }], guard := some (17, false) }, { dst := some 52, op := Op.call { callee := Callee.value (Operand.func 13), args := #[Operand.tmp 51], argTypes := #[27] }, type := 27, pos := "law.go:50", after := #[{ on := 20, ground := Ground.data }, { on := 20, ground := Ground.chain }, { on := 17, ground := Ground.guard }], guard := some (17, false) }, { dst := some 53, op := Op.call { callee := Callee.value (Operand.func 13), args := #[Operand.tmp 52], argTypes := #[27] }, type := 27, pos := "law.go:50", after := #[{ on := 21, ground := Ground.data }, { on := 21, ground := Ground.chain }, { on := 17, ground := Ground.guard }], guard := some (17, false) }, { dst := some 54, op := Op.move (Operand.tmp 5), type := 27, pos := "law.go:50", after := #[{ on := 17, ground := Ground.guard }], guard := some (17, false) }, { dst := some 55, op := Op.binOp BinOp.neq 27 (Operand.tmp 53) (Operand.tmp 54) 27, type := 4, pos := "law.go:50", after := #[{ on := 22, ground := Ground.data }, { on := 23, ground := Ground.data }, { on := 17, ground := Ground.guard }], guard := some (17, false) }, { dst := some 56, op := Op.pick (Operand.tmp 48) (Operand.const (Value.bool true)) (Operand.tmp 55), type := 4, pos := "law.go:50", after := #[{ on := 17, ground := Ground.data }, { on := 24, ground := Ground.data }], guard := none }, { dst := some 57, op := Op.move (Operand.tmp 56), type := 4, pos := "law.go:50", after := #[{ on := 25, ground := Ground.data }, { on := 22, ground := Ground.chain }], guard := none }, { dst := some 58, op := Op.move (Operand.tmp 5), type := 27, pos := "law.go:50", after := #[{ on := 26, ground := Ground.guard }], guard := some (26, false) }, { dst := some 59, op := Op.move (Operand.tmp 5), type := 27, pos := "law.go:50", after := #[{ on := 26, ground := Ground.guard }], guard := some (26, false) }, { dst := some 60, op := Op.call { callee := Callee.value (Operand.func 14), args := #[Operand.tmp 58, Operand.tmp 59], argTypes := #[27, 27] }, type := 4, pos := "law.go:50", after := #[{ on := 27, ground := Ground.data }, { on := 28, ground := Ground.data }, { on := 26, ground := Ground.chain }, { on := 26, ground := Ground.guard }], guard := some (26, false) }, { dst := some 61, op := Op.pick (Operand.tmp 57) (Operand.const (Value.bool true)) (Operand.tmp 60), type := 4, pos := "law.go:50", after := #[{ on := 26, ground := Ground.data }, { on := 29, ground := Ground.data }], guard := none }] true).wp Tryd.prog (onlyN K) { tmps := #[u0, u1, u2, u3, .pointer (some ⟨pb, 0, none⟩), .complex .f64 (fl z.1) (fl z.2), u6, u7, u8, u9, u10, u11, u12, u13, u14, u15, u16, u17, u18, u19, u20, u21, u22, u23, u24, u25, u26, u27, u28, u29, u30, u31, u32, u33, u34, u35, u36, u37, u38, u39, u40, u41, u42, u43, u44, u45, u46, u47, u48, u49, u50, u51, u52, u53, u54, u55, u56, u57, u58, u59, u60, u61, u62, u63, u64, u65, u66, u67, u68, u69, u70, u71, u72, u73, u74, u75, u76, u77, u78, u79, u80, u81, u82, u83, u84, u85, u86, u87, u88, u89, u90, u91, u92, u93, u94, u95, u96, u97, u98, u99, u100], defers := ds } W := by
  have KD : Kept (fun _ => False) W W.drew := Kept.drew _ W
  have HS : Hid (∀ V, Kept (fun _ => False) W.drew V → Kept (fun _ => False) W.drew V ∧ V.cell? ⟨pb, 0, none⟩ = some (.int .i64 z.1) ∧ V.cell? ⟨pb, 1, none⟩ = some (.int .i64 z.2)) := fun V K => ⟨K, cellKp (KD.and K) h0, cellKp (KD.and K) h1⟩
  have hb1 := hz.1
  have hb2 := hz.2
  obtain ⟨u1, v1, e1, fu1, fv1⟩ := turn_bits hz.f1 hz.f2 (by omega) (by omega)
  obtain ⟨u2, v2, e2, fu2, fv2⟩ := turn_bits fu1 fv1 (by omega) (by omega)
  obtain ⟨u3, v3, e3, fu3, fv3⟩ := turn_bits fu2 fv2 (by omega) (by omega)
  obtain ⟨u4, v4, e4, fu4, fv4⟩ := turn_bits fu3 fv3 (by omega) (by omega)
  have T1 := fun V => turnAt V _ _ _ _ e1
  have T2 := fun V => turnAt V _ _ _ _ e2
  have T3 := fun V => turnAt V _ _ _ _ e3
  have T4 := fun V => turnAt V _ _ _ _ e4
  have q1 := isF_eq hz.f1 hz.f1
  have q2 := isF_eq hz.f2 hz.f2
  have q3 := isF_eq fu1 (isF_neg z.2 hb2.1 (by omega))
  have q4 := isF_eq fv1 hz.f1
  have q5 := isF_eq fu4 hz.f1
  have q6 := isF_eq fv4 hz.f2
  simp only [decide_true, Int.neg_neg] at q1 q2 q3 q4 q5 q6
  have B := fun V => before_any V z z hz hz
  have ha : ahead z z = false := by rw [ahead_no]; omega
  rw [ha] at B
  have Z := fun V => refZ_any V z
  have hng : ∀ V, (Op.unary .neg (.float .f64 (fl z.2))).run Tryd.prog V = .ok (.float .f64 (Op.negFloat .f64 (fl z.2))) V := fun V => rfl
  have hi1 : ∀ V, (convert 3 31 (.int .i64 z.1)).run Tryd.prog V = .ok (.float .f64 (fl z.1)) V := fun V =>
    run_convert_int_float V 3 31 .i64 .f64 z.1 (by rw [Tryd.underlying3]; rfl) Tryd.underlying31
  have hi2 : ∀ V, (convert 3 31 (.int .i64 z.2)).run Tryd.prog V = .ok (.float .f64 (fl z.2)) V := fun V =>
    run_convert_int_float V 3 31 .i64 .f64 z.2 (by rw [Tryd.underlying3]; rfl) Tryd.underlying31
  unfold pv cx at Z
  unfold cx at B
  clear e1 e2 e3 e4 fu1 fv1 fu2 fv2 fu3 fv3 fu4 fv4 hz h0 h1 hb1 hb2 ha
  generalize Op.negFloat .f64 (fl z.2) = ng at *
  generalize fl z.1 = p at *
  generalize fl z.2 = q at *
  generalize z.1 = a at *
  generalize z.2 = b at *
  go_region_held (fun V => Kept (fun _ => False) W.drew V ∧ V.cell? ⟨pb, 0, none⟩ = some (.int .i64 a) ∧ V.cell? ⟨pb, 1, none⟩ = some (.int .i64 b)) (first | exact HS.out _ (Kept.refl _ _) | exact HS.out _ (by assumption)) (first
    | (go_at_call 12; refine (Z _).mono ?_; rintro e w1 ⟨rfl, K1⟩; clear Z)
    | (go_at_call 13; refine (T1 _).mono ?_; rintro e w2 ⟨rfl, hw2⟩; subst w2)
    | (go_at_call 13; refine (T2 _).mono ?_; rintro e w2 ⟨rfl, hw2⟩; subst w2)
    | (go_at_call 13; refine (T3 _).mono ?_; rintro e w2 ⟨rfl, hw2⟩; subst w2)
    | (go_at_call 13; refine (T4 _).mono ?_; rintro e w2 ⟨rfl, hw2⟩; subst w2)
    | (go_at_call 14; refine (B _).mono ?_; rintro e w2 ⟨rfl, hw2⟩; subst w2)
    | fail)
  all_goals exact h _ _ _ _ _ _ _ _ _ _ _ _ _ _ _ _ _ _ _ _ _ _ _ _ _ _ _ _ _ _ _ K1

end Go.Proofs.YtnhmdeglaoilcaaDoor
