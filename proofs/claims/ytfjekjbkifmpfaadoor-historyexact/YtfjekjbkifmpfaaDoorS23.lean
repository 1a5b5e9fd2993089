/-
 The document's run: the regions of closed, begin and on that draw their order.
-/
import Derived.Test.YtfjekjbkifmpfaaDoorS12
set_option maxRecDepth 100000
set_option maxHeartbeats 16000000
namespace Go.Proofs.YtfjekjbkifmpfaaDoor.Rf
open Go.RowKit
variable {tx x : ByteArray} {ds : List Deferred} {nb sb : Nat} {W : World} {R : World → Prop}
theorem step_call5 {P : Program} {ops : Array Oper} {o : Oper} {a : Act} (w : World) {K : Act → World → Prop} {Q : Exit → Act → World → Prop} {E : Prop}
  (hw : Region.wanted o (yielded ops a.tmps) = true) (f : Nat) (x y z p q : Operand) (t t2 t3 t4 t5 : TypeId) (hop : o.op = Op.call { callee := .value (.func f), args := #[x, y, z, p, q], argTypes := #[t, t2, t3, t4, t5] })
  (he : ∀ args w, (callFunc f args).run P w = .ok (.enter f args) w) (v v2 v3 v4 v5 : Value) (hx : a.eval x = v) (hy : a.eval y = v2) (hz : a.eval z = v3) (hp : a.eval p = v4) (hq : a.eval q = v5) {R : Ending → World → Prop} (hC : Calls P f #[v, v2, v3, v4, v5] w R)
  (hK : ∀ e w', R e w' → ∃ u, e = .returned u ∧ K (a.put o.dst u) w') :
  if Region.wanted o (yielded ops a.tmps) = true then Oper.wp P o a w K Q else E := by
 rw [if_pos hw]
 unfold Oper.wp
 have hf : a.eval (.func f) = .func (.func f) #[] #[] := rfl
 simp [execOp, hop, resolve, invoke, hf, hx, hy, hz, hp, hq, he, Deferred.ofValue]
 refine hC.mono ?_
 rintro e w' h
 obtain ⟨u, rfl, k⟩ := hK e w' h
 exact k
theorem cl6 {idv : ByteArray} {u1 u3 u4 u5 u6 u8 u9 u10 u11 u12 u13 u14 u15 u16 u17 u18 u19 u20 u21 u22 u23 u24 u25 u26 u27 u28 u29 u30 u31 u32 u33 u34 u35 u36 u37 u38 u39 u40 u41 u42 u43 u44 u45 u46 u47 u48 u49 u50 u51 u52 u53 u54 u55 u56 u57 u58 u59 u60 u61 u62 u63 u64 u65 u66 u67 u68 u69 u70 u71 u72 u73 u74 u75 u76 u77 u78 u79 u80 u81 u82 u83 u84 u85 u86 u87 u88 u89 u90 : Value} (K : Act → World → Prop)
  (x0 : W.cell? ⟨sb, 3, none⟩ = some (.string idv)) (x1 : W.cell? ⟨nb, 0, none⟩ = some (.string x)) (hl : idv.size + 1 + x.size ≤ 1000000000)
  (hC : Calls Tryd.prog 88 #[.pointer (some ⟨sb, 0, none⟩), .agg #[.int .i64 4, .string (childP idv x), .string ⟨#[]⟩, .string x, .string ⟨#[]⟩, .string tx, .int .i64 0]] W.drew fun e w' => e = .returned (.tuple #[]) ∧ R w')
  (h : ∀ (v55 v56 v57 v58 v59 v60 v61 v62 v63 v64 v65 v66 v67 v68 v69 : Value) (w5 : World), R w5 → K { tmps := #[.pointer (some ⟨sb, 0, none⟩), u1, .string tx, u3, u4, u5, u6, .pointer (some ⟨nb, 0, none⟩), u8, u9, u10, u11, u12, u13, u14, u15, u16, u17, u18, u19, u20, u21, u22, u23, u24, u25, u26, u27, u28, u29, u30, u31, u32, u33, u34, u35, u36, u37, u38, u39, u40, u41, u42, u43, u44, u45, u46, u47, u48, u49, u50, u51, u52, u53, u54, v55, v56, v57, v58, v59, v60, v61, v62, v63, v64, v65, v66, v67, v68, v69, u70, u71, u72, u73, u74, u75, u76, u77, u78, u79, u80, u81, u82, u83, u84, u85, u86, u87, u88, u89, u90], defers := ds } w5) :
  (Code.region 6 (rgF Tryd.f69 6) true).wp Tryd.prog (onlyN K) { tmps := #[.pointer (some ⟨sb, 0, none⟩), u1, .string tx, u3, u4, u5, u6, .pointer (some ⟨nb, 0, none⟩), u8, u9, u10, u11, u12, u13, u14, u15, u16, u17, u18, u19, u20, u21, u22, u23, u24, u25, u26, u27, u28, u29, u30, u31, u32, u33, u34, u35, u36, u37, u38, u39, u40, u41, u42, u43, u44, u45, u46, u47, u48, u49, u50, u51, u52, u53, u54, u55, u56, u57, u58, u59, u60, u61, u62, u63, u64, u65, u66, u67, u68, u69, u70, u71, u72, u73, u74, u75, u76, u77, u78, u79, u80, u81, u82, u83, u84, u85, u86, u87, u88, u89, u90], defers := ds } W := by
 simp (decide := true) only [rgF, rgn, Tryd.f69, reduceIte, Option.getD_some]
 have HH : Hid _ := h
 have r0 : W.drew.cell? ⟨sb, 3, none⟩ = some (.string idv) := x0
 have r1 : W.drew.cell? ⟨nb, 0, none⟩ = some (.string x) := x1
 have s1 : (⟨#[47]⟩ : ByteArray).size = 1 := rfl
 have c1 := fun W => run_cat W idv ⟨#[47]⟩ (by rw [s1]; omega)
 have c2 := fun W => run_cat W (idv ++ ⟨#[47]⟩) x (by rw [ByteArray.size_append, s1]; omega)
 unfold childP at hC
 clear h x0 x1
 go_region_law
  (first
    | (refine step_call2 _ (by rfl) 88 _ _ _ _ (by rfl) (enters_of Tryd.func88 (by kernel_rfl) rfl) _ _ (by rfl) (by rfl) hC ?_; rintro e w5 ⟨rfl, R5⟩; refine ⟨_, rfl, ?_⟩)
    | fail)
 all_goals exact HH.out _ _ _ _ _ _ _ _ _ _ _ _ _ _ _ w5 R5
theorem cl8 {pr pn : ByteArray} {st : Int} {u3 u4 u5 u6 u7 u8 u9 u10 u11 u12 u13 u14 u15 u16 u17 u18 u19 u20 u21 u22 u23 u24 u25 u26 u27 u28 u29 u30 u31 u32 u33 u34 u35 u36 u37 u38 u39 u40 u41 u42 u43 u44 u45 u46 u47 u48 u49 u50 u51 u52 u53 u54 u55 u56 u57 u58 u59 u60 u61 u62 u63 u64 u65 u66 u67 u68 u69 u70 u71 u72 u73 u74 u75 u76 u77 u78 u79 u80 u81 u82 u83 u84 u85 u86 u87 u88 u89 u90 : Value} (K : Act → World → Prop)
  (x0 : W.cell? ⟨sb, 4, none⟩ = some (.string pr)) (x1 : W.cell? ⟨sb, 5, none⟩ = some (.string pn))
  (hC : Calls Tryd.prog 88 #[.pointer (some ⟨sb, 0, none⟩), .agg #[.int .i64 2, .string pr, .string ⟨#[]⟩, .string pn, .string ⟨#[]⟩, .string tx, .int .i64 st]] W.drew fun e w' => e = .returned (.tuple #[]) ∧ R w')
  (h : ∀ (v76 v77 v78 v79 v80 v81 v82 v83 v84 v85 v86 v87 v88 v89 v90 : Value) (w5 : World), R w5 → K { tmps := #[.pointer (some ⟨sb, 0, none⟩), .int .i64 st, .string tx, u3, u4, u5, u6, u7, u8, u9, u10, u11, u12, u13, u14, u15, u16, u17, u18, u19, u20, u21, u22, u23, u24, u25, u26, u27, u28, u29, u30, u31, u32, u33, u34, u35, u36, u37, u38, u39, u40, u41, u42, u43, u44, u45, u46, u47, u48, u49, u50, u51, u52, u53, u54, u55, u56, u57, u58, u59, u60, u61, u62, u63, u64, u65, u66, u67, u68, u69, u70, u71, u72, u73, u74, u75, v76, v77, v78, v79, v80, v81, v82, v83, v84, v85, v86, v87, v88, v89, v90], defers := ds } w5) :
  (Code.region 8 (rgF Tryd.f69 8) true).wp Tryd.prog (onlyN K) { tmps := #[.pointer (some ⟨sb, 0, none⟩), .int .i64 st, .string tx, u3, u4, u5, u6, u7, u8, u9, u10, u11, u12, u13, u14, u15, u16, u17, u18, u19, u20, u21, u22, u23, u24, u25, u26, u27, u28, u29, u30, u31, u32, u33, u34, u35, u36, u37, u38, u39, u40, u41, u42, u43, u44, u45, u46, u47, u48, u49, u50, u51, u52, u53, u54, u55, u56, u57, u58, u59, u60, u61, u62, u63, u64, u65, u66, u67, u68, u69, u70, u71, u72, u73, u74, u75, u76, u77, u78, u79, u80, u81, u82, u83, u84, u85, u86, u87, u88, u89, u90], defers := ds } W := by
 simp (decide := true) only [rgF, rgn, Tryd.f69, reduceIte, Option.getD_some]
 have HH : Hid _ := h
 have r0 : W.drew.cell? ⟨sb, 4, none⟩ = some (.string pr) := x0
 have r1 : W.drew.cell? ⟨sb, 5, none⟩ = some (.string pn) := x1
 clear h x0 x1
 go_region_law
  (first
    | (refine step_call2 _ (by rfl) 88 _ _ _ _ (by rfl) (enters_of Tryd.func88 (by kernel_rfl) rfl) _ _ (by rfl) (by rfl) hC ?_; rintro e w5 ⟨rfl, R5⟩; refine ⟨_, rfl, ?_⟩)
    | fail)
 all_goals exact HH.out _ _ _ _ _ _ _ _ _ _ _ _ _ _ _ w5 R5
theorem bg8 {nw dl z : Int} {u1 u2 u4 u5 u6 u7 u8 u9 u10 u11 u12 u13 u14 u15 u16 u17 u18 u19 u20 u21 u22 u23 u24 u25 u26 u27 u28 u29 u30 u31 u32 u33 u34 u35 u36 u37 u38 u39 u40 u41 u42 u43 u44 u45 u46 u47 u48 u49 u50 u51 u52 u53 u54 u55 u56 u57 u58 u59 u60 u61 u62 u63 u64 u65 u66 u67 u68 u69 u70 u71 u72 u73 u74 u75 u76 u77 u78 u79 u80 u81 u82 u83 u84 u85 u86 u87 u88 u89 u90 u91 u92 u93 u94 u95 u96 u97 u98 u99 u100 u101 u102 u103 u104 u105 u106 u107 u108 u109 u110 u111 u112 u113 u114 u115 u116 : Value} (K : Act → World → Prop)
  (x0 : W.cell? ⟨nb, 0, none⟩ = some (.string x)) (x1 : W.cell? ⟨sb, 11, none⟩ = some (.int .i64 nw)) (x2 : W.cell? ⟨nb, 4, none⟩ = some (.int .i64 dl)) (hz : IntKind.i64.wrap (nw + dl) = z)
  (hC : Calls Tryd.prog 63 #[.pointer (some ⟨sb, 0, none⟩), .int .i64 7, .string x, .string ⟨#[]⟩, .int .i64 z] W.drew fun e w' => e = .returned (.tuple #[]) ∧ R w')
  (h : ∀ (v34 v35 v36 v37 v38 v39 v40 v41 v42 v43 v44 : Value) (w5 : World), R w5 → K { tmps := #[.pointer (some ⟨sb, 0, none⟩), u1, u2, .pointer (some ⟨nb, 0, none⟩), u4, u5, u6, u7, u8, u9, u10, u11, u12, u13, u14, u15, u16, u17, u18, u19, u20, u21, u22, u23, u24, u25, u26, u27, u28, u29, u30, u31, u32, u33, v34, v35, v36, v37, v38, v39, v40, v41, v42, v43, v44, u45, u46, u47, u48, u49, u50, u51, u52, u53, u54, u55, u56, u57, u58, u59, u60, u61, u62, u63, u64, u65, u66, u67, u68, u69, u70, u71, u72, u73, u74, u75, u76, u77, u78, u79, u80, u81, u82, u83, u84, u85, u86, u87, u88, u89, u90, u91, u92, u93, u94, u95, u96, u97, u98, u99, u100, u101, u102, u103, u104, u105, u106, u107, u108, u109, u110, u111, u112, u113, u114, u115, u116], defers := ds } w5) :
  (Code.region 8 (rgF Tryd.f84 8) true).wp Tryd.prog (onlyN K) { tmps := #[.pointer (some ⟨sb, 0, none⟩), u1, u2, .pointer (some ⟨nb, 0, none⟩), u4, u5, u6, u7, u8, u9, u10, u11, u12, u13, u14, u15, u16, u17, u18, u19, u20, u21, u22, u23, u24, u25, u26, u27, u28, u29, u30, u31, u32, u33, u34, u35, u36, u37, u38, u39, u40, u41, u42, u43, u44, u45, u46, u47, u48, u49, u50, u51, u52, u53, u54, u55, u56, u57, u58, u59, u60, u61, u62, u63, u64, u65, u66, u67, u68, u69, u70, u71, u72, u73, u74, u75, u76, u77, u78, u79, u80, u81, u82, u83, u84, u85, u86, u87, u88, u89, u90, u91, u92, u93, u94, u95, u96, u97, u98, u99, u100, u101, u102, u103, u104, u105, u106, u107, u108, u109, u110, u111, u112, u113, u114, u115, u116], defers := ds } W := by
 simp (decide := true) only [rgF, rgn, Tryd.f84, reduceIte, Option.getD_some]
 have HH : Hid _ := h
 have r0 : W.drew.cell? ⟨nb, 0, none⟩ = some (.string x) := x0
 have r1 : W.drew.cell? ⟨sb, 11, none⟩ = some (.int .i64 nw) := x1
 have r2 : W.drew.cell? ⟨nb, 4, none⟩ = some (.int .i64 dl) := x2
 clear h x0 x1 x2
 go_region_law
  (first
    | (refine step_call5 _ (by rfl) 63 _ _ _ _ _ _ _ _ _ _ (by rfl) (enters_of Tryd.func63 (by kernel_rfl) rfl) _ _ _ _ _ (by rfl) (by rfl) (by rfl) (by rfl) (by rfl) hC ?_; rintro e w5 ⟨rfl, R5⟩; refine ⟨_, rfl, ?_⟩)
    | fail)
 all_goals exact HH.out _ _ _ _ _ _ _ _ _ _ _ w5 R5
theorem bg9 {nw dl z : Int} {u1 u2 u4 u5 u6 u7 u8 u9 u10 u11 u12 u13 u14 u15 u16 u17 u18 u19 u20 u21 u22 u23 u24 u25 u26 u27 u28 u29 u30 u31 u32 u33 u34 u35 u36 u37 u38 u39 u40 u41 u42 u43 u44 u45 u46 u47 u48 u49 u50 u51 u52 u53 u54 u55 u56 u57 u58 u59 u60 u61 u62 u63 u64 u65 u66 u67 u68 u69 u70 u71 u72 u73 u74 u75 u76 u77 u78 u79 u80 u81 u82 u83 u84 u85 u86 u87 u88 u89 u90 u91 u92 u93 u94 u95 u96 u97 u98 u99 u100 u101 u102 u103 u104 u105 u106 u107 u108 u109 u110 u111 u112 u113 u114 u115 u116 : Value} (K : Act → World → Prop)
  (x0 : W.cell? ⟨nb, 0, none⟩ = some (.string x)) (x1 : W.cell? ⟨sb, 11, none⟩ = some (.int .i64 nw)) (x2 : W.cell? ⟨nb, 4, none⟩ = some (.int .i64 dl)) (hz : IntKind.i64.wrap (nw + dl) = z)
  (hC : Calls Tryd.prog 86 #[.pointer (some ⟨sb, 0, none⟩), .agg #[.int .i64 2, .complex .f64 0 0, .string ⟨#[]⟩, .string x, .int .i64 0, .int .i64 z, .int .i64 0, .string ⟨#[]⟩, .string ⟨#[]⟩, .string ⟨#[]⟩, .string ⟨#[]⟩, .string ⟨#[]⟩, .int .i64 0]] W.drew fun e w' => e = .returned (.tuple #[]) ∧ R w')
  (h : ∀ (v45 v46 v47 v48 v49 v50 v51 v52 v53 v54 v55 v56 : Value) (w5 : World), R w5 → K { tmps := #[.pointer (some ⟨sb, 0, none⟩), u1, u2, .pointer (some ⟨nb, 0, none⟩), u4, u5, u6, u7, u8, u9, u10, u11, u12, u13, u14, u15, u16, u17, u18, u19, u20, u21, u22, u23, u24, u25, u26, u27, u28, u29, u30, u31, u32, u33, u34, u35, u36, u37, u38, u39, u40, u41, u42, u43, u44, v45, v46, v47, v48, v49, v50, v51, v52, v53, v54, v55, v56, u57, u58, u59, u60, u61, u62, u63, u64, u65, u66, u67, u68, u69, u70, u71, u72, u73, u74, u75, u76, u77, u78, u79, u80, u81, u82, u83, u84, u85, u86, u87, u88, u89, u90, u91, u92, u93, u94, u95, u96, u97, u98, u99, u100, u101, u102, u103, u104, u105, u106, u107, u108, u109, u110, u111, u112, u113, u114, u115, u116], defers := ds } w5) :
  (Code.region 9 (rgF Tryd.f84 9) true).wp Tryd.prog (onlyN K) { tmps := #[.pointer (some ⟨sb, 0, none⟩), u1, u2, .pointer (some ⟨nb, 0, none⟩), u4, u5, u6, u7, u8, u9, u10, u11, u12, u13, u14, u15, u16, u17, u18, u19, u20, u21, u22, u23, u24, u25, u26, u27, u28, u29, u30, u31, u32, u33, u34, u35, u36, u37, u38, u39, u40, u41, u42, u43, u44, u45, u46, u47, u48, u49, u50, u51, u52, u53, u54, u55, u56, u57, u58, u59, u60, u61, u62, u63, u64, u65, u66, u67, u68, u69, u70, u71, u72, u73, u74, u75, u76, u77, u78, u79, u80, u81, u82, u83, u84, u85, u86, u87, u88, u89, u90, u91, u92, u93, u94, u95, u96, u97, u98, u99, u100, u101, u102, u103, u104, u105, u106, u107, u108, u109, u110, u111, u112, u113, u114, u115, u116], defers := ds } W := by
 simp (decide := true) only [rgF, rgn, Tryd.f84, reduceIte, Option.getD_some]
 have HH : Hid _ := h
 have r0 : W.drew.cell? ⟨nb, 0, none⟩ = some (.string x) := x0
 have r1 : W.drew.cell? ⟨sb, 11, none⟩ = some (.int .i64 nw) := x1
 have r2 : W.drew.cell? ⟨nb, 4, none⟩ = some (.int .i64 dl) := x2
 clear h x0 x1 x2
 go_region_law
  (first
    | (refine step_call2 _ (by rfl) 86 _ _ _ _ (by rfl) (enters_of Tryd.func86 (by kernel_rfl) rfl) _ _ (by rfl) (by rfl) hC ?_; rintro e w5 ⟨rfl, R5⟩; refine ⟨_, rfl, ?_⟩)
    | fail)
 all_goals exact HH.out _ _ _ _ _ _ _ _ _ _ _ _ w5 R5
theorem bg18 {arg : ByteArray} {q0 q1 q2 q3 q4 q5 q6 q7 q8 z : Value} {u1 u2 u4 u5 u6 u7 u8 u9 u10 u11 u12 u13 u14 u15 u16 u17 u18 u19 u20 u21 u22 u23 u24 u25 u26 u27 u28 u29 u30 u31 u32 u33 u34 u35 u36 u37 u38 u39 u40 u41 u42 u43 u44 u45 u46 u47 u48 u49 u50 u51 u52 u53 u54 u55 u56 u57 u58 u59 u60 u61 u62 u63 u64 u65 u66 u67 u68 u69 u70 u71 u72 u73 u74 u75 u76 u77 u78 u79 u80 u81 u82 u83 u84 u85 u86 u87 u88 u89 u90 u91 u92 u93 u94 u95 u96 u97 u98 u99 u100 u101 u102 u103 u104 u105 u106 u107 u108 u109 u110 u111 u112 u113 u114 u115 u116 : Value} (K : Act → World → Prop)
  (x0 : W.cell? ⟨sb, 2, none⟩ = some (q0)) (x1 : W.cell? ⟨sb, 3, none⟩ = some (q1)) (x2 : W.cell? ⟨sb, 4, none⟩ = some (q2)) (x3 : W.cell? ⟨sb, 5, none⟩ = some (q3)) (x4 : W.cell? ⟨sb, 6, none⟩ = some (q4)) (x5 : W.cell? ⟨sb, 7, none⟩ = some (q5)) (x6 : W.cell? ⟨sb, 8, none⟩ = some (q6)) (x7 : W.cell? ⟨sb, 9, none⟩ = some (q7)) (x8 : W.cell? ⟨sb, 10, none⟩ = some (q8)) (x9 : W.cell? ⟨nb, 2, none⟩ = some (.string arg))
  (hC : Calls Tryd.prog 42 #[.agg #[q0, q1, q2, q3, q4, q5, q6, q7, q8], .string arg] W.drew fun e w' => e = .returned z ∧ KF W.drew w')
  (h : ∀ (v91 v92 v93 v94 v95 v96 v97 : Value) (w5 : World), KF W w5 → K { tmps := #[.pointer (some ⟨sb, 0, none⟩), u1, u2, .pointer (some ⟨nb, 0, none⟩), u4, z, u6, u7, u8, u9, u10, u11, u12, u13, u14, u15, u16, u17, u18, u19, u20, u21, u22, u23, u24, u25, u26, u27, u28, u29, u30, u31, u32, u33, u34, u35, u36, u37, u38, u39, u40, u41, u42, u43, u44, u45, u46, u47, u48, u49, u50, u51, u52, u53, u54, u55, u56, u57, u58, u59, u60, u61, u62, u63, u64, u65, u66, u67, u68, u69, u70, u71, u72, u73, u74, u75, u76, u77, u78, u79, u80, u81, u82, u83, u84, u85, u86, u87, u88, u89, u90, v91, v92, v93, v94, v95, v96, v97, u98, u99, u100, u101, u102, u103, u104, u105, u106, u107, u108, u109, u110, u111, u112, u113, u114, u115, u116], defers := ds } w5) :
  (Code.region 18 (rgF Tryd.f84 18) true).wp Tryd.prog (onlyN K) { tmps := #[.pointer (some ⟨sb, 0, none⟩), u1, u2, .pointer (some ⟨nb, 0, none⟩), u4, u5, u6, u7, u8, u9, u10, u11, u12, u13, u14, u15, u16, u17, u18, u19, u20, u21, u22, u23, u24, u25, u26, u27, u28, u29, u30, u31, u32, u33, u34, u35, u36, u37, u38, u39, u40, u41, u42, u43, u44, u45, u46, u47, u48, u49, u50, u51, u52, u53, u54, u55, u56, u57, u58, u59, u60, u61, u62, u63, u64, u65, u66, u67, u68, u69, u70, u71, u72, u73, u74, u75, u76, u77, u78, u79, u80, u81, u82, u83, u84, u85, u86, u87, u88, u89, u90, u91, u92, u93, u94, u95, u96, u97, u98, u99, u100, u101, u102, u103, u104, u105, u106, u107, u108, u109, u110, u111, u112, u113, u114, u115, u116], defers := ds } W := by
 have HH : Hid _ := h
 have KD := Kept.drew (fun _ => False) W
 have HS : Hid (∀ V, KF W.drew V → V.cell? ⟨sb, 2, none⟩ = some (q0) ∧ V.cell? ⟨sb, 3, none⟩ = some (q1) ∧ V.cell? ⟨sb, 4, none⟩ = some (q2) ∧ V.cell? ⟨sb, 5, none⟩ = some (q3) ∧ V.cell? ⟨sb, 6, none⟩ = some (q4) ∧ V.cell? ⟨sb, 7, none⟩ = some (q5) ∧ V.cell? ⟨sb, 8, none⟩ = some (q6) ∧ V.cell? ⟨sb, 9, none⟩ = some (q7) ∧ V.cell? ⟨sb, 10, none⟩ = some (q8) ∧ V.cell? ⟨nb, 2, none⟩ = some (.string arg)) := fun V KV => ⟨kc_ (KD.and KV) x0, kc_ (KD.and KV) x1, kc_ (KD.and KV) x2, kc_ (KD.and KV) x3, kc_ (KD.and KV) x4, kc_ (KD.and KV) x5, kc_ (KD.and KV) x6, kc_ (KD.and KV) x7, kc_ (KD.and KV) x8, kc_ (KD.and KV) x9⟩
 have HKD : Hid (KF W W.drew) := KD
 have hS0 := HS.out W.drew (Kept.refl _ _)
 clear h KD x0 x1 x2 x3 x4 x5 x6 x7 x8 x9
 refine heldR HS (fun _ => ?_)
 refine tkR 0 hS0 ?_
 refine tkR 1 hS0 ?_
 refine tkR 2 hS0 ?_
 refine tkR 3 hS0 ?_
 refine tkR 4 hS0 ?_
 refine tkR 5 hS0 ?_
 refine wpAnyH_ready (rs := [6]) (by kernel_rfl) (by simp) (rdy (fun K' hK => ?_) AllReadyH.nil)
 refine step_call2 _ (by rfl) 42 _ _ _ _ (by rfl) (enters_of Tryd.func42 (by kernel_rfl) rfl) _ _ (by rfl) (by rfl) hC ?_
 rintro e w5 ⟨rfl, K5⟩
 refine ⟨_, rfl, ?_⟩
 refine hK.out _ _ (HS.out _ K5) (fun _ => ?_)
 clear hK K'
 try (simp only [Act.put, List.setIfInBounds_toArray, List.set_cons_zero, List.set_cons_succ])
 refine tkR 7 (HS.out _ K5) ?_
 refine wpAnyH_done (by kernel_rfl) ?_ _
 exact HH.out _ _ _ _ _ _ _ w5 (HKD.out.and K5)
theorem bg20 {g n7 c7 k : Nat} {u1 u2 u4 u6 u7 u8 u9 u10 u11 u12 u13 u14 u15 u16 u17 u18 u19 u20 u21 u22 u23 u24 u25 u26 u27 u28 u29 u30 u31 u32 u33 u34 u35 u36 u37 u38 u39 u40 u41 u42 u43 u44 u45 u46 u47 u48 u49 u50 u51 u52 u53 u54 u55 u56 u57 u58 u59 u60 u61 u62 u63 u64 u65 u66 u67 u68 u69 u70 u71 u72 u73 u74 u75 u76 u77 u78 u79 u80 u81 u82 u83 u84 u85 u86 u87 u88 u89 u90 u91 u92 u93 u94 u95 u96 u97 u98 u99 u100 u101 u102 u103 u104 u105 u106 u107 u108 u109 u110 u111 u112 u113 u114 u115 u116 : Value} (K : Act → World → Prop)
  (x0 : W.cell? ⟨nb, 0, none⟩ = some (.string x)) (x1 : W.cell? ⟨sb, 9, none⟩ = some (.slice (some ⟨g, 0, none⟩) n7 c7)) (x2 : W.cell? ⟨g, k * 2 + 1, none⟩ = some (.string tx)) (hk : k < n7)
  (hC : Calls Tryd.prog 63 #[.pointer (some ⟨sb, 0, none⟩), .int .i64 12, .string x, .string tx, .int .i64 1] W.drew fun e w' => e = .returned (.tuple #[]) ∧ R w')
  (h : ∀ (v100 v101 v102 v103 v104 v105 v106 v107 v108 v109 v110 v111 v112 : Value) (w5 : World), R w5 → K { tmps := #[.pointer (some ⟨sb, 0, none⟩), u1, u2, .pointer (some ⟨nb, 0, none⟩), u4, .int .i64 (k : Nat), u6, u7, u8, u9, u10, u11, u12, u13, u14, u15, u16, u17, u18, u19, u20, u21, u22, u23, u24, u25, u26, u27, u28, u29, u30, u31, u32, u33, u34, u35, u36, u37, u38, u39, u40, u41, u42, u43, u44, u45, u46, u47, u48, u49, u50, u51, u52, u53, u54, u55, u56, u57, u58, u59, u60, u61, u62, u63, u64, u65, u66, u67, u68, u69, u70, u71, u72, u73, u74, u75, u76, u77, u78, u79, u80, u81, u82, u83, u84, u85, u86, u87, u88, u89, u90, u91, u92, u93, u94, u95, u96, u97, u98, u99, v100, v101, v102, v103, v104, v105, v106, v107, v108, v109, v110, v111, v112, u113, u114, u115, u116], defers := ds } w5) :
  (Code.region 20 (rgF Tryd.f84 20) true).wp Tryd.prog (onlyN K) { tmps := #[.pointer (some ⟨sb, 0, none⟩), u1, u2, .pointer (some ⟨nb, 0, none⟩), u4, .int .i64 (k : Nat), u6, u7, u8, u9, u10, u11, u12, u13, u14, u15, u16, u17, u18, u19, u20, u21, u22, u23, u24, u25, u26, u27, u28, u29, u30, u31, u32, u33, u34, u35, u36, u37, u38, u39, u40, u41, u42, u43, u44, u45, u46, u47, u48, u49, u50, u51, u52, u53, u54, u55, u56, u57, u58, u59, u60, u61, u62, u63, u64, u65, u66, u67, u68, u69, u70, u71, u72, u73, u74, u75, u76, u77, u78, u79, u80, u81, u82, u83, u84, u85, u86, u87, u88, u89, u90, u91, u92, u93, u94, u95, u96, u97, u98, u99, u100, u101, u102, u103, u104, u105, u106, u107, u108, u109, u110, u111, u112, u113, u114, u115, u116], defers := ds } W := by
 simp (decide := true) only [rgF, rgn, Tryd.f84, reduceIte, Option.getD_some]
 have HH : Hid _ := h
 have r0 : W.drew.cell? ⟨nb, 0, none⟩ = some (.string x) := x0
 have r1 : W.drew.cell? ⟨sb, 9, none⟩ = some (.slice (some ⟨g, 0, none⟩) n7 c7) := x1
 have r2 : W.drew.cell? ⟨g, k * 2 + 1, none⟩ = some (.string tx) := x2
 have e1 : (k : Int) < (n7 : Int) := by omega
 clear h x0 x1 x2
 go_region_law
  (first
    | (refine step_call5 _ (by rfl) 63 _ _ _ _ _ _ _ _ _ _ (by rfl) (enters_of Tryd.func63 (by kernel_rfl) rfl) _ _ _ _ _ (by rfl) (by rfl) (by rfl) (by rfl) (by rfl) hC ?_; rintro e w5 ⟨rfl, R5⟩; refine ⟨_, rfl, ?_⟩)
    | fail)
 all_goals exact HH.out _ _ _ _ _ _ _ _ _ _ _ _ _ w5 R5
theorem on10 {g m c6 : Nat} {u1 u2 u3 u4 u5 u6 u7 u8 u9 u10 u11 u12 u13 u14 u15 u16 u17 u18 u19 u20 u21 u22 u23 u24 u25 u26 u27 u28 u29 u30 u31 u32 u33 u34 u35 u36 u37 u38 u39 u40 u41 u42 u43 u44 u45 u46 u47 u48 u49 u50 u51 u52 u53 u54 u55 u56 u57 u58 u59 u60 u61 u62 u63 u64 u65 u66 u67 u68 u69 u70 u71 u72 u73 : Value} (K : Act → World → Prop)
  (x0 : W.cell? ⟨sb, 8, none⟩ = some (.slice (some ⟨g, 0, none⟩) (m + 1) c6)) (x1 : W.cell? ⟨g, m * 3 + 2, none⟩ = some (.string tx)) (hm : m ≤ 1000000)
  (hC : Calls Tryd.prog 69 #[.pointer (some ⟨sb, 0, none⟩), .int .i64 2, .string tx] W.drew fun e w' => e = .returned (.tuple #[]) ∧ R w')
  (h : ∀ (v57 v58 v59 v60 v61 v62 v63 v64 v65 v66 v67 v68 v69 v70 v71 v72 v73 : Value) (w5 : World), R w5 → K { tmps := #[.pointer (some ⟨sb, 0, none⟩), u1, u2, u3, u4, u5, u6, u7, u8, u9, u10, u11, u12, u13, u14, u15, u16, u17, u18, u19, u20, u21, u22, u23, u24, u25, u26, u27, u28, u29, u30, u31, u32, u33, u34, u35, u36, u37, u38, u39, u40, u41, u42, u43, u44, u45, u46, u47, u48, u49, u50, u51, u52, u53, u54, u55, u56, v57, v58, v59, v60, v61, v62, v63, v64, v65, v66, v67, v68, v69, v70, v71, v72, v73], defers := ds } w5) :
  (Code.region 10 (rgF Tryd.f64 10) true).wp Tryd.prog (onlyN K) { tmps := #[.pointer (some ⟨sb, 0, none⟩), u1, u2, u3, u4, u5, u6, u7, u8, u9, u10, u11, u12, u13, u14, u15, u16, u17, u18, u19, u20, u21, u22, u23, u24, u25, u26, u27, u28, u29, u30, u31, u32, u33, u34, u35, u36, u37, u38, u39, u40, u41, u42, u43, u44, u45, u46, u47, u48, u49, u50, u51, u52, u53, u54, u55, u56, u57, u58, u59, u60, u61, u62, u63, u64, u65, u66, u67, u68, u69, u70, u71, u72, u73], defers := ds } W := by
 simp (decide := true) only [rgF, rgn, Tryd.f64, reduceIte, Option.getD_some]
 have HH : Hid _ := h
 have r0 : W.drew.cell? ⟨sb, 8, none⟩ = some (.slice (some ⟨g, 0, none⟩) (m + 1) c6) := x0
 have r1 : W.drew.cell? ⟨g, m * 3 + 2, none⟩ = some (.string tx) := x1
 have e1 : IntKind.i64.wrap (m : Int) = (m : Int) := by rw [IntKind.wrap_i64]; omega
 have e2 : (m : Int) < (m : Int) + 1 := by omega
 clear h x0 x1
 go_region_law
  (first
    | (refine step_call3 _ (by rfl) 69 _ _ _ _ _ _ (by rfl) (enters_of Tryd.func69 (by kernel_rfl) rfl) _ _ _ (by rfl) (by rfl) (by rfl) hC ?_; rintro e w5 ⟨rfl, R5⟩; refine ⟨_, rfl, ?_⟩)
    | fail)
 all_goals exact HH.out _ _ _ _ _ _ _ _ _ _ _ _ _ _ _ _ _ w5 R5
end Go.Proofs.YtfjekjbkifmpfaaDoor.Rf
