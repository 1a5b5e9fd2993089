/-
 begin: its region that draws its order.
-/
import Derived.Test.YtfjekjbkifmpfaaDoorS22
set_option maxRecDepth 100000
set_option maxHeartbeats 16000000
namespace Go.Proofs.YtfjekjbkifmpfaaDoor
open Go.RowKit
theorem be12 {W : World} {R : World → Prop} {sb nb : Nat} {t : Tk} {x y z : ByteArray} {ds : List Deferred} {u1 u2 u4 u5 u6 u7 u8 u9 u10 u11 u12 u13 u14 u15 u16 u17 u18 u19 u20 u21 u22 u23 u24 u25 u26 u27 u28 u29 u30 u31 u32 u33 u34 u35 u36 u37 u38 u39 u40 u41 u42 u43 u44 u45 u46 u47 u48 u49 u50 u51 u52 u53 u54 u55 u56 u57 u58 u59 u60 u61 u62 u63 u64 : Value} (K : Act → World → Prop)
  (x0 : W.cell? ⟨nb, 0, none⟩ = some (.string x)) (x1 : W.cell? ⟨nb, 2, none⟩ = some (.string y)) (x2 : W.cell? ⟨nb, 3, none⟩ = some (.string z))
  (hM : Calls Tryd.prog 98 #[.pointer (some ⟨sb, 0, none⟩), .agg #[.int .i64 3, .string z, .string ⟨#[]⟩, .string x, .string y, .string ⟨#[]⟩, .int .i64 0]] W.drew fun e w' => e = .returned (.agg #[.int .i64 t.kind, .complex .f64 0 0, .string t.flow, .string t.node, .int .i64 t.tr, .int .i64 t.tm, .int .i64 t.mail.kind, .string t.mail.dst, .string t.mail.src, .string t.mail.node, .string t.mail.name, .string t.mail.text, .int .i64 t.mail.status]) ∧ KF W.drew w')
  (hT : ∀ V, KF W V → Calls Tryd.prog 73 #[.pointer (some ⟨sb, 0, none⟩), .agg #[.int .i64 14, .string x, .string ⟨#[]⟩, .int .i64 0], .slice (some ⟨V.heap.size, 0, none⟩) 1 1] (V.alloc (zT t)) fun e w' => e = .returned (.tuple #[]) ∧ R w')
  (h : ∀ (v50 v51 v52 v53 v54 v55 v56 v57 v58 v59 v60 v61 v62 v63 v64 : Value) (w9 : World), R w9 → K { tmps := #[.pointer (some ⟨sb, 0, none⟩), u1, u2, .pointer (some ⟨nb, 0, none⟩), u4, u5, u6, u7, u8, u9, u10, u11, u12, u13, u14, u15, u16, u17, u18, u19, u20, u21, u22, u23, u24, u25, u26, u27, u28, u29, u30, u31, u32, u33, u34, u35, u36, u37, u38, u39, u40, u41, u42, u43, u44, u45, u46, u47, u48, u49, v50, v51, v52, v53, v54, v55, v56, v57, v58, v59, v60, v61, v62, v63, v64], defers := ds } w9) :
  (Code.region 12 (rgF Tryd.f94 12) true).wp Tryd.prog (onlyN K) { tmps := #[.pointer (some ⟨sb, 0, none⟩), u1, u2, .pointer (some ⟨nb, 0, none⟩), u4, u5, u6, u7, u8, u9, u10, u11, u12, u13, u14, u15, u16, u17, u18, u19, u20, u21, u22, u23, u24, u25, u26, u27, u28, u29, u30, u31, u32, u33, u34, u35, u36, u37, u38, u39, u40, u41, u42, u43, u44, u45, u46, u47, u48, u49, u50, u51, u52, u53, u54, u55, u56, u57, u58, u59, u60, u61, u62, u63, u64], defers := ds } W := by
 simp (decide := true) only [rgF, rgn, Tryd.f94, reduceIte, Option.getD_some]
 have HH : Hid _ := h
 have HKD : Hid (KF W W.drew) := Kept.drew _ _
 have HC : Hid (∀ V, KF W V → V.cell? ⟨nb, 0, none⟩ = some (.string x)) := fun V KV => kc_ KV x0
 have r0 : W.drew.cell? ⟨nb, 0, none⟩ = some (.string x) := x0
 have r1 : W.drew.cell? ⟨nb, 2, none⟩ = some (.string y) := x1
 have r2 : W.drew.cell? ⟨nb, 3, none⟩ = some (.string z) := x2
 clear h x0 x1 x2
 go_region_law
  (first
    | (refine step_call2 _ (by rfl) 98 _ _ _ _ (by rfl) (enters_of Tryd.func98 (by kernel_rfl) rfl) _ _ (by rfl) (by rfl) hM ?_; rintro e w2 ⟨rfl, K2⟩; refine ⟨_, rfl, ?_⟩; have s0 := HC.out w2 (HKD.out.and K2); have s1 := HC.out (w2.alloc (zT t)) ((HKD.out.and K2).and (Kept.alloc _ _ _)))
    | (refine step_call3 _ (by rfl) 73 _ _ _ _ _ _ (by rfl) (enters_of Tryd.func73 (by kernel_rfl) rfl) _ _ _ (by rfl) (by rfl) (by rfl) (hT w2 (HKD.out.and K2)) ?_; rintro e w9 ⟨rfl, R9⟩; refine ⟨_, rfl, ?_⟩)
    | fail)
 all_goals exact HH.out _ _ _ _ _ _ _ _ _ _ _ _ _ _ _ w9 R9
end Go.Proofs.YtfjekjbkifmpfaaDoor
