/-
 end: its regions that draw their order.
-/
import Derived.Test.YtfjekjbkifmpfaaDoorS12
set_option maxRecDepth 100000
set_option maxHeartbeats 16000000
namespace Go.Proofs.YtfjekjbkifmpfaaDoor
open Go.RowKit
variable {ds : List Deferred} {sb : Nat} {W : World}
theorem en1 {d0 d1 : Value} {q0 q1 q2 q3 q4 q5 q6 q7 q8 : Value} {z : Value} {u1 u2 u3 u4 u5 u6 u7 u8 u9 u10 u11 u12 u13 u14 u15 u16 u17 u18 u19 u20 u21 u22 u23 u24 u25 u26 u27 u28 u29 u30 u31 u32 u33 u34 u35 u36 u37 u38 u39 u40 u41 u42 u43 u44 u45 u46 u47 u48 u49 u50 u51 u52 u53 u54 u55 u56 u57 u58 u59 u60 u61 u62 u63 u64 u65 u66 u67 u68 u69 u70 u71 u72 u73 u74 u75 u76 u77 u78 u79 u80 u81 u82 u83 u84 u85 u86 u87 : Value} (K : Act → World → Prop)
  (x0 : W.cell? ⟨sb, 0, none⟩ = some (d0)) (x1 : W.cell? ⟨sb, 1, none⟩ = some (d1)) (x2 : W.cell? ⟨sb, 2, none⟩ = some (q0)) (x3 : W.cell? ⟨sb, 3, none⟩ = some (q1)) (x4 : W.cell? ⟨sb, 4, none⟩ = some (q2)) (x5 : W.cell? ⟨sb, 5, none⟩ = some (q3)) (x6 : W.cell? ⟨sb, 6, none⟩ = some (q4)) (x7 : W.cell? ⟨sb, 7, none⟩ = some (q5)) (x8 : W.cell? ⟨sb, 8, none⟩ = some (q6)) (x9 : W.cell? ⟨sb, 9, none⟩ = some (q7)) (x10 : W.cell? ⟨sb, 10, none⟩ = some (q8))
  (hC : Calls Tryd.prog 44 #[.agg #[d0, d1], .agg #[q0, q1, q2, q3, q4, q5, q6, q7, q8]] W.drew fun e w' => e = .returned z ∧ KF W.drew w')
  (h : ∀ (v9 v10 v11 v12 v13 v14 v15 v16 : Value) (w5 : World), KF W w5 → K { tmps := #[.pointer (some ⟨sb, 0, none⟩), u1, u2, u3, u4, u5, u6, u7, u8, v9, v10, v11, v12, v13, v14, v15, v16, z, .int .i64 0, u19, u20, u21, u22, u23, u24, u25, u26, u27, u28, u29, u30, u31, u32, u33, u34, u35, u36, u37, u38, u39, u40, u41, u42, u43, u44, u45, u46, u47, u48, u49, u50, u51, u52, u53, u54, u55, u56, u57, u58, u59, u60, u61, u62, u63, u64, u65, u66, u67, u68, u69, u70, u71, u72, u73, u74, u75, u76, u77, u78, u79, u80, u81, u82, u83, u84, u85, u86, u87], defers := ds } w5) :
  (Code.region 1 (rgF Tryd.f81 1) true).wp Tryd.prog (onlyN K) { tmps := #[.pointer (some ⟨sb, 0, none⟩), u1, u2, u3, u4, u5, u6, u7, u8, u9, u10, u11, u12, u13, u14, u15, u16, u17, u18, u19, u20, u21, u22, u23, u24, u25, u26, u27, u28, u29, u30, u31, u32, u33, u34, u35, u36, u37, u38, u39, u40, u41, u42, u43, u44, u45, u46, u47, u48, u49, u50, u51, u52, u53, u54, u55, u56, u57, u58, u59, u60, u61, u62, u63, u64, u65, u66, u67, u68, u69, u70, u71, u72, u73, u74, u75, u76, u77, u78, u79, u80, u81, u82, u83, u84, u85, u86, u87], defers := ds } W := by
 have HH : Hid _ := h
 have KD := Kept.drew (fun _ => False) W
 have HS : Hid (∀ V, KF W.drew V → V.cell? ⟨sb, 0, none⟩ = some (d0) ∧ V.cell? ⟨sb, 1, none⟩ = some (d1) ∧ V.cell? ⟨sb, 2, none⟩ = some (q0) ∧ V.cell? ⟨sb, 3, none⟩ = some (q1) ∧ V.cell? ⟨sb, 4, none⟩ = some (q2) ∧ V.cell? ⟨sb, 5, none⟩ = some (q3) ∧ V.cell? ⟨sb, 6, none⟩ = some (q4) ∧ V.cell? ⟨sb, 7, none⟩ = some (q5) ∧ V.cell? ⟨sb, 8, none⟩ = some (q6) ∧ V.cell? ⟨sb, 9, none⟩ = some (q7) ∧ V.cell? ⟨sb, 10, none⟩ = some (q8)) := fun V KV => ⟨kc_ (KD.and KV) x0, kc_ (KD.and KV) x1, kc_ (KD.and KV) x2, kc_ (KD.and KV) x3, kc_ (KD.and KV) x4, kc_ (KD.and KV) x5, kc_ (KD.and KV) x6, kc_ (KD.and KV) x7, kc_ (KD.and KV) x8, kc_ (KD.and KV) x9, kc_ (KD.and KV) x10⟩
 have HKD : Hid (KF W W.drew) := KD
 have hS0 := HS.out W.drew (Kept.refl _ _)
 clear h KD x0 x1 x2 x3 x4 x5 x6 x7 x8 x9 x10
 refine heldR HS (fun _ => ?_)
 refine tkR 0 hS0 ?_
 refine tkR 1 hS0 ?_
 refine tkR 2 hS0 ?_
 refine tkR 3 hS0 ?_
 refine tkR 4 hS0 ?_
 refine tkR 5 hS0 ?_
 refine tkR 6 hS0 ?_
 refine tkR 7 hS0 ?_
 refine tkR 9 hS0 ?_
 refine wpAnyH_ready (rs := [8]) (by kernel_rfl) (by simp) (rdy (fun K' hK => ?_) AllReadyH.nil)
 refine step_call2 _ (by rfl) 44 _ _ _ _ (by rfl) (enters_of Tryd.func44 (by kernel_rfl) rfl) _ _ (by rfl) (by rfl) hC ?_
 rintro e w5 ⟨rfl, K5⟩
 refine ⟨_, rfl, ?_⟩
 refine hK.out _ _ (HS.out _ K5) (fun _ => ?_)
 clear hK K'
 try (simp only [Act.put, List.setIfInBounds_toArray, List.set_cons_zero, List.set_cons_succ])
 refine wpAnyH_done (by kernel_rfl) ?_ _
 exact HH.out _ _ _ _ _ _ _ _ w5 (HKD.out.and K5)
theorem en9 {B k c7 : Nat} {a7 : Option Addr} {t : Tk} {tx : ByteArray} {pr pn : ByteArray} {st : Int} {xs : List Value} {u3 u4 u5 u7 u8 u9 u10 u11 u12 u13 u14 u15 u16 u17 u18 u19 u20 u21 u22 u23 u24 u25 u26 u27 u28 u29 u30 u31 u32 u33 u34 u35 u36 u37 u38 u39 u40 u41 u42 u43 u44 u45 u46 u47 u48 u49 u50 u51 u52 u53 u54 u55 u56 u57 u58 u59 u60 u61 u62 u63 u64 u65 u66 u67 u68 u69 u70 u71 u72 u73 u74 u75 u76 u77 u78 u79 u80 u81 u82 u83 u84 u85 u86 u87 : Value} (K : Act → World → Prop)
  (x0 : W.cell? ⟨sb, 4, none⟩ = some (.string pr)) (x1 : W.cell? ⟨sb, 5, none⟩ = some (.string pn)) (hB : B ≤ W.heap.size) (hk : k ≤ 1000000000) (hR : W.ownsRow B 78 13 (.slice a7 k c7) k xs)
  (hM : ∀ V, KF W V → Calls Tryd.prog 98 #[.pointer (some ⟨sb, 0, none⟩), .agg #[.int .i64 2, .string pr, .string ⟨#[]⟩, .string pn, .string ⟨#[]⟩, .string tx, .int .i64 st]] V fun e w' => e = .returned (.agg #[.int .i64 t.kind, .complex .f64 0 0, .string t.flow, .string t.node, .int .i64 t.tr, .int .i64 t.tm, .int .i64 t.mail.kind, .string t.mail.dst, .string t.mail.src, .string t.mail.node, .string t.mail.name, .string t.mail.text, .int .i64 t.mail.status]) ∧ KF V w')
  (h : ∀ (v64 v65 v66 v67 v68 v69 v70 v71 v72 v73 v74 v75 v76 v77 v78 v79 v80 v81 : Value) (a4 : Option Addr) (c4 : Nat) (w4 : World), w4.ownsRow B 78 13 (.slice a4 (k + 1) c4) (k + 1) (xs ++ tkC t) → Kept (fun j => B ≤ j) W w4 → K { tmps := #[.pointer (some ⟨sb, 0, none⟩), .int .i64 st, .string tx, u3, u4, u5, .slice a4 (k + 1) c4, u7, u8, u9, u10, u11, u12, u13, u14, u15, u16, u17, u18, u19, u20, u21, u22, u23, u24, u25, u26, u27, u28, u29, u30, u31, u32, u33, u34, u35, u36, u37, u38, u39, u40, u41, u42, u43, u44, u45, u46, u47, u48, u49, u50, u51, u52, u53, u54, u55, u56, u57, u58, u59, u60, u61, u62, u63, v64, v65, v66, v67, v68, v69, v70, v71, v72, v73, v74, v75, v76, v77, v78, v79, v80, v81, u82, u83, u84, u85, u86, u87], defers := ds } w4) :
  (Code.region 9 (rgF Tryd.f81 9) true).wp Tryd.prog (onlyN K) { tmps := #[.pointer (some ⟨sb, 0, none⟩), .int .i64 st, .string tx, u3, u4, u5, .slice a7 k c7, u7, u8, u9, u10, u11, u12, u13, u14, u15, u16, u17, u18, u19, u20, u21, u22, u23, u24, u25, u26, u27, u28, u29, u30, u31, u32, u33, u34, u35, u36, u37, u38, u39, u40, u41, u42, u43, u44, u45, u46, u47, u48, u49, u50, u51, u52, u53, u54, u55, u56, u57, u58, u59, u60, u61, u62, u63, u64, u65, u66, u67, u68, u69, u70, u71, u72, u73, u74, u75, u76, u77, u78, u79, u80, u81, u82, u83, u84, u85, u86, u87], defers := ds } W := by
 simp (decide := true) only [rgF, rgn, Tryd.f81, reduceIte, Option.getD_some]
 obtain ⟨j0, hj0, hy0, hy1, hy2⟩ := info_parts Tryd.info78
 have HH : Hid _ := h
 have KD := Kept.drew (fun _ => False) W
 have HKD : Hid (KF W W.drew) := KD
 have HR : Hid (∀ V, KF W V → V.ownsRow B 78 13 (.slice a7 k c7) k xs ∧ B ≤ V.heap.size) := fun V KV => ⟨ownsRow_keep hR (fun g hg => KV.block g (ownsRow_blk hR hg) (fun h => h)), Nat.le_trans hB KV.size⟩
 have HB : Hid (∀ g, (Value.slice a7 k c7).ownBlock = some g → B ≤ g) := fun g hg => (hR.lt g hg).1
 have r0 : W.drew.cell? ⟨sb, 4, none⟩ = some (.string pr) := x0
 have r1 : W.drew.cell? ⟨sb, 5, none⟩ = some (.string pn) := x1
 clear h KD hR hB x0 x1
 go_region_law
  (first
    | (refine step_call2 _ (by rfl) 98 _ _ _ _ (by rfl) (enters_of Tryd.func98 (by kernel_rfl) rfl) _ _ (by rfl) (by rfl) (hM _ HKD.out) ?_; rintro e w2 ⟨rfl, K2⟩; refine ⟨_, rfl, ?_⟩)
    | (refine step_append_sr _ (by rfl) _ _ 56 (by rfl) B 78 j0 _ 13 168 Tryd.underlying56 hj0 hy0 hy1 hy2 rfl (by decide) (.slice a7 k c7) k xs (by rfl) ((HR.out w2 (HKD.out.and K2)).1.alloc _) _ (by rfl) 1 (tkC t) (.inl ⟨_, 1, rfl, rfl, World.news_of_block (heap_alloc_new _ _)⟩) (fun u hu => tkF_one [t] u (by simpa [tkF] using hu)) (by unfold maxLen; omega) (by omega) (Nat.le_trans (HR.out w2 (HKD.out.and K2)).2 (Kept.alloc (fun _ => False) _ _).size) ?_; intro a4 c4 w4 ho4 hg4 _ hl4; have K4 : Kept (fun j => B ≤ j) W w4 := ((HKD.out.and K2).mono (fun _ h => h.elim)).and ((Kept.alloc _ _ _).and (Kept.grown hg4 (fun j e => HB.out j e))))
    | fail)
 all_goals exact HH.out _ _ _ _ _ _ _ _ _ _ _ _ _ _ _ _ _ _ a4 c4 w4 ho4 K4
theorem en6 {B k c7 : Nat} {a7 : Option Addr} {t : Tk} {tx : ByteArray} {nb : Nat} {x y : ByteArray} {xs : List Value} {u1 u3 u4 u5 u7 u9 u10 u11 u12 u13 u14 u15 u16 u17 u18 u19 u20 u21 u22 u23 u24 u25 u26 u27 u28 u29 u30 u31 u32 u33 u34 u35 u36 u37 u38 u39 u40 u41 u42 u43 u44 u45 u46 u47 u48 u49 u50 u51 u52 u53 u54 u55 u56 u57 u58 u59 u60 u61 u62 u63 u64 u65 u66 u67 u68 u69 u70 u71 u72 u73 u74 u75 u76 u77 u78 u79 u80 u81 u82 u83 u84 u85 u86 u87 : Value} (K : Act → World → Prop)
  (x0 : W.cell? ⟨nb, 0, none⟩ = some (.string x)) (hN : ∀ V, KF W V → Calls Tryd.prog 99 #[.pointer (some ⟨sb, 0, none⟩), .string x] V fun e w' => e = .returned (.string y) ∧ w' = V) (hB : B ≤ W.heap.size) (hk : k ≤ 1000000000) (hR : W.ownsRow B 78 13 (.slice a7 k c7) k xs)
  (hM : ∀ V, KF W V → Calls Tryd.prog 98 #[.pointer (some ⟨sb, 0, none⟩), .agg #[.int .i64 4, .string y, .string ⟨#[]⟩, .string x, .string ⟨#[]⟩, .string tx, .int .i64 0]] V fun e w' => e = .returned (.agg #[.int .i64 t.kind, .complex .f64 0 0, .string t.flow, .string t.node, .int .i64 t.tr, .int .i64 t.tm, .int .i64 t.mail.kind, .string t.mail.dst, .string t.mail.src, .string t.mail.node, .string t.mail.name, .string t.mail.text, .int .i64 t.mail.status]) ∧ KF V w')
  (h : ∀ (v44 v45 v46 v47 v48 v49 v50 v51 v52 v53 v54 v55 v56 : Value) (a4 : Option Addr) (c4 : Nat) (w4 : World), w4.ownsRow B 78 13 (.slice a4 (k + 1) c4) (k + 1) (xs ++ tkC t) → Kept (fun j => B ≤ j) W w4 → K { tmps := #[.pointer (some ⟨sb, 0, none⟩), u1, .string tx, u3, u4, u5, .slice a4 (k + 1) c4, u7, .pointer (some ⟨nb, 0, none⟩), u9, u10, u11, u12, u13, u14, u15, u16, u17, u18, u19, u20, u21, u22, u23, u24, u25, u26, u27, u28, u29, u30, u31, u32, u33, u34, u35, u36, u37, u38, u39, u40, u41, u42, u43, v44, v45, v46, v47, v48, v49, v50, v51, v52, v53, v54, v55, v56, u57, u58, u59, u60, u61, u62, u63, u64, u65, u66, u67, u68, u69, u70, u71, u72, u73, u74, u75, u76, u77, u78, u79, u80, u81, u82, u83, u84, u85, u86, u87], defers := ds } w4) :
  (Code.region 6 (rgF Tryd.f81 6) true).wp Tryd.prog (onlyN K) { tmps := #[.pointer (some ⟨sb, 0, none⟩), u1, .string tx, u3, u4, u5, .slice a7 k c7, u7, .pointer (some ⟨nb, 0, none⟩), u9, u10, u11, u12, u13, u14, u15, u16, u17, u18, u19, u20, u21, u22, u23, u24, u25, u26, u27, u28, u29, u30, u31, u32, u33, u34, u35, u36, u37, u38, u39, u40, u41, u42, u43, u44, u45, u46, u47, u48, u49, u50, u51, u52, u53, u54, u55, u56, u57, u58, u59, u60, u61, u62, u63, u64, u65, u66, u67, u68, u69, u70, u71, u72, u73, u74, u75, u76, u77, u78, u79, u80, u81, u82, u83, u84, u85, u86, u87], defers := ds } W := by
 simp (decide := true) only [rgF, rgn, Tryd.f81, reduceIte, Option.getD_some]
 obtain ⟨j0, hj0, hy0, hy1, hy2⟩ := info_parts Tryd.info78
 have HH : Hid _ := h
 have KD := Kept.drew (fun _ => False) W
 have HKD : Hid (KF W W.drew) := KD
 have HR : Hid (∀ V, KF W V → V.ownsRow B 78 13 (.slice a7 k c7) k xs ∧ B ≤ V.heap.size) := fun V KV => ⟨ownsRow_keep hR (fun g hg => KV.block g (ownsRow_blk hR hg) (fun h => h)), Nat.le_trans hB KV.size⟩
 have HB : Hid (∀ g, (Value.slice a7 k c7).ownBlock = some g → B ≤ g) := fun g hg => (hR.lt g hg).1
 have r0 : W.drew.cell? ⟨nb, 0, none⟩ = some (.string x) := x0
 clear h KD hR hB x0
 go_region_law
  (first
    | (refine step_call2 _ (by rfl) 99 _ _ _ _ (by rfl) (enters_of Tryd.func99 (by kernel_rfl) rfl) _ _ (by rfl) (by rfl) (hN _ HKD.out) ?_; rintro e w1 ⟨rfl, hw1⟩; subst w1; refine ⟨_, rfl, ?_⟩)
    | (refine step_call2 _ (by rfl) 98 _ _ _ _ (by rfl) (enters_of Tryd.func98 (by kernel_rfl) rfl) _ _ (by rfl) (by rfl) (hM _ HKD.out) ?_; rintro e w2 ⟨rfl, K2⟩; refine ⟨_, rfl, ?_⟩)
    | (refine step_append_sr _ (by rfl) _ _ 56 (by rfl) B 78 j0 _ 13 168 Tryd.underlying56 hj0 hy0 hy1 hy2 rfl (by decide) (.slice a7 k c7) k xs (by rfl) ((HR.out w2 (HKD.out.and K2)).1.alloc _) _ (by rfl) 1 (tkC t) (.inl ⟨_, 1, rfl, rfl, World.news_of_block (heap_alloc_new _ _)⟩) (fun u hu => tkF_one [t] u (by simpa [tkF] using hu)) (by unfold maxLen; omega) (by omega) (Nat.le_trans (HR.out w2 (HKD.out.and K2)).2 (Kept.alloc (fun _ => False) _ _).size) ?_; intro a4 c4 w4 ho4 hg4 _ hl4; have K4 : Kept (fun j => B ≤ j) W w4 := ((HKD.out.and K2).mono (fun _ h => h.elim)).and ((Kept.alloc _ _ _).and (Kept.grown hg4 (fun j e => HB.out j e))))
    | fail)
 all_goals exact HH.out _ _ _ _ _ _ _ _ _ _ _ _ _ a4 c4 w4 ho4 K4
end Go.Proofs.YtfjekjbkifmpfaaDoor
