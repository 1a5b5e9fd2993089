/-
 change: its regions that draw their order and set fields.
-/
import Derived.Test.YtfjekjbkifmpfaaDoorS04
set_option maxRecDepth 100000
set_option maxHeartbeats 16000000
namespace Go.Proofs.YtfjekjbkifmpfaaDoor
open Go.RowKit
variable {et : ByteArray} {ds : List Deferred} {eb sb so : Nat} {W : World}
theorem ch10 {T : TypeId} {pre post : List Value} {db : Nat} {nm en : ByteArray} {q0 q1 q2 q3 q4 q5 q6 q7 q8 : Value} {u0 u2 u4 u6 u7 u8 u9 u10 u11 u12 u13 u14 u15 u16 u17 u18 u19 u20 u21 u22 u23 u24 u25 u26 u27 u28 u29 u30 u31 u32 u33 u34 u35 u36 u37 u38 u39 u40 u41 u42 u43 u44 u45 u46 u47 u48 u49 u50 u51 u52 u53 u54 u55 u56 u57 u58 u59 u60 u61 u62 u63 u64 u65 u66 u67 u68 u69 u70 u71 u72 u73 u74 u75 u76 u77 u78 u79 u80 u81 u82 u83 u84 u85 u86 u87 u88 u89 u90 u91 u92 u93 u94 u95 u96 u97 u98 u99 u100 u101 : Value} (K : Act → World → Prop)
  (hb : W.heap[sb]? = some (.cells (pre ++ [q0, q1, q2, q3, q4, q5, q6, q7, q8] ++ post).toArray T (0, 0))) (hso0 : pre.length = so) (x0 : W.cell? ⟨db, 0, none⟩ = some (.string nm)) (x1 : W.cell? ⟨eb, 2, none⟩ = some (.string et)) (x2 : W.cell? ⟨eb, 1, none⟩ = some (.string en)) (hdb : db ≠ sb) (heb : eb ≠ sb)
  (h : ∀ (v26 v27 v28 v29 v30 v31 v32 v33 v34 v35 v36 v37 v38 v39 v40 v41 v42 v43 : Value) (W' : World), W'.heap[sb]? = some (.cells (pre ++ [.string nm, q1, .string et, .string en, .int .i64 1, q5, q6, q7, q8] ++ post).toArray T (0, 0)) → Kept (fun j => j = sb) W W' → K { tmps := #[u0, .pointer (some ⟨sb, so, none⟩), u2, .pointer (some ⟨db, 0, none⟩), u4, .pointer (some ⟨eb, 0, none⟩), u6, u7, u8, u9, u10, u11, u12, u13, u14, u15, u16, u17, u18, u19, u20, u21, u22, u23, u24, u25, v26, v27, v28, v29, v30, v31, v32, v33, v34, v35, v36, v37, v38, v39, v40, v41, v42, v43, u44, u45, u46, u47, u48, u49, u50, u51, u52, u53, u54, u55, u56, u57, u58, u59, u60, u61, u62, u63, u64, u65, u66, u67, u68, u69, u70, u71, u72, u73, u74, u75, u76, u77, u78, u79, u80, u81, u82, u83, u84, u85, u86, u87, u88, u89, u90, u91, u92, u93, u94, u95, u96, u97, u98, u99, u100, u101], defers := ds } W') :
  (Code.region 10 (rgF Tryd.f36 10) true).wp Tryd.prog (onlyN K) { tmps := #[u0, .pointer (some ⟨sb, so, none⟩), u2, .pointer (some ⟨db, 0, none⟩), u4, .pointer (some ⟨eb, 0, none⟩), u6, u7, u8, u9, u10, u11, u12, u13, u14, u15, u16, u17, u18, u19, u20, u21, u22, u23, u24, u25, u26, u27, u28, u29, u30, u31, u32, u33, u34, u35, u36, u37, u38, u39, u40, u41, u42, u43, u44, u45, u46, u47, u48, u49, u50, u51, u52, u53, u54, u55, u56, u57, u58, u59, u60, u61, u62, u63, u64, u65, u66, u67, u68, u69, u70, u71, u72, u73, u74, u75, u76, u77, u78, u79, u80, u81, u82, u83, u84, u85, u86, u87, u88, u89, u90, u91, u92, u93, u94, u95, u96, u97, u98, u99, u100, u101], defers := ds } W := by
 have HH : Hid _ := h
 have KD := Kept.drew (fun j => j = sb) W
 have hso : Hid (pre.length = so) := hso0
 have hh : ∀ {V : World} {k b : Nat} {v : Value}, Kept (fun j => j = sb) W V → W.cell? ⟨b, k, none⟩ = some v → b ≠ sb → V.cell? ⟨b, k, none⟩ = some v := fun {V k b v} KV hc hne => by
  rw [World.cell?_of_block (w := W) (KV.block _ (World.block_lt_of_cell? W _ hc) hne)]
  exact hc
 have HS : Hid (∀ V, Kept (fun j => j = sb) W.drew V → V.cell? ⟨db, 0, none⟩ = some (.string nm) ∧ V.cell? ⟨eb, 2, none⟩ = some (.string et) ∧ V.cell? ⟨eb, 1, none⟩ = some (.string en)) := fun V KV => ⟨hh (KD.and KV) x0 hdb, hh (KD.and KV) x1 heb, hh (KD.and KV) x2 heb⟩
 have HKD : Hid (Kept (fun j => j = sb) W W.drew) := KD
 have HB0 : Hid (W.drew.heap[sb]? = some (.cells (pre ++ [q0, q1, q2, q3, q4, q5, q6, q7, q8] ++ post).toArray T (0, 0))) := hb
 have hS0 := HS.out W.drew (Kept.refl _ _)
 clear h KD hb hh hso0 x0 x1 x2
 refine heldR HS (fun _ => ?_)
 generalize W.drew = V0 at *
 refine tkR 0 hS0 ?_
 refine tkR 1 hS0 ?_
 refine tkR 2 hS0 ?_
 refine tkR 3 hS0 ?_
 refine tkR 4 hS0 ?_
 refine tkR 5 hS0 ?_
 refine tkR 6 hS0 ?_
 refine tkR 7 hS0 ?_
 refine tkR 8 hS0 ?_
 refine tkR 9 hS0 ?_
 refine tkR 10 hS0 ?_
 refine tkR 11 hS0 ?_
 refine wpAnyH_ready (rs := [12]) (by kernel_rfl) (by simp) (rdy (fun K' hK => ?_) AllReadyH.nil)
 obtain ⟨⟨p0, p1, p2, p3, p4, p5, p6, p7, p8⟩, f0, f1, f2, f3, f4, f5, f6, f7, f8⟩ := nineAt HB0.out hso.out
 have HB1 : Hid (((V0).setCell ⟨sb, so + 4, none⟩ (.int .i64 1)).heap[sb]? = some (.cells (pre ++ [q0, q1, q2, q3, .int .i64 1, q5, q6, q7, q8] ++ post).toArray T (0, 0))) := blk_set HB0.out hso.out (j := 4) (by simp) _
 have HK1 : Hid (Kept (fun j => j = sb) V0 ((V0).setCell ⟨sb, so + 4, none⟩ (.int .i64 1))) := ((Kept.refl (fun j => j = sb) V0)).and (Kept.setCell (S := fun j => j = sb) _ ⟨sb, so + 4, none⟩ _ rfl)
 go_simp
 clear p0 p1 p2 p3 p4 p5 p6 p7 p8 f0 f1 f2 f3 f4 f5 f6 f7 f8
 refine hK.out _ _ (HS.out _ HK1.out) (fun _ => ?_)
 generalize (V0).setCell ⟨sb, so + 4, none⟩ (.int .i64 1) = V1 at *
 clear hK K'
 try (simp only [Act.put, List.setIfInBounds_toArray, List.set_cons_zero, List.set_cons_succ])
 refine tkR 13 (HS.out _ HK1.out) ?_
 refine tkR 14 (HS.out _ HK1.out) ?_
 refine wpAnyH_ready (rs := [15]) (by kernel_rfl) (by simp) (rdy (fun K' hK => ?_) AllReadyH.nil)
 obtain ⟨⟨p0, p1, p2, p3, p4, p5, p6, p7, p8⟩, f0, f1, f2, f3, f4, f5, f6, f7, f8⟩ := nineAt HB1.out hso.out
 have HB2 : Hid (((V1).setCell ⟨sb, so, none⟩ (.string nm)).heap[sb]? = some (.cells (pre ++ [.string nm, q1, q2, q3, .int .i64 1, q5, q6, q7, q8] ++ post).toArray T (0, 0))) := blk_set HB1.out hso.out (j := 0) (by simp) _
 have HK2 : Hid (Kept (fun j => j = sb) V0 ((V1).setCell ⟨sb, so, none⟩ (.string nm))) := (HK1.out).and (Kept.setCell (S := fun j => j = sb) _ ⟨sb, so, none⟩ _ rfl)
 go_simp
 clear p0 p1 p2 p3 p4 p5 p6 p7 p8 f0 f1 f2 f3 f4 f5 f6 f7 f8
 refine hK.out _ _ (HS.out _ HK2.out) (fun _ => ?_)
 generalize (V1).setCell ⟨sb, so, none⟩ (.string nm) = V2 at *
 clear hK K'
 try (simp only [Act.put, List.setIfInBounds_toArray, List.set_cons_zero, List.set_cons_succ])
 refine tkR 16 (HS.out _ HK2.out) ?_
 refine tkR 17 (HS.out _ HK2.out) ?_
 refine wpAnyH_ready (rs := [18]) (by kernel_rfl) (by simp) (rdy (fun K' hK => ?_) AllReadyH.nil)
 obtain ⟨⟨p0, p1, p2, p3, p4, p5, p6, p7, p8⟩, f0, f1, f2, f3, f4, f5, f6, f7, f8⟩ := nineAt HB2.out hso.out
 have HB3 : Hid (((V2).setCell ⟨sb, so + 2, none⟩ (.string et)).heap[sb]? = some (.cells (pre ++ [.string nm, q1, .string et, q3, .int .i64 1, q5, q6, q7, q8] ++ post).toArray T (0, 0))) := blk_set HB2.out hso.out (j := 2) (by simp) _
 have HK3 : Hid (Kept (fun j => j = sb) V0 ((V2).setCell ⟨sb, so + 2, none⟩ (.string et))) := (HK2.out).and (Kept.setCell (S := fun j => j = sb) _ ⟨sb, so + 2, none⟩ _ rfl)
 go_simp
 clear p0 p1 p2 p3 p4 p5 p6 p7 p8 f0 f1 f2 f3 f4 f5 f6 f7 f8
 refine hK.out _ _ (HS.out _ HK3.out) (fun _ => ?_)
 generalize (V2).setCell ⟨sb, so + 2, none⟩ (.string et) = V3 at *
 clear hK K'
 try (simp only [Act.put, List.setIfInBounds_toArray, List.set_cons_zero, List.set_cons_succ])
 refine tkR 19 (HS.out _ HK3.out) ?_
 refine tkR 20 (HS.out _ HK3.out) ?_
 refine wpAnyH_ready (rs := [21]) (by kernel_rfl) (by simp) (rdy (fun K' hK => ?_) AllReadyH.nil)
 obtain ⟨⟨p0, p1, p2, p3, p4, p5, p6, p7, p8⟩, f0, f1, f2, f3, f4, f5, f6, f7, f8⟩ := nineAt HB3.out hso.out
 have HB4 : Hid (((V3).setCell ⟨sb, so + 3, none⟩ (.string en)).heap[sb]? = some (.cells (pre ++ [.string nm, q1, .string et, .string en, .int .i64 1, q5, q6, q7, q8] ++ post).toArray T (0, 0))) := blk_set HB3.out hso.out (j := 3) (by simp) _
 have HK4 : Hid (Kept (fun j => j = sb) V0 ((V3).setCell ⟨sb, so + 3, none⟩ (.string en))) := (HK3.out).and (Kept.setCell (S := fun j => j = sb) _ ⟨sb, so + 3, none⟩ _ rfl)
 go_simp
 clear p0 p1 p2 p3 p4 p5 p6 p7 p8 f0 f1 f2 f3 f4 f5 f6 f7 f8
 refine hK.out _ _ (HS.out _ HK4.out) (fun _ => ?_)
 generalize (V3).setCell ⟨sb, so + 3, none⟩ (.string en) = V4 at *
 clear hK K'
 try (simp only [Act.put, List.setIfInBounds_toArray, List.set_cons_zero, List.set_cons_succ])
 refine wpAnyH_done (by kernel_rfl) ?_ _
 exact HH.out _ _ _ _ _ _ _ _ _ _ _ _ _ _ _ _ _ _ _ HB4.out (HKD.out.and HK4.out)
theorem ch17 {T : TypeId} {pre post : List Value} {ez : Int} {q0 q1 q2 q3 q4 q5 q6 q7 q8 : Value} {u0 u2 u3 u4 u6 u7 u8 u9 u10 u11 u12 u13 u14 u15 u16 u17 u18 u19 u20 u21 u22 u23 u24 u25 u26 u27 u28 u29 u30 u31 u32 u33 u34 u35 u36 u37 u38 u39 u40 u41 u42 u43 u44 u45 u46 u47 u48 u49 u50 u51 u52 u53 u54 u55 u56 u57 u58 u59 u60 u61 u62 u63 u64 u65 u66 u67 u68 u69 u70 u71 u72 u73 u74 u75 u76 u77 u78 u79 u80 u81 u82 u83 u84 u85 u86 u87 u88 u89 u90 u91 u92 u93 u94 u95 u96 u97 u98 u99 u100 u101 : Value} (K : Act → World → Prop)
  (hb : W.heap[sb]? = some (.cells (pre ++ [q0, q1, q2, q3, q4, q5, q6, q7, q8] ++ post).toArray T (0, 0))) (hso0 : pre.length = so) (x0 : W.cell? ⟨eb, 3, none⟩ = some (.int .i64 ez)) (x1 : W.cell? ⟨eb, 2, none⟩ = some (.string et)) (heb : eb ≠ sb)
  (h : ∀ (v83 v84 v85 v86 v87 v88 v89 v90 v91 v92 : Value) (W' : World), W'.heap[sb]? = some (.cells (pre ++ [q0, q1, q2, q3, .int .i64 ez, .string et, q6, q7, q8] ++ post).toArray T (0, 0)) → Kept (fun j => j = sb) W W' → K { tmps := #[u0, .pointer (some ⟨sb, so, none⟩), u2, u3, u4, .pointer (some ⟨eb, 0, none⟩), u6, u7, u8, u9, u10, u11, u12, u13, u14, u15, u16, u17, u18, u19, u20, u21, u22, u23, u24, u25, u26, u27, u28, u29, u30, u31, u32, u33, u34, u35, u36, u37, u38, u39, u40, u41, u42, u43, u44, u45, u46, u47, u48, u49, u50, u51, u52, u53, u54, u55, u56, u57, u58, u59, u60, u61, u62, u63, u64, u65, u66, u67, u68, u69, u70, u71, u72, u73, u74, u75, u76, u77, u78, u79, u80, u81, u82, v83, v84, v85, v86, v87, v88, v89, v90, v91, v92, u93, u94, u95, u96, u97, u98, u99, u100, u101], defers := ds } W') :
  (Code.region 17 (rgF Tryd.f36 17) true).wp Tryd.prog (onlyN K) { tmps := #[u0, .pointer (some ⟨sb, so, none⟩), u2, u3, u4, .pointer (some ⟨eb, 0, none⟩), u6, u7, u8, u9, u10, u11, u12, u13, u14, u15, u16, u17, u18, u19, u20, u21, u22, u23, u24, u25, u26, u27, u28, u29, u30, u31, u32, u33, u34, u35, u36, u37, u38, u39, u40, u41, u42, u43, u44, u45, u46, u47, u48, u49, u50, u51, u52, u53, u54, u55, u56, u57, u58, u59, u60, u61, u62, u63, u64, u65, u66, u67, u68, u69, u70, u71, u72, u73, u74, u75, u76, u77, u78, u79, u80, u81, u82, u83, u84, u85, u86, u87, u88, u89, u90, u91, u92, u93, u94, u95, u96, u97, u98, u99, u100, u101], defers := ds } W := by
 have HH : Hid _ := h
 have KD := Kept.drew (fun j => j = sb) W
 have hso : Hid (pre.length = so) := hso0
 have hh : ∀ {V : World} {k b : Nat} {v : Value}, Kept (fun j => j = sb) W V → W.cell? ⟨b, k, none⟩ = some v → b ≠ sb → V.cell? ⟨b, k, none⟩ = some v := fun {V k b v} KV hc hne => by
  rw [World.cell?_of_block (w := W) (KV.block _ (World.block_lt_of_cell? W _ hc) hne)]
  exact hc
 have HS : Hid (∀ V, Kept (fun j => j = sb) W.drew V → V.cell? ⟨eb, 3, none⟩ = some (.int .i64 ez) ∧ V.cell? ⟨eb, 2, none⟩ = some (.string et)) := fun V KV => ⟨hh (KD.and KV) x0 heb, hh (KD.and KV) x1 heb⟩
 have HKD : Hid (Kept (fun j => j = sb) W W.drew) := KD
 have HB0 : Hid (W.drew.heap[sb]? = some (.cells (pre ++ [q0, q1, q2, q3, q4, q5, q6, q7, q8] ++ post).toArray T (0, 0))) := hb
 have hS0 := HS.out W.drew (Kept.refl _ _)
 clear h KD hb hh hso0 x0 x1
 refine heldR HS (fun _ => ?_)
 generalize W.drew = V0 at *
 refine tkR 0 hS0 ?_
 refine tkR 1 hS0 ?_
 refine tkR 2 hS0 ?_
 refine tkR 3 hS0 ?_
 refine tkR 4 hS0 ?_
 refine tkR 5 hS0 ?_
 refine tkR 6 hS0 ?_
 refine tkR 7 hS0 ?_
 refine wpAnyH_ready (rs := [8]) (by kernel_rfl) (by simp) (rdy (fun K' hK => ?_) AllReadyH.nil)
 obtain ⟨⟨p0, p1, p2, p3, p4, p5, p6, p7, p8⟩, f0, f1, f2, f3, f4, f5, f6, f7, f8⟩ := nineAt HB0.out hso.out
 have HB1 : Hid (((V0).setCell ⟨sb, so + 4, none⟩ (.int .i64 ez)).heap[sb]? = some (.cells (pre ++ [q0, q1, q2, q3, .int .i64 ez, q5, q6, q7, q8] ++ post).toArray T (0, 0))) := blk_set HB0.out hso.out (j := 4) (by simp) _
 have HK1 : Hid (Kept (fun j => j = sb) V0 ((V0).setCell ⟨sb, so + 4, none⟩ (.int .i64 ez))) := ((Kept.refl (fun j => j = sb) V0)).and (Kept.setCell (S := fun j => j = sb) _ ⟨sb, so + 4, none⟩ _ rfl)
 go_simp
 clear p0 p1 p2 p3 p4 p5 p6 p7 p8 f0 f1 f2 f3 f4 f5 f6 f7 f8
 refine hK.out _ _ (HS.out _ HK1.out) (fun _ => ?_)
 generalize (V0).setCell ⟨sb, so + 4, none⟩ (.int .i64 ez) = V1 at *
 clear hK K'
 try (simp only [Act.put, List.setIfInBounds_toArray, List.set_cons_zero, List.set_cons_succ])
 refine tkR 9 (HS.out _ HK1.out) ?_
 refine tkR 10 (HS.out _ HK1.out) ?_
 refine wpAnyH_ready (rs := [11]) (by kernel_rfl) (by simp) (rdy (fun K' hK => ?_) AllReadyH.nil)
 obtain ⟨⟨p0, p1, p2, p3, p4, p5, p6, p7, p8⟩, f0, f1, f2, f3, f4, f5, f6, f7, f8⟩ := nineAt HB1.out hso.out
 have HB2 : Hid (((V1).setCell ⟨sb, so + 5, none⟩ (.string et)).heap[sb]? = some (.cells (pre ++ [q0, q1, q2, q3, .int .i64 ez, .string et, q6, q7, q8] ++ post).toArray T (0, 0))) := blk_set HB1.out hso.out (j := 5) (by simp) _
 have HK2 : Hid (Kept (fun j => j = sb) V0 ((V1).setCell ⟨sb, so + 5, none⟩ (.string et))) := (HK1.out).and (Kept.setCell (S := fun j => j = sb) _ ⟨sb, so + 5, none⟩ _ rfl)
 go_simp
 clear p0 p1 p2 p3 p4 p5 p6 p7 p8 f0 f1 f2 f3 f4 f5 f6 f7 f8
 refine hK.out _ _ (HS.out _ HK2.out) (fun _ => ?_)
 generalize (V1).setCell ⟨sb, so + 5, none⟩ (.string et) = V2 at *
 clear hK K'
 try (simp only [Act.put, List.setIfInBounds_toArray, List.set_cons_zero, List.set_cons_succ])
 refine wpAnyH_done (by kernel_rfl) ?_ _
 exact HH.out _ _ _ _ _ _ _ _ _ _ _ HB2.out (HKD.out.and HK2.out)
theorem ch13 {k c7 : Nat} {a7 : Option Addr} {en : ByteArray} {xs : List Value} {u0 u2 u3 u4 u6 u7 u8 u9 u10 u11 u12 u13 u14 u15 u16 u17 u18 u19 u20 u21 u22 u23 u24 u25 u26 u27 u28 u29 u30 u31 u32 u33 u34 u35 u36 u37 u38 u39 u40 u41 u42 u43 u44 u45 u46 u47 u48 u49 u50 u51 u52 u53 u54 u55 u56 u57 u58 u59 u60 u61 u62 u63 u64 u65 u66 u67 u68 u69 u70 u71 u72 u73 u74 u75 u76 u77 u78 u79 u80 u81 u82 u83 u84 u85 u86 u87 u88 u89 u90 u91 u92 u93 u94 u95 u96 u97 u98 u99 u100 u101 : Value} (K : Act → World → Prop)
  (x0 : W.cell? ⟨sb, so + 7, none⟩ = some (.slice a7 k c7)) (xz : W.frozen? ⟨sb, so + 7, none⟩ = false) (x1 : W.cell? ⟨eb, 1, none⟩ = some (.string en)) (x2 : W.cell? ⟨eb, 2, none⟩ = some (.string et)) (hne : ∀ g, (Value.slice a7 k c7).ownBlock = some g → g ≠ sb) (hk : k ≤ 1000000) (hR : W.ownsRow 0 88 2 (.slice a7 k c7) k xs)
  (h : ∀ (v53 v54 v55 v56 v57 v58 v59 v60 v61 v62 v63 v64 v65 v66 : Value) (a4 : Option Addr) (c4 : Nat) (w4 : World), w4.ownsRow 0 88 2 (.slice a4 (k + 1) c4) (k + 1) (xs ++ [.string en, .string et]) → ((Value.slice a4 (k + 1) c4).ownBlock = (Value.slice a7 k c7).ownBlock ∨ ∃ g, (Value.slice a4 (k + 1) c4).ownBlock = some g ∧ W.heap.size ≤ g) → Kept (fun j => (Value.slice a7 k c7).ownBlock = some j) W w4 → K { tmps := #[u0, .pointer (some ⟨sb, so, none⟩), u2, u3, u4, .pointer (some ⟨eb, 0, none⟩), u6, u7, u8, u9, u10, u11, u12, u13, u14, u15, u16, u17, u18, u19, u20, u21, u22, u23, u24, u25, u26, u27, u28, u29, u30, u31, u32, u33, u34, u35, u36, u37, u38, u39, u40, u41, u42, u43, u44, u45, u46, u47, u48, u49, u50, u51, u52, v53, v54, v55, v56, v57, v58, v59, v60, v61, v62, v63, v64, v65, v66, u67, u68, u69, u70, u71, u72, u73, u74, u75, u76, u77, u78, u79, u80, u81, u82, u83, u84, u85, u86, u87, u88, u89, u90, u91, u92, u93, u94, u95, u96, u97, u98, u99, u100, u101], defers := ds } (w4.setCell ⟨sb, so + 7, none⟩ (.slice a4 (k + 1) c4))) :
  (Code.region 13 (rgF Tryd.f36 13) true).wp Tryd.prog (onlyN K) { tmps := #[u0, .pointer (some ⟨sb, so, none⟩), u2, u3, u4, .pointer (some ⟨eb, 0, none⟩), u6, u7, u8, u9, u10, u11, u12, u13, u14, u15, u16, u17, u18, u19, u20, u21, u22, u23, u24, u25, u26, u27, u28, u29, u30, u31, u32, u33, u34, u35, u36, u37, u38, u39, u40, u41, u42, u43, u44, u45, u46, u47, u48, u49, u50, u51, u52, u53, u54, u55, u56, u57, u58, u59, u60, u61, u62, u63, u64, u65, u66, u67, u68, u69, u70, u71, u72, u73, u74, u75, u76, u77, u78, u79, u80, u81, u82, u83, u84, u85, u86, u87, u88, u89, u90, u91, u92, u93, u94, u95, u96, u97, u98, u99, u100, u101], defers := ds } W := by
 simp (decide := true) only [rgF, rgn, Tryd.f36, reduceIte, Option.getD_some]
 obtain ⟨j0, hj0, hy0, hy1, hy2⟩ := info_parts Tryd.info88
 have HH : Hid _ := h
 have KD := Kept.drew (fun j => (Value.slice a7 k c7).ownBlock = some j) W
 have hlt := World.block_lt_of_cell? W _ x0
 have HC : Hid (∀ V, Kept (fun j => (Value.slice a7 k c7).ownBlock = some j) W.drew V → V.cell? ⟨sb, so + 7, none⟩ = some (.slice a7 k c7) ∧ V.frozen? ⟨sb, so + 7, none⟩ = false) := fun V KV => by
  have hb := (KD.and KV).block sb hlt (fun e => hne sb e rfl)
  exact ⟨(World.cell?_of_block (w := W) hb).trans x0, by rw [← xz]; unfold World.frozen?; rw [hb]⟩
 have HR : Hid (W.drew.ownsRow 0 88 2 (.slice a7 k c7) k xs) := hR
 have HKD : Hid (Kept (fun j => (Value.slice a7 k c7).ownBlock = some j) W W.drew) := KD
 have r0 : W.drew.cell? ⟨sb, so + 7, none⟩ = some (.slice a7 k c7) := x0
 have r1 : W.drew.cell? ⟨eb, 1, none⟩ = some (.string en) := x1
 have r2 : W.drew.cell? ⟨eb, 2, none⟩ = some (.string et) := x2
 have r3 : (W.alloc (.cells #[.string en, .string et] 88)).cell? ⟨sb, so + 7, none⟩ = some (.slice a7 k c7) := kc_ (Kept.alloc (fun _ => False) _ _) x0
 clear h KD x0 x1 x2 xz hR
 go_region_law
  (first
    | (refine step_append_sr _ (by rfl) _ _ 31 (by rfl) 0 88 j0 _ 2 32 Tryd.underlying31 hj0 hy0 hy1 hy2 rfl (by decide) (.slice a7 k c7) k xs (by rfl) (HR.out.alloc _) _ (by rfl) 1 [.string en, .string et] (.inl ⟨_, 1, rfl, rfl, World.news_of_block (heap_alloc_new _ _)⟩) (sgF_one [⟨en, et⟩]) (by unfold maxLen; omega) (by omega) (Nat.zero_le _) ?_; intro a4 c4 w4 ho4 hg4 _ hl4; have K4 : Kept (fun j => (Value.slice a7 k c7).ownBlock = some j) W.drew w4 := (Kept.alloc _ _ _).and (Kept.grown hg4 (fun j e => e)); obtain ⟨z0, z1⟩ := HC.out w4 K4)
    | fail)
 all_goals exact HH.out _ _ _ _ _ _ _ _ _ _ _ _ _ _ a4 c4 w4 ho4 (hl4.imp id (fun e => ⟨_, e, by show W.heap.size ≤ (W.alloc _).heap.size; rw [World.size_alloc]; omega⟩)) (HKD.out.and K4)
end Go.Proofs.YtfjekjbkifmpfaaDoor
