/-
 play's input: its regions that draw their order.
-/
import Derived.Test.YtfjekjbkifmpfaaDoorS04
set_option maxRecDepth 100000
set_option maxHeartbeats 16000000
namespace Go.Proofs.YtfjekjbkifmpfaaDoor.Rf
open Go.RowKit
theorem pl2 {W : World} {pb ib : Nat} {d0 d1 q0 q1 q2 q3 q4 q5 q6 q7 q8 i0 i1 i2 i3 i4 i5 i6 i7 i8 : Value} {t : St} {z : Int} {Q : Nat → World → Value → Value → Value → Value → Prop} {ds : List Deferred} {u1 u2 u4 u5 u6 u7 u8 u9 u10 u11 u12 u13 u14 u15 u16 u17 u18 u19 u20 u21 u22 u23 u24 u25 u26 u27 u28 u29 u30 u31 u32 u33 u34 u35 u36 u37 u38 u39 u40 u41 u42 u43 u44 u45 u46 u47 u48 u49 u50 u51 u52 u53 u54 u55 u56 u57 u58 u59 u60 u61 u62 u63 u64 u65 u66 u67 u68 u69 u70 u71 u72 u73 u74 u75 u76 u77 u78 u79 u80 u81 u82 u83 u84 u85 u86 u87 u88 u89 u90 u91 u92 u93 u94 u95 u96 u97 u98 : Value} (K : Act → World → Prop)
  (x0 : W.cell? ⟨pb, 0, none⟩ = some (d0)) (x1 : W.cell? ⟨pb, 1, none⟩ = some (d1)) (x2 : W.cell? ⟨pb, 2, none⟩ = some (q0)) (x3 : W.cell? ⟨pb, 3, none⟩ = some (q1)) (x4 : W.cell? ⟨pb, 4, none⟩ = some (q2)) (x5 : W.cell? ⟨pb, 5, none⟩ = some (q3)) (x6 : W.cell? ⟨pb, 6, none⟩ = some (q4)) (x7 : W.cell? ⟨pb, 7, none⟩ = some (q5)) (x8 : W.cell? ⟨pb, 8, none⟩ = some (q6)) (x9 : W.cell? ⟨pb, 9, none⟩ = some (q7)) (x10 : W.cell? ⟨pb, 10, none⟩ = some (q8)) (x11 : W.cell? ⟨ib, 0, none⟩ = some (i0)) (x12 : W.cell? ⟨ib, 1, none⟩ = some (i1)) (x13 : W.cell? ⟨ib, 2, none⟩ = some (i2)) (x14 : W.cell? ⟨ib, 3, none⟩ = some (i3)) (x15 : W.cell? ⟨ib, 4, none⟩ = some (i4)) (x16 : W.cell? ⟨ib, 5, none⟩ = some (i5)) (x17 : W.cell? ⟨ib, 6, none⟩ = some (i6)) (x18 : W.cell? ⟨ib, 7, none⟩ = some (i7)) (x19 : W.cell? ⟨ib, 8, none⟩ = some (i8))
  (hC : ∀ V, KF W.drew V → Calls Tryd.prog 22 #[.agg #[d0, d1], .agg #[q0, q1, q2, q3, q4, q5, q6, q7, q8], .agg #[i0, i1, i2, i3, i4, i5, i6, i7, i8]] V fun e w' => ∃ (ve : Value) (a6 : Option Addr) (c6 : Nat) (a7 : Option Addr) (c7 : Nat) (vt : Value), e = .returned (.tuple #[ve, .agg #[.string t.dfn, .string t.id, .string t.par, .string t.pnode, .int .i64 t.status, .string t.text, .slice a6 t.nodes.length c6, .slice a7 t.sigs.length c7, .int .i64 t.events], vt, .int .i64 z]) ∧ Q V.heap.size w' ve (.slice a6 t.nodes.length c6) (.slice a7 t.sigs.length c7) vt ∧ KF V w')
  (hQ : ∀ B w1 w2 ve p6 p7 vt mb, Q B w1 ve p6 p7 vt → mb < B ∨ w1.heap.size ≤ mb → Kept (fun j => j = mb) w1 w2 → Q B w2 ve p6 p7 vt)
  (h : ∀ (v18 v19 v20 v21 v22 v23 v24 v25 v26 v27 v28 v29 v30 v31 v32 : Value) (mb B : Nat) (ve : Value) (a6 : Option Addr) (c6 : Nat) (a7 : Option Addr) (c7 : Nat) (vt : Value) (W' : World), W.heap.size ≤ mb → W.heap.size ≤ B → W'.heap[mb]? = some (zS t (.slice a6 t.nodes.length c6) (.slice a7 t.sigs.length c7)) → Q B W' ve (.slice a6 t.nodes.length c6) (.slice a7 t.sigs.length c7) vt → KF W W' → K { tmps := #[.pointer (some ⟨pb, 0, none⟩), u1, u2, .pointer (some ⟨ib, 0, none⟩), u4, u5, ve, .pointer (some ⟨mb, 0, none⟩), vt, .int .i64 z, u10, u11, u12, u13, u14, u15, u16, u17, v18, v19, v20, v21, v22, v23, v24, v25, v26, v27, v28, v29, v30, v31, v32, u33, u34, u35, u36, u37, u38, u39, u40, u41, u42, u43, u44, u45, u46, u47, u48, u49, u50, u51, u52, u53, u54, u55, u56, u57, u58, u59, u60, u61, u62, u63, u64, u65, u66, u67, u68, u69, u70, u71, u72, u73, u74, u75, u76, u77, u78, u79, u80, u81, u82, u83, u84, u85, u86, u87, u88, u89, u90, u91, u92, u93, u94, u95, u96, u97, u98], defers := ds } W') :
  (Code.region 2 (rgF Tryd.f12 2) true).wp Tryd.prog (onlyN K) { tmps := #[.pointer (some ⟨pb, 0, none⟩), u1, u2, .pointer (some ⟨ib, 0, none⟩), u4, u5, u6, u7, u8, u9, u10, u11, u12, u13, u14, u15, u16, u17, u18, u19, u20, u21, u22, u23, u24, u25, u26, u27, u28, u29, u30, u31, u32, u33, u34, u35, u36, u37, u38, u39, u40, u41, u42, u43, u44, u45, u46, u47, u48, u49, u50, u51, u52, u53, u54, u55, u56, u57, u58, u59, u60, u61, u62, u63, u64, u65, u66, u67, u68, u69, u70, u71, u72, u73, u74, u75, u76, u77, u78, u79, u80, u81, u82, u83, u84, u85, u86, u87, u88, u89, u90, u91, u92, u93, u94, u95, u96, u97, u98], defers := ds } W := by
 have HH : Hid _ := h
 have KD := Kept.drew (fun _ => False) W
 have HS : Hid (∀ V, KF W.drew V → V.cell? ⟨pb, 0, none⟩ = some (d0) ∧ V.cell? ⟨pb, 1, none⟩ = some (d1) ∧ V.cell? ⟨pb, 2, none⟩ = some (q0) ∧ V.cell? ⟨pb, 3, none⟩ = some (q1) ∧ V.cell? ⟨pb, 4, none⟩ = some (q2) ∧ V.cell? ⟨pb, 5, none⟩ = some (q3) ∧ V.cell? ⟨pb, 6, none⟩ = some (q4) ∧ V.cell? ⟨pb, 7, none⟩ = some (q5) ∧ V.cell? ⟨pb, 8, none⟩ = some (q6) ∧ V.cell? ⟨pb, 9, none⟩ = some (q7) ∧ V.cell? ⟨pb, 10, none⟩ = some (q8) ∧ V.cell? ⟨ib, 0, none⟩ = some (i0) ∧ V.cell? ⟨ib, 1, none⟩ = some (i1) ∧ V.cell? ⟨ib, 2, none⟩ = some (i2) ∧ V.cell? ⟨ib, 3, none⟩ = some (i3) ∧ V.cell? ⟨ib, 4, none⟩ = some (i4) ∧ V.cell? ⟨ib, 5, none⟩ = some (i5) ∧ V.cell? ⟨ib, 6, none⟩ = some (i6) ∧ V.cell? ⟨ib, 7, none⟩ = some (i7) ∧ V.cell? ⟨ib, 8, none⟩ = some (i8)) := fun V KV => ⟨kc_ (KD.and KV) x0, kc_ (KD.and KV) x1, kc_ (KD.and KV) x2, kc_ (KD.and KV) x3, kc_ (KD.and KV) x4, kc_ (KD.and KV) x5, kc_ (KD.and KV) x6, kc_ (KD.and KV) x7, kc_ (KD.and KV) x8, kc_ (KD.and KV) x9, kc_ (KD.and KV) x10, kc_ (KD.and KV) x11, kc_ (KD.and KV) x12, kc_ (KD.and KV) x13, kc_ (KD.and KV) x14, kc_ (KD.and KV) x15, kc_ (KD.and KV) x16, kc_ (KD.and KV) x17, kc_ (KD.and KV) x18, kc_ (KD.and KV) x19⟩
 have HKD : Hid (KF W W.drew) := KD
 have hS0 := HS.out W.drew (Kept.refl _ _)
 clear h KD x0 x1 x2 x3 x4 x5 x6 x7 x8 x9 x10 x11 x12 x13 x14 x15 x16 x17 x18 x19
 refine heldR HS (fun _ => ?_)
 generalize W.drew = V0 at *
 refine tkR 0 hS0 ?_
 refine tkR 1 hS0 ?_
 refine tkR 2 hS0 ?_
 refine tkR 3 hS0 ?_
 refine tkR 4 hS0 ?_
 refine tkR 5 hS0 ?_
 refine tkR 6 hS0 ?_
 refine tkR 7 hS0 ?_
 refine tkR 8 hS0 ?_
 refine wpAnyH_ready (rs := [9, 15]) (by kernel_rfl) (by simp) (rdy (fun K' hK => ?_) (rdy (fun K' hK => ?_) AllReadyH.nil))
 ·refine step_call3 _ (by rfl) 22 _ _ _ _ _ _ (by rfl) (enters_of Tryd.func22 (by kernel_rfl) rfl) _ _ _ (by rfl) (by rfl) (by rfl) (hC _ (Kept.refl (fun _ => False) V0)) ?_
  rintro e w9 ⟨ve, a6, c6, a7, c7, vt, rfl, Q9, K9⟩
  have L9 := ((Kept.refl (fun _ => False) V0)).and K9
  have hB9 : V0.heap.size ≤ V0.heap.size := ((Kept.refl (fun _ => False) V0)).size
  refine ⟨_, rfl, ?_⟩
  refine hK.out _ _ (HS.out _ L9) (fun _ => ?_)
  clear hK K'
  try (simp only [Act.put, List.setIfInBounds_toArray, List.set_cons_zero, List.set_cons_succ])
  refine tkR 10 (HS.out _ L9) ?_
  refine tkR 11 (HS.out _ L9) ?_
  refine tkR 12 (HS.out _ L9) ?_
  refine tkR 13 (HS.out _ L9) ?_
  refine tkR 14 (HS.out _ L9) ?_
  refine wpAnyH_ready (rs := [15]) (by kernel_rfl) (by simp) (rdy (fun K' hK => ?_) AllReadyH.nil)
  have hmb : (w9.alloc zZ).heap[w9.heap.size]? = some (.cells #[.string ⟨#[]⟩, .string ⟨#[]⟩, .string ⟨#[]⟩, .string ⟨#[]⟩, .int .i64 0, .string ⟨#[]⟩, .slice none 0 0, .slice none 0 0, .int .i64 0] 33 (0, 0)) := heap_alloc_new _ _
  have KA0 : KF w9 (w9.alloc zZ) := Kept.alloc _ _ _
  have KA := (L9).and KA0
  go_simp
  refine hK.out _ _ (HS.out _ KA) (fun _ => ?_)
  generalize w9.alloc zZ = V6 at *
  obtain ⟨mb, hmbe⟩ : ∃ mb, mb = w9.heap.size := ⟨_, rfl⟩
  rw [← hmbe] at hmb ⊢
  have hz : V0.heap.size ≤ mb := by rw [hmbe]; exact (L9).size
  have hmC : mb < V0.heap.size ∨ w9.heap.size ≤ mb := .inr (Nat.le_of_eq hmbe.symm)
  have K90 : Kept (fun j => j = mb) w9 V6 := KA0.mono (fun _ h => h.elim)
  clear hmbe KA0
  clear hK K'
  try (simp only [Act.put, List.setIfInBounds_toArray, List.set_cons_zero, List.set_cons_succ])
  refine tkR 16 (HS.out _ KA) ?_
  refine wpAnyH_ready (rs := [17]) (by kernel_rfl) (by simp) (rdy (fun K' hK => ?_) AllReadyH.nil)
  obtain ⟨⟨p0, p1, p2, p3, p4, p5, p6, p7, p8⟩, f0, f1, f2, f3, f4, f5, f6, f7, f8⟩ := nine hmb
  have HM := hid (put9 hmb (.string t.dfn) (.string t.id) (.string t.par) (.string t.pnode) (.int .i64 t.status) (.string t.text) (.slice a6 t.nodes.length c6) (.slice a7 t.sigs.length c7) (.int .i64 t.events))
  have KS := kept9 (S := fun j => j = mb) V6 rfl (.string t.dfn) (.string t.id) (.string t.par) (.string t.pnode) (.int .i64 t.status) (.string t.text) (.slice a6 t.nodes.length c6) (.slice a7 t.sigs.length c7) (.int .i64 t.events)
  have QS := hid (hQ _ _ _ _ _ _ _ _ Q9 hmC (K90.and KS))
  have KF := (KA).trans KS (fun j h => .inr (by subst h; exact hz))
  go_simp
  refine hK.out _ _ (HS.out _ KF) (fun _ => ?_)
  have HKF := hid (HKD.out.and KF)
  clear p0 p1 p2 p3 p4 p5 p6 p7 p8 f0 f1 f2 f3 f4 f5 f6 f7 f8 KS
  clear hK K'
  try (simp only [Act.put, List.setIfInBounds_toArray, List.set_cons_zero, List.set_cons_succ])
  refine tkR 18 (HS.out _ KF) ?_
  refine tkR 19 (HS.out _ KF) ?_
  refine wpAnyH_done (by kernel_rfl) ?_ _
  exact HH.out _ _ _ _ _ _ _ _ _ _ _ _ _ _ _ mb _ ve a6 c6 a7 c7 vt _ (Nat.le_trans HKD.out.size hz) (Nat.le_trans HKD.out.size hB9) HM.out QS.out HKF.out
 ·have hmb : (V0.alloc zZ).heap[V0.heap.size]? = some (.cells #[.string ⟨#[]⟩, .string ⟨#[]⟩, .string ⟨#[]⟩, .string ⟨#[]⟩, .int .i64 0, .string ⟨#[]⟩, .slice none 0 0, .slice none 0 0, .int .i64 0] 33 (0, 0)) := heap_alloc_new _ _
  have KA0 : KF V0 (V0.alloc zZ) := Kept.alloc _ _ _
  have KA := ((Kept.refl (fun _ => False) V0)).and KA0
  go_simp
  refine hK.out _ _ (HS.out _ KA) (fun _ => ?_)
  generalize V0.alloc zZ = V6 at *
  obtain ⟨mb, hmbe⟩ : ∃ mb, mb = V0.heap.size := ⟨_, rfl⟩
  rw [← hmbe] at hmb ⊢
  have hz : V0.heap.size ≤ mb := by rw [hmbe]; exact ((Kept.refl (fun _ => False) V0)).size
  clear hmbe KA0
  clear hK K'
  try (simp only [Act.put, List.setIfInBounds_toArray, List.set_cons_zero, List.set_cons_succ])
  refine wpAnyH_ready (rs := [9]) (by kernel_rfl) (by simp) (rdy (fun K' hK => ?_) AllReadyH.nil)
  refine step_call3 _ (by rfl) 22 _ _ _ _ _ _ (by rfl) (enters_of Tryd.func22 (by kernel_rfl) rfl) _ _ _ (by rfl) (by rfl) (by rfl) (hC _ KA) ?_
  rintro e w9 ⟨ve, a6, c6, a7, c7, vt, rfl, Q9, K9⟩
  have L9 := (KA).and K9
  have hB9 : V0.heap.size ≤ V6.heap.size := (KA).size
  have hmC : mb < V6.heap.size ∨ w9.heap.size ≤ mb := .inl (Array.getElem?_eq_some_iff.1 hmb).1
  replace hmb := atK K9 hmb
  have K90 : Kept (fun j => j = mb) w9 w9 := Kept.refl _ _
  refine ⟨_, rfl, ?_⟩
  refine hK.out _ _ (HS.out _ L9) (fun _ => ?_)
  clear hK K'
  try (simp only [Act.put, List.setIfInBounds_toArray, List.set_cons_zero, List.set_cons_succ])
  refine tkR 10 (HS.out _ L9) ?_
  refine tkR 11 (HS.out _ L9) ?_
  refine tkR 12 (HS.out _ L9) ?_
  refine tkR 13 (HS.out _ L9) ?_
  refine tkR 14 (HS.out _ L9) ?_
  refine tkR 16 (HS.out _ L9) ?_
  refine wpAnyH_ready (rs := [17]) (by kernel_rfl) (by simp) (rdy (fun K' hK => ?_) AllReadyH.nil)
  obtain ⟨⟨p0, p1, p2, p3, p4, p5, p6, p7, p8⟩, f0, f1, f2, f3, f4, f5, f6, f7, f8⟩ := nine hmb
  have HM := hid (put9 hmb (.string t.dfn) (.string t.id) (.string t.par) (.string t.pnode) (.int .i64 t.status) (.string t.text) (.slice a6 t.nodes.length c6) (.slice a7 t.sigs.length c7) (.int .i64 t.events))
  have KS := kept9 (S := fun j => j = mb) w9 rfl (.string t.dfn) (.string t.id) (.string t.par) (.string t.pnode) (.int .i64 t.status) (.string t.text) (.slice a6 t.nodes.length c6) (.slice a7 t.sigs.length c7) (.int .i64 t.events)
  have QS := hid (hQ _ _ _ _ _ _ _ _ Q9 hmC (K90.and KS))
  have KF := (L9).trans KS (fun j h => .inr (by subst h; exact hz))
  go_simp
  refine hK.out _ _ (HS.out _ KF) (fun _ => ?_)
  have HKF := hid (HKD.out.and KF)
  clear p0 p1 p2 p3 p4 p5 p6 p7 p8 f0 f1 f2 f3 f4 f5 f6 f7 f8 KS
  clear hK K'
  try (simp only [Act.put, List.setIfInBounds_toArray, List.set_cons_zero, List.set_cons_succ])
  refine tkR 18 (HS.out _ KF) ?_
  refine tkR 19 (HS.out _ KF) ?_
  refine wpAnyH_done (by kernel_rfl) ?_ _
  exact HH.out _ _ _ _ _ _ _ _ _ _ _ _ _ _ _ mb _ ve a6 c6 a7 c7 vt _ (Nat.le_trans HKD.out.size hz) (Nat.le_trans HKD.out.size hB9) HM.out QS.out HKF.out
theorem pl3 {W : World} {pb ib : Nat} {d0 d1 q0 q1 q2 q3 q4 q5 q6 q7 q8 i0 i1 i2 i3 i4 i5 i6 i7 i8 : Value} {t : St} {z : Int} {Q : Nat → World → Value → Value → Value → Value → Prop} {ds : List Deferred} {u1 u2 u4 u5 u6 u7 u8 u9 u10 u11 u12 u13 u14 u15 u16 u17 u18 u19 u20 u21 u22 u23 u24 u25 u26 u27 u28 u29 u30 u31 u32 u33 u34 u35 u36 u37 u38 u39 u40 u41 u42 u43 u44 u45 u46 u47 u48 u49 u50 u51 u52 u53 u54 u55 u56 u57 u58 u59 u60 u61 u62 u63 u64 u65 u66 u67 u68 u69 u70 u71 u72 u73 u74 u75 u76 u77 u78 u79 u80 u81 u82 u83 u84 u85 u86 u87 u88 u89 u90 u91 u92 u93 u94 u95 u96 u97 u98 : Value} (K : Act → World → Prop)
  (x0 : W.cell? ⟨pb, 0, none⟩ = some (d0)) (x1 : W.cell? ⟨pb, 1, none⟩ = some (d1)) (x2 : W.cell? ⟨pb, 2, none⟩ = some (q0)) (x3 : W.cell? ⟨pb, 3, none⟩ = some (q1)) (x4 : W.cell? ⟨pb, 4, none⟩ = some (q2)) (x5 : W.cell? ⟨pb, 5, none⟩ = some (q3)) (x6 : W.cell? ⟨pb, 6, none⟩ = some (q4)) (x7 : W.cell? ⟨pb, 7, none⟩ = some (q5)) (x8 : W.cell? ⟨pb, 8, none⟩ = some (q6)) (x9 : W.cell? ⟨pb, 9, none⟩ = some (q7)) (x10 : W.cell? ⟨pb, 10, none⟩ = some (q8)) (x11 : W.cell? ⟨ib, 0, none⟩ = some (i0)) (x12 : W.cell? ⟨ib, 1, none⟩ = some (i1)) (x13 : W.cell? ⟨ib, 2, none⟩ = some (i2)) (x14 : W.cell? ⟨ib, 3, none⟩ = some (i3)) (x15 : W.cell? ⟨ib, 4, none⟩ = some (i4)) (x16 : W.cell? ⟨ib, 5, none⟩ = some (i5)) (x17 : W.cell? ⟨ib, 6, none⟩ = some (i6)) (x18 : W.cell? ⟨ib, 7, none⟩ = some (i7)) (x19 : W.cell? ⟨ib, 8, none⟩ = some (i8))
  (hC : ∀ V, KF W.drew V → Calls Tryd.prog 31 #[.agg #[d0, d1], .agg #[q0, q1, q2, q3, q4, q5, q6, q7, q8], .agg #[i0, i1, i2, i3, i4, i5, i6, i7, i8]] V fun e w' => ∃ (ve : Value) (a6 : Option Addr) (c6 : Nat) (a7 : Option Addr) (c7 : Nat) (vt : Value), e = .returned (.tuple #[ve, .agg #[.string t.dfn, .string t.id, .string t.par, .string t.pnode, .int .i64 t.status, .string t.text, .slice a6 t.nodes.length c6, .slice a7 t.sigs.length c7, .int .i64 t.events], vt, .int .i64 z]) ∧ Q V.heap.size w' ve (.slice a6 t.nodes.length c6) (.slice a7 t.sigs.length c7) vt ∧ KF V w')
  (hQ : ∀ B w1 w2 ve p6 p7 vt mb, Q B w1 ve p6 p7 vt → mb < B ∨ w1.heap.size ≤ mb → Kept (fun j => j = mb) w1 w2 → Q B w2 ve p6 p7 vt)
  (h : ∀ (v33 v34 v35 v36 v37 v38 v39 v40 v41 v42 v43 v44 v45 v46 v47 : Value) (mb B : Nat) (ve : Value) (a6 : Option Addr) (c6 : Nat) (a7 : Option Addr) (c7 : Nat) (vt : Value) (W' : World), W.heap.size ≤ mb → W.heap.size ≤ B → W'.heap[mb]? = some (zS t (.slice a6 t.nodes.length c6) (.slice a7 t.sigs.length c7)) → Q B W' ve (.slice a6 t.nodes.length c6) (.slice a7 t.sigs.length c7) vt → KF W W' → K { tmps := #[.pointer (some ⟨pb, 0, none⟩), u1, u2, .pointer (some ⟨ib, 0, none⟩), u4, u5, u6, u7, u8, u9, ve, .pointer (some ⟨mb, 0, none⟩), vt, .int .i64 z, u14, u15, u16, u17, u18, u19, u20, u21, u22, u23, u24, u25, u26, u27, u28, u29, u30, u31, u32, v33, v34, v35, v36, v37, v38, v39, v40, v41, v42, v43, v44, v45, v46, v47, u48, u49, u50, u51, u52, u53, u54, u55, u56, u57, u58, u59, u60, u61, u62, u63, u64, u65, u66, u67, u68, u69, u70, u71, u72, u73, u74, u75, u76, u77, u78, u79, u80, u81, u82, u83, u84, u85, u86, u87, u88, u89, u90, u91, u92, u93, u94, u95, u96, u97, u98], defers := ds } W') :
  (Code.region 3 (rgF Tryd.f12 3) true).wp Tryd.prog (onlyN K) { tmps := #[.pointer (some ⟨pb, 0, none⟩), u1, u2, .pointer (some ⟨ib, 0, none⟩), u4, u5, u6, u7, u8, u9, u10, u11, u12, u13, u14, u15, u16, u17, u18, u19, u20, u21, u22, u23, u24, u25, u26, u27, u28, u29, u30, u31, u32, u33, u34, u35, u36, u37, u38, u39, u40, u41, u42, u43, u44, u45, u46, u47, u48, u49, u50, u51, u52, u53, u54, u55, u56, u57, u58, u59, u60, u61, u62, u63, u64, u65, u66, u67, u68, u69, u70, u71, u72, u73, u74, u75, u76, u77, u78, u79, u80, u81, u82, u83, u84, u85, u86, u87, u88, u89, u90, u91, u92, u93, u94, u95, u96, u97, u98], defers := ds } W := by
 have HH : Hid _ := h
 have KD := Kept.drew (fun _ => False) W
 have HS : Hid (∀ V, KF W.drew V → V.cell? ⟨pb, 0, none⟩ = some (d0) ∧ V.cell? ⟨pb, 1, none⟩ = some (d1) ∧ V.cell? ⟨pb, 2, none⟩ = some (q0) ∧ V.cell? ⟨pb, 3, none⟩ = some (q1) ∧ V.cell? ⟨pb, 4, none⟩ = some (q2) ∧ V.cell? ⟨pb, 5, none⟩ = some (q3) ∧ V.cell? ⟨pb, 6, none⟩ = some (q4) ∧ V.cell? ⟨pb, 7, none⟩ = some (q5) ∧ V.cell? ⟨pb, 8, none⟩ = some (q6) ∧ V.cell? ⟨pb, 9, none⟩ = some (q7) ∧ V.cell? ⟨pb, 10, none⟩ = some (q8) ∧ V.cell? ⟨ib, 0, none⟩ = some (i0) ∧ V.cell? ⟨ib, 1, none⟩ = some (i1) ∧ V.cell? ⟨ib, 2, none⟩ = some (i2) ∧ V.cell? ⟨ib, 3, none⟩ = some (i3) ∧ V.cell? ⟨ib, 4, none⟩ = some (i4) ∧ V.cell? ⟨ib, 5, none⟩ = some (i5) ∧ V.cell? ⟨ib, 6, none⟩ = some (i6) ∧ V.cell? ⟨ib, 7, none⟩ = some (i7) ∧ V.cell? ⟨ib, 8, none⟩ = some (i8)) := fun V KV => ⟨kc_ (KD.and KV) x0, kc_ (KD.and KV) x1, kc_ (KD.and KV) x2, kc_ (KD.and KV) x3, kc_ (KD.and KV) x4, kc_ (KD.and KV) x5, kc_ (KD.and KV) x6, kc_ (KD.and KV) x7, kc_ (KD.and KV) x8, kc_ (KD.and KV) x9, kc_ (KD.and KV) x10, kc_ (KD.and KV) x11, kc_ (KD.and KV) x12, kc_ (KD.and KV) x13, kc_ (KD.and KV) x14, kc_ (KD.and KV) x15, kc_ (KD.and KV) x16, kc_ (KD.and KV) x17, kc_ (KD.and KV) x18, kc_ (KD.and KV) x19⟩
 have HKD : Hid (KF W W.drew) := KD
 have hS0 := HS.out W.drew (Kept.refl _ _)
 clear h KD x0 x1 x2 x3 x4 x5 x6 x7 x8 x9 x10 x11 x12 x13 x14 x15 x16 x17 x18 x19
 refine heldR HS (fun _ => ?_)
 generalize W.drew = V0 at *
 refine tkR 0 hS0 ?_
 refine tkR 1 hS0 ?_
 refine tkR 2 hS0 ?_
 refine tkR 3 hS0 ?_
 refine tkR 4 hS0 ?_
 refine tkR 5 hS0 ?_
 refine tkR 6 hS0 ?_
 refine tkR 7 hS0 ?_
 refine tkR 8 hS0 ?_
 refine wpAnyH_ready (rs := [9, 15]) (by kernel_rfl) (by simp) (rdy (fun K' hK => ?_) (rdy (fun K' hK => ?_) AllReadyH.nil))
 ·refine step_call3 _ (by rfl) 31 _ _ _ _ _ _ (by rfl) (enters_of Tryd.func31 (by kernel_rfl) rfl) _ _ _ (by rfl) (by rfl) (by rfl) (hC _ (Kept.refl (fun _ => False) V0)) ?_
  rintro e w9 ⟨ve, a6, c6, a7, c7, vt, rfl, Q9, K9⟩
  have L9 := ((Kept.refl (fun _ => False) V0)).and K9
  have hB9 : V0.heap.size ≤ V0.heap.size := ((Kept.refl (fun _ => False) V0)).size
  refine ⟨_, rfl, ?_⟩
  refine hK.out _ _ (HS.out _ L9) (fun _ => ?_)
  clear hK K'
  try (simp only [Act.put, List.setIfInBounds_toArray, List.set_cons_zero, List.set_cons_succ])
  refine tkR 10 (HS.out _ L9) ?_
  refine tkR 11 (HS.out _ L9) ?_
  refine tkR 12 (HS.out _ L9) ?_
  refine tkR 13 (HS.out _ L9) ?_
  refine tkR 14 (HS.out _ L9) ?_
  refine wpAnyH_ready (rs := [15]) (by kernel_rfl) (by simp) (rdy (fun K' hK => ?_) AllReadyH.nil)
  have hmb : (w9.alloc zZ).heap[w9.heap.size]? = some (.cells #[.string ⟨#[]⟩, .string ⟨#[]⟩, .string ⟨#[]⟩, .string ⟨#[]⟩, .int .i64 0, .string ⟨#[]⟩, .slice none 0 0, .slice none 0 0, .int .i64 0] 33 (0, 0)) := heap_alloc_new _ _
  have KA0 : KF w9 (w9.alloc zZ) := Kept.alloc _ _ _
  have KA := (L9).and KA0
  go_simp
  refine hK.out _ _ (HS.out _ KA) (fun _ => ?_)
  generalize w9.alloc zZ = V6 at *
  obtain ⟨mb, hmbe⟩ : ∃ mb, mb = w9.heap.size := ⟨_, rfl⟩
  rw [← hmbe] at hmb ⊢
  have hz : V0.heap.size ≤ mb := by rw [hmbe]; exact (L9).size
  have hmC : mb < V0.heap.size ∨ w9.heap.size ≤ mb := .inr (Nat.le_of_eq hmbe.symm)
  have K90 : Kept (fun j => j = mb) w9 V6 := KA0.mono (fun _ h => h.elim)
  clear hmbe KA0
  clear hK K'
  try (simp only [Act.put, List.setIfInBounds_toArray, List.set_cons_zero, List.set_cons_succ])
  refine tkR 16 (HS.out _ KA) ?_
  refine wpAnyH_ready (rs := [17]) (by kernel_rfl) (by simp) (rdy (fun K' hK => ?_) AllReadyH.nil)
  obtain ⟨⟨p0, p1, p2, p3, p4, p5, p6, p7, p8⟩, f0, f1, f2, f3, f4, f5, f6, f7, f8⟩ := nine hmb
  have HM := hid (put9 hmb (.string t.dfn) (.string t.id) (.string t.par) (.string t.pnode) (.int .i64 t.status) (.string t.text) (.slice a6 t.nodes.length c6) (.slice a7 t.sigs.length c7) (.int .i64 t.events))
  have KS := kept9 (S := fun j => j = mb) V6 rfl (.string t.dfn) (.string t.id) (.string t.par) (.string t.pnode) (.int .i64 t.status) (.string t.text) (.slice a6 t.nodes.length c6) (.slice a7 t.sigs.length c7) (.int .i64 t.events)
  have QS := hid (hQ _ _ _ _ _ _ _ _ Q9 hmC (K90.and KS))
  have KF := (KA).trans KS (fun j h => .inr (by subst h; exact hz))
  go_simp
  refine hK.out _ _ (HS.out _ KF) (fun _ => ?_)
  have HKF := hid (HKD.out.and KF)
  clear p0 p1 p2 p3 p4 p5 p6 p7 p8 f0 f1 f2 f3 f4 f5 f6 f7 f8 KS
  clear hK K'
  try (simp only [Act.put, List.setIfInBounds_toArray, List.set_cons_zero, List.set_cons_succ])
  refine tkR 18 (HS.out _ KF) ?_
  refine tkR 19 (HS.out _ KF) ?_
  refine wpAnyH_done (by kernel_rfl) ?_ _
  exact HH.out _ _ _ _ _ _ _ _ _ _ _ _ _ _ _ mb _ ve a6 c6 a7 c7 vt _ (Nat.le_trans HKD.out.size hz) (Nat.le_trans HKD.out.size hB9) HM.out QS.out HKF.out
 ·have hmb : (V0.alloc zZ).heap[V0.heap.size]? = some (.cells #[.string ⟨#[]⟩, .string ⟨#[]⟩, .string ⟨#[]⟩, .string ⟨#[]⟩, .int .i64 0, .string ⟨#[]⟩, .slice none 0 0, .slice none 0 0, .int .i64 0] 33 (0, 0)) := heap_alloc_new _ _
  have KA0 : KF V0 (V0.alloc zZ) := Kept.alloc _ _ _
  have KA := ((Kept.refl (fun _ => False) V0)).and KA0
  go_simp
  refine hK.out _ _ (HS.out _ KA) (fun _ => ?_)
  generalize V0.alloc zZ = V6 at *
  obtain ⟨mb, hmbe⟩ : ∃ mb, mb = V0.heap.size := ⟨_, rfl⟩
  rw [← hmbe] at hmb ⊢
  have hz : V0.heap.size ≤ mb := by rw [hmbe]; exact ((Kept.refl (fun _ => False) V0)).size
  clear hmbe KA0
  clear hK K'
  try (simp only [Act.put, List.setIfInBounds_toArray, List.set_cons_zero, List.set_cons_succ])
  refine wpAnyH_ready (rs := [9]) (by kernel_rfl) (by simp) (rdy (fun K' hK => ?_) AllReadyH.nil)
  refine step_call3 _ (by rfl) 31 _ _ _ _ _ _ (by rfl) (enters_of Tryd.func31 (by kernel_rfl) rfl) _ _ _ (by rfl) (by rfl) (by rfl) (hC _ KA) ?_
  rintro e w9 ⟨ve, a6, c6, a7, c7, vt, rfl, Q9, K9⟩
  have L9 := (KA).and K9
  have hB9 : V0.heap.size ≤ V6.heap.size := (KA).size
  have hmC : mb < V6.heap.size ∨ w9.heap.size ≤ mb := .inl (Array.getElem?_eq_some_iff.1 hmb).1
  replace hmb := atK K9 hmb
  have K90 : Kept (fun j => j = mb) w9 w9 := Kept.refl _ _
  refine ⟨_, rfl, ?_⟩
  refine hK.out _ _ (HS.out _ L9) (fun _ => ?_)
  clear hK K'
  try (simp only [Act.put, List.setIfInBounds_toArray, List.set_cons_zero, List.set_cons_succ])
  refine tkR 10 (HS.out _ L9) ?_
  refine tkR 11 (HS.out _ L9) ?_
  refine tkR 12 (HS.out _ L9) ?_
  refine tkR 13 (HS.out _ L9) ?_
  refine tkR 14 (HS.out _ L9) ?_
  refine tkR 16 (HS.out _ L9) ?_
  refine wpAnyH_ready (rs := [17]) (by kernel_rfl) (by simp) (rdy (fun K' hK => ?_) AllReadyH.nil)
  obtain ⟨⟨p0, p1, p2, p3, p4, p5, p6, p7, p8⟩, f0, f1, f2, f3, f4, f5, f6, f7, f8⟩ := nine hmb
  have HM := hid (put9 hmb (.string t.dfn) (.string t.id) (.string t.par) (.string t.pnode) (.int .i64 t.status) (.string t.text) (.slice a6 t.nodes.length c6) (.slice a7 t.sigs.length c7) (.int .i64 t.events))
  have KS := kept9 (S := fun j => j = mb) w9 rfl (.string t.dfn) (.string t.id) (.string t.par) (.string t.pnode) (.int .i64 t.status) (.string t.text) (.slice a6 t.nodes.length c6) (.slice a7 t.sigs.length c7) (.int .i64 t.events)
  have QS := hid (hQ _ _ _ _ _ _ _ _ Q9 hmC (K90.and KS))
  have KF := (L9).trans KS (fun j h => .inr (by subst h; exact hz))
  go_simp
  refine hK.out _ _ (HS.out _ KF) (fun _ => ?_)
  have HKF := hid (HKD.out.and KF)
  clear p0 p1 p2 p3 p4 p5 p6 p7 p8 f0 f1 f2 f3 f4 f5 f6 f7 f8 KS
  clear hK K'
  try (simp only [Act.put, List.setIfInBounds_toArray, List.set_cons_zero, List.set_cons_succ])
  refine tkR 18 (HS.out _ KF) ?_
  refine tkR 19 (HS.out _ KF) ?_
  refine wpAnyH_done (by kernel_rfl) ?_ _
  exact HH.out _ _ _ _ _ _ _ _ _ _ _ _ _ _ _ mb _ ve a6 c6 a7 c7 vt _ (Nat.le_trans HKD.out.size hz) (Nat.le_trans HKD.out.size hB9) HM.out QS.out HKF.out
end Go.Proofs.YtfjekjbkifmpfaaDoor.Rf
