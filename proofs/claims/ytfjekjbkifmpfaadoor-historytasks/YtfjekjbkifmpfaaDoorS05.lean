/-
 Depth: rows of nodes as data, and what stands between the rounds over Walk.
-/
import Derived.Test.YtfjekjbkifmpfaaDoorS04
import Derived.RegionIn
set_option maxRecDepth 100000
set_option maxHeartbeats 16000000
namespace Go.Proofs.YtfjekjbkifmpfaaDoor
open Go.RowKit Go.Shelf
variable {T : List Nat} {l : List Ns} {i : Nat} {n : Nd}
def fj (ns : List Nd) (s : ByteArray) : Nat := (findP ns s).getD 0
def curP (ns : List Nd) (row : Nat → Nat) (i a : Nat) (l : List ByteArray) : Nat := l.foldl (fun a s => max a (if fj ns s = i then a else row (fj ns s))) a
def depStep (ns : List Nd) (st : (Nat → Nat) × Nat) (i : Nat) : (Nat → Nat) × Nat := match ns[i]? with
 | none => st
 | some n => (fun x => if x = i then curP ns st.1 i (st.1 i) n.after + 1 else st.1 x, max st.2 (curP ns st.1 i (st.1 i) n.after + 1))
def depK (ns : List Nd) (od : List Nat) : (Nat → Nat) × Nat := od.foldl (depStep ns) (fun _ => 0, 0)
def depP (ns : List Nd) : Nat := (depK ns (ordP ns)).2
theorem curP_le {ns : List Nd} {row : Nat → Nat} {m : Nat} (h : ∀ x, row x ≤ m) : ∀ (l : List ByteArray) (a : Nat), a ≤ m → curP ns row i a l ≤ m
 | [], a, ha => ha
 | s :: l, a, ha => by
  show curP ns row i (max a (if fj ns s = i then a else row (fj ns s))) l ≤ m
  refine curP_le h l _ ?_
  have := h (fj ns s)
  split <;> omega
theorem depK_snoc (ns : List Nd) (od : List Nat) (i : Nat) : depK ns (od ++ [i]) = depStep ns (depK ns od) i := by
 unfold depK
 rw [List.foldl_append]
 rfl
section
variable {w1 w2 W V : World} {ns : List Nd} {mb : Nat} {r : Loop} {row : Nat → Nat} {lng : Nat}
end
open Go.RowKit
theorem cn1 {W : World} {sb so db eb : Nat} {d0 d1 : Value} {en : ByteArray} {q0 q1 q2 q3 q4 q5 q6 q7 q8 : Value} {z7 z8 : Value} {ds : List Deferred} {u0 u2 u4 u6 u7 u8 u9 u10 u11 u12 u13 u14 u15 u16 u17 u18 u19 u20 u21 u22 u23 u24 u25 u26 u27 u28 u29 u30 u31 u32 u33 u34 u35 u36 u37 u38 u39 u40 u41 u42 u43 u44 u45 u46 u47 u48 u49 u50 u51 u52 u53 u54 u55 u56 u57 u58 u59 u60 u61 u62 u63 u64 u65 u66 u67 u68 u69 u70 u71 u72 u73 u74 u75 u76 u77 u78 u79 u80 u81 u82 u83 u84 u85 u86 u87 u88 u89 u90 : Value} (K : Act → World → Prop)
  (x0 : W.cell? ⟨db, 0, none⟩ = some (d0)) (x1 : W.cell? ⟨db, 1, none⟩ = some (d1)) (x2 : W.cell? ⟨sb, so, none⟩ = some (q0)) (x3 : W.cell? ⟨sb, so + 1, none⟩ = some (q1)) (x4 : W.cell? ⟨sb, so + 2, none⟩ = some (q2)) (x5 : W.cell? ⟨sb, so + 3, none⟩ = some (q3)) (x6 : W.cell? ⟨sb, so + 4, none⟩ = some (q4)) (x7 : W.cell? ⟨sb, so + 5, none⟩ = some (q5)) (x8 : W.cell? ⟨sb, so + 6, none⟩ = some (q6)) (x9 : W.cell? ⟨sb, so + 7, none⟩ = some (q7)) (x10 : W.cell? ⟨sb, so + 8, none⟩ = some (q8)) (x11 : W.cell? ⟨eb, 1, none⟩ = some (.string en))
  (hC : Calls Tryd.prog 70 #[.agg #[d0, d1], .agg #[q0, q1, q2, q3, q4, q5, q6, q7, q8], .string en] W.drew fun e w' => e = .returned (.tuple #[z7, z8]) ∧ KF W.drew w')
  (h : ∀ (v11 v12 v13 v14 v15 v16 v17 v18 v19 v20 : Value) (w5 : World), KF W w5 → K { tmps := #[u0, .pointer (some ⟨sb, so, none⟩), u2, .pointer (some ⟨db, 0, none⟩), u4, .pointer (some ⟨eb, 0, none⟩), u6, z7, z8, u9, u10, v11, v12, v13, v14, v15, v16, v17, v18, v19, v20, u21, u22, u23, u24, u25, u26, u27, u28, u29, u30, u31, u32, u33, u34, u35, u36, u37, u38, u39, u40, u41, u42, u43, u44, u45, u46, u47, u48, u49, u50, u51, u52, u53, u54, u55, u56, u57, u58, u59, u60, u61, u62, u63, u64, u65, u66, u67, u68, u69, u70, u71, u72, u73, u74, u75, u76, u77, u78, u79, u80, u81, u82, u83, u84, u85, u86, u87, u88, u89, u90], defers := ds } w5) :
  (Code.region 1 (rgF Tryd.f49 1) true).wp Tryd.prog (onlyN K) { tmps := #[u0, .pointer (some ⟨sb, so, none⟩), u2, .pointer (some ⟨db, 0, none⟩), u4, .pointer (some ⟨eb, 0, none⟩), u6, u7, u8, u9, u10, u11, u12, u13, u14, u15, u16, u17, u18, u19, u20, u21, u22, u23, u24, u25, u26, u27, u28, u29, u30, u31, u32, u33, u34, u35, u36, u37, u38, u39, u40, u41, u42, u43, u44, u45, u46, u47, u48, u49, u50, u51, u52, u53, u54, u55, u56, u57, u58, u59, u60, u61, u62, u63, u64, u65, u66, u67, u68, u69, u70, u71, u72, u73, u74, u75, u76, u77, u78, u79, u80, u81, u82, u83, u84, u85, u86, u87, u88, u89, u90], defers := ds } W := by
 have HH : Hid _ := h
 have KD := Kept.drew (fun _ => False) W
 have HS : Hid (∀ V, KF W.drew V → V.cell? ⟨db, 0, none⟩ = some (d0) ∧ V.cell? ⟨db, 1, none⟩ = some (d1) ∧ V.cell? ⟨sb, so, none⟩ = some (q0) ∧ V.cell? ⟨sb, so + 1, none⟩ = some (q1) ∧ V.cell? ⟨sb, so + 2, none⟩ = some (q2) ∧ V.cell? ⟨sb, so + 3, none⟩ = some (q3) ∧ V.cell? ⟨sb, so + 4, none⟩ = some (q4) ∧ V.cell? ⟨sb, so + 5, none⟩ = some (q5) ∧ V.cell? ⟨sb, so + 6, none⟩ = some (q6) ∧ V.cell? ⟨sb, so + 7, none⟩ = some (q7) ∧ V.cell? ⟨sb, so + 8, none⟩ = some (q8) ∧ V.cell? ⟨eb, 1, none⟩ = some (.string en)) := fun V KV => ⟨kc_ (KD.and KV) x0, kc_ (KD.and KV) x1, kc_ (KD.and KV) x2, kc_ (KD.and KV) x3, kc_ (KD.and KV) x4, kc_ (KD.and KV) x5, kc_ (KD.and KV) x6, kc_ (KD.and KV) x7, kc_ (KD.and KV) x8, kc_ (KD.and KV) x9, kc_ (KD.and KV) x10, kc_ (KD.and KV) x11⟩
 have HKD : Hid (KF W W.drew) := KD
 have hS0 := HS.out W.drew (Kept.refl _ _)
 clear h KD x0 x1 x2 x3 x4 x5 x6 x7 x8 x9 x10 x11
 refine heldR HS (fun _ => ?_)
 refine tkR 0 hS0 ?_
 refine tkR 1 hS0 ?_
 refine tkR 2 hS0 ?_
 refine tkR 3 hS0 ?_
 refine tkR 4 hS0 ?_
 refine tkR 5 hS0 ?_
 refine wpAnyH_ready (rs := [6]) (by kernel_rfl) (by simp) (rdy (fun K' hK => ?_) AllReadyH.nil)
 refine step_call3 _ (by rfl) 70 _ _ _ _ _ _ (by rfl) (enters_of Tryd.func70 (by kernel_rfl) rfl) _ _ _ (by rfl) (by rfl) (by rfl) hC ?_
 rintro e w5 ⟨rfl, K5⟩
 refine ⟨_, rfl, ?_⟩
 refine hK.out _ _ (HS.out _ K5) (fun _ => ?_)
 clear hK K'
 try (simp only [Act.put, List.setIfInBounds_toArray, List.set_cons_zero, List.set_cons_succ])
 refine tkR 7 (HS.out _ K5) ?_
 refine tkR 8 (HS.out _ K5) ?_
 refine tkR 9 (HS.out _ K5) ?_
 refine tkR 10 (HS.out _ K5) ?_
 refine tkR 11 (HS.out _ K5) ?_
 refine wpAnyH_done (by kernel_rfl) ?_ _
 exact HH.out _ _ _ _ _ _ _ _ _ _ w5 (HKD.out.and K5)
theorem cn4 {W : World} {sb so db eb b o n c g m c6 : Nat} {ek nk ns : Int} {mv : Mv} {z8 : Bool} {ds : List Deferred} {u0 u2 u4 u6 u8 u9 u10 u11 u12 u13 u14 u15 u16 u17 u18 u19 u20 u21 u22 u23 u24 u25 u26 u27 u28 u29 u30 u31 u32 u33 u34 u35 u36 u37 u38 u39 u40 u41 u42 u43 u44 u45 u46 u47 u48 u49 u50 u51 u52 u53 u54 u55 u56 u57 u58 u59 u60 u61 u62 u63 u64 u65 u66 u67 u68 u69 u70 u71 u72 u73 u74 u75 u76 u77 u78 u79 u80 u81 u82 u83 u84 u85 u86 u87 u88 u89 u90 : Value} (K : Act → World → Prop)
  (x0 : W.cell? ⟨eb, 0, none⟩ = some (.int .i64 ek)) (x1 : W.cell? ⟨db, 1, none⟩ = some (.slice (some ⟨b, o, none⟩) n c)) (x2 : W.cell? ⟨b, o + i * 7 + 1, none⟩ = some (.int .i64 nk)) (x3 : W.cell? ⟨sb, so + 6, none⟩ = some (.slice (some ⟨g, 0, none⟩) m c6)) (x4 : W.cell? ⟨g, i * 3, none⟩ = some (.int .i64 ns)) (hi : i < n) (him : i < m) (hn : n ≤ 1000000)
  (hC : ∀ V, KF W.drew V → Calls Tryd.prog 71 #[.int .i64 ek, .int .i64 nk, .int .i64 ns] V fun e w' => e = .returned (.tuple #[mvV mv, .bool z8]) ∧ KF V w')
  (h : ∀ (v23 v24 v25 v26 v27 v28 v29 v30 v31 v32 v33 v34 v35 v36 v37 v38 v39 v40 v41 v42 : Value) (mb : Nat) (W' : World), W.heap.size ≤ mb → W'.heap[mb]? = some (.cells #[.int .i64 mv.event, .int .i64 mv.kind, .int .i64 mv.src, .int .i64 mv.dst, .bool mv.txt] 116 (0, 0)) → KF W W' → K { tmps := #[u0, .pointer (some ⟨sb, so, none⟩), u2, .pointer (some ⟨db, 0, none⟩), u4, .pointer (some ⟨eb, 0, none⟩), u6, .int .i64 (i : Nat), .bool z8, .pointer (some ⟨mb, 0, none⟩), u10, u11, u12, u13, u14, u15, u16, u17, u18, u19, u20, u21, u22, v23, v24, v25, v26, v27, v28, v29, v30, v31, v32, v33, v34, v35, v36, v37, v38, v39, v40, v41, v42, u43, u44, u45, u46, u47, u48, u49, u50, u51, u52, u53, u54, u55, u56, u57, u58, u59, u60, u61, u62, u63, u64, u65, u66, u67, u68, u69, u70, u71, u72, u73, u74, u75, u76, u77, u78, u79, u80, u81, u82, u83, u84, u85, u86, u87, u88, u89, u90], defers := ds } W') :
  (Code.region 4 (rgF Tryd.f49 4) true).wp Tryd.prog (onlyN K) { tmps := #[u0, .pointer (some ⟨sb, so, none⟩), u2, .pointer (some ⟨db, 0, none⟩), u4, .pointer (some ⟨eb, 0, none⟩), u6, .int .i64 (i : Nat), u8, u9, u10, u11, u12, u13, u14, u15, u16, u17, u18, u19, u20, u21, u22, u23, u24, u25, u26, u27, u28, u29, u30, u31, u32, u33, u34, u35, u36, u37, u38, u39, u40, u41, u42, u43, u44, u45, u46, u47, u48, u49, u50, u51, u52, u53, u54, u55, u56, u57, u58, u59, u60, u61, u62, u63, u64, u65, u66, u67, u68, u69, u70, u71, u72, u73, u74, u75, u76, u77, u78, u79, u80, u81, u82, u83, u84, u85, u86, u87, u88, u89, u90], defers := ds } W := by
 have HH : Hid _ := h
 have KD := Kept.drew (fun _ => False) W
 have HS : Hid (∀ V, KF W.drew V → V.cell? ⟨eb, 0, none⟩ = some (.int .i64 ek) ∧ V.cell? ⟨db, 1, none⟩ = some (.slice (some ⟨b, o, none⟩) n c) ∧ V.cell? ⟨b, o + i * 7 + 1, none⟩ = some (.int .i64 nk) ∧ V.cell? ⟨sb, so + 6, none⟩ = some (.slice (some ⟨g, 0, none⟩) m c6) ∧ V.cell? ⟨g, i * 3, none⟩ = some (.int .i64 ns)) := fun V KV => ⟨kc_ (KD.and KV) x0, kc_ (KD.and KV) x1, kc_ (KD.and KV) x2, kc_ (KD.and KV) x3, kc_ (KD.and KV) x4⟩
 have HKD : Hid (KF W W.drew) := KD
 have hS0 := HS.out W.drew (Kept.refl _ _)
 have e1 : (i : Int) < (n : Int) := by omega
 have e2 : (i : Int) < (m : Int) := by omega
 have w1 : IntKind.i64.wrap (i : Int) = (i : Int) := by rw [IntKind.wrap_i64]; omega
 unfold mvV at hC
 clear h KD x0 x1 x2 x3 x4
 refine heldR HS (fun _ => ?_)
 generalize W.drew = V0 at *
 refine tkR 0 hS0 ?_
 refine tkR 1 hS0 ?_
 refine tkR 2 hS0 ?_
 refine tkR 3 hS0 ?_
 refine tkR 4 hS0 ?_
 refine tkR 5 hS0 ?_
 refine tkR 6 hS0 ?_
 refine tkR 7 hS0 ?_
 refine tkR 8 hS0 ?_
 refine tkR 9 hS0 ?_
 refine tkR 10 hS0 ?_
 refine tkR 11 hS0 ?_
 refine tkR 12 hS0 ?_
 refine tkR 13 hS0 ?_
 refine tkR 14 hS0 ?_
 refine tkR 15 hS0 ?_
 refine wpAnyH_ready (rs := [16, 20]) (by kernel_rfl) (by simp) (rdy (fun K' hK => ?_) (rdy (fun K' hK => ?_) AllReadyH.nil))
 ·refine step_call3 _ (by rfl) 71 _ _ _ _ _ _ (by rfl) (enters_of Tryd.func71 (by kernel_rfl) rfl) _ _ _ (by rfl) (by rfl) (by rfl) (hC _ (Kept.refl (fun _ => False) V0)) ?_
  rintro e w5 ⟨rfl, K5⟩
  have K6 := ((Kept.refl (fun _ => False) V0)).and K5
  refine ⟨_, rfl, ?_⟩
  refine hK.out _ _ (HS.out _ K6) (fun _ => ?_)
  clear K5
  clear hK K'
  try (simp only [Act.put, List.setIfInBounds_toArray, List.set_cons_zero, List.set_cons_succ])
  refine tkR 17 (HS.out _ K6) ?_
  refine tkR 18 (HS.out _ K6) ?_
  refine tkR 19 (HS.out _ K6) ?_
  refine wpAnyH_ready (rs := [20]) (by kernel_rfl) (by simp) (rdy (fun K' hK => ?_) AllReadyH.nil)
  have hmb : ((w5).alloc (.cells #[.int .i64 0, .int .i64 0, .int .i64 0, .int .i64 0, .bool false] 116)).heap[(w5).heap.size]? = some (.cells #[.int .i64 0, .int .i64 0, .int .i64 0, .int .i64 0, .bool false] 116 (0, 0)) := heap_alloc_new _ _
  have hz : V0.heap.size ≤ (w5).heap.size := (K6).size
  have KA : KF V0 ((w5).alloc (.cells #[.int .i64 0, .int .i64 0, .int .i64 0, .int .i64 0, .bool false] 116)) := (K6).and (Kept.alloc _ _ _)
  go_simp
  refine hK.out _ _ (HS.out _ KA) (fun _ => ?_)
  generalize (w5).alloc (.cells #[.int .i64 0, .int .i64 0, .int .i64 0, .int .i64 0, .bool false] 116) = V6 at *
  obtain ⟨mb, hmbe⟩ : ∃ mb, mb = (w5).heap.size := ⟨_, rfl⟩
  rw [← hmbe] at hmb ⊢
  have hz2 : V0.heap.size ≤ mb := by rw [hmbe]; exact hz
  clear hz
  have hz := hz2
  clear hz2
  clear hmbe
  clear hK K'
  try (simp only [Act.put, List.setIfInBounds_toArray, List.set_cons_zero, List.set_cons_succ])
  refine wpAnyH_ready (rs := [21]) (by kernel_rfl) (by simp) (rdy (fun K' hK => ?_) AllReadyH.nil)
  obtain ⟨⟨p0, p1, p2, p3, p4⟩, f0, f1, f2, f3, f4⟩ := five hmb
  have HM : Hid _ := put5 hmb (.int .i64 mv.event) (.int .i64 mv.kind) (.int .i64 mv.src) (.int .i64 mv.dst) (.bool mv.txt)
  have KS := kept5 (S := fun j => j = mb) V6 rfl (.int .i64 mv.event) (.int .i64 mv.kind) (.int .i64 mv.src) (.int .i64 mv.dst) (.bool mv.txt)
  have KF := (KA).trans KS (fun j h => .inr (by subst h; exact hz))
  go_simp
  refine hK.out _ _ (HS.out _ KF) (fun _ => ?_)
  have HKF : Hid _ := HKD.out.and KF
  clear p0 p1 p2 p3 p4 f0 f1 f2 f3 f4 KS
  clear hK K'
  try (simp only [Act.put, List.setIfInBounds_toArray, List.set_cons_zero, List.set_cons_succ])
  refine tkR 22 (HS.out _ KF) ?_
  refine wpAnyH_done (by kernel_rfl) ?_ _
  exact HH.out _ _ _ _ _ _ _ _ _ _ _ _ _ _ _ _ _ _ _ _ mb _ (Nat.le_trans HKD.out.size hz) HM.out HKF.out
 ·have hmb : ((V0).alloc (.cells #[.int .i64 0, .int .i64 0, .int .i64 0, .int .i64 0, .bool false] 116)).heap[(V0).heap.size]? = some (.cells #[.int .i64 0, .int .i64 0, .int .i64 0, .int .i64 0, .bool false] 116 (0, 0)) := heap_alloc_new _ _
  have hz : V0.heap.size ≤ (V0).heap.size := ((Kept.refl (fun _ => False) V0)).size
  have KA : KF V0 ((V0).alloc (.cells #[.int .i64 0, .int .i64 0, .int .i64 0, .int .i64 0, .bool false] 116)) := ((Kept.refl (fun _ => False) V0)).and (Kept.alloc _ _ _)
  go_simp
  refine hK.out _ _ (HS.out _ KA) (fun _ => ?_)
  generalize (V0).alloc (.cells #[.int .i64 0, .int .i64 0, .int .i64 0, .int .i64 0, .bool false] 116) = V6 at *
  obtain ⟨mb, hmbe⟩ : ∃ mb, mb = (V0).heap.size := ⟨_, rfl⟩
  rw [← hmbe] at hmb ⊢
  have hz2 : V0.heap.size ≤ mb := by rw [hmbe]; exact hz
  clear hz
  have hz := hz2
  clear hz2
  clear hmbe
  clear hK K'
  try (simp only [Act.put, List.setIfInBounds_toArray, List.set_cons_zero, List.set_cons_succ])
  refine wpAnyH_ready (rs := [16]) (by kernel_rfl) (by simp) (rdy (fun K' hK => ?_) AllReadyH.nil)
  refine step_call3 _ (by rfl) 71 _ _ _ _ _ _ (by rfl) (enters_of Tryd.func71 (by kernel_rfl) rfl) _ _ _ (by rfl) (by rfl) (by rfl) (hC _ KA) ?_
  rintro e w5 ⟨rfl, K5⟩
  have K6 := (KA).and K5
  have hmb2 : w5.heap[mb]? = some (.cells #[.int .i64 0, .int .i64 0, .int .i64 0, .int .i64 0, .bool false] 116 (0, 0)) := atK K5 hmb
  clear hmb
  have hmb := hmb2
  clear hmb2
  refine ⟨_, rfl, ?_⟩
  refine hK.out _ _ (HS.out _ K6) (fun _ => ?_)
  clear K5
  clear hK K'
  try (simp only [Act.put, List.setIfInBounds_toArray, List.set_cons_zero, List.set_cons_succ])
  refine tkR 17 (HS.out _ K6) ?_
  refine tkR 18 (HS.out _ K6) ?_
  refine tkR 19 (HS.out _ K6) ?_
  refine wpAnyH_ready (rs := [21]) (by kernel_rfl) (by simp) (rdy (fun K' hK => ?_) AllReadyH.nil)
  obtain ⟨⟨p0, p1, p2, p3, p4⟩, f0, f1, f2, f3, f4⟩ := five hmb
  have HM : Hid _ := put5 hmb (.int .i64 mv.event) (.int .i64 mv.kind) (.int .i64 mv.src) (.int .i64 mv.dst) (.bool mv.txt)
  have KS := kept5 (S := fun j => j = mb) w5 rfl (.int .i64 mv.event) (.int .i64 mv.kind) (.int .i64 mv.src) (.int .i64 mv.dst) (.bool mv.txt)
  have KF := (K6).trans KS (fun j h => .inr (by subst h; exact hz))
  go_simp
  refine hK.out _ _ (HS.out _ KF) (fun _ => ?_)
  have HKF : Hid _ := HKD.out.and KF
  clear p0 p1 p2 p3 p4 f0 f1 f2 f3 f4 KS
  clear hK K'
  try (simp only [Act.put, List.setIfInBounds_toArray, List.set_cons_zero, List.set_cons_succ])
  refine tkR 22 (HS.out _ KF) ?_
  refine wpAnyH_done (by kernel_rfl) ?_ _
  exact HH.out _ _ _ _ _ _ _ _ _ _ _ _ _ _ _ _ _ _ _ _ mb _ (Nat.le_trans HKD.out.size hz) HM.out HKF.out
attribute [local go_sem] Oper.semAt_some
attribute [local go_sem] Oper.semAt_some
theorem ordK_lt {ns : List Nd} : ∀ (k : Nat) (T : List Nat), (∀ i ∈ T, i < ns.length) → ∀ i ∈ ordK ns k T, i < ns.length
 | 0, T, h => h
 | k + 1, T, h => by
  unfold ordK
  cases hn : nextP ns T with
  | none => exact h
  | some j =>
   refine ordK_lt k (T ++ [j]) (fun i hi => ?_)
   rcases List.mem_append.1 hi with hi | hi
   ·exact h i hi
   ·simp at hi; subst hi; exact mayB_lt (nextP_is hn).1
theorem ordP_lt (ns : List Nd) : ∀ i ∈ ordP ns, i < ns.length := ordK_lt _ _ (fun i h => by simp at h)
theorem ownsRow_put {w : World} {B T sz n g c : Nat} {xs : List Value} (h : w.ownsRow B T sz (.slice (some ⟨g, 0, none⟩) n c) n xs) (j : Nat) (u : Value) : (w.setCell ⟨g, j, none⟩ u).ownsRow B T sz (.slice (some ⟨g, 0, none⟩) n c) n (xs.set j u) := by
 refine ⟨by rw [List.length_set]; exact h.1, ?_⟩
 rcases h.2 with ⟨h0, _⟩ | ⟨g', cap, cur, hv, hb, hg, h1, h2, h3, h4⟩
 ·cases h0
 ·obtain ⟨rfl, rfl⟩ : g = g' ∧ c = cap := by simpa using hv
  refine .inr ⟨g, c, cur.setIfInBounds j u, rfl, hb, ?_, h1, h2, by simpa using h3, ?_⟩
  ·simp [World.setCell, Array.getElem?_modify, hg]
  ·rw [Array.toList_setIfInBounds, ← h4, List.take_set]
theorem row_at {w : World} {B T sz n : Nat} {v : Value} {xs : List Value} (h : w.ownsRow B T sz v n xs) (hn : 0 < n) : ∃ g c, v = .slice (some ⟨g, 0, none⟩) n c ∧ v.ownBlock = some g ∧ n ≤ c ∧ ∀ j u, xs[j]? = some u → w.cell? ⟨g, j, none⟩ = some u ∧ w.frozen? ⟨g, j, none⟩ = false := by
 rcases h.2 with ⟨_, h0⟩ | ⟨g, cap, cur, rfl, hb, hg, h1, h2, h3, h4⟩
 ·omega
 ·refine ⟨g, cap, rfl, rfl, h1, fun j u hu => ?_⟩
  have := h.cells (g := g) rfl j u hu
  rw [Addr.add_lit, Nat.zero_add] at this
  exact ⟨this, by simp [World.frozen?, hg]⟩
theorem nsF_get (hi : i < l.length) : (nsF l)[i * 3]? = some (.int .i64 (l[i]).status) ∧ (nsF l)[i * 3 + 1]? = some (.int .i64 (l[i]).tr) ∧ (nsF l)[i * 3 + 2]? = some (.string (l[i]).text) :=
 ⟨by have := flatMap_at nsC_len (List.getElem?_eq_getElem hi) 0 (by decide); rw [Nat.add_zero] at this; exact this, flatMap_at nsC_len (List.getElem?_eq_getElem hi) 1 (by decide), flatMap_at nsC_len (List.getElem?_eq_getElem hi) 2 (by decide)⟩
theorem nsF_set : ∀ (l : List Ns) (i : Nat), i < l.length → ∀ (y : Ns), nsF (l.set i y) = (((nsF l).set (i * 3) (.int .i64 y.status)).set (i * 3 + 1) (.int .i64 y.tr)).set (i * 3 + 2) (.string y.text)
 | [], i, h, _ => by simp at h
 | x :: t, 0, _, y => rfl
 | x :: t, i + 1, h, y => by
  have ih := nsF_set t i (by simpa using h) y
  have e : ∀ z : Ns, ∀ r : List Ns, nsF (z :: r) = .int .i64 z.status :: .int .i64 z.tr :: .string z.text :: nsF r := fun _ _ => rfl
  rw [List.set_cons_succ, e, e, ih, show (i + 1) * 3 = i * 3 + 1 + 1 + 1 by omega]
  rfl
theorem set_same {l : List Value} {u : Value} (h : l[i]? = some u) : l.set i u = l := by
 obtain ⟨hi, rfl⟩ := List.getElem?_eq_some_iff.1 h
 exact List.set_getElem_self hi
theorem setNode_set (hi : i < l.length) (m : Mv) (e : Ev) : setNode l i m e = l.set i ⟨m.dst, if e.kind = 3 then e.num else (l[i]).tr, if m.txt then e.text else (l[i]).text⟩ := by
 unfold setNode
 apply List.ext_getElem?
 intro j
 rw [List.getElem?_modify, List.getElem?_set]
 by_cases h : i = j
 ·subst h
  simp [hi]
 ·simp [h]
theorem nl_ff (hi : i < l.length) (m : Mv) (e : Ev) (ht : m.txt = false) (hk : e.kind ≠ 3) : nsF (setNode l i m e) = (nsF l).set (i * 3) (.int .i64 m.dst) := by
 obtain ⟨_, q1, q2⟩ := nsF_get hi
 rw [setNode_set hi, nsF_set l i hi, if_neg hk, if_neg (by rw [ht]; simp)]
 rw [set_same (l := (nsF l).set (i * 3) _) (by rw [List.getElem?_set_ne (by omega)]; exact q1), set_same (by rw [List.getElem?_set_ne (by omega)]; exact q2)]
theorem nl_tf (hi : i < l.length) (m : Mv) (e : Ev) (ht : m.txt = true) (hk : e.kind ≠ 3) : nsF (setNode l i m e) = ((nsF l).set (i * 3) (.int .i64 m.dst)).set (i * 3 + 2) (.string e.text) := by
 obtain ⟨_, q1, q2⟩ := nsF_get hi
 rw [setNode_set hi, nsF_set l i hi, if_neg hk, if_pos ht]
 rw [set_same (l := (nsF l).set (i * 3) _) (by rw [List.getElem?_set_ne (by omega)]; exact q1)]
theorem nl_ft (hi : i < l.length) (m : Mv) (e : Ev) (ht : m.txt = false) (hk : e.kind = 3) : nsF (setNode l i m e) = ((nsF l).set (i * 3) (.int .i64 m.dst)).set (i * 3 + 1) (.int .i64 e.num) := by
 obtain ⟨_, q1, q2⟩ := nsF_get hi
 rw [setNode_set hi, nsF_set l i hi, if_pos hk, if_neg (by rw [ht]; simp)]
 exact set_same (by rw [List.getElem?_set_ne (by omega), List.getElem?_set_ne (by omega)]; exact q2)
theorem nl_tt (hi : i < l.length) (m : Mv) (e : Ev) (ht : m.txt = true) (hk : e.kind = 3) : nsF (setNode l i m e) = (((nsF l).set (i * 3) (.int .i64 m.dst)).set (i * 3 + 2) (.string e.text)).set (i * 3 + 1) (.int .i64 e.num) := by
 rw [setNode_set hi, nsF_set l i hi, if_pos hk, if_pos ht]
 exact List.set_comm _ _ (by omega)
theorem setNode_len (l : List Ns) (i : Nat) (m : Mv) (e : Ev) : (setNode l i m e).length = l.length := by unfold setNode; simp
def Ordd (ns : List Nd) (T : List Nat) : Prop := ∀ k (h : k < T.length), mayB ns (T.take k) (T[k]'h) = true
theorem Ordd.nil (ns : List Nd) : Ordd ns [] := fun k h => by simp at h
theorem Ordd.snoc {ns : List Nd} (O : Ordd ns T) (h : mayB ns T i = true) : Ordd ns (T ++ [i]) := by
 intro k hk
 by_cases e : k < T.length
 ·rw [List.getElem_append_left e, List.take_append_of_le_length (by omega)]
  exact O k e
 ·have e2 : k = T.length := by simp at hk; omega
  subst e2
  simp only [List.getElem_append_right (Nat.le_refl _), Nat.sub_self, List.getElem_cons_zero, List.take_left]
  exact h
theorem ordK_ordd {ns : List Nd} : ∀ (k : Nat) (T : List Nat), Ordd ns T → Ordd ns (ordK ns k T)
 | 0, T, h => h
 | k + 1, T, h => by
  unfold ordK
  cases hn : nextP ns T with
  | none => exact h
  | some j => exact ordK_ordd k (T ++ [j]) (h.snoc (nextP_is hn).1)
theorem ordP_ordd (ns : List Nd) : Ordd ns (ordP ns) := ordK_ordd _ _ (Ordd.nil ns)
theorem mayB_out {ns : List Nd} (h : mayB ns T i = true) : i ∉ T ∧ ∀ n, ns[i]? = some n → ∀ s ∈ n.after, ∃ j, aheadP ns n s = some j ∧ j ∈ T := by
 have hl := mayB_lt h
 unfold mayB at h
 rw [List.getElem?_eq_getElem hl] at h
 simp only [Bool.and_eq_true, Bool.not_eq_true', decide_eq_true_eq] at h
 refine ⟨by simpa using h.1, fun n hn s hs => ?_⟩
 rw [List.getElem?_eq_getElem hl] at hn
 obtain rfl := Option.some.inj hn
 have h2 := h.2
 unfold need at h2
 rw [List.countP_eq_zero] at h2
 have h3 := h2 s hs
 cases ha : aheadP ns ns[i] s with
 | none => rw [ha] at h3; simp at h3
 | some j => rw [ha] at h3; exact ⟨j, rfl, by simpa using h3⟩
theorem Ordd.nodup {ns : List Nd} (O : Ordd ns T) : T.Nodup := by
 rw [List.nodup_iff_pairwise_ne, List.pairwise_iff_getElem]
 intro i j hi hj hij e
 have := (mayB_out (O j hj)).1
 rw [← e] at this
 exact this (List.mem_take_iff_getElem.2 ⟨i, by omega, rfl⟩)
theorem aheadP_fj {ns : List Nd} {s : ByteArray} {j : Nat} (h : aheadP ns n s = some j) : fj ns s = j := by
 unfold aheadP at h
 split at h
 ·cases h
 ·unfold fj; rw [h]; rfl
structure LevOk (ns : List Nd) (T : List Nat) (R : Nat → Nat) (L : Nat) : Prop where
 none : ∀ x, x ∉ T → R x = 0
 pos : ∀ x, x ∈ T → 1 ≤ R x
 aft : ∀ x, x ∈ T → ∀ n, ns[x]? = some n → ∀ s ∈ n.after, ∃ j, aheadP ns n s = some j ∧ j ∈ T ∧ R j < R x
 top : ∀ x, x ∈ T → R x = 1 ∨ ∃ n, ns[x]? = some n ∧ ∃ s ∈ n.after, ∃ j, aheadP ns n s = some j ∧ R j + 1 = R x
 le : ∀ x, R x ≤ L
 some : L = 0 ∨ ∃ x, x ∈ T ∧ R x = L
theorem curP_new {ns : List Nd} {R : Nat → Nat} : ∀ (l : List ByteArray) (a : Nat), (∀ s ∈ l, fj ns s ≠ i) →
  a ≤ curP ns R i a l ∧ (∀ s ∈ l, R (fj ns s) ≤ curP ns R i a l) ∧ (curP ns R i a l = a ∨ ∃ s ∈ l, curP ns R i a l = R (fj ns s))
 | [], a, _ => ⟨Nat.le_refl _, fun s h => (by cases h), .inl rfl⟩
 | s :: l, a, h => by
  have hs := h s (List.mem_cons_self ..)
  have ih := curP_new (R := R) l (max a (R (fj ns s))) (fun t ht => h t (List.mem_cons_of_mem _ ht))
  have e : curP ns R i a (s :: l) = curP ns R i (max a (R (fj ns s))) l := by
   show curP ns R i (max a (if fj ns s = i then a else R (fj ns s))) l = _
   rw [if_neg hs]
  rw [e]
  obtain ⟨h1, h2, h3⟩ := ih
  refine ⟨by omega, fun t ht => ?_, ?_⟩
  ·rcases List.mem_cons.1 ht with rfl | ht
   ·omega
   ·exact h2 t ht
  ·rcases h3 with h3 | ⟨t, ht, h3⟩
   ·by_cases c : a ≤ R (fj ns s)
    ·exact .inr ⟨s, List.mem_cons_self .., by rw [h3]; omega⟩
    ·left; rw [h3]; omega
   ·exact .inr ⟨t, List.mem_cons_of_mem _ ht, h3⟩
theorem LevOk.step {ns : List Nd} {R : Nat → Nat} {L : Nat} (O : LevOk ns T R L) (h : mayB ns T i = true) : LevOk ns (T ++ [i]) (depStep ns (R, L) i).1 (depStep ns (R, L) i).2 := by
 have hl := mayB_lt h
 have hn := List.getElem?_eq_getElem hl
 obtain ⟨hi, ha⟩ := mayB_out h
 have ha := ha _ hn
 unfold depStep
 rw [hn]
 simp only []
 have h0 := O.none i hi
 rw [h0]
 have hne : ∀ s ∈ (ns[i]).after, fj ns s ≠ i := fun s hs e => by
  obtain ⟨j, hj, hT⟩ := ha s hs
  rw [aheadP_fj hj] at e
  subst e
  exact hi hT
 obtain ⟨c1, c2, c3⟩ := curP_new (R := R) (ns[i]).after 0 hne
 have hcL : curP ns R i 0 (ns[i]).after ≤ L := curP_le O.le _ _ (Nat.zero_le _)
 have mi : ∀ x, x ∈ T → x ≠ i := fun x hx e => hi (e ▸ hx)
 refine ⟨fun x hx => ?_, fun x hx => ?_, fun x hx n hxn s hs => ?_, fun x hx => ?_, fun x => ?_, ?_⟩
 ·simp at hx
  show (if x = i then _ else _) = _
  rw [if_neg hx.2]
  exact O.none x hx.1
 ·show 1 ≤ (if x = i then _ else _)
  split
  ·omega
  ·rename_i e
   rcases List.mem_append.1 hx with hx | hx
   ·exact O.pos x hx
   ·simp at hx; exact absurd hx e
 ·rcases List.mem_append.1 hx with hx | hx
  ·obtain ⟨j, hj, hT, hlt⟩ := O.aft x hx n hxn s hs
   refine ⟨j, hj, List.mem_append_left _ hT, ?_⟩
   rw [if_neg (mi _ hT), if_neg (mi _ hx)]
   exact hlt
  ·simp at hx; subst hx
   rw [hn] at hxn
   obtain rfl := Option.some.inj hxn
   obtain ⟨j, hj, hT⟩ := ha s hs
   refine ⟨j, hj, List.mem_append_left _ hT, ?_⟩
   rw [if_neg (mi _ hT), if_pos rfl]
   have := c2 s hs
   rw [aheadP_fj hj] at this
   omega
 ·rcases List.mem_append.1 hx with hx | hx
  ·rw [if_neg (mi _ hx)]
   rcases O.top x hx with h1 | ⟨n, hxn, s, hs, j, hj, h1⟩
   ·exact .inl h1
   ·obtain ⟨j', hj', hT', _⟩ := O.aft x hx n hxn s hs
    rw [hj] at hj'
    obtain rfl := Option.some.inj hj'
    exact .inr ⟨n, hxn, s, hs, j, hj, by rw [if_neg (mi _ hT')]; exact h1⟩
  ·simp at hx; subst hx
   rw [if_pos rfl]
   rcases c3 with c3 | ⟨s, hs, c3⟩
   ·left; omega
   ·obtain ⟨j, hj, hT⟩ := ha s hs
    rw [aheadP_fj hj] at c3
    exact .inr ⟨_, hn, s, hs, j, hj, by rw [if_neg (mi _ hT), c3]⟩
 ·show (if x = i then _ else _) ≤ max _ _
  have := O.le x
  split <;> omega
 ·right
  by_cases c : L ≤ curP ns R i 0 (ns[i]).after + 1
  ·exact ⟨i, by simp, by show (if i = i then _ else _) = max _ _; rw [if_pos rfl]; omega⟩
  ·rcases O.some with e | ⟨x, hx, e⟩
   ·omega
   ·refine ⟨x, List.mem_append_left _ hx, ?_⟩
    show (if x = i then _ else _) = max _ _
    rw [if_neg (mi _ hx)]
    omega
theorem lev_take {ns : List Nd} (O : Ordd ns T) : ∀ k, k ≤ T.length → LevOk ns (T.take k) (depK ns (T.take k)).1 (depK ns (T.take k)).2
 | 0, _ => ⟨fun _ _ => rfl, fun x h => by simp at h, fun x h => by simp at h, fun x h => by simp at h, fun _ => Nat.zero_le _, .inl rfl⟩
 | k + 1, h => by
  have hk : k < T.length := by omega
  have e : T.take (k + 1) = T.take k ++ [T[k]] := by rw [List.take_add_one, List.getElem?_eq_getElem hk]; rfl
  rw [e, depK_snoc]
  exact (lev_take O k (by omega)).step (O k hk)
theorem lev_all {ns : List Nd} (O : Ordd ns T) : LevOk ns T (depK ns T).1 (depK ns T).2 := by
 have := lev_take O T.length (Nat.le_refl _)
 rwa [List.take_length] at this
def rowP (ns : List Nd) (x : Nat) : Nat := (depK ns (ordP ns)).1 x
theorem mem_full : ∀ {n : Nat} {l : List Nat}, l.Nodup → (∀ i ∈ l, i < n) → l.length = n → ∀ i, i < n → i ∈ l := by
 intro n l h1 h2 h3 i hi
 by_cases hm : i ∈ l
 ·exact hm
 ·exfalso
  have h4 : (i :: l).Nodup := List.nodup_cons.2 ⟨hm, h1⟩
  have h5 := nodup_le h4 (fun j hj => by rcases List.mem_cons.1 hj with rfl | hj; exact hi; exact h2 j hj)
  simp at h5
  omega
theorem lev_ord (ns : List Nd) : LevOk ns (ordP ns) (rowP ns) (depP ns) := lev_all (ordP_ordd ns)
theorem ord_all {ns : List Nd} (h : (ordP ns).length = ns.length) : ∀ i, i < ns.length → i ∈ ordP ns := mem_full (ordP_ordd ns).nodup (ordP_lt ns) h
structure Taken (name : ByteArray) (ns : List Nd) : Prop where
 name : nameP name = true
 lo : 1 ≤ ns.length
 hi : ns.length ≤ 32
 nod : ∀ i (h : i < ns.length), nodeE ns i (ns[i]'h) = 0
 aft : ∀ i (h : i < ns.length), afterE ns (ns[i]'h) = 0
 ord : (ordP ns).length = ns.length
theorem firstE_none {f : Nat → Int} : ∀ {n}, firstE f n = none → ∀ i, i < n → f i = 0
 | 0, _, i, hi => by omega
 | n + 1, h, i, hi => by
  unfold firstE at h
  cases hn : firstE f n with
  | some x => rw [hn] at h; cases h
  | none =>
   rw [hn] at h
   by_cases e : f n = 0
   ·by_cases e2 : i = n
    ·subst e2; exact e
    ·exact firstE_none hn i (by omega)
   ·simp [e] at h
theorem firstE_some {f : Nat → Int} : ∀ {n} {x : Nat × Int}, firstE f n = some x → x.2 ≠ 0
 | 0, x, h => by cases h
 | n + 1, x, h => by
  unfold firstE at h
  cases hn : firstE f n with
  | some y => rw [hn] at h; cases h; exact firstE_some hn
  | none =>
   rw [hn] at h
   by_cases e : f n = 0
   ·simp [e] at h
   ·simp [e] at h; subst h; exact e
theorem taken_of {name : ByteArray} {ns : List Nd} (h : (checkP name ns).2 = 0) : Taken name ns := by
 rw [checkP_eq] at h
 cases g0 : nameP name with
 | false => rw [if_pos g0] at h; simp at h
 | true =>
  rw [if_neg (by rw [g0]; simp)] at h
  by_cases c : ns.length < 1 ∨ 32 < ns.length
  ·rw [if_pos c] at h; simp at h
  ·rw [if_neg c] at h
   cases h1 : firstE (nodeAt ns) ns.length with
   | some x => rw [h1] at h; exact absurd h (firstE_some h1)
   | none =>
    rw [h1] at h
    cases h2 : firstE (aftAt ns) ns.length with
    | some x => rw [h2] at h; exact absurd h (firstE_some h2)
    | none =>
     rw [h2] at h
     by_cases h3 : (ordP ns).length = ns.length
     ·refine ⟨g0, by omega, by omega, fun i hi => ?_, fun i hi => ?_, h3⟩
      ·have := firstE_none h1 i hi
       unfold nodeAt at this
       rw [List.getElem?_eq_getElem hi] at this
       exact this
      ·have := firstE_none h2 i hi
       unfold aftAt at this
       rw [List.getElem?_eq_getElem hi] at this
       exact this
     ·simp [h3] at h
theorem nodeE_ok {ns : List Nd} (h : nodeE ns i n = 0) : namedP n = true ∧ i ≤ (findP ns n.name).getD 0 ∧ fitsP n = true := by
 unfold nodeE at h
 split at h
 ·rename_i h1
  split at h
  ·simp at h
  ·rename_i h2
   split at h
   ·rename_i h3; exact ⟨h1, by omega, h3⟩
   ·simp at h
 ·simp at h
theorem afterE_ok {ns : List Nd} (h : afterE ns n = 0) : (∀ s ∈ n.after, (findP ns s).isSome = true) ∧ n.after.Nodup := by
 unfold afterE at h
 split at h
 ·rename_i h1
  split at h
  ·rename_i h2; exact ⟨by simpa using h1, h2⟩
  ·simp at h
 ·simp at h
theorem afterE_of {ns : List Nd} (h1 : ∀ s ∈ n.after, (findP ns s).isSome = true) (h2 : n.after.Nodup) : afterE ns n = 0 := by
 unfold afterE
 rw [if_pos (by simpa using h1), if_pos h2]
theorem findP_mem {ns : List Nd} (h : n ∈ ns) : (findP ns n.name).isSome = true := by
 cases hf : findP ns n.name with
 | none => exact absurd rfl (findP_none.1 hf n h)
 | some _ => rfl
end Go.Proofs.YtfjekjbkifmpfaaDoor
