/-
 HistoryLong as data: what each event of a node adds.
-/
import Derived.Test.YtfjekjbkifmpfaaDoorS53
set_option maxRecDepth 100000
set_option maxHeartbeats 16000000
namespace Go.Proofs.YtfjekjbkifmpfaaDoor
open Go.RowKit
variable {s : St}
section
variable {nm : ByteArray} {ns : List Nd}
end
section
variable {nm : ByteArray} {ns : List Nd}
end
section
variable {nm : ByteArray} {ns : List Nd}
theorem step_closed (h0 : s.status ≠ 0) (h1 : s.status ≠ 1) (q : Inp) : ∃ e, stepP nm ns s q = (⟨s, q.now, [], []⟩, e) ∧ e ≠ 0 := by
 unfold stepP doP
 by_cases hk : q.kind = 1
 ·rw [if_pos hk]
  unfold startP
  rw [if_pos h0]
  exact ⟨7, rfl, by decide⟩
 ·rw [if_neg hk, if_neg (show ¬ (⟨s, q.now, [], []⟩ : Rn).st.status = 0 from h0), if_pos (show (⟨s, q.now, [], []⟩ : Rn).st.status ≠ 1 from h1)]
  exact ⟨11, rfl, by decide⟩
theorem told_range {r r' : Rn} (h : Tolds nm ns r r') : 1 ≤ r.st.status ∧ r.st.status ≤ 4 → 1 ≤ r'.st.status ∧ r'.st.status ≤ 4 := by
 induction h with
 | none => exact fun h => h
 | @tell r r' e ts he _ ih =>
  intro h0
  refine ih ?_
  unfold tellP
  cases hc : changeP nm ns r.st e with
  | none => exact h0
  | some t =>
   show 1 ≤ t.status ∧ t.status ≤ 4
   unfold changeP at hc
   by_cases hst : r.st.status ≠ (if e.kind = 1 then 0 else 1)
   ·rw [if_pos hst] at hc; cases hc
   rw [if_neg hst, if_neg he] at hc
   split at hc
   ·cases hc; exact h0
   split at hc
   ·split at hc
    ·rename_i hnum
     cases hc
     show 1 ≤ e.num ∧ e.num ≤ 4
     omega
    ·cases hc
   ·cases hcn : changeNodeP ns r.st e with
    | none => rw [hcn] at hc; cases hc
    | some u =>
     rw [hcn] at hc
     cases hc
     unfold changeNodeP at hcn
     repeat' split at hcn
     all_goals first
      | (cases hcn; done)
      | (cases hcn; exact h0)
theorem step_range (S : Sound ns) (M : Met ns s) (h : 1 ≤ s.status ∧ s.status ≤ 4) (q : Inp) : 1 ≤ (stepP nm ns s q).1.st.status ∧ (stepP nm ns s q).1.st.status ≤ 4 := by
 by_cases hk : q.kind = 1
 ·unfold stepP doP
  rw [if_pos hk]
  unfold startP
  rw [if_pos (show (⟨s, q.now, [], []⟩ : Rn).st.status ≠ 0 by show s.status ≠ 0; omega)]
  exact h
 ·exact told_range (doP_few (nm := nm) S (r := ⟨s, q.now, [], []⟩) q hk (fun h => ⟨M.2 h, M.1⟩)).1 h
theorem start_range (q : Inp) : 1 ≤ (goOnP nm ns (startR nm ns q)).st.status ∧ (goOnP nm ns (startR nm ns q)).st.status ≤ 4 := told_range goOnP_told ⟨by show (1 : Int) ≤ 1; decide, by show (1 : Int) ≤ 4; decide⟩
theorem step_cancel (hs : s.status = 1) (q : Inp) (hk : q.kind = 8) (ht : q.text.size ≤ 256) : (stepP nm ns s q).2 = 0 ∧ (stepP nm ns s q).1.st.status = 4 := by
 unfold stepP
 have hd : doP nm ns ⟨s, q.now, [], []⟩ q = cancelP nm ns ⟨s, q.now, [], []⟩ q := by
  unfold doP
  rw [if_neg (by rw [hk]; decide), if_neg (by show ¬ s.status = 0; rw [hs]; decide), if_neg (by show ¬ s.status ≠ 1; rw [hs]; simp), if_neg (by rw [hk]; decide), if_neg (by rw [hk]; decide), if_neg (by rw [hk]; decide), if_neg (by rw [hk]; decide), if_neg (by rw [hk]; decide), if_neg (by rw [hk]; decide), if_pos hk]
 rw [hd]
 unfold cancelP
 rw [if_neg (by omega)]
 refine ⟨rfl, ?_⟩
 show (endP nm ns ⟨s, q.now, [], []⟩ 4 q.text).st.status = 4
 unfold endP tellP
 rw [changeP_close (s := (⟨s, q.now, [], []⟩ : Rn).st) hs 4 q.text (.inr (.inr rfl))]
end
end Go.Proofs.YtfjekjbkifmpfaaDoor
namespace Go.Proofs.YtfjekjbkifmpfaaDoor.Rf
open Go.RowKit
variable {nm : ByteArray} {ns : List Nd} {s : St}
theorem en16 {W : World} {db pb b o n cn i : Nat} {d0 d1 q0 q1 q2 q3 q4 q5 q6 q7 q8 i0 i1 i2 i3 i4 i5 i6 i7 i8 p0 p1 p2 p3 p4 p5 p6 p7 p8 : Value} {ee : Int} {ds : List Deferred} {u0 u1 u4 u5 u6 u8 u10 u11 u12 u13 u14 u15 u16 u17 u18 u19 u20 u21 u22 u23 u24 u25 u26 u27 u28 u29 u30 u31 u32 u33 u34 u35 u36 u37 u38 u39 u40 u41 u42 u43 u44 u45 u46 u47 u48 u49 u50 u51 u52 u53 u54 u55 u56 u57 u58 u59 u60 u61 u62 u63 u64 u65 u66 u67 u68 u69 u70 u71 u72 u73 u74 u75 u76 u77 u78 u79 u80 u81 u82 u83 u84 u85 u86 u87 u88 u89 u90 u91 u92 u93 u94 : Value} (K : Act → World → Prop)
  (x0 : W.cell? ⟨db, 0, none⟩ = some (d0)) (x1 : W.cell? ⟨db, 1, none⟩ = some (d1)) (x2 : W.cell? ⟨pb, 2, none⟩ = some (q0)) (x3 : W.cell? ⟨pb, 3, none⟩ = some (q1)) (x4 : W.cell? ⟨pb, 4, none⟩ = some (q2)) (x5 : W.cell? ⟨pb, 5, none⟩ = some (q3)) (x6 : W.cell? ⟨pb, 6, none⟩ = some (q4)) (x7 : W.cell? ⟨pb, 7, none⟩ = some (q5)) (x8 : W.cell? ⟨pb, 8, none⟩ = some (q6)) (x9 : W.cell? ⟨pb, 9, none⟩ = some (q7)) (x10 : W.cell? ⟨pb, 10, none⟩ = some (q8)) (x11 : W.cell? ⟨b, o + i * 9, none⟩ = some (i0)) (x12 : W.cell? ⟨b, o + i * 9 + 1, none⟩ = some (i1)) (x13 : W.cell? ⟨b, o + i * 9 + 2, none⟩ = some (i2)) (x14 : W.cell? ⟨b, o + i * 9 + 3, none⟩ = some (i3)) (x15 : W.cell? ⟨b, o + i * 9 + 4, none⟩ = some (i4)) (x16 : W.cell? ⟨b, o + i * 9 + 5, none⟩ = some (i5)) (x17 : W.cell? ⟨b, o + i * 9 + 6, none⟩ = some (i6)) (x18 : W.cell? ⟨b, o + i * 9 + 7, none⟩ = some (i7)) (x19 : W.cell? ⟨b, o + i * 9 + 8, none⟩ = some (i8))
  (hi : i < n) (hClip : ∀ V, KF W.drew V → Calls Tryd.prog 13 #[.agg #[i0, i1, i2, i3, i4, i5, i6, i7, i8]] V fun e w' => e = .returned (.agg #[p0, p1, p2, p3, p4, p5, p6, p7, p8]) ∧ KF V w')
  (hStep : ∀ V, KF W.drew V → Calls Tryd.prog 22 #[.agg #[d0, d1], .agg #[q0, q1, q2, q3, q4, q5, q6, q7, q8], .agg #[p0, p1, p2, p3, p4, p5, p6, p7, p8]] V fun e w' => ∃ (ae : Option Addr) (ce : Nat) (a6 : Option Addr) (c6 : Nat) (a7 : Option Addr) (c7 : Nat) (at_ : Option Addr) (ct : Nat), e = .returned (.tuple #[.slice ae 0 ce, .agg #[.string ⟨#[]⟩, .string ⟨#[]⟩, .string ⟨#[]⟩, .string ⟨#[]⟩, .int .i64 0, .string ⟨#[]⟩, .slice a6 0 c6, .slice a7 0 c7, .int .i64 0], .slice at_ 0 ct, .int .i64 ee]) ∧ KF V w')
  (h : ∀ (v58 v59 v60 v61 v62 v63 v64 v65 v66 v67 v68 v69 v70 v71 v72 v73 : Value) (mb : Nat) (ae : Option Addr) (ce : Nat) (at_ : Option Addr) (ct : Nat) (W' : World), KF W W' → K { tmps := #[u0, u1, .slice (some ⟨b, o, none⟩) n cn, .pointer (some ⟨db, 0, none⟩), u4, u5, u6, .pointer (some ⟨pb, 0, none⟩), u8, .int .i64 (i : Nat), .slice ae 0 ce, .pointer (some ⟨mb, 0, none⟩), .slice at_ 0 ct, .int .i64 ee, u14, u15, u16, u17, u18, u19, u20, u21, u22, u23, u24, u25, u26, u27, u28, u29, u30, u31, u32, u33, u34, u35, u36, u37, u38, u39, u40, u41, u42, u43, u44, u45, u46, u47, u48, u49, u50, u51, u52, u53, u54, u55, u56, u57, v58, v59, v60, v61, v62, v63, v64, v65, v66, v67, v68, v69, v70, v71, v72, v73, u74, u75, u76, u77, u78, u79, u80, u81, u82, u83, u84, u85, u86, u87, u88, u89, u90, u91, u92, u93, u94], defers := ds } W') :
  (Code.region 16 (rgF Tryd.f6 16) true).wp Tryd.prog (onlyN K) { tmps := #[u0, u1, .slice (some ⟨b, o, none⟩) n cn, .pointer (some ⟨db, 0, none⟩), u4, u5, u6, .pointer (some ⟨pb, 0, none⟩), u8, .int .i64 (i : Nat), u10, u11, u12, u13, u14, u15, u16, u17, u18, u19, u20, u21, u22, u23, u24, u25, u26, u27, u28, u29, u30, u31, u32, u33, u34, u35, u36, u37, u38, u39, u40, u41, u42, u43, u44, u45, u46, u47, u48, u49, u50, u51, u52, u53, u54, u55, u56, u57, u58, u59, u60, u61, u62, u63, u64, u65, u66, u67, u68, u69, u70, u71, u72, u73, u74, u75, u76, u77, u78, u79, u80, u81, u82, u83, u84, u85, u86, u87, u88, u89, u90, u91, u92, u93, u94], defers := ds } W := by
 have e1 : (i : Int) < (n : Int) := by omega
 have HH : Hid _ := h
 have KD := Kept.drew (fun _ => False) W
 have HS : Hid (∀ V, KF W.drew V → V.cell? ⟨db, 0, none⟩ = some (d0) ∧ V.cell? ⟨db, 1, none⟩ = some (d1) ∧ V.cell? ⟨pb, 2, none⟩ = some (q0) ∧ V.cell? ⟨pb, 3, none⟩ = some (q1) ∧ V.cell? ⟨pb, 4, none⟩ = some (q2) ∧ V.cell? ⟨pb, 5, none⟩ = some (q3) ∧ V.cell? ⟨pb, 6, none⟩ = some (q4) ∧ V.cell? ⟨pb, 7, none⟩ = some (q5) ∧ V.cell? ⟨pb, 8, none⟩ = some (q6) ∧ V.cell? ⟨pb, 9, none⟩ = some (q7) ∧ V.cell? ⟨pb, 10, none⟩ = some (q8) ∧ V.cell? ⟨b, o + i * 9, none⟩ = some (i0) ∧ V.cell? ⟨b, o + i * 9 + 1, none⟩ = some (i1) ∧ V.cell? ⟨b, o + i * 9 + 2, none⟩ = some (i2) ∧ V.cell? ⟨b, o + i * 9 + 3, none⟩ = some (i3) ∧ V.cell? ⟨b, o + i * 9 + 4, none⟩ = some (i4) ∧ V.cell? ⟨b, o + i * 9 + 5, none⟩ = some (i5) ∧ V.cell? ⟨b, o + i * 9 + 6, none⟩ = some (i6) ∧ V.cell? ⟨b, o + i * 9 + 7, none⟩ = some (i7) ∧ V.cell? ⟨b, o + i * 9 + 8, none⟩ = some (i8)) := fun V KV => ⟨kc_ (KD.and KV) x0, kc_ (KD.and KV) x1, kc_ (KD.and KV) x2, kc_ (KD.and KV) x3, kc_ (KD.and KV) x4, kc_ (KD.and KV) x5, kc_ (KD.and KV) x6, kc_ (KD.and KV) x7, kc_ (KD.and KV) x8, kc_ (KD.and KV) x9, kc_ (KD.and KV) x10, kc_ (KD.and KV) x11, kc_ (KD.and KV) x12, kc_ (KD.and KV) x13, kc_ (KD.and KV) x14, kc_ (KD.and KV) x15, kc_ (KD.and KV) x16, kc_ (KD.and KV) x17, kc_ (KD.and KV) x18, kc_ (KD.and KV) x19⟩
 have HKD : Hid (KF W W.drew) := KD
 have hS0 := HS.out W.drew (Kept.refl _ _)
 clear h KD x0 x1 x2 x3 x4 x5 x6 x7 x8 x9 x10 x11 x12 x13 x14 x15 x16 x17 x18 x19
 refine heldR HS (fun _ => ?_)
 generalize W.drew = V0 at *
 refine tkR 0 hS0 ?_
 refine tkR 1 hS0 ?_
 refine tkR 2 hS0 ?_
 refine tkR 3 hS0 ?_
 refine tkR 4 hS0 ?_
 refine tkR 5 hS0 ?_
 refine tkR 6 hS0 ?_
 refine tkR 7 hS0 ?_
 refine tkR 8 hS0 ?_
 refine wpAnyH_ready (rs := [9, 16]) (by kernel_rfl) (by simp) (rdy (fun K' hK => ?_) (rdy (fun K' hK => ?_) AllReadyH.nil))
 ·refine step_call1 _ (by rfl) 13 _ _ (by rfl) (enters_of Tryd.func13 (by kernel_rfl) rfl) _ (by rfl) (hClip _ (Kept.refl (fun _ => False) V0)) ?_
  rintro e w8 ⟨rfl, K8⟩
  have L8 := ((Kept.refl (fun _ => False) V0)).and K8
  refine ⟨_, rfl, ?_⟩
  refine hK.out _ _ (HS.out _ L8) (fun _ => ?_)
  clear hK K'
  try (simp only [Act.put, List.setIfInBounds_toArray, List.set_cons_zero, List.set_cons_succ])
  refine wpAnyH_ready (rs := [10, 16]) (by kernel_rfl) (by simp) (rdy (fun K' hK => ?_) (rdy (fun K' hK => ?_) AllReadyH.nil))
  ·refine step_call3 _ (by rfl) 22 _ _ _ _ _ _ (by rfl) (enters_of Tryd.func22 (by kernel_rfl) rfl) _ _ _ (by rfl) (by rfl) (by rfl) (hStep _ L8) ?_
   rintro e w9 ⟨ae, ce, a6, c6, a7, c7, at_, ct, rfl, K9⟩
   have L9 := (L8).and K9
   refine ⟨_, rfl, ?_⟩
   refine hK.out _ _ (HS.out _ L9) (fun _ => ?_)
   clear hK K'
   try (simp only [Act.put, List.setIfInBounds_toArray, List.set_cons_zero, List.set_cons_succ])
   refine tkR 11 (HS.out _ L9) ?_
   refine tkR 12 (HS.out _ L9) ?_
   refine tkR 13 (HS.out _ L9) ?_
   refine tkR 14 (HS.out _ L9) ?_
   refine tkR 15 (HS.out _ L9) ?_
   refine wpAnyH_ready (rs := [16]) (by kernel_rfl) (by simp) (rdy (fun K' hK => ?_) AllReadyH.nil)
   have hmb : (w9.alloc zZ).heap[w9.heap.size]? = some (.cells #[.string ⟨#[]⟩, .string ⟨#[]⟩, .string ⟨#[]⟩, .string ⟨#[]⟩, .int .i64 0, .string ⟨#[]⟩, .slice none 0 0, .slice none 0 0, .int .i64 0] 33 (0, 0)) := heap_alloc_new _ _
   have KA0 : KF w9 (w9.alloc zZ) := Kept.alloc _ _ _
   have KA := (L9).and KA0
   go_simp
   refine hK.out _ _ (HS.out _ KA) (fun _ => ?_)
   generalize w9.alloc zZ = V6 at *
   obtain ⟨mb, hmbe⟩ : ∃ mb, mb = w9.heap.size := ⟨_, rfl⟩
   rw [← hmbe] at hmb ⊢
   have hz : V0.heap.size ≤ mb := by rw [hmbe]; exact (L9).size
   clear hmbe KA0
   clear hK K'
   try (simp only [Act.put, List.setIfInBounds_toArray, List.set_cons_zero, List.set_cons_succ])
   refine tkR 17 (HS.out _ KA) ?_
   refine wpAnyH_ready (rs := [18]) (by kernel_rfl) (by simp) (rdy (fun K' hK => ?_) AllReadyH.nil)
   obtain ⟨⟨z0, z1, z2, z3, z4, z5, z6, z7, z8⟩, f0, f1, f2, f3, f4, f5, f6, f7, f8⟩ := nine hmb
   have KS := kept9 (S := fun j => j = mb) V6 rfl (.string ⟨#[]⟩) (.string ⟨#[]⟩) (.string ⟨#[]⟩) (.string ⟨#[]⟩) (.int .i64 0) (.string ⟨#[]⟩) (.slice a6 0 c6) (.slice a7 0 c7) (.int .i64 0)
   have KF := (KA).trans KS (fun j h => .inr (by subst h; exact hz))
   go_simp
   refine hK.out _ _ (HS.out _ KF) (fun _ => ?_)
   have HKF := hid (HKD.out.and KF)
   clear z0 z1 z2 z3 z4 z5 z6 z7 z8 f0 f1 f2 f3 f4 f5 f6 f7 f8 KS
   clear hK K'
   try (simp only [Act.put, List.setIfInBounds_toArray, List.set_cons_zero, List.set_cons_succ])
   refine tkR 19 (HS.out _ KF) ?_
   refine tkR 20 (HS.out _ KF) ?_
   refine wpAnyH_done (by kernel_rfl) ?_ _
   exact HH.out _ _ _ _ _ _ _ _ _ _ _ _ _ _ _ _ mb ae ce at_ ct _ HKF.out
  ·have hmb : (w8.alloc zZ).heap[w8.heap.size]? = some (.cells #[.string ⟨#[]⟩, .string ⟨#[]⟩, .string ⟨#[]⟩, .string ⟨#[]⟩, .int .i64 0, .string ⟨#[]⟩, .slice none 0 0, .slice none 0 0, .int .i64 0] 33 (0, 0)) := heap_alloc_new _ _
   have KA0 : KF w8 (w8.alloc zZ) := Kept.alloc _ _ _
   have KA := (L8).and KA0
   go_simp
   refine hK.out _ _ (HS.out _ KA) (fun _ => ?_)
   generalize w8.alloc zZ = V6 at *
   obtain ⟨mb, hmbe⟩ : ∃ mb, mb = w8.heap.size := ⟨_, rfl⟩
   rw [← hmbe] at hmb ⊢
   have hz : V0.heap.size ≤ mb := by rw [hmbe]; exact (L8).size
   clear hmbe KA0
   clear hK K'
   try (simp only [Act.put, List.setIfInBounds_toArray, List.set_cons_zero, List.set_cons_succ])
   refine wpAnyH_ready (rs := [10]) (by kernel_rfl) (by simp) (rdy (fun K' hK => ?_) AllReadyH.nil)
   refine step_call3 _ (by rfl) 22 _ _ _ _ _ _ (by rfl) (enters_of Tryd.func22 (by kernel_rfl) rfl) _ _ _ (by rfl) (by rfl) (by rfl) (hStep _ KA) ?_
   rintro e w9 ⟨ae, ce, a6, c6, a7, c7, at_, ct, rfl, K9⟩
   have L9 := (KA).and K9
   replace hmb := atK K9 hmb
   refine ⟨_, rfl, ?_⟩
   refine hK.out _ _ (HS.out _ L9) (fun _ => ?_)
   clear hK K'
   try (simp only [Act.put, List.setIfInBounds_toArray, List.set_cons_zero, List.set_cons_succ])
   refine tkR 11 (HS.out _ L9) ?_
   refine tkR 12 (HS.out _ L9) ?_
   refine tkR 13 (HS.out _ L9) ?_
   refine tkR 14 (HS.out _ L9) ?_
   refine tkR 15 (HS.out _ L9) ?_
   refine tkR 17 (HS.out _ L9) ?_
   refine wpAnyH_ready (rs := [18]) (by kernel_rfl) (by simp) (rdy (fun K' hK => ?_) AllReadyH.nil)
   obtain ⟨⟨z0, z1, z2, z3, z4, z5, z6, z7, z8⟩, f0, f1, f2, f3, f4, f5, f6, f7, f8⟩ := nine hmb
   have KS := kept9 (S := fun j => j = mb) w9 rfl (.string ⟨#[]⟩) (.string ⟨#[]⟩) (.string ⟨#[]⟩) (.string ⟨#[]⟩) (.int .i64 0) (.string ⟨#[]⟩) (.slice a6 0 c6) (.slice a7 0 c7) (.int .i64 0)
   have KF := (L9).trans KS (fun j h => .inr (by subst h; exact hz))
   go_simp
   refine hK.out _ _ (HS.out _ KF) (fun _ => ?_)
   have HKF := hid (HKD.out.and KF)
   clear z0 z1 z2 z3 z4 z5 z6 z7 z8 f0 f1 f2 f3 f4 f5 f6 f7 f8 KS
   clear hK K'
   try (simp only [Act.put, List.setIfInBounds_toArray, List.set_cons_zero, List.set_cons_succ])
   refine tkR 19 (HS.out _ KF) ?_
   refine tkR 20 (HS.out _ KF) ?_
   refine wpAnyH_done (by kernel_rfl) ?_ _
   exact HH.out _ _ _ _ _ _ _ _ _ _ _ _ _ _ _ _ mb ae ce at_ ct _ HKF.out
 ·have hmb : (V0.alloc zZ).heap[V0.heap.size]? = some (.cells #[.string ⟨#[]⟩, .string ⟨#[]⟩, .string ⟨#[]⟩, .string ⟨#[]⟩, .int .i64 0, .string ⟨#[]⟩, .slice none 0 0, .slice none 0 0, .int .i64 0] 33 (0, 0)) := heap_alloc_new _ _
  have KA0 : KF V0 (V0.alloc zZ) := Kept.alloc _ _ _
  have KA := ((Kept.refl (fun _ => False) V0)).and KA0
  go_simp
  refine hK.out _ _ (HS.out _ KA) (fun _ => ?_)
  generalize V0.alloc zZ = V6 at *
  obtain ⟨mb, hmbe⟩ : ∃ mb, mb = V0.heap.size := ⟨_, rfl⟩
  rw [← hmbe] at hmb ⊢
  have hz : V0.heap.size ≤ mb := by rw [hmbe]; exact ((Kept.refl (fun _ => False) V0)).size
  clear hmbe KA0
  clear hK K'
  try (simp only [Act.put, List.setIfInBounds_toArray, List.set_cons_zero, List.set_cons_succ])
  refine wpAnyH_ready (rs := [9]) (by kernel_rfl) (by simp) (rdy (fun K' hK => ?_) AllReadyH.nil)
  refine step_call1 _ (by rfl) 13 _ _ (by rfl) (enters_of Tryd.func13 (by kernel_rfl) rfl) _ (by rfl) (hClip _ KA) ?_
  rintro e w8 ⟨rfl, K8⟩
  have L8 := (KA).and K8
  replace hmb := atK K8 hmb
  refine ⟨_, rfl, ?_⟩
  refine hK.out _ _ (HS.out _ L8) (fun _ => ?_)
  clear hK K'
  try (simp only [Act.put, List.setIfInBounds_toArray, List.set_cons_zero, List.set_cons_succ])
  refine wpAnyH_ready (rs := [10]) (by kernel_rfl) (by simp) (rdy (fun K' hK => ?_) AllReadyH.nil)
  refine step_call3 _ (by rfl) 22 _ _ _ _ _ _ (by rfl) (enters_of Tryd.func22 (by kernel_rfl) rfl) _ _ _ (by rfl) (by rfl) (by rfl) (hStep _ L8) ?_
  rintro e w9 ⟨ae, ce, a6, c6, a7, c7, at_, ct, rfl, K9⟩
  have L9 := (L8).and K9
  replace hmb := atK K9 hmb
  refine ⟨_, rfl, ?_⟩
  refine hK.out _ _ (HS.out _ L9) (fun _ => ?_)
  clear hK K'
  try (simp only [Act.put, List.setIfInBounds_toArray, List.set_cons_zero, List.set_cons_succ])
  refine tkR 11 (HS.out _ L9) ?_
  refine tkR 12 (HS.out _ L9) ?_
  refine tkR 13 (HS.out _ L9) ?_
  refine tkR 14 (HS.out _ L9) ?_
  refine tkR 15 (HS.out _ L9) ?_
  refine tkR 17 (HS.out _ L9) ?_
  refine wpAnyH_ready (rs := [18]) (by kernel_rfl) (by simp) (rdy (fun K' hK => ?_) AllReadyH.nil)
  obtain ⟨⟨z0, z1, z2, z3, z4, z5, z6, z7, z8⟩, f0, f1, f2, f3, f4, f5, f6, f7, f8⟩ := nine hmb
  have KS := kept9 (S := fun j => j = mb) w9 rfl (.string ⟨#[]⟩) (.string ⟨#[]⟩) (.string ⟨#[]⟩) (.string ⟨#[]⟩) (.int .i64 0) (.string ⟨#[]⟩) (.slice a6 0 c6) (.slice a7 0 c7) (.int .i64 0)
  have KF := (L9).trans KS (fun j h => .inr (by subst h; exact hz))
  go_simp
  refine hK.out _ _ (HS.out _ KF) (fun _ => ?_)
  have HKF := hid (HKD.out.and KF)
  clear z0 z1 z2 z3 z4 z5 z6 z7 z8 f0 f1 f2 f3 f4 f5 f6 f7 f8 KS
  clear hK K'
  try (simp only [Act.put, List.setIfInBounds_toArray, List.set_cons_zero, List.set_cons_succ])
  refine tkR 19 (HS.out _ KF) ?_
  refine tkR 20 (HS.out _ KF) ?_
  refine wpAnyH_done (by kernel_rfl) ?_ _
  exact HH.out _ _ _ _ _ _ _ _ _ _ _ _ _ _ _ _ mb ae ce at_ ct _ HKF.out
open Go.ChangeShapes Go.WideShapes Go.ChangeAt Go.RowKit Go.Deep
theorem ends_range (S : Sound ns) (M : Met ns s) (h : 1 ≤ s.status ∧ s.status ≤ 4) (q : Inp) : 1 ≤ (playS nm ns s q).status ∧ (playS nm ns s q).status ≤ 4 := by
 unfold playS
 split
 ·exact step_range S M h q
 ·exact h
theorem ends_start (q : Inp) (hq : q.kind = 1) : 1 ≤ (playS nm ns zeroSt q).status ∧ (playS nm ns zeroSt q).status ≤ 4 := by
 have h : stepP nm ns zeroSt q = (goOnP nm ns (startR nm ns q), 0) := start_is q hq
 unfold playS
 rw [h, if_pos rfl]
 exact start_range q
theorem ends_cancel (h : 1 ≤ s.status ∧ s.status ≤ 4) (q : Inp) (hk : q.kind = 8) (ht : q.text.size ≤ 256) : 2 ≤ (playS nm ns s q).status ∧ (playS nm ns s q).status ≤ 4 := by
 unfold playS
 by_cases hs : s.status = 1
 ·obtain ⟨h1, h2⟩ := step_cancel (nm := nm) (ns := ns) hs q hk ht
  rw [if_pos h1, h2]
  exact ⟨by decide, by decide⟩
 ·obtain ⟨e, he, hne⟩ := step_closed (nm := nm) (ns := ns) (s := s) (by omega) hs q
  rw [he, if_neg hne]
  omega
theorem PlSt.opened {w2 wr : World} {pb : Nat} {a : Option Addr} {c : Nat} {k : Nat} {l : List Ev} (X : PlSt w2 wr pb nm a c ns k s l) (hk : k ≤ 200) : ∃ (a6 : Option Addr) (c6 : Nat) (a7 : Option Addr) (c7 : Nat) (v11 : Value), wr.heap[pb]? = some (.cells #[.string nm, .slice a ns.length c, .string s.dfn, .string s.id, .string s.par, .string s.pnode, .int .i64 s.status, .string s.text, .slice a6 s.nodes.length c6, .slice a7 s.sigs.length c7, .int .i64 s.events, v11] 36 (0, 0)) ∧ StRd wr s (.slice a6 s.nodes.length c6) (.slice a7 s.sigs.length c7) := by
 obtain ⟨⟨H, v6, v7, v11, E, P⟩, M, hl⟩ := X
 obtain ⟨a6, c6, rfl⟩ := ownsRow_shape P.nodes
 obtain ⟨a7, c7, rfl⟩ := ownsRow_shape P.sigs
 have Z := M.small hk
 exact ⟨a6, c6, a7, c7, v11, P.blk, flat_of_owns P.nodes, flat_of_owns P.sigs, by have := Z.nodes; omega, by have := Z.sigs; omega⟩
theorem historyEnds_walk (name : ByteArray) (a : Option Addr) (c : Nat) (ns0 : List Nd) (ai : Option Addr) (ci : Nat) (ins : List Inp) (am : Option Addr) (cm : Nat) (more : List Inp) (w : World) (R0 : RawAt w a ns0) (hnm : name.size ≤ maxLen) (hc : ns0.length ≤ c) (I0 : InsAt w ai ins) (hi0 : ins.length ≤ ci ∧ ci ≤ maxLen) (I1 : InsAt w am more) (hm0 : more.length ≤ cm ∧ cm ≤ maxLen) (M : MovesAt w) :
  Calls Tryd.prog 6 #[.agg #[.string name, .slice a ns0.length c], .slice ai ins.length ci, .slice am more.length cm] w fun e w' => e = .returned (.bool true) ∧ Below w.heap.size w w' := by
 have hCut := hcut_any (w.alloc (.cells #[.string name, .slice a ns0.length c] 24)) name a ns0.length c ns0 rfl hc
 obtain ⟨ns, hns⟩ : ∃ ns, ns = ns0.take 32 := ⟨_, rfl⟩
 rw [← hns] at hCut
 have R : RawAt w a ns := by rw [hns]; exact R0.take 32
 have h32 : ns.length ≤ 32 := by rw [hns, List.length_take]; omega
 have HTk : Hid (∀ b, decide ((checkP name ns).2 = 0) = b → ∀ V, RawAt V a ns → Calls Tryd.prog 10 #[.agg #[.string name, .slice a ns.length c]] V fun e w' => e = .returned (.bool b) ∧ KF V w') := fun b hb V RV => taken_any V name a _ c _ RV rfl h32 hnm b hb
 have HR := hid R
 have HM := hid M
 have HI := hid I0
 have HJ := hid I1
 have hml : more.length ≤ cm := hm0.1
 have hmm : more.length ≤ 9223372036854775807 := by have : maxLen = 9223372036854775807 := rfl; omega
 have hil : ins.length ≤ ci := hi0.1
 have him : ins.length ≤ 9223372036854775807 := by have : maxLen = 9223372036854775807 := rfl; omega
 clear R R0 M hns hc I0 hi0 I1 hm0
 by_cases hT : (checkP name ns).2 = 0
 ·have T := taken_of hT
  have HT := hid T
  have HTk2 := hid (HTk.out true (by simp [hT]))
  clear HTk hT T
  go_enter Tryd.func6, Tryd.ntmps6
  go_upto_region 4 with (first
   | (go_at_call 9; refine hCut.mono ?_; rintro e w1 ⟨rfl, K1⟩; clear hCut; obtain ⟨_, f0, f1⟩ := pairF ((K1.block w.heap.size (by simp) (fun h => h)).trans (heap_alloc_new _ _)); have hb := cut_box (n' := ns.length) K1 HR.out; obtain ⟨⟨x0, x1⟩, _, _⟩ := pairF hb.1; have hTk := HTk2.out _ hb.2.2; have HB := hid hb; clear hb)
   | (go_at_call 10; refine hTk.mono ?_; rintro e w2 ⟨rfl, K2⟩; clear hTk)
   | fail)
  have hb2 := atK K2 HB.out.1
  have HK2 := hid (HB.out.2.1.and K2)
  have HD2 := hid (HT.out.at (keptRaw K2 HB.out.2.2) (HM.out.kept HK2.out (fun h => h)))
  obtain ⟨⟨d0, d1⟩, _, _⟩ := pairF hb2
  have HX0 := hid (PlSt.start (nm := name) (c := c) HD2.out)
  have HBX := hid hb2
  clear HTk2 K2 HB f0 f1 x0 x1 K1 hb2
  have hIn0 := fun V (KV : KF (w2.alloc (.cells #[.string name, .slice a ns.length c, .string ⟨#[]⟩, .string ⟨#[]⟩, .string ⟨#[]⟩, .string ⟨#[]⟩, .int .i64 0, .string ⟨#[]⟩, .slice none 0 0, .slice none 0 0, .int .i64 0, .slice none 0 0] 36)) V) => play_input (HX0.out.new KV) HT.out (by omega) ⟨1, ⟨#[]⟩, ⟨#[102]⟩, ⟨#[]⟩, 0, 0, 0, ⟨#[]⟩, ⟨#[]⟩⟩ (by decide) (by decide)
  unfold inpV at hIn0
  simp only [] at hIn0
  have HR1 := hid (ends_start (nm := name) (ns := ns) ⟨1, ⟨#[]⟩, ⟨#[102]⟩, ⟨#[]⟩, 0, 0, 0, ⟨#[]⟩, ⟨#[]⟩⟩ rfl)
  clear HX0
  go_upto_region 6 with (first
   | (go_at_call 12; refine (hIn0 _ (Kept.refl _ _)).mono ?_; rintro e w7 ⟨rfl, X1, K1'⟩; clear hIn0)
   | fail)
  have HX1 := hid X1
  clear X1 K1' d0 d1
  go_wp2_with fail
  go_loopw [8] (fun q wr => ∃ (i : Nat) (s : St) (l : List Ev), i ≤ ins.length ∧ i ≤ 60 ∧ q = .int .i64 i ∧ PlSt w2 wr w2.heap.size name a c ns (i + 1) s l ∧ 1 ≤ s.status ∧ s.status ≤ 4) (fun q _ => ins.length - (intOf q).toNat)
  case atStart => exact ⟨0, _, _, Nat.zero_le _, Nat.zero_le _, rfl, HX1.out, HR1.out.1, HR1.out.2⟩
  case round =>
   clear HX1 HR1
   obtain ⟨i, s, l, hi, hi60, rfl, X, hs1, hs4⟩ := hrel
   by_cases hgo : i < ins.length ∧ i < 60
   ·obtain ⟨hlt, h60⟩ := hgo
    have e0 : (i : Int) < (ins.length : Int) := by omega
    have e1 : (i : Int) < 60 := by omega
    obtain ⟨bi, oi, rfl, hI⟩ := HI.out.at hlt
    obtain ⟨i0, i1, i2, i3, i4, i5, i6, i7, i8⟩ := hI wr (HK2.out.and X.keep)
    obtain ⟨p, hp⟩ : ∃ p, p = clipQ ins[i] := ⟨_, rfl⟩
    have hpt : p.text.size ≤ 300 := by rw [hp]; exact clipQ_text _
    have hpn : p.name.size ≤ 300 := by rw [hp]; exact clipQ_name _
    have hClip : Calls Tryd.prog 13 #[.agg #[.int .i64 (ins[i]).kind, .string (ins[i]).node, .string (ins[i]).name, .string (ins[i]).text, .int .i64 (ins[i]).tr, .int .i64 (ins[i]).status, .int .i64 (ins[i]).now, .string (ins[i]).par, .string (ins[i]).pnode]] wr fun e w' => e = .returned (.agg #[.int .i64 p.kind, .string p.node, .string p.name, .string p.text, .int .i64 p.tr, .int .i64 p.status, .int .i64 p.now, .string p.par, .string p.pnode]) ∧ KF wr w' := by
     rw [hp]
     exact clip_any wr ins[i] (fun V => within_wide V _ _ (by decide) (by decide))
    have hIn := fun V (KV : KF wr V) => play_input (X.new KV) HT.out (by omega) p hpn (Nat.le_trans hpt (by decide))
    unfold inpV at hIn
    have hR := ends_range (nm := name) HT.out.sound X.2.1.met ⟨hs1, hs4⟩ p
    have HR := hid hR
    clear X hI hp hR hs1 hs4
    go_wp2_with (first
     | (go_at_call 13; refine hClip.mono ?_; rintro e w6 ⟨rfl, K6⟩; clear hClip)
     | (go_at_call 12; refine (hIn _ K6).mono ?_; rintro e w7 ⟨rfl, X7, K7⟩; clear hIn)
     | fail)
    go_roundw
    case rel => exact ⟨i + 1, _, _, by omega, by omega, by go_num, X7, HR.out.1, HR.out.2⟩
    case measure => simp [intOf]; omega
   ·have hcs : (¬ ((i : Int) < (ins.length : Int))) ∨ (((i : Int) < (ins.length : Int)) ∧ ¬ ((i : Int) < 60)) := by omega
    have hIn8 := fun V (KV : KF wr V) => play_input (X.new KV) HT.out (by omega) ⟨8, ⟨#[]⟩, ⟨#[]⟩, ⟨#[101, 110, 100]⟩, 0, 0, 0, ⟨#[]⟩, ⟨#[]⟩⟩ (by decide) (by decide)
    unfold inpV at hIn8
    simp only [] at hIn8
    have HR8 := hid (ends_cancel (nm := name) (ns := ns) ⟨hs1, hs4⟩ ⟨8, ⟨#[]⟩, ⟨#[]⟩, ⟨#[101, 110, 100]⟩, 0, 0, 0, ⟨#[]⟩, ⟨#[]⟩⟩ rfl (by decide))
    obtain ⟨s2, hs2e⟩ : ∃ x, x = playS name ns s ⟨8, ⟨#[]⟩, ⟨#[]⟩, ⟨#[101, 110, 100]⟩, 0, 0, 0, ⟨#[]⟩, ⟨#[]⟩⟩ := ⟨_, rfl⟩
    obtain ⟨l2, hl2e⟩ : ∃ x, x = playL name ns s l ⟨8, ⟨#[]⟩, ⟨#[]⟩, ⟨#[101, 110, 100]⟩, 0, 0, 0, ⟨#[]⟩, ⟨#[]⟩⟩ := ⟨_, rfl⟩
    rw [← hs2e] at HR8
    rw [← hs2e, ← hl2e] at hIn8
    clear X hgo hs1 hs4 hs2e hl2e
    rcases hcs with e0 | ⟨e0, e1⟩
    all_goals
     go_upto_region 13 with (first
      | (go_at_call 12; refine (hIn8 _ (Kept.refl _ _)).mono ?_; rintro e w7 ⟨rfl, X2, K2'⟩; clear hIn8)
      | fail)
     have HX2 := hid X2
     clear X2 K2'
     go_wp2_with fail
     go_loopw [9] (fun q w9 => ∃ (j : Nat), j ≤ more.length ∧ j ≤ 20 ∧ q = .int .i64 j ∧ PlSt w2 w9 w2.heap.size name a c ns (i + 1 + 1) s2 l2) (fun q _ => more.length - (intOf q).toNat)
     case atStart => exact ⟨0, Nat.zero_le _, Nat.zero_le _, rfl, HX2.out⟩
     case round =>
      clear HX2 e0
      obtain ⟨j, hj, hj20, rfl, X⟩ := hrel
      have HK := hid (HK2.out.and X.keep)
      have hdb := atK X.keep HBX.out
      obtain ⟨⟨d0, d1⟩, _, _⟩ := pairF hdb
      obtain ⟨a6, c6, a7, c7, v11, hblk, hrd⟩ := X.opened (by omega)
      obtain ⟨⟨_, _, x2, x3, x4, x5, x6, x7, x8, x9, x10, x11⟩, _⟩ := twelve hblk
      by_cases hgo : j < more.length ∧ j < 20
      ·obtain ⟨hlt, h20⟩ := hgo
       have e0 : (j : Int) < (more.length : Int) := by omega
       have e1' : (j : Int) < 20 := by omega
       obtain ⟨bj, oj, rfl, hI⟩ := HJ.out.at hlt
       obtain ⟨i0, i1, i2, i3, i4, i5, i6, i7, i8⟩ := hI wr HK.out
       obtain ⟨p, hp⟩ : ∃ p, p = clipQ more[j] := ⟨_, rfl⟩
       have hpt : p.text.size ≤ 300 := by rw [hp]; exact clipQ_text _
       have hpn : p.name.size ≤ 300 := by rw [hp]; exact clipQ_name _
       have hClip := fun V (KV : KF wr.drew V) => (by rw [hp]; exact clip_any V more[j] (fun V => within_wide V _ _ (by decide) (by decide)) : Calls Tryd.prog 13 #[.agg #[.int .i64 (more[j]).kind, .string (more[j]).node, .string (more[j]).name, .string (more[j]).text, .int .i64 (more[j]).tr, .int .i64 (more[j]).status, .int .i64 (more[j]).now, .string (more[j]).par, .string (more[j]).pnode]] V fun e w' => e = .returned (.agg #[.int .i64 p.kind, .string p.node, .string p.name, .string p.text, .int .i64 p.tr, .int .i64 p.status, .int .i64 p.now, .string p.par, .string p.pnode]) ∧ KF V w')
       obtain ⟨ee, hst, hee⟩ := step_closed (nm := name) (ns := ns) (s := s2) (by have := HR8.out.1; omega) (by have := HR8.out.1; omega) p
       have hStep := fun V (KV : KF wr.drew V) => Calls.mono (step_no (c := c) (n := ns.length) (HD2.out.new ((X.keep.and (Kept.drew _ _)).and KV)) rfl (hrd.new ((Kept.drew _ _).and KV)) (X.2.1.small (by omega)) (q := p) (by omega) (Nat.le_trans hpt (by decide)) hst hee) (fun e w' h => h)
       unfold NoPost at hStep
       have e3 : (ee == 0) = false := by rw [beq_eq_false_iff_ne]; exact hee
       have HX := hid X
       clear X hI hp hst hee hdb hblk hrd x11
       go_upto_region 16 with fail
       refine wp_onlyN (en16 (n := more.length) (i := j) _ d0 d1 x2 x3 x4 x5 x6 x7 x8 x9 x10 i0 i1 i2 i3 i4 i5 i6 i7 i8 hlt hClip hStep ?_)
       intro _ _ _ _ _ _ _ _ _ _ _ _ _ _ _ _ mb ae ce at_ ct w5 K5
       have HX5 := hid (HX.out.new K5)
       clear d0 d1 x2 x3 x4 x5 x6 x7 x8 x9 x10 i0 i1 i2 i3 i4 i5 i6 i7 i8 hClip hStep K5 HX
       go_wp2_with fail
       go_roundw
       case rel => exact ⟨j + 1, by omega, by omega, by go_num, HX5.out⟩
       case measure => simp [intOf]; omega
      ·have hW := wakes_any wr (HM.out.kept HK.out (fun h => h))
       have hcs : (¬ ((j : Int) < (more.length : Int))) ∨ (((j : Int) < (more.length : Int)) ∧ ¬ ((j : Int) < 20)) := by omega
       have e4 : (2 : Int) ≤ s2.status := HR8.out.1
       clear X hgo hdb hblk hrd d0 d1
       rcases hcs with f0 | ⟨f0, f1⟩
       all_goals
        go_wp2_with (first
         | (go_at_call 11; refine hW.mono ?_; rintro e w8 ⟨rfl, K8⟩; clear hW)
         | fail)
        go_ret
        exact ⟨rfl, (HK.out.and K8).none⟩
 ·have HTk2 := hid (HTk.out false (by simp [hT]))
  have hW := fun V (K : KF w V) => wakes_any V (HM.out.kept K (fun h => h))
  have HW := hid hW
  clear HTk hT hW
  go_enter Tryd.func6, Tryd.ntmps6
  go_wp2_with (first
   | (go_at_call 9; refine hCut.mono ?_; rintro e w1 ⟨rfl, K1⟩; clear hCut; obtain ⟨_, f0, f1⟩ := pairF ((K1.block w.heap.size (by simp) (fun h => h)).trans (heap_alloc_new _ _)); have hb := cut_box (n' := ns.length) K1 HR.out; obtain ⟨⟨x0, x1⟩, _, _⟩ := pairF hb.1; have hTk := HTk2.out _ hb.2.2; have HB := hid hb; clear hb)
   | (go_at_call 10; refine hTk.mono ?_; rintro e w2 ⟨rfl, K2⟩; clear hTk; have hW := HW.out w2 (HB.out.2.1.and K2))
   | (go_at_call 11; refine hW.mono ?_; rintro e w8 ⟨rfl, K8⟩; clear hW)
   | fail)
  go_ret
  exact ⟨rfl, ((HB.out.2.1.and K2).and K8).none⟩
end Go.Proofs.YtfjekjbkifmpfaaDoor.Rf
namespace Go.Proofs.YtfjekjbkifmpfaaDoor
open Go.ChangeShapes Go.WideShapes Go.ChangeAt Go.RowKit Go.Deep
theorem historyEnds_lifted (os : Os) (started : os.Started) (H : Type) (enc : TypeId × Value → H) :
  ReturnsInHanded {} Tryd.checked os 6 .any (fun w args => (Rows.historyEndsSpec.pre enc Tryd.prog Tryd.f6 [] false w args ∧ laidMetH Tryd.prog laidL w) ∧ sizedMet enc Tryd.prog Tryd.f6 (OpenSpec.ofChange Rows.historyEndsSpec) false w args)
   (Rows.historyEndsSpec.post enc Tryd.prog Tryd.f6 false true false false) := by
 refine returnsInHanded_of_change_and (C := Tryd.checked) (X := fun w _ => laidMetH Tryd.prog laidL w) (fun _ _ _ hh h => h.of_heap hh) Tryd.own started (by kernel_rfl) Tryd.func6
  (ChangeSpec.witness_shaped (enc := enc) (C := Tryd.checked) (os := os) (X := fun w _ => laidMetH Tryd.prog laidL w) false (World.doorLaid Tryd.prog 28 os) #[.agg #[.string ⟨#[]⟩, .slice none 0 0], .slice none 0 0, .slice none 0 0] 8 rfl (World.shaped_of_RefB (by kernel_rfl) (by kernel_rfl)) (by kernel_rfl) (by kernel_rfl) (by kernel_rfl) (door_met os _)) ?_
 intro W base args ds gs before hval0 hW _ _ hL _
 have hval : ∀ (j : Nat) t v, Tryd.f6.params[j]? = some t → args[j]? = some v → Value.okWide Tryd.prog W .any base t v := hval0
 have hW' := hW
 obtain ⟨p, q, hA0, hV, rfl, _, _⟩ := hW
 have hA : DataW.TrodAll enc Tryd.prog W 0 (fun _ => true) true Tryd.f6.params.toList args.toList ds p := hA0
 rw [Tryd.params6] at hA hval
 obtain ⟨v0, vs0, d0, ds0, p0, q0, hargs, rfl, rfl, h0, r0⟩ := trodAll_cons hA
 obtain ⟨v1, vs1, d1, ds1, p1, q1, rfl, rfl, rfl, h1, r1⟩ := trodAll_cons r0
 obtain ⟨v2, vs2, d2, ds2, p2, q2, rfl, rfl, rfl, h2, r2⟩ := trodAll_cons r1
 obtain ⟨rfl, rfl, rfl⟩ := trodAll_nil r2
 obtain rfl : args = #[v0, v1, v2] := by cases args; simp_all
 obtain ⟨rfl, rfl⟩ := trodVars_none hV
 have k0 := h0
 have k1 := h1
 have k2 := h2
 have lt0 : ∀ x ∈ p0, x.block < W.heap.size := by obtain ⟨m, hm⟩ := k0; exact DataW.trod_lt m _ _ _ hm
 have lt1 : ∀ x ∈ p1, x.block < W.heap.size := by obtain ⟨m, hm⟩ := k1; exact DataW.trod_lt m _ _ _ hm
 have lt2 : ∀ x ∈ p2, x.block < W.heap.size := by obtain ⟨m, hm⟩ := k2; exact DataW.trod_lt m _ _ _ hm
 obtain ⟨nm0, a0, c0, ns0, rfl, z0, y0, x0, w0⟩ := dv_open (hval 0 24 v0 rfl rfl) h0
 obtain ⟨a1', len1', cap1', rfl⟩ := okWide_slice Tryd.underlying25 (hval 1 25 v1 rfl rfl)
 obtain ⟨a1, cap1, l1, e1, y1, x1, w1⟩ : ∃ a c l, Value.slice a1' len1' cap1' = .slice a l.length c ∧ l.length ≤ c ∧ c ≤ maxLen ∧ InsAt W a l := by
  obtain ⟨fuel, hf⟩ := h1
  exact ins_open hf
 simp only [Value.slice.injEq] at e1
 obtain ⟨rfl, rfl, rfl⟩ := e1
 obtain ⟨a2', len2', cap2', rfl⟩ := okWide_slice Tryd.underlying25 (hval 2 25 v2 rfl rfl)
 obtain ⟨a2, cap2, l2, e2, y2, x2, w2⟩ : ∃ a c l, Value.slice a2' len2' cap2' = .slice a l.length c ∧ l.length ≤ c ∧ c ≤ maxLen ∧ InsAt W a l := by
  obtain ⟨fuel, hf⟩ := h2
  exact ins_open hf
 simp only [Value.slice.injEq] at e2
 obtain ⟨rfl, rfl, rfl⟩ := e2
 clear hA0 hval0
 refine (Rf.historyEnds_walk _ _ _ _ _ _ _ _ _ _ W w0 z0 y0 w1 ⟨y1, x1⟩ w2 ⟨y2, x2⟩ (moves_laid hL)).mono fun e W' ⟨he, bel⟩ => ?_
 subst he
 exact ⟨_, rfl, _, _, _, [], _, [], hW', trodAll_mk1 (shut_bool Tryd.underlying4 _), (trodAll_cons_mk (Below.trod Tryd.laidOut (by kernel_rfl) (of_decide_eq_true (by kernel_rfl)) k0 bel lt0) (trodAll_cons_mk (Below.trod Tryd.laidOut (by kernel_rfl) (of_decide_eq_true (by kernel_rfl)) k1 bel lt1) (trodAll_cons_mk (Below.trod Tryd.laidOut (by kernel_rfl) (of_decide_eq_true (by kernel_rfl)) k2 bel lt2) trodAll_mk0))), rfl, bel.frame _, fun h => by cases h⟩
theorem historyEnds_row : Rows.HistoryEndsSaid :=
 OpenClaim.holds_of_wide 6 Tryd.f6 rfl rfl rfl rfl rfl rfl rfl ⟨rfl, rfl, rfl, rfl, rfl⟩ rfl rfl rfl rfl rfl (by kernel_rfl) Tryd.func6 (by kernel_rfl)
  (of_decide_eq_true (by kernel_rfl)) (by unfold Func.isWrapper; first | (rw [if_pos (by decide +kernel)]; kernel_rfl) | (rw [if_neg (by decide +kernel)]; exact ⟨rfl, rfl⟩))
  (fun os started H enc _ => historyEnds_lifted os started H enc)
theorem historyEnds_holds : Rows.HistoryEndsCardSaid :=
 Claim7.holds_tied_plain_at .later [] [.data] true Rows.historyEndsCard.stood.harness false
  historyEnds_row (fun _ h => by cases h) (by kernel_rfl) (fun _ h => by cases h) historyEnds_row_tie rfl ⟨rfl, rfl⟩ (by kernel_rfl) rfl
  (fun f fn hf hfn => by
    obtain rfl : f = 6 := Option.some.inj ((show Tryd.prog.funcNamed "tiller/tillerlaw09.HistoryEnds" = some 6 by kernel_rfl).symm.trans hf) |>.symm
    obtain rfl : fn = Tryd.f6 := (Option.some.inj (Tryd.func6.symm.trans hfn)).symm
    exact ⟨by kernel_rfl, fun j t ht => by
     rw [Tryd.params6] at ht
     have hm : t ∈ [24, 25] := by simpa using Array.mem_of_getElem? ht
     have hall : ([24, 25].all fun u => !Tryd.prog.wantsStandIn u) = true := by kernel_rfl
     exact (show Tryd.prog.wantsStandIn t = false by simpa using List.all_eq_true.1 hall t hm)⟩)
  (by kernel_rfl)
end Go.Proofs.YtfjekjbkifmpfaaDoor
