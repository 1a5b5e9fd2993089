/-
  A definition is copied, as a region that draws its order.
-/
import Derived.Test.YtalhdgelkomaiabDoorDBox
import Derived.Test.YtalhdgelkomaiabDoorDLin8
import Derived.Deep.RegionHeld3
namespace Go.Proofs.YtalhdgelkomaiabDoor
open Go.RowKit

/-- A definition of one's own: its box and its row. -/
structure DefSt (W W' : World) (xb : Nat) (nm : ByteArray) (a3 : Option Addr) (n c3 : Nat) (xs : List Value) : Prop where
  box : W'.heap[xb]? = some (.cells #[.string nm, .slice a3 n c3] 24 (0, 0))
  new : W.heap.size ≤ xb
  row : W'.ownsRow W.heap.size 33 7 (.slice a3 n c3) n xs
  apart : ∀ g, (Value.slice a3 n c3).ownBlock = some g → g ≠ xb
  kept : Kept (fun _ => False) W W'


set_option maxRecDepth 100000 in
set_option maxHeartbeats 4000000 in
theorem grows5 {W : World} {db n c : Nat} {a : Option Addr} {nm : ByteArray} {xs : List Value} {ds : List Deferred} {u0 u2 u3 u4 u5 u6 u7 u8 u9 u10 u11 u12 u13 u14 u15 u16 u17 u18 u19 u20 u21 u22 u23 u24 u25 u26 u27 u28 u29 u30 u31 u32 u33 u34 u35 u36 u37 u38 u39 u40 u41 u42 u43 u44 u45 u46 u47 u48 u49 u50 u51 u52 u53 u54 u55 u56 u57 u58 u59 u60 u61 u62 u63 u64 u65 u66 u67 u68 u69 u70 u71 u72 u73 u74 u75 u76 u77 u78 u79 u80 u81 u82 u83 u84 u85 u86 u87 u88 u89 u90 u91 u92 u93 u94 u95 u96 u97 u98 u99 u100 u101 u102 u103 u104 u105 : Value} (K : Act → World → Prop)
    (x0 : W.cell? ⟨db, 0, none⟩ = some (.string nm)) (x1 : W.cell? ⟨db, 1, none⟩ = some (.slice a n c)) (hsrc : ∀ V, Kept (fun _ => False) W V → Src V 7 (.slice a n c) n xs) (hone : ∀ u ∈ xs, u.oneCell' = true) (hn : n ≤ 1000)
    (h : ∀ (v26 v27 v28 v29 v30 v31 v32 : Value) (xb : Nat) (a3 : Option Addr) (c3 : Nat) (W' : World), DefSt W W' xb nm a3 n c3 xs → K { tmps := #[u0, .pointer (some ⟨db, 0, none⟩), u2, u3, u4, .pointer (some ⟨xb, 0, none⟩), u6, u7, u8, u9, u10, u11, u12, u13, u14, u15, u16, u17, u18, u19, u20, u21, u22, u23, u24, u25, v26, v27, v28, v29, v30, v31, v32, u33, u34, u35, u36, u37, u38, u39, u40, u41, u42, u43, u44, u45, u46, u47, u48, u49, u50, u51, u52, u53, u54, u55, u56, u57, u58, u59, u60, u61, u62, u63, u64, u65, u66, u67, u68, u69, u70, u71, u72, u73, u74, u75, u76, u77, u78, u79, u80, u81, u82, u83, u84, u85, u86, u87, u88, u89, u90, u91, u92, u93, u94, u95, u96, u97, u98, u99, u100, u101, u102, u103, u104, u105], defers := ds } W') :
    (Code.region 5 #[{ dst := some 26, op := Op.fieldAddr 24 (Operand.tmp 1) 0, type := 0, pos := "more.go:97", after := #[], guard := none }, { dst := some 27, op := Op.load 9 (Operand.tmp 26), type := 9, pos := "more.go:97", after := #[{ on := 0, ground := Ground.data }], guard := none }, { dst := some 28, op := Op.buildSlice 22 0 #[], type := 22, pos := "more.go:97", after := #[], guard := none }, { dst := some 29, op := Op.fieldAddr 24 (Operand.tmp 1) 1, type := 0, pos := "more.go:97", after := #[], guard := none }, { dst := some 30, op := Op.load 22 (Operand.tmp 29), type := 22, pos := "more.go:97", after := #[{ on := 3, ground := Ground.data }], guard := none }, { dst := some 31, op := Op.call { callee := Callee.builtin Builtin.append, args := #[Operand.tmp 28, Operand.tmp 30], argTypes := #[22, 22] }, type := 22, pos := "more.go:97", after := #[{ on := 2, ground := Ground.data }, { on := 4, ground := Ground.data }], guard := none }, { dst := some 32, op := Op.build 24 #[(0, Operand.tmp 27), (1, Operand.tmp 31)], type := 24, pos := "more.go:97", after := #[{ on := 1, ground := Ground.data }, { on := 5, ground := Ground.data }], guard := none }, { dst := some 5, op := Op.alloc 24, type := 0, pos := "more.go:97", after := #[], guard := none }, { dst := none, op := Op.store 24 (Operand.tmp 5) (Operand.tmp 32), type := 0, pos := "more.go:97", after := #[{ on := 7, ground := Ground.data }, { on := 6, ground := Ground.data }, { on := 5, ground := Ground.chain }, { on := 0, ground := Ground.phase }, { on := 1, ground := Ground.phase }, { on := 2, ground := Ground.phase }, { on := 3, ground := Ground.phase }, { on := 4, ground := Ground.phase }, { on := 5, ground := Ground.phase }, { on := 6, ground := Ground.phase }, { on := 7, ground := Ground.phase }], guard := none }] true).wp Tryd.prog (onlyN K) { tmps := #[u0, .pointer (some ⟨db, 0, none⟩), u2, u3, u4, u5, u6, u7, u8, u9, u10, u11, u12, u13, u14, u15, u16, u17, u18, u19, u20, u21, u22, u23, u24, u25, u26, u27, u28, u29, u30, u31, u32, u33, u34, u35, u36, u37, u38, u39, u40, u41, u42, u43, u44, u45, u46, u47, u48, u49, u50, u51, u52, u53, u54, u55, u56, u57, u58, u59, u60, u61, u62, u63, u64, u65, u66, u67, u68, u69, u70, u71, u72, u73, u74, u75, u76, u77, u78, u79, u80, u81, u82, u83, u84, u85, u86, u87, u88, u89, u90, u91, u92, u93, u94, u95, u96, u97, u98, u99, u100, u101, u102, u103, u104, u105], defers := ds } W := by
  obtain ⟨j0, hj0, hy0, hy1, hy2⟩ := info_parts Tryd.info33
  have HH : Hid _ := h
  have HO : Hid _ := hone
  have KD := Kept.drew (fun _ => False) W
  have HS : Hid (∀ V, Kept (fun _ => False) W.drew V → V.cell? ⟨db, 0, none⟩ = some (.string nm) ∧ V.cell? ⟨db, 1, none⟩ = some (.slice a n c)) := fun V KV => ⟨keepC (KD.and KV) x0 (fun _ _ h => h), keepC (KD.and KV) x1 (fun _ _ h => h)⟩
  have HC : Hid (∀ V, Kept (fun _ => False) W.drew V → Src V 7 (.slice a n c) n xs) := fun V KV => hsrc V (KD.and KV)
  have HKD : Hid (Kept (fun _ => False) W W.drew) := KD
  have hS0 := HS.out W.drew (Kept.refl _ _)
  have hsD : W.drew.heap.size = W.heap.size := rfl
  clear h hone hsrc KD x0 x1
  refine wp_region_held_drew (S := fun V => V.cell? ⟨db, 0, none⟩ = some (.string nm) ∧ V.cell? ⟨db, 1, none⟩ = some (.slice a n c)) (by kernel_rfl) hS0 (fun _ => ?_)
  refine wpAnyH_take (i := 0) (oi := { dst := some 26, op := Op.fieldAddr 24 (Operand.tmp 1) 0, type := 0, pos := "more.go:97", after := #[], guard := none }) (v := ?vv1) rfl (by kernel_rfl) (by kernel_rfl) (by kernel_rfl) (fun _ _ _ h => h) (Or.inl ⟨by rfl, ?hy1⟩) hS0 ?rest1
  case hy1 =>
    intro V hV
    obtain ⟨y0, y1⟩ := hV
    go_simp
    all_goals rfl
  simp only [Act.put, List.setIfInBounds_toArray, List.set_cons_zero, List.set_cons_succ]
  refine wpAnyH_take (i := 1) (oi := { dst := some 27, op := Op.load 9 (Operand.tmp 26), type := 9, pos := "more.go:97", after := #[{ on := 0, ground := Ground.data }], guard := none }) (v := ?vv2) rfl (by kernel_rfl) (by kernel_rfl) (by kernel_rfl) (fun _ _ _ h => h) (Or.inl ⟨by rfl, ?hy2⟩) hS0 ?rest2
  case hy2 =>
    intro V hV
    obtain ⟨y0, y1⟩ := hV
    go_simp
    all_goals rfl
  simp only [Act.put, List.setIfInBounds_toArray, List.set_cons_zero, List.set_cons_succ]
  refine wpAnyH_take (i := 3) (oi := { dst := some 29, op := Op.fieldAddr 24 (Operand.tmp 1) 1, type := 0, pos := "more.go:97", after := #[], guard := none }) (v := ?vv3) rfl (by kernel_rfl) (by kernel_rfl) (by kernel_rfl) (fun _ _ _ h => h) (Or.inl ⟨by rfl, ?hy3⟩) hS0 ?rest3
  case hy3 =>
    intro V hV
    obtain ⟨y0, y1⟩ := hV
    go_simp
    all_goals rfl
  simp only [Act.put, List.setIfInBounds_toArray, List.set_cons_zero, List.set_cons_succ]
  refine wpAnyH_take (i := 4) (oi := { dst := some 30, op := Op.load 22 (Operand.tmp 29), type := 22, pos := "more.go:97", after := #[{ on := 3, ground := Ground.data }], guard := none }) (v := ?vv4) rfl (by kernel_rfl) (by kernel_rfl) (by kernel_rfl) (fun _ _ _ h => h) (Or.inl ⟨by rfl, ?hy4⟩) hS0 ?rest4
  case hy4 =>
    intro V hV
    obtain ⟨y0, y1⟩ := hV
    go_simp
    all_goals rfl
  simp only [Act.put, List.setIfInBounds_toArray, List.set_cons_zero, List.set_cons_succ]
  refine wpAnyH_ready (rs := [2, 7]) (by kernel_rfl) (by simp) (AllReadyH.cons (o := { dst := some 28, op := Op.buildSlice 22 0 #[], type := 22, pos := "more.go:97", after := #[], guard := none }) rfl (fun K' hK => ?_) (AllReadyH.cons (o := { dst := some 5, op := Op.alloc 24, type := 0, pos := "more.go:97", after := #[], guard := none }) rfl (fun K' hK => ?_) AllReadyH.nil))
  · have R1 := ownsRow_empty (W.drew) W.drew.heap.size 33 7 (by simp)
    have HR1 : Hid ((((W.drew).alloc (.cells #[] 33))).ownsRow W.drew.heap.size 33 7 (.slice (some ⟨W.heap.size, 0, none⟩) 0 0) 0 []) := R1
    clear R1
    go_simp
    refine hK.out _ _ (HS.out _ ((Kept.refl (fun _ => False) W.drew).and (Kept.alloc _ _ _))) (fun _ => ?_)
    clear hK K'
    try (simp only [Act.put, List.setIfInBounds_toArray, List.set_cons_zero, List.set_cons_succ])
    refine wpAnyH_ready (rs := [5, 7]) (by kernel_rfl) (by simp) (AllReadyH.cons (o := { dst := some 31, op := Op.call { callee := Callee.builtin Builtin.append, args := #[Operand.tmp 28, Operand.tmp 30], argTypes := #[22, 22] }, type := 22, pos := "more.go:97", after := #[{ on := 2, ground := Ground.data }, { on := 4, ground := Ground.data }], guard := none }) rfl (fun K' hK => ?_) (AllReadyH.cons (o := { dst := some 5, op := Op.alloc 24, type := 0, pos := "more.go:97", after := #[], guard := none }) rfl (fun K' hK => ?_) AllReadyH.nil))
    · refine step_append_sr (((W.drew).alloc (.cells #[] 33))) (by rfl) _ _ 22 (by rfl) W.drew.heap.size 33 j0 _ 7 96 Tryd.underlying22 hj0 hy0 hy1 hy2 rfl (by decide) (.slice (some ⟨W.heap.size, 0, none⟩) 0 0) 0 [] (by rfl) HR1.out (.slice a n c) (by rfl) n xs (HC.out _ ((Kept.refl (fun _ => False) W.drew).and (Kept.alloc _ _ _))) HO.out (by unfold maxLen; omega) (by omega) (by simp; try omega) ?_
      intro a3 c3 w3 ho3 hg3 _ hl3
      have KG : Kept (fun j => j = W.heap.size) (((W.drew).alloc (.cells #[] 33))) w3 := Kept.grown hg3 (fun j e => by cases e; rfl)
      have K3 : Kept (fun _ => False) W.drew w3 := (((Kept.refl (fun _ => False) W.drew).and (Kept.alloc _ _ _))).trans KG (fun j h => .inr (by have : W.drew.heap.size = W.heap.size := rfl; omega))
      simp only [Nat.zero_add, List.nil_append] at ho3 hl3
      have HO3 : Hid (w3.ownsRow W.drew.heap.size 33 7 (.slice a3 n c3) n xs) := ho3
      clear ho3
      have HG3 : Hid _ := hl3
      have hz3 := KG.size
      simp only [World.size_alloc] at hz3
      clear hl3
      refine hK.out _ _ (HS.out _ K3) (fun _ => ?_)
      clear hK K'
      try (simp only [Act.put, List.setIfInBounds_toArray, List.set_cons_zero, List.set_cons_succ])
      refine wpAnyH_take (i := 6) (oi := { dst := some 32, op := Op.build 24 #[(0, Operand.tmp 27), (1, Operand.tmp 31)], type := 24, pos := "more.go:97", after := #[{ on := 1, ground := Ground.data }, { on := 5, ground := Ground.data }], guard := none }) (v := ?vv5) rfl (by kernel_rfl) (by kernel_rfl) (by kernel_rfl) (fun _ _ _ h => h) (Or.inl ⟨by rfl, ?hy5⟩) (HS.out _ K3) ?rest5
      case hy5 =>
        intro V hV
        obtain ⟨y0, y1⟩ := hV
        go_simp
        all_goals rfl
      simp only [Act.put, List.setIfInBounds_toArray, List.set_cons_zero, List.set_cons_succ]
      refine wpAnyH_ready (rs := [7]) (by kernel_rfl) (by simp) (AllReadyH.cons (o := { dst := some 5, op := Op.alloc 24, type := 0, pos := "more.go:97", after := #[], guard := none }) rfl (fun K' hK => ?_) AllReadyH.nil)
      go_simp
      refine hK.out _ _ (HS.out _ ((K3).and (Kept.alloc _ _ _))) (fun _ => ?_)
      clear hK K'
      try (simp only [Act.put, List.setIfInBounds_toArray, List.set_cons_zero, List.set_cons_succ])
      refine wpAnyH_ready (rs := [8]) (by kernel_rfl) (by simp) (AllReadyH.cons (o := { dst := none, op := Op.store 24 (Operand.tmp 5) (Operand.tmp 32), type := 0, pos := "more.go:97", after := #[{ on := 7, ground := Ground.data }, { on := 6, ground := Ground.data }, { on := 5, ground := Ground.chain }, { on := 0, ground := Ground.phase }, { on := 1, ground := Ground.phase }, { on := 2, ground := Ground.phase }, { on := 3, ground := Ground.phase }, { on := 4, ground := Ground.phase }, { on := 5, ground := Ground.phase }, { on := 6, ground := Ground.phase }, { on := 7, ground := Ground.phase }], guard := none }) rfl (fun K' hK => ?_) AllReadyH.nil)
      go_simp
      refine hK.out _ _ (HS.out _ ((K3).and (Kept.alloc _ _ _))) (fun _ => ?_)
      clear hK K'
      try (simp only [Act.put, List.setIfInBounds_toArray, List.set_cons_zero, List.set_cons_succ])
      refine wpAnyH_done (by kernel_rfl) ?_ _
      exact HH.out _ _ _ _ _ _ _ w3.heap.size a3 c3 _ ⟨heap_alloc_new _ _, by have : W.drew.heap.size = W.heap.size := rfl; omega, HO3.out.alloc _, fun g e => by have := ownsRow_blk HO3.out e; omega, (HKD.out.and K3).and (Kept.alloc _ _ _)⟩
    · go_simp
      refine hK.out _ _ (HS.out _ ((((Kept.refl (fun _ => False) W.drew).and (Kept.alloc _ _ _))).and (Kept.alloc _ _ _))) (fun _ => ?_)
      clear hK K'
      try (simp only [Act.put, List.setIfInBounds_toArray, List.set_cons_zero, List.set_cons_succ])
      refine wpAnyH_ready (rs := [5]) (by kernel_rfl) (by simp) (AllReadyH.cons (o := { dst := some 31, op := Op.call { callee := Callee.builtin Builtin.append, args := #[Operand.tmp 28, Operand.tmp 30], argTypes := #[22, 22] }, type := 22, pos := "more.go:97", after := #[{ on := 2, ground := Ground.data }, { on := 4, ground := Ground.data }], guard := none }) rfl (fun K' hK => ?_) AllReadyH.nil)
      refine step_append_sr (((((W.drew).alloc (.cells #[] 33))).alloc (.cells #[.string ⟨#[]⟩, .slice none 0 0] 24))) (by rfl) _ _ 22 (by rfl) W.drew.heap.size 33 j0 _ 7 96 Tryd.underlying22 hj0 hy0 hy1 hy2 rfl (by decide) (.slice (some ⟨W.heap.size, 0, none⟩) 0 0) 0 [] (by rfl) (HR1.out.alloc (.cells #[.string ⟨#[]⟩, .slice none 0 0] 24)) (.slice a n c) (by rfl) n xs (HC.out _ ((((Kept.refl (fun _ => False) W.drew).and (Kept.alloc _ _ _))).and (Kept.alloc _ _ _))) HO.out (by unfold maxLen; omega) (by omega) (by simp; try omega) ?_
      intro a3 c3 w3 ho3 hg3 _ hl3
      have KG : Kept (fun j => j = W.heap.size) (((((W.drew).alloc (.cells #[] 33))).alloc (.cells #[.string ⟨#[]⟩, .slice none 0 0] 24))) w3 := Kept.grown hg3 (fun j e => by cases e; rfl)
      have K3 : Kept (fun _ => False) W.drew w3 := (((((Kept.refl (fun _ => False) W.drew).and (Kept.alloc _ _ _))).and (Kept.alloc _ _ _))).trans KG (fun j h => .inr (by have : W.drew.heap.size = W.heap.size := rfl; omega))
      simp only [Nat.zero_add, List.nil_append] at ho3 hl3
      have HO3 : Hid (w3.ownsRow W.drew.heap.size 33 7 (.slice a3 n c3) n xs) := ho3
      clear ho3
      have hbx : w3.heap[W.heap.size + 1]? = some (.cells #[.string ⟨#[]⟩, .slice none 0 0] 24 (0, 0)) := by
        rw [KG.block (W.heap.size + 1) (by simp; try omega) (by omega)]
        have h := heap_alloc_new (((W.drew).alloc (.cells #[] 33))) (.cells #[.string ⟨#[]⟩, .slice none 0 0] 24)
        rw [World.size_alloc] at h
        exact h
      have HG3 : Hid _ := hl3
      have hz3 := KG.size
      simp only [World.size_alloc] at hz3
      clear hl3
      refine hK.out _ _ (HS.out _ K3) (fun _ => ?_)
      clear hK K'
      try (simp only [Act.put, List.setIfInBounds_toArray, List.set_cons_zero, List.set_cons_succ])
      refine wpAnyH_take (i := 6) (oi := { dst := some 32, op := Op.build 24 #[(0, Operand.tmp 27), (1, Operand.tmp 31)], type := 24, pos := "more.go:97", after := #[{ on := 1, ground := Ground.data }, { on := 5, ground := Ground.data }], guard := none }) (v := ?vv6) rfl (by kernel_rfl) (by kernel_rfl) (by kernel_rfl) (fun _ _ _ h => h) (Or.inl ⟨by rfl, ?hy6⟩) (HS.out _ K3) ?rest6
      case hy6 =>
        intro V hV
        obtain ⟨y0, y1⟩ := hV
        go_simp
        all_goals rfl
      simp only [Act.put, List.setIfInBounds_toArray, List.set_cons_zero, List.set_cons_succ]
      refine wpAnyH_ready (rs := [8]) (by kernel_rfl) (by simp) (AllReadyH.cons (o := { dst := none, op := Op.store 24 (Operand.tmp 5) (Operand.tmp 32), type := 0, pos := "more.go:97", after := #[{ on := 7, ground := Ground.data }, { on := 6, ground := Ground.data }, { on := 5, ground := Ground.chain }, { on := 0, ground := Ground.phase }, { on := 1, ground := Ground.phase }, { on := 2, ground := Ground.phase }, { on := 3, ground := Ground.phase }, { on := 4, ground := Ground.phase }, { on := 5, ground := Ground.phase }, { on := 6, ground := Ground.phase }, { on := 7, ground := Ground.phase }], guard := none }) rfl (fun K' hK => ?_) AllReadyH.nil)
      obtain ⟨⟨p0, p1⟩, f0, f1⟩ := twoC hbx
      have K4 : Kept (fun j => j = W.heap.size + 1) w3 ((w3.setCell ⟨W.heap.size + 1, 0, none⟩ (.string nm)).setCell ⟨W.heap.size + 1, 1, none⟩ (.slice a3 n c3)) := (Kept.setCell (S := fun j => j = W.heap.size + 1) w3 ⟨W.heap.size + 1, 0, none⟩ _ rfl).and (Kept.setCell (S := fun j => j = W.heap.size + 1) _ ⟨W.heap.size + 1, 1, none⟩ _ rfl)
      have K5 : Kept (fun _ => False) W.drew ((w3.setCell ⟨W.heap.size + 1, 0, none⟩ (.string nm)).setCell ⟨W.heap.size + 1, 1, none⟩ (.slice a3 n c3)) := K3.trans K4 (fun j h => .inr (by have : W.drew.heap.size = W.heap.size := rfl; omega))
      have hb4 := put2 hbx (.string nm) (.slice a3 n c3)
      have HB4 : Hid _ := hb4
      have HK4 : Hid _ := K4
      have HK5 : Hid _ := K5
      clear hb4 hbx K4 K5
      go_simp
      refine hK.out _ _ (HS.out _ HK5.out) (fun _ => ?_)
      clear hK K'
      try (simp only [Act.put, List.setIfInBounds_toArray, List.set_cons_zero, List.set_cons_succ])
      refine wpAnyH_done (by kernel_rfl) ?_ _
      refine HH.out _ _ _ _ _ _ _ (W.heap.size + 1) a3 c3 _ ⟨HB4.out, by omega, ownsRow_keep HO3.out (fun g hg => HK4.out.block g (ownsRow_blk HO3.out hg) ?_), fun g hg => ?_, HKD.out.and HK5.out⟩
      all_goals (
        rcases HG3.out with h | h
        · rw [h] at hg; cases hg; dsimp only; omega
        · rw [h] at hg; simp only [World.size_alloc] at hg; cases hg; have : W.drew.heap.size = W.heap.size := rfl; omega)
  · go_simp
    refine hK.out _ _ (HS.out _ ((Kept.refl (fun _ => False) W.drew).and (Kept.alloc _ _ _))) (fun _ => ?_)
    clear hK K'
    try (simp only [Act.put, List.setIfInBounds_toArray, List.set_cons_zero, List.set_cons_succ])
    refine wpAnyH_ready (rs := [2]) (by kernel_rfl) (by simp) (AllReadyH.cons (o := { dst := some 28, op := Op.buildSlice 22 0 #[], type := 22, pos := "more.go:97", after := #[], guard := none }) rfl (fun K' hK => ?_) AllReadyH.nil)
    have R1 := ownsRow_empty (((W.drew).alloc (.cells #[.string ⟨#[]⟩, .slice none 0 0] 24))) W.drew.heap.size 33 7 (by simp)
    rw [World.size_alloc] at R1
    have HR1 : Hid ((((((W.drew).alloc (.cells #[.string ⟨#[]⟩, .slice none 0 0] 24))).alloc (.cells #[] 33))).ownsRow W.drew.heap.size 33 7 (.slice (some ⟨W.heap.size + 1, 0, none⟩) 0 0) 0 []) := R1
    clear R1
    go_simp
    refine hK.out _ _ (HS.out _ ((((Kept.refl (fun _ => False) W.drew).and (Kept.alloc _ _ _))).and (Kept.alloc _ _ _))) (fun _ => ?_)
    clear hK K'
    try (simp only [Act.put, List.setIfInBounds_toArray, List.set_cons_zero, List.set_cons_succ])
    refine wpAnyH_ready (rs := [5]) (by kernel_rfl) (by simp) (AllReadyH.cons (o := { dst := some 31, op := Op.call { callee := Callee.builtin Builtin.append, args := #[Operand.tmp 28, Operand.tmp 30], argTypes := #[22, 22] }, type := 22, pos := "more.go:97", after := #[{ on := 2, ground := Ground.data }, { on := 4, ground := Ground.data }], guard := none }) rfl (fun K' hK => ?_) AllReadyH.nil)
    refine step_append_sr (((((W.drew).alloc (.cells #[.string ⟨#[]⟩, .slice none 0 0] 24))).alloc (.cells #[] 33))) (by rfl) _ _ 22 (by rfl) W.drew.heap.size 33 j0 _ 7 96 Tryd.underlying22 hj0 hy0 hy1 hy2 rfl (by decide) (.slice (some ⟨W.heap.size + 1, 0, none⟩) 0 0) 0 [] (by rfl) HR1.out (.slice a n c) (by rfl) n xs (HC.out _ ((((Kept.refl (fun _ => False) W.drew).and (Kept.alloc _ _ _))).and (Kept.alloc _ _ _))) HO.out (by unfold maxLen; omega) (by omega) (by simp; try omega) ?_
    intro a3 c3 w3 ho3 hg3 _ hl3
    have KG : Kept (fun j => j = W.heap.size + 1) (((((W.drew).alloc (.cells #[.string ⟨#[]⟩, .slice none 0 0] 24))).alloc (.cells #[] 33))) w3 := Kept.grown hg3 (fun j e => by cases e; rfl)
    have K3 : Kept (fun _ => False) W.drew w3 := (((((Kept.refl (fun _ => False) W.drew).and (Kept.alloc _ _ _))).and (Kept.alloc _ _ _))).trans KG (fun j h => .inr (by have : W.drew.heap.size = W.heap.size := rfl; omega))
    simp only [Nat.zero_add, List.nil_append] at ho3 hl3
    have HO3 : Hid (w3.ownsRow W.drew.heap.size 33 7 (.slice a3 n c3) n xs) := ho3
    clear ho3
    have hbx : w3.heap[W.heap.size]? = some (.cells #[.string ⟨#[]⟩, .slice none 0 0] 24 (0, 0)) := by
      rw [KG.block (W.heap.size) (by simp; try omega) (by omega)]
      rw [Below.heap_alloc _ _ _ (by simp)]
      exact heap_alloc_new _ _
    have HG3 : Hid _ := hl3
    have hz3 := KG.size
    simp only [World.size_alloc] at hz3
    clear hl3
    refine hK.out _ _ (HS.out _ K3) (fun _ => ?_)
    clear hK K'
    try (simp only [Act.put, List.setIfInBounds_toArray, List.set_cons_zero, List.set_cons_succ])
    refine wpAnyH_take (i := 6) (oi := { dst := some 32, op := Op.build 24 #[(0, Operand.tmp 27), (1, Operand.tmp 31)], type := 24, pos := "more.go:97", after := #[{ on := 1, ground := Ground.data }, { on := 5, ground := Ground.data }], guard := none }) (v := ?vv7) rfl (by kernel_rfl) (by kernel_rfl) (by kernel_rfl) (fun _ _ _ h => h) (Or.inl ⟨by rfl, ?hy7⟩) (HS.out _ K3) ?rest7
    case hy7 =>
      intro V hV
      obtain ⟨y0, y1⟩ := hV
      go_simp
      all_goals rfl
    simp only [Act.put, List.setIfInBounds_toArray, List.set_cons_zero, List.set_cons_succ]
    refine wpAnyH_ready (rs := [8]) (by kernel_rfl) (by simp) (AllReadyH.cons (o := { dst := none, op := Op.store 24 (Operand.tmp 5) (Operand.tmp 32), type := 0, pos := "more.go:97", after := #[{ on := 7, ground := Ground.data }, { on := 6, ground := Ground.data }, { on := 5, ground := Ground.chain }, { on := 0, ground := Ground.phase }, { on := 1, ground := Ground.phase }, { on := 2, ground := Ground.phase }, { on := 3, ground := Ground.phase }, { on := 4, ground := Ground.phase }, { on := 5, ground := Ground.phase }, { on := 6, ground := Ground.phase }, { on := 7, ground := Ground.phase }], guard := none }) rfl (fun K' hK => ?_) AllReadyH.nil)
    obtain ⟨⟨p0, p1⟩, f0, f1⟩ := twoC hbx
    have K4 : Kept (fun j => j = W.heap.size) w3 ((w3.setCell ⟨W.heap.size, 0, none⟩ (.string nm)).setCell ⟨W.heap.size, 1, none⟩ (.slice a3 n c3)) := (Kept.setCell (S := fun j => j = W.heap.size) w3 ⟨W.heap.size, 0, none⟩ _ rfl).and (Kept.setCell (S := fun j => j = W.heap.size) _ ⟨W.heap.size, 1, none⟩ _ rfl)
    have K5 : Kept (fun _ => False) W.drew ((w3.setCell ⟨W.heap.size, 0, none⟩ (.string nm)).setCell ⟨W.heap.size, 1, none⟩ (.slice a3 n c3)) := K3.trans K4 (fun j h => .inr (by have : W.drew.heap.size = W.heap.size := rfl; omega))
    have hb4 := put2 hbx (.string nm) (.slice a3 n c3)
    have HB4 : Hid _ := hb4
    have HK4 : Hid _ := K4
    have HK5 : Hid _ := K5
    clear hb4 hbx K4 K5
    go_simp
    refine hK.out _ _ (HS.out _ HK5.out) (fun _ => ?_)
    clear hK K'
    try (simp only [Act.put, List.setIfInBounds_toArray, List.set_cons_zero, List.set_cons_succ])
    refine wpAnyH_done (by kernel_rfl) ?_ _
    refine HH.out _ _ _ _ _ _ _ (W.heap.size) a3 c3 _ ⟨HB4.out, by omega, ownsRow_keep HO3.out (fun g hg => HK4.out.block g (ownsRow_blk HO3.out hg) ?_), fun g hg => ?_, HKD.out.and HK5.out⟩
    all_goals (
      rcases HG3.out with h | h
      · rw [h] at hg; cases hg; dsimp only; omega
      · rw [h] at hg; simp only [World.size_alloc] at hg; cases hg; have : W.drew.heap.size = W.heap.size := rfl; omega)

end Go.Proofs.YtalhdgelkomaiabDoor
