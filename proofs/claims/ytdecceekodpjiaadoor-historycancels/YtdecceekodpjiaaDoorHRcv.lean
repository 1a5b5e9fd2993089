/-
  receive: its region that draws its order.
-/
import Derived.Test.YtdecceekodpjiaaDoorHStep
namespace Go.Proofs.YtdecceekodpjiaaDoor
open Go.RowKit

theorem FlatAt.tail {w : World} {sz n k b o c : Nat} {l : List Value} (F : FlatAt w sz (.slice (some ⟨b, o, none⟩) n c) n l) (hk : k ≤ n) : FlatAt w sz (.slice (some ⟨b, o + k * sz, none⟩) (n - k) (c - k)) (n - k) (l.drop (k * sz)) := by
  obtain ⟨h0, a', c', e, h1, h2, h3⟩ := F
  obtain ⟨rfl, rfl⟩ : some (⟨b, o, none⟩ : Addr) = a' ∧ c = c' := by simpa using e
  refine ⟨by rw [List.length_drop, h0, Nat.sub_mul], _, _, rfl, by omega, by omega, ?_⟩
  rcases h3 with h | ⟨b', o', e', hc⟩
  · exact .inl (by omega)
  · obtain ⟨rfl, rfl⟩ : b = b' ∧ o = o' := by simpa using e'
    refine .inr ⟨b, o + k * sz, rfl, fun j u hu => ?_⟩
    rw [List.getElem?_drop] at hu
    rw [Nat.add_assoc]
    exact hc _ u hu

theorem FlatAt.zero {w : World} {sz n k b o c : Nat} {l : List Value} (F : FlatAt w sz (.slice (some ⟨b, o, none⟩) n c) n l) (hk : n = k) : FlatAt w sz (.slice (some ⟨b, o, none⟩) (n - k) (c - k)) (n - k) (l.drop (k * sz)) := by
  obtain ⟨h0, a', c', e, h1, h2, h3⟩ := F
  obtain ⟨rfl, rfl⟩ : some (⟨b, o, none⟩ : Addr) = a' ∧ c = c' := by simpa using e
  exact ⟨by rw [List.length_drop, h0, Nat.sub_mul], _, _, rfl, by omega, by omega, .inl (by omega)⟩

set_option maxRecDepth 100000 in
set_option maxHeartbeats 8000000 in
theorem rc6 {W : World} {sb so g n c7 k : Nat} {xs : List Value} {ds : List Deferred} {u1 u2 u3 u4 u5 u6 u7 u8 u10 u11 u12 u13 u14 u15 u16 u17 u18 u19 u20 u21 u22 u23 u24 u25 u26 u27 u28 u29 u30 u31 u32 u33 u34 u35 u36 u37 u38 u39 u40 u41 u42 : Value} (K : Act → World → Prop)
    (x0 : W.cell? ⟨sb, so + 7, none⟩ = some (.slice (some ⟨g, 0, none⟩) n c7)) (xz : W.frozen? ⟨sb, so + 7, none⟩ = false) (hk : k < n) (hn : n ≤ 1000000) (hR : W.ownsRow 0 78 2 (.slice (some ⟨g, 0, none⟩) n c7) n xs) (h1 : ∀ u ∈ xs, u.oneCell' = true)
    (h : ∀ (v25 v26 v27 v28 v29 v30 v31 v32 v33 v34 v35 v36 v37 v38 v39 v40 v41 v42 : Value) (a4 : Option Addr) (c4 : Nat) (w4 : World), w4.ownsRow W.heap.size 78 2 (.slice a4 (n - 1) c4) (n - 1) (xs.take (k * 2) ++ xs.drop ((k + 1) * 2)) → Kept (fun _ => False) W w4 → K { tmps := #[.pointer (some ⟨sb, so, none⟩), u1, u2, u3, u4, u5, u6, u7, u8, .int .i64 (k : Nat), u10, u11, u12, u13, u14, u15, u16, u17, u18, u19, u20, u21, u22, u23, u24, v25, v26, v27, v28, v29, v30, v31, v32, v33, v34, v35, v36, v37, v38, v39, v40, v41, v42], defers := ds } (w4.setCell ⟨sb, so + 7, none⟩ (.slice a4 (n - 1) c4))) :
    (Code.region 6 #[{ dst := some 25, op := Op.move (Operand.tmp 0), type := 98, pos := "apply.go:122", after := #[], guard := none }, { dst := some 26, op := Op.move (Operand.tmp 0), type := 98, pos := "apply.go:122", after := #[], guard := none }, { dst := some 27, op := Op.nilCheck (Operand.tmp 26), type := 0, pos := "apply.go:122", after := #[{ on := 1, ground := Ground.data }], guard := none }, { dst := some 28, op := Op.fieldAddr 39 (Operand.tmp 27) 7, type := 0, pos := "apply.go:122", after := #[{ on := 2, ground := Ground.data }], guard := none }, { dst := some 29, op := Op.load 37 (Operand.tmp 28), type := 37, pos := "apply.go:122", after := #[{ on := 3, ground := Ground.data }], guard := none }, { dst := some 30, op := Op.move (Operand.tmp 9), type := 3, pos := "apply.go:122", after := #[], guard := none }, { dst := some 31, op := Op.slice 37 (Operand.tmp 29) none (some (Operand.tmp 30)) none, type := 37, pos := "apply.go:122", after := #[{ on := 4, ground := Ground.data }, { on := 5, ground := Ground.data }], guard := none }, { dst := some 32, op := Op.call { callee := Callee.value (Operand.func 21), args := #[Operand.tmp 31], argTypes := #[37] }, type := 37, pos := "apply.go:122", after := #[{ on := 6, ground := Ground.data }], guard := none }, { dst := some 33, op := Op.move (Operand.tmp 0), type := 98, pos := "apply.go:122", after := #[], guard := none }, { dst := some 34, op := Op.nilCheck (Operand.tmp 33), type := 0, pos := "apply.go:122", after := #[{ on := 8, ground := Ground.data }], guard := none }, { dst := some 35, op := Op.fieldAddr 39 (Operand.tmp 34) 7, type := 0, pos := "apply.go:122", after := #[{ on := 9, ground := Ground.data }], guard := none }, { dst := some 36, op := Op.load 37 (Operand.tmp 35), type := 37, pos := "apply.go:122", after := #[{ on := 10, ground := Ground.data }], guard := none }, { dst := some 37, op := Op.move (Operand.tmp 9), type := 3, pos := "apply.go:122", after := #[], guard := none }, { dst := some 38, op := Op.binOp BinOp.add 3 (Operand.tmp 37) (Operand.const (Value.int IntKind.i64 1)) 3, type := 3, pos := "apply.go:122", after := #[{ on := 12, ground := Ground.data }], guard := none }, { dst := some 39, op := Op.slice 37 (Operand.tmp 36) (some (Operand.tmp 38)) none none, type := 37, pos := "apply.go:122", after := #[{ on := 11, ground := Ground.data }, { on := 13, ground := Ground.data }], guard := none }, { dst := some 40, op := Op.call { callee := Callee.builtin Builtin.append, args := #[Operand.tmp 32, Operand.tmp 39], argTypes := #[37, 37] }, type := 37, pos := "apply.go:122", after := #[{ on := 7, ground := Ground.data }, { on := 14, ground := Ground.data }, { on := 7, ground := Ground.chain }], guard := none }, { dst := some 41, op := Op.nilCheck (Operand.tmp 25), type := 0, pos := "apply.go:122", after := #[{ on := 0, ground := Ground.data }, { on := 0, ground := Ground.phase }, { on := 1, ground := Ground.phase }, { on := 2, ground := Ground.phase }, { on := 3, ground := Ground.phase }, { on := 4, ground := Ground.phase }, { on := 5, ground := Ground.phase }, { on := 6, ground := Ground.phase }, { on := 7, ground := Ground.phase }, { on := 8, ground := Ground.phase }, { on := 9, ground := Ground.phase }, { on := 10, ground := Ground.phase }, { on := 11, ground := Ground.phase }, { on := 12, ground := Ground.phase }, { on := 13, ground := Ground.phase }, { on := 14, ground := Ground.phase }, { on := 15, ground := Ground.phase }], guard := none }, { dst := some 42, op := Op.fieldAddr 39 (Operand.tmp 41) 7, type := 0, pos := "apply.go:122", after := #[{ on := 16, ground := Ground.data }, { on := 0, ground := Ground.phase }, { on := 1, ground := Ground.phase }, { on := 2, ground := Ground.phase }, { on := 3, ground := Ground.phase }, { on := 4, ground := Ground.phase }, { on := 5, ground := Ground.phase }, { on := 6, ground := Ground.phase }, { on := 7, ground := Ground.phase }, { on := 8, ground := Ground.phase }, { on := 9, ground := Ground.phase }, { on := 10, ground := Ground.phase }, { on := 11, ground := Ground.phase }, { on := 12, ground := Ground.phase }, { on := 13, ground := Ground.phase }, { on := 14, ground := Ground.phase }, { on := 15, ground := Ground.phase }], guard := none }, { dst := none, op := Op.store 37 (Operand.tmp 42) (Operand.tmp 40), type := 0, pos := "apply.go:122", after := #[{ on := 17, ground := Ground.data }, { on := 15, ground := Ground.data }, { on := 15, ground := Ground.chain }, { on := 0, ground := Ground.phase }, { on := 1, ground := Ground.phase }, { on := 2, ground := Ground.phase }, { on := 3, ground := Ground.phase }, { on := 4, ground := Ground.phase }, { on := 5, ground := Ground.phase }, { on := 6, ground := Ground.phase }, { on := 7, ground := Ground.phase }, { on := 8, ground := Ground.phase }, { on := 9, ground := Ground.phase }, { on := 10, ground := Ground.phase }, { on := 11, ground := Ground.phase }, { on := 12, ground := Ground.phase }, { on := 13, ground := Ground.phase }, { on := 14, ground := Ground.phase }, { on := 15, ground := Ground.phase }], guard := none }] true).wp Tryd.prog (onlyN K) { tmps := #[.pointer (some ⟨sb, so, none⟩), u1, u2, u3, u4, u5, u6, u7, u8, .int .i64 (k : Nat), u10, u11, u12, u13, u14, u15, u16, u17, u18, u19, u20, u21, u22, u23, u24, u25, u26, u27, u28, u29, u30, u31, u32, u33, u34, u35, u36, u37, u38, u39, u40, u41, u42], defers := ds } W := by
  obtain ⟨j0, hj0, hy0, hy1, hy2⟩ := info_parts Tryd.info78
  have HH : Hid _ := h
  have HF : Hid (FlatAt W 2 (.slice (some ⟨g, 0, none⟩) n c7) n xs) := flat_of_owns hR
  have hcap : n ≤ c7 := by
    obtain ⟨_, a', c', he, hc, _, _⟩ := HF.out
    obtain ⟨_, rfl⟩ : some (⟨g, 0, none⟩ : Addr) = a' ∧ c7 = c' := by simpa using he
    exact hc
  have H1 : Hid (∀ u ∈ xs, u.oneCell' = true) := h1
  have H1a : Hid (∀ u ∈ xs.take (k * 2), u.oneCell' = true) := fun u hu => h1 u (List.mem_of_mem_take hu)
  have H1b : Hid (∀ u ∈ xs.drop ((k + 1) * 2), u.oneCell' = true) := fun u hu => h1 u (List.mem_of_mem_drop hu)
  have hk1 : k ≤ c7 := by omega
  have hk2 : k + 1 ≤ c7 := by omega
  have hk3 : k + 1 ≤ n := by omega
  clear h1
  have KD := Kept.drew (fun _ => False) W
  have HC : Hid (∀ V, Kept (fun _ => False) W.drew V → V.cell? ⟨sb, so + 7, none⟩ = some (.slice (some ⟨g, 0, none⟩) n c7) ∧ V.frozen? ⟨sb, so + 7, none⟩ = false) := fun V KV => by
    have hb := (KD.and KV).block sb (World.block_lt_of_cell? W _ x0) (fun h => h)
    exact ⟨(World.cell?_of_block (w := W) hb).trans x0, by rw [← xz]; unfold World.frozen?; rw [hb]⟩
  have HKD : Hid (Kept (fun _ => False) W W.drew) := KD
  have r0 : W.drew.cell? ⟨sb, so + 7, none⟩ = some (.slice (some ⟨g, 0, none⟩) n c7) := x0
  have e1 : (k : Int) < (n : Int) := by omega
  have e2 : (k : Int) + 1 ≤ (n : Int) := by omega
  have w1 : IntKind.i64.wrap (k : Int) = (k : Int) := by rw [IntKind.wrap_i64]; omega
  have w2 : IntKind.i64.wrap ((k : Int) + 1) = (k : Int) + 1 := by rw [IntKind.wrap_i64]; omega
  clear h KD x0 xz
  have e3 : (0 : Int) ≤ (k : Int) + 1 := by omega
  have hnk : k + (n - (k + 1)) = n - 1 := by omega
  by_cases hcc : c7 = k + 1
  · obtain rfl : n = k + 1 := by omega
    subst hcc
    have HTl : Hid (∀ V, Kept (fun _ => False) W V → Src V 2 (.slice (some ⟨g, 0, none⟩) 0 0) 0 (xs.drop ((k + 1) * 2))) := fun V KV => by
      have h := (HF.out.new KV).zero (k := k + 1) rfl
      rw [Nat.sub_self] at h
      exact h.src
    have e4 : (k : Int) ≤ (k : Int) + 1 := by omega
    simp only [Nat.sub_self, Nat.add_zero, Nat.add_sub_cancel] at *
    go_region_law
      (first
        | (refine step_call1 _ rfl 21 _ _ rfl (enters_of Tryd.func21 (by kernel_rfl) rfl) _ (by rfl) (copySg_any _ _ k _ ((HF.out.new HKD.out).take (Nat.le_of_lt hk)) H1a.out (by omega)) ?_; rintro e w5 ⟨a5, c5, rfl, o5, K5⟩; refine ⟨_, rfl, ?_⟩; obtain ⟨z0, z1⟩ := HC.out w5 K5; have HO5 : Hid (w5.ownsRow W.drew.heap.size 78 2 (.slice a5 k c5) k (xs.take (k * 2))) := o5; clear o5)
        | (refine step_append_sr _ (by rfl) _ _ 37 (by rfl) W.drew.heap.size 78 j0 _ 2 32 Tryd.underlying37 hj0 hy0 hy1 hy2 rfl (by decide) (.slice a5 k c5) k _ (by rfl) HO5.out _ (by rfl) 0 (xs.drop ((k + 1) * 2)) (HTl.out w5 (HKD.out.and K5)) H1b.out (by unfold maxLen; omega) (by omega) K5.size ?_; intro a4 c4 w4 ho4 hg4 _ hl4; have K4 : Kept (fun _ => False) W.drew w4 := K5.trans (Kept.grown (S := fun j => W.drew.heap.size ≤ j) hg4 (fun j e => (HO5.out.lt j e).1)) (fun _ h => .inr h); obtain ⟨y0, y1⟩ := HC.out w4 K4; skip)
        | fail)
    all_goals exact HH.out _ _ _ _ _ _ _ _ _ _ _ _ _ _ _ _ _ _ a4 c4 w4 ho4 (HKD.out.and K4)
  · have HTl : Hid (∀ V, Kept (fun _ => False) W V → Src V 2 (.slice (some ⟨g, (k + 1) * 2, none⟩) (n - (k + 1)) (c7 - (k + 1))) (n - (k + 1)) (xs.drop ((k + 1) * 2))) := fun V KV => by
      have h := (HF.out.new KV).tail (k := k + 1) hk3
      rw [Nat.zero_add] at h
      exact h.src
    go_region_law
      (first
        | (refine step_call1 _ rfl 21 _ _ rfl (enters_of Tryd.func21 (by kernel_rfl) rfl) _ (by rfl) (copySg_any _ _ k _ ((HF.out.new HKD.out).take (Nat.le_of_lt hk)) H1a.out (by omega)) ?_; rintro e w5 ⟨a5, c5, rfl, o5, K5⟩; refine ⟨_, rfl, ?_⟩; obtain ⟨z0, z1⟩ := HC.out w5 K5; have HO5 : Hid (w5.ownsRow W.drew.heap.size 78 2 (.slice a5 k c5) k (xs.take (k * 2))) := o5; clear o5)
        | (refine step_append_sr _ (by rfl) _ _ 37 (by rfl) W.drew.heap.size 78 j0 _ 2 32 Tryd.underlying37 hj0 hy0 hy1 hy2 rfl (by decide) (.slice a5 k c5) k _ (by rfl) HO5.out _ (by rfl) (n - (k + 1)) (xs.drop ((k + 1) * 2)) (HTl.out w5 (HKD.out.and K5)) H1b.out (by unfold maxLen; omega) (by omega) K5.size ?_; intro a4 c4 w4 ho4 hg4 _ hl4; have K4 : Kept (fun _ => False) W.drew w4 := K5.trans (Kept.grown (S := fun j => W.drew.heap.size ≤ j) hg4 (fun j e => (HO5.out.lt j e).1)) (fun _ h => .inr h); obtain ⟨y0, y1⟩ := HC.out w4 K4; rw [hnk] at ho4)
        | fail)
    all_goals exact HH.out _ _ _ _ _ _ _ _ _ _ _ _ _ _ _ _ _ _ a4 c4 w4 ho4 (HKD.out.and K4)

end Go.Proofs.YtdecceekodpjiaaDoor
