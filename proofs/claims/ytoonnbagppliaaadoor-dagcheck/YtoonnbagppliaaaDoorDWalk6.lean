/-
  Walk: a node is copied and put behind the others, as a region that draws its order.
-/
import Derived.Test.YtoonnbagppliaaaDoorDLin8
namespace Go.Proofs.YtoonnbagppliaaaDoor
open Go.RowKit

set_option maxRecDepth 100000 in
set_option maxHeartbeats 1500000 in
theorem walk6 {W : World} {qb nb base n c cv : Nat} {a av : Option Addr} {xs : List Value} {nd : Nd} {R : World → Option Addr → Nat → Prop} {ds : List Deferred} {u0 u1 u2 u3 u4 u6 u8 u9 u10 u11 u12 u13 u14 u15 u16 u17 u18 u19 u20 u21 u22 u23 u24 u25 u26 : Value} (K : Act → World → Prop) (x1 : W.drew.cell? ⟨qb, 0, none⟩ = some (.slice a n c)) (y0 : W.drew.cell? ⟨nb, 0, none⟩ = some (.string nd.name)) (y1 : W.drew.cell? ⟨nb, 1, none⟩ = some (.int .i64 nd.kind)) (y2 : W.drew.cell? ⟨nb, 2, none⟩ = some (.string nd.arg)) (y3 : W.drew.cell? ⟨nb, 3, none⟩ = some (.string nd.to)) (y4 : W.drew.cell? ⟨nb, 4, none⟩ = some (.int .i64 nd.delay)) (y5 : W.drew.cell? ⟨nb, 5, none⟩ = some (.int .i64 nd.tries)) (y6 : W.drew.cell? ⟨nb, 6, none⟩ = some (.slice av nd.after.length cv))
    (hC : Calls Tryd.prog 39 #[.agg #[.string nd.name, .int .i64 nd.kind, .string nd.arg, .string nd.to, .int .i64 nd.delay, .int .i64 nd.tries, .slice av nd.after.length cv]] W.drew fun e w' => ∃ aa ca, e = .returned (.agg #[.string nd.name, .int .i64 nd.kind, .string nd.arg, .string nd.to, .int .i64 nd.delay, .int .i64 nd.tries, .slice aa nd.after.length ca]) ∧ R w' aa ca)
    (hR : ∀ w5 aa ca, R w5 aa ca → w5.cell? ⟨qb, 0, none⟩ = some (.slice a n c) ∧ (w5.alloc (.cells #[.string nd.name, .int .i64 nd.kind, .string nd.arg, .string nd.to, .int .i64 nd.delay, .int .i64 nd.tries, .slice aa nd.after.length ca] 34)).cell? ⟨qb, 0, none⟩ = some (.slice a n c) ∧ (w5.alloc (.cells #[.string nd.name, .int .i64 nd.kind, .string nd.arg, .string nd.to, .int .i64 nd.delay, .int .i64 nd.tries, .slice aa nd.after.length ca] 34)).ownsRow base 34 7 (.slice a n c) n xs ∧ base ≤ w5.heap.size + 1)
    (hG : ∀ w5 w6 aa ca, R w5 aa ca → (w5.alloc (.cells #[.string nd.name, .int .i64 nd.kind, .string nd.arg, .string nd.to, .int .i64 nd.delay, .int .i64 nd.tries, .slice aa nd.after.length ca] 34)).grownBy w6 (Value.slice a n c).ownBlock → w6.cell? ⟨qb, 0, none⟩ = some (.slice a n c) ∧ w6.frozen? ⟨qb, 0, none⟩ = false)
    (hn : n ≤ 1000000)
    (h : ∀ (v20 v21 v22 v23 v24 : Value) (w5 w6 : World) (aa a6 : Option Addr) (ca c6 : Nat), R w5 aa ca → w6.ownsRow base 34 7 (.slice a6 (n + 1) c6) (n + 1) (xs ++ ndC nd (.slice aa nd.after.length ca)) → (w5.alloc (.cells #[.string nd.name, .int .i64 nd.kind, .string nd.arg, .string nd.to, .int .i64 nd.delay, .int .i64 nd.tries, .slice aa nd.after.length ca] 34)).grownBy w6 (Value.slice a n c).ownBlock → K { tmps := #[u0, u1, u2, u3, u4, .pointer (some ⟨qb, 0, none⟩), u6, .pointer (some ⟨nb, 0, none⟩), u8, u9, u10, u11, u12, u13, u14, u15, u16, u17, u18, u19, v20, v21, v22, v23, v24, u25, u26], defers := ds } (w6.setCell ⟨qb, 0, none⟩ (.slice a6 (n + 1) c6))) :
    (Code.region 6 #[{ dst := some 20, op := Op.load 23 (Operand.tmp 5), type := 23, pos := "order.go:118", after := #[], guard := none }, { dst := some 21, op := Op.load 34 (Operand.tmp 7), type := 34, pos := "order.go:118", after := #[], guard := none }, { dst := some 22, op := Op.call { callee := Callee.value (Operand.func 39), args := #[Operand.tmp 21], argTypes := #[34] }, type := 34, pos := "order.go:118", after := #[{ on := 1, ground := Ground.data }], guard := none }, { dst := some 23, op := Op.buildSlice 23 1 #[(0, Operand.tmp 22)], type := 23, pos := "order.go:118", after := #[{ on := 2, ground := Ground.data }], guard := none }, { dst := some 24, op := Op.call { callee := Callee.builtin Builtin.append, args := #[Operand.tmp 20, Operand.tmp 23], argTypes := #[23, 23] }, type := 23, pos := "order.go:118", after := #[{ on := 0, ground := Ground.data }, { on := 3, ground := Ground.data }, { on := 2, ground := Ground.chain }], guard := none }, { dst := none, op := Op.store 23 (Operand.tmp 5) (Operand.tmp 24), type := 0, pos := "order.go:118", after := #[{ on := 4, ground := Ground.data }, { on := 4, ground := Ground.chain }, { on := 0, ground := Ground.phase }, { on := 1, ground := Ground.phase }, { on := 2, ground := Ground.phase }, { on := 3, ground := Ground.phase }, { on := 4, ground := Ground.phase }], guard := none }] true).wp Tryd.prog (onlyN K) { tmps := #[u0, u1, u2, u3, u4, .pointer (some ⟨qb, 0, none⟩), u6, .pointer (some ⟨nb, 0, none⟩), u8, u9, u10, u11, u12, u13, u14, u15, u16, u17, u18, u19, u20, u21, u22, u23, u24, u25, u26], defers := ds } W := by
  obtain ⟨j0, hj0, hy0, hy1, hy2⟩ := info_parts Tryd.info34
  have HR : Hid _ := hR
  have HG : Hid _ := hG
  have HH : Hid _ := h
  clear hR hG h
  go_region_law
    (first
      | (refine step_append_sr _ (by rfl) _ _ _ (by rfl) base 34 j0 _ 7 96 Tryd.underlying23 hj0 hy0 hy1 hy2 rfl (by decide) (.slice a n c) n _ (by rfl) z2 _ (by rfl) 1 _ (.inl ⟨_, 1, rfl, rfl, World.news_of_block (heap_alloc_new _ _)⟩) (ndC_one nd aa _ ca) (by unfold maxLen; omega) (by omega) (by simp; omega) ?_; intro a6 cap6 w6 ho6 hg6 _ hl6; obtain ⟨v1, u1⟩ := HG.out w5 w6 aa ca R5 hg6)
      | (refine step_call1 _ rfl 39 _ _ rfl (enters_of Tryd.func39 (by kernel_rfl) rfl) _ (by rfl) hC ?_; rintro e w5 ⟨aa, ca, rfl, R5⟩; refine ⟨_, rfl, ?_⟩; obtain ⟨z0, z1, z2, z3⟩ := HR.out w5 aa ca R5))
  all_goals exact HH.out _ _ _ _ _ w5 w6 aa a6 ca cap6 R5 ho6 hg6

end Go.Proofs.YtoonnbagppliaaaDoor
