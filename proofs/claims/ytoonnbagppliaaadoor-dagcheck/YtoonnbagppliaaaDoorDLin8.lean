/-
  readLines: a node is read and put behind the others, as a region that draws its order.
-/
import Derived.Test.YtoonnbagppliaaaDoorDLines2
import Derived.Deep.RegionHeld3
import Derived.Deep.RegionLaw
namespace Go.Proofs.YtoonnbagppliaaaDoor
open Go.RowKit

def onlyN (K : Act → World → Prop) : Exit → Act → World → Prop
  | .normal, a, w => K a w
  | _, _, _ => False

theorem wp_onlyN {P : Program} {c : Code} {Q : Exit → Act → World → Prop} {a : Act} {w : World} (h : c.wp P (onlyN (fun a w => Q .normal a w)) a w) : c.wp P Q a w :=
  Code.wp_mono (fun e a w h => by cases e <;> first | exact h | exact h.elim) h

/-- append(v, x...) onto a row that is owned, as a step of a region that draws. -/
theorem step_append_sr {P : Program} {ops : Array Oper} {o : Oper} {a : Act} (w : World) {K : Act → World → Prop} {Q : Exit → Act → World → Prop} {E : Prop}
    (hg : o.guard = none) (s x : Operand) (t : TypeId) (hop : o.op = Op.call { callee := Callee.builtin Builtin.append, args := #[s, x], argTypes := #[t, t] })
    (base : Nat) (e : TypeId) (i : TypeInfo) (z : Value) (size bytes : Nat) (ht : P.underlying t = some (.slice e)) (hi : P.info? e = some i) (hz : i.zero = some z)
    (hsize : i.size = size) (hby : i.bytes = bytes) (hzs : z.cells.size = size) (hsz : 0 < size)
    (v : Value) (n : Nat) (xs : List Value) (hs : a.eval s = v) (hown : w.ownsRow base e size v n xs) (xv : Value) (hx : a.eval x = xv) (m : Nat) (news : List Value) (hsrc : Src w size xv m news) (h1 : ∀ u ∈ news, u.oneCell' = true)
    (h63 : n + m ≤ maxLen) (hbytes : (n + m) * bytes ≤ 140737488355328) (hbase : base ≤ w.heap.size)
    (hK : ∀ a' cap w', w'.ownsRow base e size (.slice a' (n + m) cap) (n + m) (xs ++ news) → w.grownBy w' v.ownBlock → (Value.slice a' (n + m) cap = .slice none 0 0 ↔ v = .slice none 0 0 ∧ m = 0) → ((Value.slice a' (n + m) cap).ownBlock = v.ownBlock ∨ (Value.slice a' (n + m) cap).ownBlock = some w.heap.size) → K (a.put o.dst (.slice a' (n + m) cap)) w') :
    if Region.wanted o (yielded ops a.tmps) = true then Oper.wp P o a w K Q else E := by
  have hw : Region.wanted o (yielded ops a.tmps) = true := by simp [Region.wanted, hg]
  rw [if_pos hw]
  obtain ⟨v', w', hrun, h2, h3, h4, h5⟩ := run_append_src (P := P) w base t o.type e i z size bytes ht hi hz hsize hby hzs hsz v n xs hown xv m news hsrc h1 h63 hbytes hbase
  obtain ⟨a', cap, rfl⟩ := ownsRow_shape h2
  unfold Oper.wp
  simp [execOp, hop, resolve, invoke, builtin, hs, hx, hrun, Result.andThen]
  exact hK a' cap w' h2 h3 h4 h5

/-- A call of a Go function as a step of a region that draws. -/
theorem step_call1 {P : Program} {ops : Array Oper} {o : Oper} {a : Act} (w : World) {K : Act → World → Prop} {Q : Exit → Act → World → Prop} {E : Prop}
    (hg : o.guard = none) (f : Nat) (x : Operand) (t : TypeId) (hop : o.op = Op.call { callee := .value (.func f), args := #[x], argTypes := #[t] })
    (he : ∀ args w, (callFunc f args).run P w = .ok (.enter f args) w) (v : Value) (hx : a.eval x = v) {R : Ending → World → Prop} (hC : Calls P f #[v] w R)
    (hK : ∀ e w', R e w' → ∃ u, e = .returned u ∧ K (a.put o.dst u) w') :
    if Region.wanted o (yielded ops a.tmps) = true then Oper.wp P o a w K Q else E := by
  have hw : Region.wanted o (yielded ops a.tmps) = true := by simp [Region.wanted, hg]
  rw [if_pos hw]
  unfold Oper.wp
  have hf : a.eval (.func f) = .func (.func f) #[] #[] := rfl
  simp [execOp, hop, resolve, invoke, hf, hx, he, Deferred.ofValue]
  refine hC.mono ?_
  rintro e w' h
  obtain ⟨u, rfl, k⟩ := hK e w' h
  exact k


theorem ndC_one (n : Nd) (a : Option Addr) (m c : Nat) : ∀ u ∈ ndC n (.slice a m c), u.oneCell' = true := by
  intro u hu
  simp only [ndC, List.mem_cons, List.not_mem_nil, or_false] at hu
  rcases hu with rfl | rfl | rfl | rfl | rfl | rfl | rfl <;> rfl

set_option maxRecDepth 100000 in
set_option maxHeartbeats 1500000 in
theorem lines8 {W : World} {db rb base n c : Nat} {a : Option Addr} {xs : List Value} {nd : Nd} {R : World → Option Addr → Nat → Prop} {ds : List Deferred} {u0 u1 u3 u4 u5 u6 u7 u9 u10 u11 u12 u13 u14 u15 u16 u17 u18 u19 u20 u21 u22 u23 u24 u25 u26 u27 u28 u29 u30 u31 u32 u33 u34 u35 u36 u37 u38 u39 u40 u41 u42 u43 u44 u45 u46 u47 u48 : Value} (K : Act → World → Prop) (x1 : W.drew.cell? ⟨db, 1, none⟩ = some (.slice a n c))
    (hC : Calls Tryd.prog 38 #[.pointer (some ⟨rb, 0, none⟩)] W.drew fun e w' => ∃ aa ca, e = .returned (.agg #[.string nd.name, .int .i64 nd.kind, .string nd.arg, .string nd.to, .int .i64 nd.delay, .int .i64 nd.tries, .slice aa nd.after.length ca]) ∧ R w' aa ca)
    (hR : ∀ w5 aa ca, R w5 aa ca → w5.cell? ⟨db, 1, none⟩ = some (.slice a n c) ∧ (w5.alloc (.cells #[.string nd.name, .int .i64 nd.kind, .string nd.arg, .string nd.to, .int .i64 nd.delay, .int .i64 nd.tries, .slice aa nd.after.length ca] 34)).cell? ⟨db, 1, none⟩ = some (.slice a n c) ∧ (w5.alloc (.cells #[.string nd.name, .int .i64 nd.kind, .string nd.arg, .string nd.to, .int .i64 nd.delay, .int .i64 nd.tries, .slice aa nd.after.length ca] 34)).ownsRow base 34 7 (.slice a n c) n xs ∧ base ≤ w5.heap.size + 1)
    (hG : ∀ w5 w6 aa ca, R w5 aa ca → (w5.alloc (.cells #[.string nd.name, .int .i64 nd.kind, .string nd.arg, .string nd.to, .int .i64 nd.delay, .int .i64 nd.tries, .slice aa nd.after.length ca] 34)).grownBy w6 (Value.slice a n c).ownBlock → w6.cell? ⟨db, 1, none⟩ = some (.slice a n c) ∧ w6.frozen? ⟨db, 1, none⟩ = false)
    (hn : n ≤ 100000)
    (h : ∀ (v22 v23 v24 v25 v26 v27 : Value) (w5 w6 : World) (aa a6 : Option Addr) (ca c6 : Nat), R w5 aa ca → w6.ownsRow base 34 7 (.slice a6 (n + 1) c6) (n + 1) (xs ++ ndC nd (.slice aa nd.after.length ca)) → (w5.alloc (.cells #[.string nd.name, .int .i64 nd.kind, .string nd.arg, .string nd.to, .int .i64 nd.delay, .int .i64 nd.tries, .slice aa nd.after.length ca] 34)).grownBy w6 (Value.slice a n c).ownBlock → K { tmps := #[u0, u1, .pointer (some ⟨db, 0, none⟩), u3, u4, u5, u6, u7, .pointer (some ⟨rb, 0, none⟩), u9, u10, u11, u12, u13, u14, u15, u16, u17, u18, u19, u20, u21, v22, v23, v24, v25, v26, v27, u28, u29, u30, u31, u32, u33, u34, u35, u36, u37, u38, u39, u40, u41, u42, u43, u44, u45, u46, u47, u48], defers := ds } (w6.setCell ⟨db, 1, none⟩ (.slice a6 (n + 1) c6))) :
    (Code.region 8 #[{ dst := some 22, op := Op.fieldAddr 25 (Operand.tmp 2) 1, type := 0, pos := "text.go:49", after := #[], guard := none }, { dst := some 23, op := Op.load 23 (Operand.tmp 22), type := 23, pos := "text.go:49", after := #[{ on := 0, ground := Ground.data }], guard := none }, { dst := some 24, op := Op.call { callee := Callee.value (Operand.func 38), args := #[Operand.tmp 8], argTypes := #[69] }, type := 34, pos := "text.go:49", after := #[], guard := none }, { dst := some 25, op := Op.buildSlice 23 1 #[(0, Operand.tmp 24)], type := 23, pos := "text.go:49", after := #[{ on := 2, ground := Ground.data }], guard := none }, { dst := some 26, op := Op.call { callee := Callee.builtin Builtin.append, args := #[Operand.tmp 23, Operand.tmp 25], argTypes := #[23, 23] }, type := 23, pos := "text.go:49", after := #[{ on := 1, ground := Ground.data }, { on := 3, ground := Ground.data }, { on := 2, ground := Ground.chain }], guard := none }, { dst := some 27, op := Op.fieldAddr 25 (Operand.tmp 2) 1, type := 0, pos := "text.go:49", after := #[{ on := 0, ground := Ground.phase }, { on := 1, ground := Ground.phase }, { on := 2, ground := Ground.phase }, { on := 3, ground := Ground.phase }, { on := 4, ground := Ground.phase }], guard := none }, { dst := none, op := Op.store 23 (Operand.tmp 27) (Operand.tmp 26), type := 0, pos := "text.go:49", after := #[{ on := 5, ground := Ground.data }, { on := 4, ground := Ground.data }, { on := 4, ground := Ground.chain }, { on := 0, ground := Ground.phase }, { on := 1, ground := Ground.phase }, { on := 2, ground := Ground.phase }, { on := 3, ground := Ground.phase }, { on := 4, ground := Ground.phase }], guard := none }] true).wp Tryd.prog (onlyN K) { tmps := #[u0, u1, .pointer (some ⟨db, 0, none⟩), u3, u4, u5, u6, u7, .pointer (some ⟨rb, 0, none⟩), u9, u10, u11, u12, u13, u14, u15, u16, u17, u18, u19, u20, u21, u22, u23, u24, u25, u26, u27, u28, u29, u30, u31, u32, u33, u34, u35, u36, u37, u38, u39, u40, u41, u42, u43, u44, u45, u46, u47, u48], defers := ds } W := by
  obtain ⟨j0, hj0, hy0, hy1, hy2⟩ := info_parts Tryd.info34
  have HR : Hid _ := hR
  have HG : Hid _ := hG
  have HH : Hid _ := h
  clear hR hG h
  go_region_law
    (first
      | (refine step_append_sr _ (by rfl) _ _ _ (by rfl) base 34 j0 _ 7 96 Tryd.underlying23 hj0 hy0 hy1 hy2 rfl (by decide) (.slice a n c) n _ (by rfl) z2 _ (by rfl) 1 _ (.inl ⟨_, 1, rfl, rfl, World.news_of_block (heap_alloc_new _ _)⟩) (ndC_one nd aa _ ca) (by unfold maxLen; omega) (by omega) (by simp; omega) ?_; intro a6 cap6 w6 ho6 hg6 _ hl6; obtain ⟨v1, u1⟩ := HG.out w5 w6 aa ca R5 hg6)
      | (refine step_call1 _ rfl 38 _ _ rfl (enters_of Tryd.func38 (by kernel_rfl) rfl) _ (by rfl) hC ?_; rintro e w5 ⟨aa, ca, rfl, R5⟩; refine ⟨_, rfl, ?_⟩; obtain ⟨z0, z1, z2, z3⟩ := HR.out w5 aa ca R5))
  all_goals exact HH.out _ _ _ _ _ _ w5 w6 aa a6 ca cap6 R5 ho6 hg6

end Go.Proofs.YtoonnbagppliaaaDoor
