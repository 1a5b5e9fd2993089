/-
  DagGrows: a name is put behind the new node's After, as a region that draws its order.
-/
import Derived.Test.YtalhdgelkomaiabDoorDDefCopy
import Derived.Deep.RegionLaw
namespace Go.Proofs.YtalhdgelkomaiabDoor
open Go.RowKit

set_option maxRecDepth 100000 in
set_option maxHeartbeats 8000000 in
theorem grows10 {W : World} {db nb b o n c i k c6 base : Nat} {a6 : Option Addr} {s : ByteArray} {xs : List Value} {ds : List Deferred} {u0 u2 u3 u4 u5 u8 u9 u10 u11 u12 u13 u14 u15 u16 u17 u18 u19 u20 u21 u22 u23 u24 u25 u26 u27 u28 u29 u30 u31 u32 u33 u34 u35 u36 u37 u38 u39 u40 u41 u42 u43 u44 u45 u46 u47 u48 u49 u50 u51 u52 u53 u54 u55 u56 u57 u58 u59 u60 u61 u62 u63 u64 u65 u66 u67 u68 u69 u70 u71 u72 u73 u74 u75 u76 u77 u78 u79 u80 u81 u82 u83 u84 u85 u86 u87 u88 u89 u90 u91 u92 u93 u94 u95 u96 u97 u98 u99 u100 u101 u102 u103 u104 u105 : Value} (K : Act → World → Prop)
    (x0 : W.cell? ⟨nb, 6, none⟩ = some (.slice a6 k c6)) (xz : W.frozen? ⟨nb, 6, none⟩ = false) (x1 : W.cell? ⟨db, 1, none⟩ = some (.slice (some ⟨b, o, none⟩) n c)) (x2 : W.cell? ⟨b, o + i * 7, none⟩ = some (.string s)) (hnb : nb < base) (hbW : base ≤ W.heap.size) (hi : i < n) (hn : n ≤ 1000) (hk : k ≤ 1000) (hR : W.ownsRow base 9 1 (.slice a6 k c6) k xs)
    (h : ∀ (v43 v44 v45 v46 v47 v48 v49 v50 v51 v52 v53 : Value) (a4 : Option Addr) (c4 : Nat) (w4 : World), w4.ownsRow base 9 1 (.slice a4 (k + 1) c4) (k + 1) (xs ++ [.string s]) → Kept (fun j => base ≤ j) W w4 → K { tmps := #[u0, .pointer (some ⟨db, 0, none⟩), u2, u3, u4, u5, .pointer (some ⟨nb, 0, none⟩), .int .i64 (i : Nat), u8, u9, u10, u11, u12, u13, u14, u15, u16, u17, u18, u19, u20, u21, u22, u23, u24, u25, u26, u27, u28, u29, u30, u31, u32, u33, u34, u35, u36, u37, u38, u39, u40, u41, u42, v43, v44, v45, v46, v47, v48, v49, v50, v51, v52, v53, u54, u55, u56, u57, u58, u59, u60, u61, u62, u63, u64, u65, u66, u67, u68, u69, u70, u71, u72, u73, u74, u75, u76, u77, u78, u79, u80, u81, u82, u83, u84, u85, u86, u87, u88, u89, u90, u91, u92, u93, u94, u95, u96, u97, u98, u99, u100, u101, u102, u103, u104, u105], defers := ds } (w4.setCell ⟨nb, 6, none⟩ (.slice a4 (k + 1) c4))) :
    (Code.region 10 #[{ dst := some 43, op := Op.fieldAddr 33 (Operand.tmp 6) 6, type := 0, pos := "more.go:100", after := #[], guard := none }, { dst := some 44, op := Op.load 31 (Operand.tmp 43), type := 31, pos := "more.go:100", after := #[{ on := 0, ground := Ground.data }], guard := none }, { dst := some 45, op := Op.fieldAddr 24 (Operand.tmp 1) 1, type := 0, pos := "more.go:100", after := #[], guard := none }, { dst := some 46, op := Op.load 22 (Operand.tmp 45), type := 22, pos := "more.go:100", after := #[{ on := 2, ground := Ground.data }], guard := none }, { dst := some 47, op := Op.move (Operand.tmp 7), type := 3, pos := "more.go:100", after := #[], guard := none }, { dst := some 48, op := Op.indexAddr 22 (Operand.tmp 46) (Operand.tmp 47), type := 0, pos := "more.go:100", after := #[{ on := 3, ground := Ground.data }, { on := 4, ground := Ground.data }], guard := none }, { dst := some 49, op := Op.fieldAddr 33 (Operand.tmp 48) 0, type := 0, pos := "more.go:100", after := #[{ on := 5, ground := Ground.data }], guard := none }, { dst := some 50, op := Op.load 9 (Operand.tmp 49), type := 9, pos := "more.go:100", after := #[{ on := 6, ground := Ground.data }], guard := none }, { dst := some 51, op := Op.buildSlice 31 1 #[(0, Operand.tmp 50)], type := 31, pos := "more.go:100", after := #[{ on := 7, ground := Ground.data }], guard := none }, { dst := some 52, op := Op.call { callee := Callee.builtin Builtin.append, args := #[Operand.tmp 44, Operand.tmp 51], argTypes := #[31, 31] }, type := 31, pos := "more.go:100", after := #[{ on := 1, ground := Ground.data }, { on := 8, ground := Ground.data }], guard := none }, { dst := some 53, op := Op.fieldAddr 33 (Operand.tmp 6) 6, type := 0, pos := "more.go:100", after := #[{ on := 0, ground := Ground.phase }, { on := 1, ground := Ground.phase }, { on := 2, ground := Ground.phase }, { on := 3, ground := Ground.phase }, { on := 4, ground := Ground.phase }, { on := 5, ground := Ground.phase }, { on := 6, ground := Ground.phase }, { on := 7, ground := Ground.phase }, { on := 8, ground := Ground.phase }, { on := 9, ground := Ground.phase }], guard := none }, { dst := none, op := Op.store 31 (Operand.tmp 53) (Operand.tmp 52), type := 0, pos := "more.go:100", after := #[{ on := 10, ground := Ground.data }, { on := 9, ground := Ground.data }, { on := 9, ground := Ground.chain }, { on := 0, ground := Ground.phase }, { on := 1, ground := Ground.phase }, { on := 2, ground := Ground.phase }, { on := 3, ground := Ground.phase }, { on := 4, ground := Ground.phase }, { on := 5, ground := Ground.phase }, { on := 6, ground := Ground.phase }, { on := 7, ground := Ground.phase }, { on := 8, ground := Ground.phase }, { on := 9, ground := Ground.phase }], guard := none }] true).wp Tryd.prog (onlyN K) { tmps := #[u0, .pointer (some ⟨db, 0, none⟩), u2, u3, u4, u5, .pointer (some ⟨nb, 0, none⟩), .int .i64 (i : Nat), u8, u9, u10, u11, u12, u13, u14, u15, u16, u17, u18, u19, u20, u21, u22, u23, u24, u25, u26, u27, u28, u29, u30, u31, u32, u33, u34, u35, u36, u37, u38, u39, u40, u41, u42, u43, u44, u45, u46, u47, u48, u49, u50, u51, u52, u53, u54, u55, u56, u57, u58, u59, u60, u61, u62, u63, u64, u65, u66, u67, u68, u69, u70, u71, u72, u73, u74, u75, u76, u77, u78, u79, u80, u81, u82, u83, u84, u85, u86, u87, u88, u89, u90, u91, u92, u93, u94, u95, u96, u97, u98, u99, u100, u101, u102, u103, u104, u105], defers := ds } W := by
  obtain ⟨j0, hj0, hy0, hy1, hy2⟩ := info_parts Tryd.info9
  have HH : Hid _ := h
  have KD := Kept.drew (fun j => base ≤ j) W
  have hh : ∀ {V : World} {ad : Addr} {v : Value}, Kept (fun j => base ≤ j) W V → W.cell? ad = some v → ad.block < base → V.cell? ad = some v := fun {V ad v} KV hc hne => by
    rw [World.cell?_of_block (w := W) (KV.block _ (World.block_lt_of_cell? W _ hc) (by omega))]
    exact hc
  have HC : Hid (∀ V, Kept (fun j => base ≤ j) W.drew V → V.cell? ⟨nb, 6, none⟩ = some (.slice a6 k c6) ∧ V.frozen? ⟨nb, 6, none⟩ = false) := fun V KV => ⟨hh (KD.and KV) x0 hnb, by
    have hb := (KD.and KV).block nb (World.block_lt_of_cell? W _ x0) (by omega)
    rw [← xz]
    unfold World.frozen?
    rw [hb]⟩
  have HR : Hid (W.drew.ownsRow base 9 1 (.slice a6 k c6) k xs) := hR
  have HKD : Hid (Kept (fun j => base ≤ j) W W.drew) := KD
  have e1 : (i : Int) < (n : Int) := by omega
  have w1 : IntKind.i64.wrap (i : Int) = (i : Int) := by rw [IntKind.wrap_i64]; omega
  have r0 : W.drew.cell? ⟨nb, 6, none⟩ = some (.slice a6 k c6) := x0
  have r1 : W.drew.cell? ⟨db, 1, none⟩ = some (.slice (some ⟨b, o, none⟩) n c) := x1
  have r2 : W.drew.cell? ⟨b, o + i * 7, none⟩ = some (.string s) := x2
  have r3 : (W.alloc (.cells #[.string s] 9)).cell? ⟨nb, 6, none⟩ = some (.slice a6 k c6) := hh (Kept.alloc _ _ _) x0 hnb
  have hsz : base ≤ W.drew.heap.size := hbW
  clear h KD x0 x1 x2 xz hh hR
  go_region_law
    (first
      | (refine step_append_sr _ (by rfl) _ _ 31 (by rfl) base 9 j0 _ 1 16 Tryd.underlying31 hj0 hy0 hy1 hy2 rfl (by decide) (.slice a6 k c6) k xs (by rfl) (HR.out.alloc _) _ (by rfl) 1 [.string s] (.inl ⟨_, 1, rfl, rfl, World.news_of_block (heap_alloc_new _ _)⟩) (strsV_one [s]) (by unfold maxLen; omega) (by omega) (by simp; omega) ?_; intro a4 c4 w4 ho4 hg4 _ hl4; have K4 : Kept (fun j => base ≤ j) W.drew w4 := (Kept.alloc _ _ _).and (Kept.grown hg4 (fun j e => (HR.out.lt j e).1)); obtain ⟨t1, t2⟩ := HC.out w4 K4)
      | fail)
  all_goals exact HH.out _ _ _ _ _ _ _ _ _ _ _ a4 c4 w4 ho4 (HKD.out.and K4)

/-- Calls within a guard that is met, as steps of a region that draws. -/
theorem step_call1w {P : Program} {ops : Array Oper} {o : Oper} {a : Act} (w : World) {K : Act → World → Prop} {Q : Exit → Act → World → Prop} {E : Prop}
    (hw : Region.wanted o (yielded ops a.tmps) = true) (f : Nat) (x : Operand) (t : TypeId) (hop : o.op = Op.call { callee := .value (.func f), args := #[x], argTypes := #[t] })
    (he : ∀ args w, (callFunc f args).run P w = .ok (.enter f args) w) (v : Value) (hx : a.eval x = v) {R : Ending → World → Prop} (hC : Calls P f #[v] w R)
    (hK : ∀ e w', R e w' → ∃ u, e = .returned u ∧ K (a.put o.dst u) w') :
    if Region.wanted o (yielded ops a.tmps) = true then Oper.wp P o a w K Q else E := by
  rw [if_pos hw]
  unfold Oper.wp
  have hf : a.eval (.func f) = .func (.func f) #[] #[] := rfl
  simp [execOp, hop, resolve, invoke, hf, hx, he, Deferred.ofValue]
  refine hC.mono ?_
  rintro e w' h
  obtain ⟨u, rfl, k⟩ := hK e w' h
  exact k

theorem step_call0w {P : Program} {ops : Array Oper} {o : Oper} {a : Act} (w : World) {K : Act → World → Prop} {Q : Exit → Act → World → Prop} {E : Prop}
    (hw : Region.wanted o (yielded ops a.tmps) = true) (f : Nat) (hop : o.op = Op.call { callee := .value (.func f), args := #[], argTypes := #[] })
    (he : ∀ args w, (callFunc f args).run P w = .ok (.enter f args) w) {R : Ending → World → Prop} (hC : Calls P f #[] w R)
    (hK : ∀ e w', R e w' → ∃ u, e = .returned u ∧ K (a.put o.dst u) w') :
    if Region.wanted o (yielded ops a.tmps) = true then Oper.wp P o a w K Q else E := by
  rw [if_pos hw]
  unfold Oper.wp
  have hf : a.eval (.func f) = .func (.func f) #[] #[] := rfl
  simp [execOp, hop, resolve, invoke, hf, he, Deferred.ofValue]
  refine hC.mono ?_
  rintro e w' h
  obtain ⟨u, rfl, k⟩ := hK e w' h
  exact k

set_option maxRecDepth 100000 in
set_option maxHeartbeats 8000000 in
theorem grows14 {W : World} {db xb g n m cl cx cd dx dd : Nat} {ax ad : Option Addr} {nm : ByteArray} {ds : List Deferred} {u0 u2 u3 u6 u7 u10 u11 u12 u13 u14 u15 u16 u17 u18 u19 u20 u21 u22 u23 u24 u25 u26 u27 u28 u29 u30 u31 u32 u33 u34 u35 u36 u37 u38 u39 u40 u41 u42 u43 u44 u45 u46 u47 u48 u49 u50 u51 u52 u53 u54 u55 u56 u57 u58 u59 u60 u61 u62 u63 u64 u65 u66 u67 u68 u69 u70 u71 u72 u73 u74 u75 u76 u77 u78 u79 u80 u81 u82 u83 u84 u85 u86 u87 u88 u89 u90 u91 u92 u93 u94 u95 u96 u97 u98 u99 u100 u101 u102 u103 u104 u105 : Value} (K : Act → World → Prop)
    (x0 : W.cell? ⟨xb, 0, none⟩ = some (.string nm)) (x1 : W.cell? ⟨xb, 1, none⟩ = some (.slice ax m cx)) (x2 : W.cell? ⟨db, 0, none⟩ = some (.string nm)) (x3 : W.cell? ⟨db, 1, none⟩ = some (.slice ad n cd)) (x4 : W.cell? ⟨g, n, none⟩ = some (.int .i64 (n : Nat)))
    (hm : IntKind.i64.wrap ((m : Int) - 1) = (n : Int)) (hnm : (n : Int) < (m : Int)) (hd : IntKind.i64.wrap ((dd : Int) + 1) = (dx : Int))
    (hX : ∀ V, Kept (fun _ => False) W.drew V → Calls Tryd.prog 9 #[.agg #[.string nm, .slice ax m cx]] V fun e w' => e = .returned (.int .i64 (dx : Nat)) ∧ Kept (fun _ => False) V w')
    (hD : ∀ V, Kept (fun _ => False) W.drew V → Calls Tryd.prog 9 #[.agg #[.string nm, .slice ad n cd]] V fun e w' => e = .returned (.int .i64 (dd : Nat)) ∧ Kept (fun _ => False) V w')
    (hWk : ∀ V, Calls Tryd.prog 6 #[] V fun e w' => e = .returned (.bool true) ∧ Kept (fun _ => False) V w')
    (h : ∀ (v70 v71 v72 v73 v74 v75 v76 v77 v78 v79 v80 v81 v82 v83 v84 v85 v86 v87 v88 v89 v90 v91 v92 v93 v94 v95 v96 v97 v98 v99 v100 v101 v102 v103 v104 v105 : Value) (w5 : World), Kept (fun _ => False) W w5 → K { tmps := #[u0, .pointer (some ⟨db, 0, none⟩), .bool true, u3, .int .i64 0, .pointer (some ⟨xb, 0, none⟩), u6, u7, .slice (some ⟨g, 0, none⟩) m cl, .bool true, u10, u11, u12, u13, u14, u15, u16, u17, u18, u19, u20, u21, u22, u23, u24, u25, u26, u27, u28, u29, u30, u31, u32, u33, u34, u35, u36, u37, u38, u39, u40, u41, u42, u43, u44, u45, u46, u47, u48, u49, u50, u51, u52, u53, u54, u55, u56, u57, u58, u59, u60, u61, u62, u63, u64, u65, u66, u67, u68, u69, v70, v71, v72, v73, v74, v75, v76, v77, v78, v79, v80, v81, v82, v83, v84, v85, v86, v87, v88, v89, v90, v91, v92, v93, v94, v95, v96, v97, v98, v99, v100, v101, v102, v103, v104, v105], defers := ds } w5) :
    (Code.region 14 #[{ dst := some 70, op := Op.move (Operand.tmp 4), type := 26, pos := "more.go:105", after := #[], guard := none }, { dst := some 71, op := Op.binOp BinOp.eql 26 (Operand.tmp 70) (Operand.const (Value.int IntKind.i64 0)) 26, type := 4, pos := "more.go:105", after := #[{ on := 0, ground := Ground.data }], guard := none }, { dst := some 72, op := Op.move (Operand.tmp 71), type := 4, pos := "more.go:105", after := #[{ on := 1, ground := Ground.data }], guard := none }, { dst := some 73, op := Op.move (Operand.tmp 9), type := 4, pos := "more.go:105", after := #[{ on := 2, ground := Ground.guard }], guard := some (2, true) }, { dst := some 74, op := Op.pick (Operand.tmp 72) (Operand.tmp 73) (Operand.const (Value.bool false)), type := 4, pos := "more.go:105", after := #[{ on := 2, ground := Ground.data }, { on := 3, ground := Ground.data }], guard := none }, { dst := some 75, op := Op.move (Operand.tmp 74), type := 4, pos := "more.go:105", after := #[{ on := 4, ground := Ground.data }, { on := 2, ground := Ground.chain }], guard := none }, { dst := some 76, op := Op.move (Operand.tmp 8), type := 34, pos := "more.go:105", after := #[{ on := 5, ground := Ground.guard }], guard := some (5, true) }, { dst := some 77, op := Op.call { callee := Callee.builtin Builtin.len, args := #[Operand.tmp 76], argTypes := #[34] }, type := 3, pos := "more.go:105", after := #[{ on := 6, ground := Ground.data }, { on := 5, ground := Ground.guard }], guard := some (5, true) }, { dst := some 78, op := Op.fieldAddr 24 (Operand.tmp 5) 1, type := 0, pos := "more.go:105", after := #[{ on := 5, ground := Ground.guard }], guard := some (5, true) }, { dst := some 79, op := Op.load 22 (Operand.tmp 78), type := 22, pos := "more.go:105", after := #[{ on := 8, ground := Ground.data }, { on := 5, ground := Ground.guard }], guard := some (5, true) }, { dst := some 80, op := Op.call { callee := Callee.builtin Builtin.len, args := #[Operand.tmp 79], argTypes := #[22] }, type := 3, pos := "more.go:105", after := #[{ on := 9, ground := Ground.data }, { on := 5, ground := Ground.guard }], guard := some (5, true) }, { dst := some 81, op := Op.binOp BinOp.eql 3 (Operand.tmp 77) (Operand.tmp 80) 3, type := 4, pos := "more.go:105", after := #[{ on := 7, ground := Ground.data }, { on := 10, ground := Ground.data }, { on := 5, ground := Ground.guard }], guard := some (5, true) }, { dst := some 82, op := Op.pick (Operand.tmp 75) (Operand.tmp 81) (Operand.const (Value.bool false)), type := 4, pos := "more.go:105", after := #[{ on := 5, ground := Ground.data }, { on := 11, ground := Ground.data }], guard := none }, { dst := some 83, op := Op.move (Operand.tmp 82), type := 4, pos := "more.go:105", after := #[{ on := 12, ground := Ground.data }, { on := 5, ground := Ground.chain }], guard := none }, { dst := some 84, op := Op.move (Operand.tmp 8), type := 34, pos := "more.go:105", after := #[{ on := 13, ground := Ground.guard }], guard := some (13, true) }, { dst := some 85, op := Op.move (Operand.tmp 8), type := 34, pos := "more.go:105", after := #[{ on := 13, ground := Ground.guard }], guard := some (13, true) }, { dst := some 86, op := Op.call { callee := Callee.builtin Builtin.len, args := #[Operand.tmp 85], argTypes := #[34] }, type := 3, pos := "more.go:105", after := #[{ on := 15, ground := Ground.data }, { on := 13, ground := Ground.guard }], guard := some (13, true) }, { dst := some 87, op := Op.binOp BinOp.sub 3 (Operand.tmp 86) (Operand.const (Value.int IntKind.i64 1)) 3, type := 3, pos := "more.go:105", after := #[{ on := 16, ground := Ground.data }, { on := 13, ground := Ground.guard }], guard := some (13, true) }, { dst := some 88, op := Op.indexAddr 34 (Operand.tmp 84) (Operand.tmp 87), type := 0, pos := "more.go:105", after := #[{ on := 14, ground := Ground.data }, { on := 17, ground := Ground.data }, { on := 13, ground := Ground.guard }], guard := some (13, true) }, { dst := some 89, op := Op.load 3 (Operand.tmp 88), type := 3, pos := "more.go:105", after := #[{ on := 18, ground := Ground.data }, { on := 13, ground := Ground.guard }], guard := some (13, true) }, { dst := some 90, op := Op.fieldAddr 24 (Operand.tmp 1) 1, type := 0, pos := "more.go:105", after := #[{ on := 13, ground := Ground.guard }], guard := some (13, true) }, { dst := some 91, op := Op.load 22 (Operand.tmp 90), type := 22, pos := "more.go:105", after := #[{ on := 20, ground := Ground.data }, { on := 13, ground := Ground.guard }], guard := some (13, true) }, { dst := some 92, op := Op.call { callee := Callee.builtin Builtin.len, args := #[Operand.tmp 91], argTypes := #[22] }, type := 3, pos := "more.go:105", after := #[{ on := 21, ground := Ground.data }, { on := 13, ground := Ground.guard }], guard := some (13, true) }, { dst := some 93, op := Op.binOp BinOp.eql 3 (Operand.tmp 89) (Operand.tmp 92) 3, type := 4, pos := "more.go:105", after := #[{ on := 19, ground := Ground.data }, { on := 22, ground := Ground.data }, { on := 13, ground := Ground.guard }], guard := some (13, true) }, { dst := some 94, op := Op.pick (Operand.tmp 83) (Operand.tmp 93) (Operand.const (Value.bool false)), type := 4, pos := "more.go:105", after := #[{ on := 13, ground := Ground.data }, { on := 23, ground := Ground.data }], guard := none }, { dst := some 95, op := Op.move (Operand.tmp 94), type := 4, pos := "more.go:105", after := #[{ on := 24, ground := Ground.data }, { on := 13, ground := Ground.chain }], guard := none }, { dst := some 96, op := Op.load 24 (Operand.tmp 5), type := 24, pos := "more.go:105", after := #[{ on := 25, ground := Ground.guard }], guard := some (25, true) }, { dst := some 97, op := Op.call { callee := Callee.value (Operand.func 9), args := #[Operand.tmp 96], argTypes := #[24] }, type := 3, pos := "more.go:105", after := #[{ on := 26, ground := Ground.data }, { on := 25, ground := Ground.chain }, { on := 25, ground := Ground.guard }], guard := some (25, true) }, { dst := some 98, op := Op.load 24 (Operand.tmp 1), type := 24, pos := "more.go:105", after := #[{ on := 25, ground := Ground.guard }], guard := some (25, true) }, { dst := some 99, op := Op.call { callee := Callee.value (Operand.func 9), args := #[Operand.tmp 98], argTypes := #[24] }, type := 3, pos := "more.go:105", after := #[{ on := 28, ground := Ground.data }, { on := 27, ground := Ground.chain }, { on := 25, ground := Ground.guard }], guard := some (25, true) }, { dst := some 100, op := Op.binOp BinOp.add 3 (Operand.tmp 99) (Operand.const (Value.int IntKind.i64 1)) 3, type := 3, pos := "more.go:105", after := #[{ on := 29, ground := Ground.data }, { on := 25, ground := Ground.guard }], guard := some (25, true) }, { dst := some 101, op := Op.binOp BinOp.eql 3 (Operand.tmp 97) (Operand.tmp 100) 3, type := 4, pos := "more.go:105", after := #[{ on := 27, ground := Ground.data }, { on := 30, ground := Ground.data }, { on := 25, ground := Ground.guard }], guard := some (25, true) }, { dst := some 102, op := Op.pick (Operand.tmp 95) (Operand.tmp 101) (Operand.const (Value.bool false)), type := 4, pos := "more.go:105", after := #[{ on := 25, ground := Ground.data }, { on := 31, ground := Ground.data }], guard := none }, { dst := some 103, op := Op.move (Operand.tmp 102), type := 4, pos := "more.go:105", after := #[{ on := 32, ground := Ground.data }, { on := 29, ground := Ground.chain }], guard := none }, { dst := some 104, op := Op.call { callee := Callee.value (Operand.func 6), args := #[], argTypes := #[] }, type := 4, pos := "more.go:105", after := #[{ on := 33, ground := Ground.chain }, { on := 33, ground := Ground.guard }], guard := some (33, true) }, { dst := some 105, op := Op.pick (Operand.tmp 103) (Operand.tmp 104) (Operand.const (Value.bool false)), type := 4, pos := "more.go:105", after := #[{ on := 33, ground := Ground.data }, { on := 34, ground := Ground.data }], guard := none }, { dst := some 2, op := Op.assign (Operand.tmp 105), type := 4, pos := "more.go:105", after := #[{ on := 35, ground := Ground.data }, { on := 34, ground := Ground.chain }, { on := 0, ground := Ground.phase }, { on := 1, ground := Ground.phase }, { on := 2, ground := Ground.phase }, { on := 3, ground := Ground.phase }, { on := 4, ground := Ground.phase }, { on := 5, ground := Ground.phase }, { on := 6, ground := Ground.phase }, { on := 7, ground := Ground.phase }, { on := 8, ground := Ground.phase }, { on := 9, ground := Ground.phase }, { on := 10, ground := Ground.phase }, { on := 11, ground := Ground.phase }, { on := 12, ground := Ground.phase }, { on := 13, ground := Ground.phase }, { on := 14, ground := Ground.phase }, { on := 15, ground := Ground.phase }, { on := 16, ground := Ground.phase }, { on := 17, ground := Ground.phase }, { on := 18, ground := Ground.phase }, { on := 19, ground := Ground.phase }, { on := 20, ground := Ground.phase }, { on := 21, ground := Ground.phase }, { on := 22, ground := Ground.phase }, { on := 23, ground := Ground.phase }, { on := 24, ground := Ground.phase }, { on := 25, ground := Ground.phase }, { on := 26, ground := Ground.phase }, { on := 27, ground := Ground.phase }, { on := 28, ground := Ground.phase }, { on := 29, ground := Ground.phase }, { on := 30, ground := Ground.phase }, { on := 31, ground := Ground.phase }, { on := 32, ground := Ground.phase }, { on := 33, ground := Ground.phase }, { on := 34, ground := Ground.phase }, { on := 35, ground := Ground.phase }], guard := none }] true).wp Tryd.prog (onlyN K) { tmps := #[u0, .pointer (some ⟨db, 0, none⟩), u2, u3, .int .i64 0, .pointer (some ⟨xb, 0, none⟩), u6, u7, .slice (some ⟨g, 0, none⟩) m cl, .bool true, u10, u11, u12, u13, u14, u15, u16, u17, u18, u19, u20, u21, u22, u23, u24, u25, u26, u27, u28, u29, u30, u31, u32, u33, u34, u35, u36, u37, u38, u39, u40, u41, u42, u43, u44, u45, u46, u47, u48, u49, u50, u51, u52, u53, u54, u55, u56, u57, u58, u59, u60, u61, u62, u63, u64, u65, u66, u67, u68, u69, u70, u71, u72, u73, u74, u75, u76, u77, u78, u79, u80, u81, u82, u83, u84, u85, u86, u87, u88, u89, u90, u91, u92, u93, u94, u95, u96, u97, u98, u99, u100, u101, u102, u103, u104, u105], defers := ds } W := by
  have HH : Hid _ := h
  have HX : Hid _ := hX
  have HD : Hid _ := hD
  have HW : Hid _ := hWk
  have KD := Kept.drew (fun _ => False) W
  have HS : Hid (∀ V, Kept (fun _ => False) W.drew V → V.cell? ⟨xb, 0, none⟩ = some (.string nm) ∧ V.cell? ⟨xb, 1, none⟩ = some (.slice ax m cx) ∧ V.cell? ⟨db, 0, none⟩ = some (.string nm) ∧ V.cell? ⟨db, 1, none⟩ = some (.slice ad n cd) ∧ V.cell? ⟨g, n, none⟩ = some (.int .i64 (n : Nat))) := fun V KV => ⟨keepC (KD.and KV) x0 (fun _ _ h => h), keepC (KD.and KV) x1 (fun _ _ h => h), keepC (KD.and KV) x2 (fun _ _ h => h), keepC (KD.and KV) x3 (fun _ _ h => h), keepC (KD.and KV) x4 (fun _ _ h => h)⟩
  have HKD : Hid (Kept (fun _ => False) W W.drew) := KD
  have hS0 := HS.out W.drew (Kept.refl _ _)
  have e0 : (0 : Int) ≤ (n : Int) := by omega
  clear h hX hD hWk KD x0 x1 x2 x3 x4
  refine wp_region_held_drew (S := fun V => V.cell? ⟨xb, 0, none⟩ = some (.string nm) ∧ V.cell? ⟨xb, 1, none⟩ = some (.slice ax m cx) ∧ V.cell? ⟨db, 0, none⟩ = some (.string nm) ∧ V.cell? ⟨db, 1, none⟩ = some (.slice ad n cd) ∧ V.cell? ⟨g, n, none⟩ = some (.int .i64 (n : Nat))) (by kernel_rfl) hS0 (fun _ => ?_)
  refine wpAnyH_take (i := 0) (oi := { dst := some 70, op := Op.move (Operand.tmp 4), type := 26, pos := "more.go:105", after := #[], guard := none }) (v := ?vv1) rfl (by kernel_rfl) (by kernel_rfl) (by kernel_rfl) (fun _ _ _ h => h) (Or.inl ⟨by rfl, ?hy1⟩) hS0 ?rest1
  case hy1 =>
    intro V hV
    obtain ⟨y0, y1, y2, y3, y4⟩ := hV
    go_simp
    all_goals rfl
  simp only [Act.put, List.setIfInBounds_toArray, List.set_cons_zero, List.set_cons_succ]
  refine wpAnyH_take (i := 1) (oi := { dst := some 71, op := Op.binOp BinOp.eql 26 (Operand.tmp 70) (Operand.const (Value.int IntKind.i64 0)) 26, type := 4, pos := "more.go:105", after := #[{ on := 0, ground := Ground.data }], guard := none }) (v := ?vv2) rfl (by kernel_rfl) (by kernel_rfl) (by kernel_rfl) (fun _ _ _ h => h) (Or.inl ⟨by rfl, ?hy2⟩) hS0 ?rest2
  case hy2 =>
    intro V hV
    obtain ⟨y0, y1, y2, y3, y4⟩ := hV
    go_simp
    all_goals rfl
  simp only [Act.put, List.setIfInBounds_toArray, List.set_cons_zero, List.set_cons_succ]
  refine wpAnyH_take (i := 2) (oi := { dst := some 72, op := Op.move (Operand.tmp 71), type := 4, pos := "more.go:105", after := #[{ on := 1, ground := Ground.data }], guard := none }) (v := ?vv3) rfl (by kernel_rfl) (by kernel_rfl) (by kernel_rfl) (fun _ _ _ h => h) (Or.inl ⟨by rfl, ?hy3⟩) hS0 ?rest3
  case hy3 =>
    intro V hV
    obtain ⟨y0, y1, y2, y3, y4⟩ := hV
    go_simp
    all_goals rfl
  simp only [Act.put, List.setIfInBounds_toArray, List.set_cons_zero, List.set_cons_succ]
  refine wpAnyH_take (i := 3) (oi := { dst := some 73, op := Op.move (Operand.tmp 9), type := 4, pos := "more.go:105", after := #[{ on := 2, ground := Ground.guard }], guard := some (2, true) }) (v := ?vv4) rfl (by kernel_rfl) (by kernel_rfl) (by kernel_rfl) (fun _ _ _ h => h) (Or.inl ⟨by rfl, ?hy4⟩) hS0 ?rest4
  case hy4 =>
    intro V hV
    obtain ⟨y0, y1, y2, y3, y4⟩ := hV
    go_simp
    all_goals rfl
  simp only [Act.put, List.setIfInBounds_toArray, List.set_cons_zero, List.set_cons_succ]
  refine wpAnyH_take (i := 4) (oi := { dst := some 74, op := Op.pick (Operand.tmp 72) (Operand.tmp 73) (Operand.const (Value.bool false)), type := 4, pos := "more.go:105", after := #[{ on := 2, ground := Ground.data }, { on := 3, ground := Ground.data }], guard := none }) (v := ?vv5) rfl (by kernel_rfl) (by kernel_rfl) (by kernel_rfl) (fun _ _ _ h => h) (Or.inl ⟨by rfl, ?hy5⟩) hS0 ?rest5
  case hy5 =>
    intro V hV
    obtain ⟨y0, y1, y2, y3, y4⟩ := hV
    go_simp
    all_goals rfl
  simp only [Act.put, List.setIfInBounds_toArray, List.set_cons_zero, List.set_cons_succ]
  refine wpAnyH_take (i := 5) (oi := { dst := some 75, op := Op.move (Operand.tmp 74), type := 4, pos := "more.go:105", after := #[{ on := 4, ground := Ground.data }, { on := 2, ground := Ground.chain }], guard := none }) (v := ?vv6) rfl (by kernel_rfl) (by kernel_rfl) (by kernel_rfl) (fun _ _ _ h => h) (Or.inl ⟨by rfl, ?hy6⟩) hS0 ?rest6
  case hy6 =>
    intro V hV
    obtain ⟨y0, y1, y2, y3, y4⟩ := hV
    go_simp
    all_goals rfl
  simp only [Act.put, List.setIfInBounds_toArray, List.set_cons_zero, List.set_cons_succ]
  refine wpAnyH_take (i := 6) (oi := { dst := some 76, op := Op.move (Operand.tmp 8), type := 34, pos := "more.go:105", after := #[{ on := 5, ground := Ground.guard }], guard := some (5, true) }) (v := ?vv7) rfl (by kernel_rfl) (by kernel_rfl) (by kernel_rfl) (fun _ _ _ h => h) (Or.inl ⟨by rfl, ?hy7⟩) hS0 ?rest7
  case hy7 =>
    intro V hV
    obtain ⟨y0, y1, y2, y3, y4⟩ := hV
    go_simp
    all_goals rfl
  simp only [Act.put, List.setIfInBounds_toArray, List.set_cons_zero, List.set_cons_succ]
  refine wpAnyH_take (i := 7) (oi := { dst := some 77, op := Op.call { callee := Callee.builtin Builtin.len, args := #[Operand.tmp 76], argTypes := #[34] }, type := 3, pos := "more.go:105", after := #[{ on := 6, ground := Ground.data }, { on := 5, ground := Ground.guard }], guard := some (5, true) }) (v := ?vv8) rfl (by kernel_rfl) (by kernel_rfl) (by kernel_rfl) (fun _ _ _ h => h) (Or.inl ⟨by rfl, ?hy8⟩) hS0 ?rest8
  case hy8 =>
    intro V hV
    obtain ⟨y0, y1, y2, y3, y4⟩ := hV
    go_simp
    all_goals rfl
  simp only [Act.put, List.setIfInBounds_toArray, List.set_cons_zero, List.set_cons_succ]
  refine wpAnyH_take (i := 8) (oi := { dst := some 78, op := Op.fieldAddr 24 (Operand.tmp 5) 1, type := 0, pos := "more.go:105", after := #[{ on := 5, ground := Ground.guard }], guard := some (5, true) }) (v := ?vv9) rfl (by kernel_rfl) (by kernel_rfl) (by kernel_rfl) (fun _ _ _ h => h) (Or.inl ⟨by rfl, ?hy9⟩) hS0 ?rest9
  case hy9 =>
    intro V hV
    obtain ⟨y0, y1, y2, y3, y4⟩ := hV
    go_simp
    all_goals rfl
  simp only [Act.put, List.setIfInBounds_toArray, List.set_cons_zero, List.set_cons_succ]
  refine wpAnyH_take (i := 9) (oi := { dst := some 79, op := Op.load 22 (Operand.tmp 78), type := 22, pos := "more.go:105", after := #[{ on := 8, ground := Ground.data }, { on := 5, ground := Ground.guard }], guard := some (5, true) }) (v := ?vv10) rfl (by kernel_rfl) (by kernel_rfl) (by kernel_rfl) (fun _ _ _ h => h) (Or.inl ⟨by rfl, ?hy10⟩) hS0 ?rest10
  case hy10 =>
    intro V hV
    obtain ⟨y0, y1, y2, y3, y4⟩ := hV
    go_simp
    all_goals rfl
  simp only [Act.put, List.setIfInBounds_toArray, List.set_cons_zero, List.set_cons_succ]
  refine wpAnyH_take (i := 10) (oi := { dst := some 80, op := Op.call { callee := Callee.builtin Builtin.len, args := #[Operand.tmp 79], argTypes := #[22] }, type := 3, pos := "more.go:105", after := #[{ on := 9, ground := Ground.data }, { on := 5, ground := Ground.guard }], guard := some (5, true) }) (v := ?vv11) rfl (by kernel_rfl) (by kernel_rfl) (by kernel_rfl) (fun _ _ _ h => h) (Or.inl ⟨by rfl, ?hy11⟩) hS0 ?rest11
  case hy11 =>
    intro V hV
    obtain ⟨y0, y1, y2, y3, y4⟩ := hV
    go_simp
    all_goals rfl
  simp only [Act.put, List.setIfInBounds_toArray, List.set_cons_zero, List.set_cons_succ]
  refine wpAnyH_take (i := 11) (oi := { dst := some 81, op := Op.binOp BinOp.eql 3 (Operand.tmp 77) (Operand.tmp 80) 3, type := 4, pos := "more.go:105", after := #[{ on := 7, ground := Ground.data }, { on := 10, ground := Ground.data }, { on := 5, ground := Ground.guard }], guard := some (5, true) }) (v := ?vv12) rfl (by kernel_rfl) (by kernel_rfl) (by kernel_rfl) (fun _ _ _ h => h) (Or.inl ⟨by rfl, ?hy12⟩) hS0 ?rest12
  case hy12 =>
    intro V hV
    obtain ⟨y0, y1, y2, y3, y4⟩ := hV
    go_simp
    all_goals rfl
  simp only [Act.put, List.setIfInBounds_toArray, List.set_cons_zero, List.set_cons_succ]
  refine wpAnyH_take (i := 12) (oi := { dst := some 82, op := Op.pick (Operand.tmp 75) (Operand.tmp 81) (Operand.const (Value.bool false)), type := 4, pos := "more.go:105", after := #[{ on := 5, ground := Ground.data }, { on := 11, ground := Ground.data }], guard := none }) (v := ?vv13) rfl (by kernel_rfl) (by kernel_rfl) (by kernel_rfl) (fun _ _ _ h => h) (Or.inl ⟨by rfl, ?hy13⟩) hS0 ?rest13
  case hy13 =>
    intro V hV
    obtain ⟨y0, y1, y2, y3, y4⟩ := hV
    go_simp
    all_goals rfl
  simp only [Act.put, List.setIfInBounds_toArray, List.set_cons_zero, List.set_cons_succ]
  refine wpAnyH_take (i := 13) (oi := { dst := some 83, op := Op.move (Operand.tmp 82), type := 4, pos := "more.go:105", after := #[{ on := 12, ground := Ground.data }, { on := 5, ground := Ground.chain }], guard := none }) (v := ?vv14) rfl (by kernel_rfl) (by kernel_rfl) (by kernel_rfl) (fun _ _ _ h => h) (Or.inl ⟨by rfl, ?hy14⟩) hS0 ?rest14
  case hy14 =>
    intro V hV
    obtain ⟨y0, y1, y2, y3, y4⟩ := hV
    go_simp
    all_goals rfl
  simp only [Act.put, List.setIfInBounds_toArray, List.set_cons_zero, List.set_cons_succ]
  refine wpAnyH_take (i := 14) (oi := { dst := some 84, op := Op.move (Operand.tmp 8), type := 34, pos := "more.go:105", after := #[{ on := 13, ground := Ground.guard }], guard := some (13, true) }) (v := ?vv15) rfl (by kernel_rfl) (by kernel_rfl) (by kernel_rfl) (fun _ _ _ h => h) (Or.inl ⟨by rfl, ?hy15⟩) hS0 ?rest15
  case hy15 =>
    intro V hV
    obtain ⟨y0, y1, y2, y3, y4⟩ := hV
    go_simp
    all_goals rfl
  simp only [Act.put, List.setIfInBounds_toArray, List.set_cons_zero, List.set_cons_succ]
  refine wpAnyH_take (i := 15) (oi := { dst := some 85, op := Op.move (Operand.tmp 8), type := 34, pos := "more.go:105", after := #[{ on := 13, ground := Ground.guard }], guard := some (13, true) }) (v := ?vv16) rfl (by kernel_rfl) (by kernel_rfl) (by kernel_rfl) (fun _ _ _ h => h) (Or.inl ⟨by rfl, ?hy16⟩) hS0 ?rest16
  case hy16 =>
    intro V hV
    obtain ⟨y0, y1, y2, y3, y4⟩ := hV
    go_simp
    all_goals rfl
  simp only [Act.put, List.setIfInBounds_toArray, List.set_cons_zero, List.set_cons_succ]
  refine wpAnyH_take (i := 16) (oi := { dst := some 86, op := Op.call { callee := Callee.builtin Builtin.len, args := #[Operand.tmp 85], argTypes := #[34] }, type := 3, pos := "more.go:105", after := #[{ on := 15, ground := Ground.data }, { on := 13, ground := Ground.guard }], guard := some (13, true) }) (v := ?vv17) rfl (by kernel_rfl) (by kernel_rfl) (by kernel_rfl) (fun _ _ _ h => h) (Or.inl ⟨by rfl, ?hy17⟩) hS0 ?rest17
  case hy17 =>
    intro V hV
    obtain ⟨y0, y1, y2, y3, y4⟩ := hV
    go_simp
    all_goals rfl
  simp only [Act.put, List.setIfInBounds_toArray, List.set_cons_zero, List.set_cons_succ]
  refine wpAnyH_take (i := 17) (oi := { dst := some 87, op := Op.binOp BinOp.sub 3 (Operand.tmp 86) (Operand.const (Value.int IntKind.i64 1)) 3, type := 3, pos := "more.go:105", after := #[{ on := 16, ground := Ground.data }, { on := 13, ground := Ground.guard }], guard := some (13, true) }) (v := ?vv18) rfl (by kernel_rfl) (by kernel_rfl) (by kernel_rfl) (fun _ _ _ h => h) (Or.inl ⟨by rfl, ?hy18⟩) hS0 ?rest18
  case hy18 =>
    intro V hV
    obtain ⟨y0, y1, y2, y3, y4⟩ := hV
    go_simp
    all_goals rfl
  simp only [Act.put, List.setIfInBounds_toArray, List.set_cons_zero, List.set_cons_succ]
  refine wpAnyH_take (i := 18) (oi := { dst := some 88, op := Op.indexAddr 34 (Operand.tmp 84) (Operand.tmp 87), type := 0, pos := "more.go:105", after := #[{ on := 14, ground := Ground.data }, { on := 17, ground := Ground.data }, { on := 13, ground := Ground.guard }], guard := some (13, true) }) (v := ?vv19) rfl (by kernel_rfl) (by kernel_rfl) (by kernel_rfl) (fun _ _ _ h => h) (Or.inl ⟨by rfl, ?hy19⟩) hS0 ?rest19
  case hy19 =>
    intro V hV
    obtain ⟨y0, y1, y2, y3, y4⟩ := hV
    go_simp
    all_goals rfl
  simp only [Act.put, List.setIfInBounds_toArray, List.set_cons_zero, List.set_cons_succ]
  refine wpAnyH_take (i := 19) (oi := { dst := some 89, op := Op.load 3 (Operand.tmp 88), type := 3, pos := "more.go:105", after := #[{ on := 18, ground := Ground.data }, { on := 13, ground := Ground.guard }], guard := some (13, true) }) (v := ?vv20) rfl (by kernel_rfl) (by kernel_rfl) (by kernel_rfl) (fun _ _ _ h => h) (Or.inl ⟨by rfl, ?hy20⟩) hS0 ?rest20
  case hy20 =>
    intro V hV
    obtain ⟨y0, y1, y2, y3, y4⟩ := hV
    go_simp
    all_goals rfl
  simp only [Act.put, List.setIfInBounds_toArray, List.set_cons_zero, List.set_cons_succ]
  refine wpAnyH_take (i := 20) (oi := { dst := some 90, op := Op.fieldAddr 24 (Operand.tmp 1) 1, type := 0, pos := "more.go:105", after := #[{ on := 13, ground := Ground.guard }], guard := some (13, true) }) (v := ?vv21) rfl (by kernel_rfl) (by kernel_rfl) (by kernel_rfl) (fun _ _ _ h => h) (Or.inl ⟨by rfl, ?hy21⟩) hS0 ?rest21
  case hy21 =>
    intro V hV
    obtain ⟨y0, y1, y2, y3, y4⟩ := hV
    go_simp
    all_goals rfl
  simp only [Act.put, List.setIfInBounds_toArray, List.set_cons_zero, List.set_cons_succ]
  refine wpAnyH_take (i := 21) (oi := { dst := some 91, op := Op.load 22 (Operand.tmp 90), type := 22, pos := "more.go:105", after := #[{ on := 20, ground := Ground.data }, { on := 13, ground := Ground.guard }], guard := some (13, true) }) (v := ?vv22) rfl (by kernel_rfl) (by kernel_rfl) (by kernel_rfl) (fun _ _ _ h => h) (Or.inl ⟨by rfl, ?hy22⟩) hS0 ?rest22
  case hy22 =>
    intro V hV
    obtain ⟨y0, y1, y2, y3, y4⟩ := hV
    go_simp
    all_goals rfl
  simp only [Act.put, List.setIfInBounds_toArray, List.set_cons_zero, List.set_cons_succ]
  refine wpAnyH_take (i := 22) (oi := { dst := some 92, op := Op.call { callee := Callee.builtin Builtin.len, args := #[Operand.tmp 91], argTypes := #[22] }, type := 3, pos := "more.go:105", after := #[{ on := 21, ground := Ground.data }, { on := 13, ground := Ground.guard }], guard := some (13, true) }) (v := ?vv23) rfl (by kernel_rfl) (by kernel_rfl) (by kernel_rfl) (fun _ _ _ h => h) (Or.inl ⟨by rfl, ?hy23⟩) hS0 ?rest23
  case hy23 =>
    intro V hV
    obtain ⟨y0, y1, y2, y3, y4⟩ := hV
    go_simp
    all_goals rfl
  simp only [Act.put, List.setIfInBounds_toArray, List.set_cons_zero, List.set_cons_succ]
  refine wpAnyH_take (i := 23) (oi := { dst := some 93, op := Op.binOp BinOp.eql 3 (Operand.tmp 89) (Operand.tmp 92) 3, type := 4, pos := "more.go:105", after := #[{ on := 19, ground := Ground.data }, { on := 22, ground := Ground.data }, { on := 13, ground := Ground.guard }], guard := some (13, true) }) (v := ?vv24) rfl (by kernel_rfl) (by kernel_rfl) (by kernel_rfl) (fun _ _ _ h => h) (Or.inl ⟨by rfl, ?hy24⟩) hS0 ?rest24
  case hy24 =>
    intro V hV
    obtain ⟨y0, y1, y2, y3, y4⟩ := hV
    go_simp
    all_goals rfl
  simp only [Act.put, List.setIfInBounds_toArray, List.set_cons_zero, List.set_cons_succ]
  refine wpAnyH_take (i := 24) (oi := { dst := some 94, op := Op.pick (Operand.tmp 83) (Operand.tmp 93) (Operand.const (Value.bool false)), type := 4, pos := "more.go:105", after := #[{ on := 13, ground := Ground.data }, { on := 23, ground := Ground.data }], guard := none }) (v := ?vv25) rfl (by kernel_rfl) (by kernel_rfl) (by kernel_rfl) (fun _ _ _ h => h) (Or.inl ⟨by rfl, ?hy25⟩) hS0 ?rest25
  case hy25 =>
    intro V hV
    obtain ⟨y0, y1, y2, y3, y4⟩ := hV
    go_simp
    all_goals rfl
  simp only [Act.put, List.setIfInBounds_toArray, List.set_cons_zero, List.set_cons_succ]
  refine wpAnyH_take (i := 25) (oi := { dst := some 95, op := Op.move (Operand.tmp 94), type := 4, pos := "more.go:105", after := #[{ on := 24, ground := Ground.data }, { on := 13, ground := Ground.chain }], guard := none }) (v := ?vv26) rfl (by kernel_rfl) (by kernel_rfl) (by kernel_rfl) (fun _ _ _ h => h) (Or.inl ⟨by rfl, ?hy26⟩) hS0 ?rest26
  case hy26 =>
    intro V hV
    obtain ⟨y0, y1, y2, y3, y4⟩ := hV
    go_simp
    all_goals rfl
  simp only [Act.put, List.setIfInBounds_toArray, List.set_cons_zero, List.set_cons_succ]
  refine wpAnyH_take (i := 26) (oi := { dst := some 96, op := Op.load 24 (Operand.tmp 5), type := 24, pos := "more.go:105", after := #[{ on := 25, ground := Ground.guard }], guard := some (25, true) }) (v := ?vv27) rfl (by kernel_rfl) (by kernel_rfl) (by kernel_rfl) (fun _ _ _ h => h) (Or.inl ⟨by rfl, ?hy27⟩) hS0 ?rest27
  case hy27 =>
    intro V hV
    obtain ⟨y0, y1, y2, y3, y4⟩ := hV
    go_simp
    all_goals rfl
  simp only [Act.put, List.setIfInBounds_toArray, List.set_cons_zero, List.set_cons_succ]
  refine wpAnyH_take (i := 28) (oi := { dst := some 98, op := Op.load 24 (Operand.tmp 1), type := 24, pos := "more.go:105", after := #[{ on := 25, ground := Ground.guard }], guard := some (25, true) }) (v := ?vv28) rfl (by kernel_rfl) (by kernel_rfl) (by kernel_rfl) (fun _ _ _ h => h) (Or.inl ⟨by rfl, ?hy28⟩) hS0 ?rest28
  case hy28 =>
    intro V hV
    obtain ⟨y0, y1, y2, y3, y4⟩ := hV
    go_simp
    all_goals rfl
  simp only [Act.put, List.setIfInBounds_toArray, List.set_cons_zero, List.set_cons_succ]
  refine wpAnyH_ready (rs := [27]) (by kernel_rfl) (by simp) (AllReadyH.cons (o := { dst := some 97, op := Op.call { callee := Callee.value (Operand.func 9), args := #[Operand.tmp 96], argTypes := #[24] }, type := 3, pos := "more.go:105", after := #[{ on := 26, ground := Ground.data }, { on := 25, ground := Ground.chain }, { on := 25, ground := Ground.guard }], guard := some (25, true) }) rfl (fun K' hK => ?_) AllReadyH.nil)
  refine step_call1w _ (by rfl) 9 _ _ (by rfl) (enters_of Tryd.func9 (by kernel_rfl) rfl) _ (by rfl) (HX.out _ (Kept.refl (fun _ => False) W.drew)) ?_
  rintro e w51 ⟨rfl, K51⟩
  refine ⟨_, rfl, ?_⟩
  refine hK.out _ _ (HS.out _ ((Kept.refl (fun _ => False) W.drew).and K51)) (fun _ => ?_)
  clear hK K'
  try (simp only [Act.put, List.setIfInBounds_toArray, List.set_cons_zero, List.set_cons_succ])
  refine wpAnyH_ready (rs := [29]) (by kernel_rfl) (by simp) (AllReadyH.cons (o := { dst := some 99, op := Op.call { callee := Callee.value (Operand.func 9), args := #[Operand.tmp 98], argTypes := #[24] }, type := 3, pos := "more.go:105", after := #[{ on := 28, ground := Ground.data }, { on := 27, ground := Ground.chain }, { on := 25, ground := Ground.guard }], guard := some (25, true) }) rfl (fun K' hK => ?_) AllReadyH.nil)
  refine step_call1w _ (by rfl) 9 _ _ (by rfl) (enters_of Tryd.func9 (by kernel_rfl) rfl) _ (by rfl) (HD.out _ ((Kept.refl (fun _ => False) W.drew).and K51)) ?_
  rintro e w52 ⟨rfl, K52⟩
  refine ⟨_, rfl, ?_⟩
  refine hK.out _ _ (HS.out _ (((Kept.refl (fun _ => False) W.drew).and K51).and K52)) (fun _ => ?_)
  clear hK K'
  try (simp only [Act.put, List.setIfInBounds_toArray, List.set_cons_zero, List.set_cons_succ])
  refine wpAnyH_take (i := 30) (oi := { dst := some 100, op := Op.binOp BinOp.add 3 (Operand.tmp 99) (Operand.const (Value.int IntKind.i64 1)) 3, type := 3, pos := "more.go:105", after := #[{ on := 29, ground := Ground.data }, { on := 25, ground := Ground.guard }], guard := some (25, true) }) (v := ?vv29) rfl (by kernel_rfl) (by kernel_rfl) (by kernel_rfl) (fun _ _ _ h => h) (Or.inl ⟨by rfl, ?hy29⟩) (HS.out _ (((Kept.refl (fun _ => False) W.drew).and K51).and K52)) ?rest29
  case hy29 =>
    intro V hV
    obtain ⟨y0, y1, y2, y3, y4⟩ := hV
    go_simp
    all_goals rfl
  simp only [Act.put, List.setIfInBounds_toArray, List.set_cons_zero, List.set_cons_succ]
  refine wpAnyH_take (i := 31) (oi := { dst := some 101, op := Op.binOp BinOp.eql 3 (Operand.tmp 97) (Operand.tmp 100) 3, type := 4, pos := "more.go:105", after := #[{ on := 27, ground := Ground.data }, { on := 30, ground := Ground.data }, { on := 25, ground := Ground.guard }], guard := some (25, true) }) (v := ?vv30) rfl (by kernel_rfl) (by kernel_rfl) (by kernel_rfl) (fun _ _ _ h => h) (Or.inl ⟨by rfl, ?hy30⟩) (HS.out _ (((Kept.refl (fun _ => False) W.drew).and K51).and K52)) ?rest30
  case hy30 =>
    intro V hV
    obtain ⟨y0, y1, y2, y3, y4⟩ := hV
    go_simp
    all_goals rfl
  simp only [Act.put, List.setIfInBounds_toArray, List.set_cons_zero, List.set_cons_succ]
  refine wpAnyH_take (i := 32) (oi := { dst := some 102, op := Op.pick (Operand.tmp 95) (Operand.tmp 101) (Operand.const (Value.bool false)), type := 4, pos := "more.go:105", after := #[{ on := 25, ground := Ground.data }, { on := 31, ground := Ground.data }], guard := none }) (v := ?vv31) rfl (by kernel_rfl) (by kernel_rfl) (by kernel_rfl) (fun _ _ _ h => h) (Or.inl ⟨by rfl, ?hy31⟩) (HS.out _ (((Kept.refl (fun _ => False) W.drew).and K51).and K52)) ?rest31
  case hy31 =>
    intro V hV
    obtain ⟨y0, y1, y2, y3, y4⟩ := hV
    go_simp
    all_goals rfl
  simp only [Act.put, List.setIfInBounds_toArray, List.set_cons_zero, List.set_cons_succ]
  refine wpAnyH_take (i := 33) (oi := { dst := some 103, op := Op.move (Operand.tmp 102), type := 4, pos := "more.go:105", after := #[{ on := 32, ground := Ground.data }, { on := 29, ground := Ground.chain }], guard := none }) (v := ?vv32) rfl (by kernel_rfl) (by kernel_rfl) (by kernel_rfl) (fun _ _ _ h => h) (Or.inl ⟨by rfl, ?hy32⟩) (HS.out _ (((Kept.refl (fun _ => False) W.drew).and K51).and K52)) ?rest32
  case hy32 =>
    intro V hV
    obtain ⟨y0, y1, y2, y3, y4⟩ := hV
    go_simp
    all_goals rfl
  simp only [Act.put, List.setIfInBounds_toArray, List.set_cons_zero, List.set_cons_succ]
  refine wpAnyH_ready (rs := [34]) (by kernel_rfl) (by simp) (AllReadyH.cons (o := { dst := some 104, op := Op.call { callee := Callee.value (Operand.func 6), args := #[], argTypes := #[] }, type := 4, pos := "more.go:105", after := #[{ on := 33, ground := Ground.chain }, { on := 33, ground := Ground.guard }], guard := some (33, true) }) rfl (fun K' hK => ?_) AllReadyH.nil)
  refine step_call0w _ (by rfl) 6 (by rfl) (enters_of Tryd.func6 (by kernel_rfl) rfl) (HW.out _) ?_
  rintro e w53 ⟨rfl, K53⟩
  refine ⟨_, rfl, ?_⟩
  refine hK.out _ _ (HS.out _ ((((Kept.refl (fun _ => False) W.drew).and K51).and K52).and K53)) (fun _ => ?_)
  clear hK K'
  try (simp only [Act.put, List.setIfInBounds_toArray, List.set_cons_zero, List.set_cons_succ])
  refine wpAnyH_take (i := 35) (oi := { dst := some 105, op := Op.pick (Operand.tmp 103) (Operand.tmp 104) (Operand.const (Value.bool false)), type := 4, pos := "more.go:105", after := #[{ on := 33, ground := Ground.data }, { on := 34, ground := Ground.data }], guard := none }) (v := ?vv33) rfl (by kernel_rfl) (by kernel_rfl) (by kernel_rfl) (fun _ _ _ h => h) (Or.inl ⟨by rfl, ?hy33⟩) (HS.out _ ((((Kept.refl (fun _ => False) W.drew).and K51).and K52).and K53)) ?rest33
  case hy33 =>
    intro V hV
    obtain ⟨y0, y1, y2, y3, y4⟩ := hV
    go_simp
    all_goals rfl
  simp only [Act.put, List.setIfInBounds_toArray, List.set_cons_zero, List.set_cons_succ]
  refine wpAnyH_take (i := 36) (oi := { dst := some 2, op := Op.assign (Operand.tmp 105), type := 4, pos := "more.go:105", after := #[{ on := 35, ground := Ground.data }, { on := 34, ground := Ground.chain }, { on := 0, ground := Ground.phase }, { on := 1, ground := Ground.phase }, { on := 2, ground := Ground.phase }, { on := 3, ground := Ground.phase }, { on := 4, ground := Ground.phase }, { on := 5, ground := Ground.phase }, { on := 6, ground := Ground.phase }, { on := 7, ground := Ground.phase }, { on := 8, ground := Ground.phase }, { on := 9, ground := Ground.phase }, { on := 10, ground := Ground.phase }, { on := 11, ground := Ground.phase }, { on := 12, ground := Ground.phase }, { on := 13, ground := Ground.phase }, { on := 14, ground := Ground.phase }, { on := 15, ground := Ground.phase }, { on := 16, ground := Ground.phase }, { on := 17, ground := Ground.phase }, { on := 18, ground := Ground.phase }, { on := 19, ground := Ground.phase }, { on := 20, ground := Ground.phase }, { on := 21, ground := Ground.phase }, { on := 22, ground := Ground.phase }, { on := 23, ground := Ground.phase }, { on := 24, ground := Ground.phase }, { on := 25, ground := Ground.phase }, { on := 26, ground := Ground.phase }, { on := 27, ground := Ground.phase }, { on := 28, ground := Ground.phase }, { on := 29, ground := Ground.phase }, { on := 30, ground := Ground.phase }, { on := 31, ground := Ground.phase }, { on := 32, ground := Ground.phase }, { on := 33, ground := Ground.phase }, { on := 34, ground := Ground.phase }, { on := 35, ground := Ground.phase }], guard := none }) (v := ?vv34) rfl (by kernel_rfl) (by kernel_rfl) (by kernel_rfl) (fun _ _ _ h => h) (Or.inl ⟨by rfl, ?hy34⟩) (HS.out _ ((((Kept.refl (fun _ => False) W.drew).and K51).and K52).and K53)) ?rest34
  case hy34 =>
    intro V hV
    obtain ⟨y0, y1, y2, y3, y4⟩ := hV
    go_simp
    all_goals rfl
  simp only [Act.put, List.setIfInBounds_toArray, List.set_cons_zero, List.set_cons_succ]
  refine wpAnyH_done (by kernel_rfl) ?_ _
  exact HH.out _ _ _ _ _ _ _ _ _ _ _ _ _ _ _ _ _ _ _ _ _ _ _ _ _ _ _ _ _ _ _ _ _ _ _ _ _ (HKD.out.and ((((Kept.refl (fun _ => False) W.drew).and K51).and K52).and K53))

end Go.Proofs.YtalhdgelkomaiabDoor
