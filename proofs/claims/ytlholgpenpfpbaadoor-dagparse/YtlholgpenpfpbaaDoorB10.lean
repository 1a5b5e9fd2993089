/-
  The document's node: its regions that draw their order.
-/
import Derived.Test.YtlholgpenpfpbaaDoorB09
import Derived.Test.YtlholgpenpfpbaaDoorB01
import Derived.Deep.RegionLaw
namespace Go.Proofs.YtlholgpenpfpbaaDoor
open Go.RowKit

set_option maxRecDepth 100000 in
set_option maxHeartbeats 8000000 in
theorem rn39 {W : World} {nb b o n c i k c6 base : Nat} {a6 : Option Addr} {s : ByteArray} {xs : List Value} {ds : List Deferred} {u0 u1 u2 u3 u6 u7 u8 u9 u10 u11 u12 u13 u14 u16 u17 u18 u19 u20 u21 u22 u23 u24 u25 u26 u27 u28 u29 u30 u31 u32 u33 u34 u35 u36 u37 u38 u39 u40 u41 u42 u43 u44 u45 u46 u47 u48 u49 u50 u51 u52 u53 u54 u55 u56 u57 u58 u59 u60 u61 u62 u63 u64 u65 u66 u67 u68 u69 u70 u71 u72 u73 u74 u75 u76 u77 u78 u79 u80 u81 u82 u83 u84 u85 u86 u87 u88 u89 u90 u91 u92 u93 u94 u95 u96 u97 u98 u99 u100 u101 u102 u103 u104 u105 u106 u107 u108 u109 u110 u111 u112 u113 u114 u115 u116 u117 u118 u119 u120 u121 u122 u123 u124 u125 u126 u127 u128 u129 u130 u131 u132 u133 u134 u135 u136 u137 u138 u139 u140 u141 u142 u143 u144 u145 u146 u147 u148 u149 u150 u151 u152 u153 u154 u155 u156 u157 u158 u159 u160 u161 u162 u163 u164 u165 u166 u167 u168 u169 u170 u171 u172 u173 u174 u175 u176 : Value} (K : Act → World → Prop)
    (x0 : W.cell? ⟨nb, 6, none⟩ = some (.slice a6 k c6)) (xz : W.frozen? ⟨nb, 6, none⟩ = false) (x2 : W.cell? ⟨b, o + i, none⟩ = some (.string s)) (hnb : nb < base) (hbW : base ≤ W.heap.size) (hi : i < n) (hn : n ≤ 1000000) (hk : k ≤ 1000000) (hR : W.ownsRow base 9 1 (.slice a6 k c6) k xs)
    (h : ∀ (v167 v168 v169 v170 v171 v172 v173 v174 v175 : Value) (a4 : Option Addr) (c4 : Nat) (w4 : World), w4.ownsRow base 9 1 (.slice a4 (k + 1) c4) (k + 1) (xs ++ [.string s]) → Kept (fun j => base ≤ j) W w4 → K { tmps := #[u0, u1, u2, u3, .pointer (some ⟨nb, 0, none⟩), .slice (some ⟨b, o, none⟩) n c, u6, u7, u8, u9, u10, u11, u12, u13, u14, .int .i64 (i : Nat), u16, u17, u18, u19, u20, u21, u22, u23, u24, u25, u26, u27, u28, u29, u30, u31, u32, u33, u34, u35, u36, u37, u38, u39, u40, u41, u42, u43, u44, u45, u46, u47, u48, u49, u50, u51, u52, u53, u54, u55, u56, u57, u58, u59, u60, u61, u62, u63, u64, u65, u66, u67, u68, u69, u70, u71, u72, u73, u74, u75, u76, u77, u78, u79, u80, u81, u82, u83, u84, u85, u86, u87, u88, u89, u90, u91, u92, u93, u94, u95, u96, u97, u98, u99, u100, u101, u102, u103, u104, u105, u106, u107, u108, u109, u110, u111, u112, u113, u114, u115, u116, u117, u118, u119, u120, u121, u122, u123, u124, u125, u126, u127, u128, u129, u130, u131, u132, u133, u134, u135, u136, u137, u138, u139, u140, u141, u142, u143, u144, u145, u146, u147, u148, u149, u150, u151, u152, u153, u154, u155, u156, u157, u158, u159, u160, u161, u162, u163, u164, u165, u166, v167, v168, v169, v170, v171, v172, v173, v174, v175, u176], defers := ds } (w4.setCell ⟨nb, 6, none⟩ (.slice a4 (k + 1) c4))) :
    (Code.region 39 #[{ dst := some 167, op := Op.fieldAddr 44 (Operand.tmp 4) 6, type := 0, pos := "ref.go:261", after := #[], guard := none }, { dst := some 168, op := Op.load 22 (Operand.tmp 167), type := 22, pos := "ref.go:261", after := #[{ on := 0, ground := Ground.data }], guard := none }, { dst := some 169, op := Op.move (Operand.tmp 5), type := 22, pos := "ref.go:261", after := #[], guard := none }, { dst := some 170, op := Op.move (Operand.tmp 15), type := 3, pos := "ref.go:261", after := #[], guard := none }, { dst := some 171, op := Op.indexAddr 22 (Operand.tmp 169) (Operand.tmp 170), type := 0, pos := "ref.go:261", after := #[{ on := 2, ground := Ground.data }, { on := 3, ground := Ground.data }], guard := none }, { dst := some 172, op := Op.load 9 (Operand.tmp 171), type := 9, pos := "ref.go:261", after := #[{ on := 4, ground := Ground.data }], guard := none }, { dst := some 173, op := Op.buildSlice 22 1 #[(0, Operand.tmp 172)], type := 22, pos := "ref.go:261", after := #[{ on := 5, ground := Ground.data }], guard := none }, { dst := some 174, op := Op.call { callee := Callee.builtin Builtin.append, args := #[Operand.tmp 168, Operand.tmp 173], argTypes := #[22, 22] }, type := 22, pos := "ref.go:261", after := #[{ on := 1, ground := Ground.data }, { on := 6, ground := Ground.data }], guard := none }, { dst := some 175, op := Op.fieldAddr 44 (Operand.tmp 4) 6, type := 0, pos := "ref.go:261", after := #[{ on := 0, ground := Ground.phase }, { on := 1, ground := Ground.phase }, { on := 2, ground := Ground.phase }, { on := 3, ground := Ground.phase }, { on := 4, ground := Ground.phase }, { on := 5, ground := Ground.phase }, { on := 6, ground := Ground.phase }, { on := 7, ground := Ground.phase }], guard := none }, { dst := none, op := Op.store 22 (Operand.tmp 175) (Operand.tmp 174), type := 0, pos := "ref.go:261", after := #[{ on := 8, ground := Ground.data }, { on := 7, ground := Ground.data }, { on := 7, ground := Ground.chain }, { on := 0, ground := Ground.phase }, { on := 1, ground := Ground.phase }, { on := 2, ground := Ground.phase }, { on := 3, ground := Ground.phase }, { on := 4, ground := Ground.phase }, { on := 5, ground := Ground.phase }, { on := 6, ground := Ground.phase }, { on := 7, ground := Ground.phase }], guard := none }] true).wp Tryd.prog (onlyN K) { tmps := #[u0, u1, u2, u3, .pointer (some ⟨nb, 0, none⟩), .slice (some ⟨b, o, none⟩) n c, u6, u7, u8, u9, u10, u11, u12, u13, u14, .int .i64 (i : Nat), u16, u17, u18, u19, u20, u21, u22, u23, u24, u25, u26, u27, u28, u29, u30, u31, u32, u33, u34, u35, u36, u37, u38, u39, u40, u41, u42, u43, u44, u45, u46, u47, u48, u49, u50, u51, u52, u53, u54, u55, u56, u57, u58, u59, u60, u61, u62, u63, u64, u65, u66, u67, u68, u69, u70, u71, u72, u73, u74, u75, u76, u77, u78, u79, u80, u81, u82, u83, u84, u85, u86, u87, u88, u89, u90, u91, u92, u93, u94, u95, u96, u97, u98, u99, u100, u101, u102, u103, u104, u105, u106, u107, u108, u109, u110, u111, u112, u113, u114, u115, u116, u117, u118, u119, u120, u121, u122, u123, u124, u125, u126, u127, u128, u129, u130, u131, u132, u133, u134, u135, u136, u137, u138, u139, u140, u141, u142, u143, u144, u145, u146, u147, u148, u149, u150, u151, u152, u153, u154, u155, u156, u157, u158, u159, u160, u161, u162, u163, u164, u165, u166, u167, u168, u169, u170, u171, u172, u173, u174, u175, u176], defers := ds } W := by
  obtain ⟨j0, hj0, hy0, hy1, hy2⟩ := info_parts Tryd.info9
  have HH : Hid _ := h
  have KD := Kept.drew (fun j => base ≤ j) W
  have hh : ∀ {V : World} {ad : Addr} {v : Value}, Kept (fun j => base ≤ j) W V → W.cell? ad = some v → ad.block < base → V.cell? ad = some v := fun {V ad v} KV hc hne => by
    rw [World.cell?_of_block (w := W) (KV.block _ (World.block_lt_of_cell? W _ hc) (by omega))]
    exact hc
  have HC : Hid (∀ V, Kept (fun j => base ≤ j) W.drew V → V.cell? ⟨nb, 6, none⟩ = some (.slice a6 k c6) ∧ V.frozen? ⟨nb, 6, none⟩ = false) := fun V KV => ⟨hh (KD.and KV) x0 hnb, by
    have hb := (KD.and KV).block nb (World.block_lt_of_cell? W _ x0) (by omega)
    rw [← xz]
    unfold World.frozen?
    rw [hb]⟩
  have HR : Hid (W.drew.ownsRow base 9 1 (.slice a6 k c6) k xs) := hR
  have HKD : Hid (Kept (fun j => base ≤ j) W W.drew) := KD
  have e1 : (i : Int) < (n : Int) := by omega
  have w1 : IntKind.i64.wrap (i : Int) = (i : Int) := by rw [IntKind.wrap_i64]; omega
  have r0 : W.drew.cell? ⟨nb, 6, none⟩ = some (.slice a6 k c6) := x0
  have r2 : W.drew.cell? ⟨b, o + i, none⟩ = some (.string s) := x2
  have r3 : (W.alloc (.cells #[.string s] 9)).cell? ⟨nb, 6, none⟩ = some (.slice a6 k c6) := hh (Kept.alloc _ _ _) x0 hnb
  have hsz : base ≤ W.drew.heap.size := hbW
  clear h KD x0 x2 xz hh hR
  go_region_law
    (first
      | (refine step_append_sr _ (by rfl) _ _ 22 (by rfl) base 9 j0 _ 1 16 Tryd.underlying22 hj0 hy0 hy1 hy2 rfl (by decide) (.slice a6 k c6) k xs (by rfl) (HR.out.alloc _) _ (by rfl) 1 [.string s] (.inl ⟨_, 1, rfl, rfl, World.news_of_block (heap_alloc_new _ _)⟩) (strsV_one [s]) (by unfold maxLen; omega) (by omega) (by simp; omega) ?_; intro a4 c4 w4 ho4 hg4 _ hl4; have K4 : Kept (fun j => base ≤ j) W.drew w4 := (Kept.alloc _ _ _).and (Kept.grown hg4 (fun j e => (HR.out.lt j e).1)); obtain ⟨t1, t2⟩ := HC.out w4 K4)
      | fail)
  all_goals exact HH.out _ _ _ _ _ _ _ _ _ a4 c4 w4 ho4 (HKD.out.and K4)

set_option maxRecDepth 100000 in
set_option maxHeartbeats 8000000 in
theorem rn9 {W : World} {nb b o n c : Nat} {s2 : ByteArray} {q0 q1 q2 q3 q4 q5 q6 : Value} {ds : List Deferred} {u1 u2 u3 u5 u6 u7 u8 u9 u10 u11 u12 u13 u14 u15 u16 u17 u18 u19 u20 u21 u22 u23 u24 u25 u26 u27 u28 u29 u30 u31 u32 u33 u34 u35 u36 u37 u38 u39 u40 u41 u42 u43 u44 u45 u46 u47 u48 u49 u50 u51 u52 u53 u54 u55 u56 u57 u58 u59 u60 u61 u62 u63 u64 u65 u66 u67 u68 u69 u70 u71 u72 u73 u74 u75 u76 u77 u78 u79 u80 u81 u82 u83 u84 u85 u86 u87 u88 u89 u90 u91 u92 u93 u94 u95 u96 u97 u98 u99 u100 u101 u102 u103 u104 u105 u106 u107 u108 u109 u110 u111 u112 u113 u114 u115 u116 u117 u118 u119 u120 u121 u122 u123 u124 u125 u126 u127 u128 u129 u130 u131 u132 u133 u134 u135 u136 u137 u138 u139 u140 u141 u142 u143 u144 u145 u146 u147 u148 u149 u150 u151 u152 u153 u154 u155 u156 u157 u158 u159 u160 u161 u162 u163 u164 u165 u166 u167 u168 u169 u170 u171 u172 u173 u174 u175 u176 : Value} (K : Act → World → Prop)
    (hb : W.heap[nb]? = some (.cells #[q0, q1, q2, q3, q4, q5, q6] 44 (0, 0))) (x2 : W.cell? ⟨b, o + 2, none⟩ = some (.string s2)) (hne : b ≠ nb) (hn : 2 < n)
    (h : ∀ (v39 v40 v41 v42 v43 v44 : Value) (W' : World), W'.heap[nb]? = some (.cells #[q0, .int .i64 1, .string s2, q3, q4, .int .i64 1, q6] 44 (0, 0)) → Kept (fun j => j = nb) W W' → K { tmps := #[.slice (some ⟨b, o, none⟩) n c, u1, u2, u3, .pointer (some ⟨nb, 0, none⟩), u5, u6, u7, u8, u9, u10, u11, u12, u13, u14, u15, u16, u17, u18, u19, u20, u21, u22, u23, u24, u25, u26, u27, u28, u29, u30, u31, u32, u33, u34, u35, u36, u37, u38, v39, v40, v41, v42, v43, v44, u45, u46, u47, u48, u49, u50, u51, u52, u53, u54, u55, u56, u57, u58, u59, u60, u61, u62, u63, u64, u65, u66, u67, u68, u69, u70, u71, u72, u73, u74, u75, u76, u77, u78, u79, u80, u81, u82, u83, u84, u85, u86, u87, u88, u89, u90, u91, u92, u93, u94, u95, u96, u97, u98, u99, u100, u101, u102, u103, u104, u105, u106, u107, u108, u109, u110, u111, u112, u113, u114, u115, u116, u117, u118, u119, u120, u121, u122, u123, u124, u125, u126, u127, u128, u129, u130, u131, u132, u133, u134, u135, u136, u137, u138, u139, u140, u141, u142, u143, u144, u145, u146, u147, u148, u149, u150, u151, u152, u153, u154, u155, u156, u157, u158, u159, u160, u161, u162, u163, u164, u165, u166, u167, u168, u169, u170, u171, u172, u173, u174, u175, u176], defers := ds } W') :
    (Code.region 9 #[{ dst := some 39, op := Op.move (Operand.tmp 0), type := 22, pos := "ref.go:226", after := #[{ on := 4, ground := Ground.gcOnly Departure.lateStores }], guard := none }, { dst := some 40, op := Op.indexAddr 22 (Operand.tmp 39) (Operand.const (Value.int IntKind.i64 2)), type := 0, pos := "ref.go:226", after := #[{ on := 0, ground := Ground.data }, { on := 4, ground := Ground.gcOnly Departure.lateStores }], guard := none }, { dst := some 41, op := Op.load 9 (Operand.tmp 40), type := 9, pos := "ref.go:226", after := #[{ on := 1, ground := Ground.data }, { on := 4, ground := Ground.gcOnly Departure.lateStores }], guard := none }, { dst := some 42, op := Op.fieldAddr 44 (Operand.tmp 4) 1, type := 0, pos := "ref.go:226", after := #[{ on := 0, ground := Ground.textOnly Departure.lateStores }, { on := 1, ground := Ground.textOnly Departure.lateStores }, { on := 2, ground := Ground.textOnly Departure.lateStores }], guard := none }, { dst := none, op := Op.store 3 (Operand.tmp 42) (Operand.const (Value.int IntKind.i64 1)), type := 0, pos := "ref.go:226", after := #[{ on := 3, ground := Ground.data }, { on := 0, ground := Ground.textOnly Departure.lateStores }, { on := 1, ground := Ground.textOnly Departure.lateStores }, { on := 2, ground := Ground.textOnly Departure.lateStores }], guard := none }, { dst := some 43, op := Op.fieldAddr 44 (Operand.tmp 4) 2, type := 0, pos := "ref.go:226", after := #[{ on := 0, ground := Ground.phase }, { on := 1, ground := Ground.phase }, { on := 2, ground := Ground.phase }, { on := 3, ground := Ground.phase }, { on := 4, ground := Ground.phase }], guard := none }, { dst := none, op := Op.store 9 (Operand.tmp 43) (Operand.tmp 41), type := 0, pos := "ref.go:226", after := #[{ on := 5, ground := Ground.data }, { on := 2, ground := Ground.data }, { on := 4, ground := Ground.chain }, { on := 0, ground := Ground.phase }, { on := 1, ground := Ground.phase }, { on := 2, ground := Ground.phase }, { on := 3, ground := Ground.phase }, { on := 4, ground := Ground.phase }], guard := none }, { dst := some 44, op := Op.fieldAddr 44 (Operand.tmp 4) 5, type := 0, pos := "ref.go:226", after := #[{ on := 0, ground := Ground.phase }, { on := 1, ground := Ground.phase }, { on := 2, ground := Ground.phase }, { on := 3, ground := Ground.phase }, { on := 4, ground := Ground.phase }, { on := 5, ground := Ground.phase }, { on := 6, ground := Ground.phase }], guard := none }, { dst := none, op := Op.store 3 (Operand.tmp 44) (Operand.const (Value.int IntKind.i64 1)), type := 0, pos := "ref.go:226", after := #[{ on := 7, ground := Ground.data }, { on := 6, ground := Ground.chain }, { on := 0, ground := Ground.phase }, { on := 1, ground := Ground.phase }, { on := 2, ground := Ground.phase }, { on := 3, ground := Ground.phase }, { on := 4, ground := Ground.phase }, { on := 5, ground := Ground.phase }, { on := 6, ground := Ground.phase }], guard := none }] true).wp Tryd.prog (onlyN K) { tmps := #[.slice (some ⟨b, o, none⟩) n c, u1, u2, u3, .pointer (some ⟨nb, 0, none⟩), u5, u6, u7, u8, u9, u10, u11, u12, u13, u14, u15, u16, u17, u18, u19, u20, u21, u22, u23, u24, u25, u26, u27, u28, u29, u30, u31, u32, u33, u34, u35, u36, u37, u38, u39, u40, u41, u42, u43, u44, u45, u46, u47, u48, u49, u50, u51, u52, u53, u54, u55, u56, u57, u58, u59, u60, u61, u62, u63, u64, u65, u66, u67, u68, u69, u70, u71, u72, u73, u74, u75, u76, u77, u78, u79, u80, u81, u82, u83, u84, u85, u86, u87, u88, u89, u90, u91, u92, u93, u94, u95, u96, u97, u98, u99, u100, u101, u102, u103, u104, u105, u106, u107, u108, u109, u110, u111, u112, u113, u114, u115, u116, u117, u118, u119, u120, u121, u122, u123, u124, u125, u126, u127, u128, u129, u130, u131, u132, u133, u134, u135, u136, u137, u138, u139, u140, u141, u142, u143, u144, u145, u146, u147, u148, u149, u150, u151, u152, u153, u154, u155, u156, u157, u158, u159, u160, u161, u162, u163, u164, u165, u166, u167, u168, u169, u170, u171, u172, u173, u174, u175, u176], defers := ds } W := by
  have HH : Hid _ := h
  have KD := Kept.drew (fun j => j = nb) W
  have hh : ∀ {V : World} {k : Nat} {v : Value}, Kept (fun j => j = nb) W V → W.cell? ⟨b, k, none⟩ = some v → V.cell? ⟨b, k, none⟩ = some v := fun {V k v} KV hc => by
    rw [World.cell?_of_block (w := W) (KV.block _ (World.block_lt_of_cell? W _ hc) hne)]
    exact hc
  have HS : Hid (∀ V, Kept (fun j => j = nb) W.drew V → V.cell? ⟨b, o + 2, none⟩ = some (.string s2)) := fun V KV => hh (KD.and KV) x2
  have HKD : Hid (Kept (fun j => j = nb) W W.drew) := KD
  have HB0 : Hid (W.drew.heap[nb]? = some (.cells #[q0, q1, q2, q3, q4, q5, q6] 44 (0, 0))) := hb
  have hS0 := HS.out W.drew (Kept.refl _ _)
  have e2 : (2 : Int) < (n : Int) := by omega
  clear h KD hb hh x2
  refine wp_region_held_drew (S := fun V => V.cell? ⟨b, o + 2, none⟩ = some (.string s2)) (by kernel_rfl) hS0 (fun _ => ?_)
  generalize W.drew = V0 at *
  refine wpAnyH_take (i := 0) (oi := { dst := some 39, op := Op.move (Operand.tmp 0), type := 22, pos := "ref.go:226", after := #[{ on := 4, ground := Ground.gcOnly Departure.lateStores }], guard := none }) (v := ?vv1) rfl (by kernel_rfl) (by kernel_rfl) (by kernel_rfl) (fun _ _ _ h => h) (Or.inl ⟨by rfl, ?hy1⟩) hS0 ?rest1
  case hy1 =>
    intro V hV
    obtain y0 := hV
    go_simp
    all_goals rfl
  simp only [Act.put, List.setIfInBounds_toArray, List.set_cons_zero, List.set_cons_succ]
  refine wpAnyH_take (i := 1) (oi := { dst := some 40, op := Op.indexAddr 22 (Operand.tmp 39) (Operand.const (Value.int IntKind.i64 2)), type := 0, pos := "ref.go:226", after := #[{ on := 0, ground := Ground.data }, { on := 4, ground := Ground.gcOnly Departure.lateStores }], guard := none }) (v := ?vv2) rfl (by kernel_rfl) (by kernel_rfl) (by kernel_rfl) (fun _ _ _ h => h) (Or.inl ⟨by rfl, ?hy2⟩) hS0 ?rest2
  case hy2 =>
    intro V hV
    obtain y0 := hV
    go_simp
    all_goals rfl
  simp only [Act.put, List.setIfInBounds_toArray, List.set_cons_zero, List.set_cons_succ]
  refine wpAnyH_take (i := 2) (oi := { dst := some 41, op := Op.load 9 (Operand.tmp 40), type := 9, pos := "ref.go:226", after := #[{ on := 1, ground := Ground.data }, { on := 4, ground := Ground.gcOnly Departure.lateStores }], guard := none }) (v := ?vv3) rfl (by kernel_rfl) (by kernel_rfl) (by kernel_rfl) (fun _ _ _ h => h) (Or.inl ⟨by rfl, ?hy3⟩) hS0 ?rest3
  case hy3 =>
    intro V hV
    obtain y0 := hV
    go_simp
    all_goals rfl
  simp only [Act.put, List.setIfInBounds_toArray, List.set_cons_zero, List.set_cons_succ]
  refine wpAnyH_take (i := 3) (oi := { dst := some 42, op := Op.fieldAddr 44 (Operand.tmp 4) 1, type := 0, pos := "ref.go:226", after := #[{ on := 0, ground := Ground.textOnly Departure.lateStores }, { on := 1, ground := Ground.textOnly Departure.lateStores }, { on := 2, ground := Ground.textOnly Departure.lateStores }], guard := none }) (v := ?vv4) rfl (by kernel_rfl) (by kernel_rfl) (by kernel_rfl) (fun _ _ _ h => h) (Or.inl ⟨by rfl, ?hy4⟩) hS0 ?rest4
  case hy4 =>
    intro V hV
    obtain y0 := hV
    go_simp
    all_goals rfl
  simp only [Act.put, List.setIfInBounds_toArray, List.set_cons_zero, List.set_cons_succ]
  refine wpAnyH_ready (rs := [4]) (by kernel_rfl) (by simp) (AllReadyH.cons (o := { dst := none, op := Op.store 3 (Operand.tmp 42) (Operand.const (Value.int IntKind.i64 1)), type := 0, pos := "ref.go:226", after := #[{ on := 3, ground := Ground.data }, { on := 0, ground := Ground.textOnly Departure.lateStores }, { on := 1, ground := Ground.textOnly Departure.lateStores }, { on := 2, ground := Ground.textOnly Departure.lateStores }], guard := none }) rfl (fun K' hK => ?_) AllReadyH.nil)
  obtain ⟨⟨p0, p1, p2, p3, p4, p5, p6⟩, f0, f1, f2, f3, f4, f5, f6⟩ := seven HB0.out
  have HB1 : Hid (((V0).setCell ⟨nb, 1, none⟩ (.int .i64 1)).heap[nb]? = some (.cells #[q0, .int .i64 1, q2, q3, q4, q5, q6] 44 (0, 0))) := by
    have hq := HB0.out
    show _ = _
    simp [World.setCell, Array.getElem?_modify] at hq ⊢
    simp [hq]
  have HK1 : Hid (Kept (fun j => j = nb) V0 ((V0).setCell ⟨nb, 1, none⟩ (.int .i64 1))) := ((Kept.refl (fun j => j = nb) V0)).and (Kept.setCell (S := fun j => j = nb) _ ⟨nb, 1, none⟩ _ rfl)
  go_simp
  clear p0 p1 p2 p3 p4 p5 p6 f0 f1 f2 f3 f4 f5 f6
  refine hK.out _ _ (HS.out _ HK1.out) (fun _ => ?_)
  generalize (V0).setCell ⟨nb, 1, none⟩ (.int .i64 1) = V1 at *
  clear hK K'
  try (simp only [Act.put, List.setIfInBounds_toArray, List.set_cons_zero, List.set_cons_succ])
  refine wpAnyH_take (i := 5) (oi := { dst := some 43, op := Op.fieldAddr 44 (Operand.tmp 4) 2, type := 0, pos := "ref.go:226", after := #[{ on := 0, ground := Ground.phase }, { on := 1, ground := Ground.phase }, { on := 2, ground := Ground.phase }, { on := 3, ground := Ground.phase }, { on := 4, ground := Ground.phase }], guard := none }) (v := ?vv5) rfl (by kernel_rfl) (by kernel_rfl) (by kernel_rfl) (fun _ _ _ h => h) (Or.inl ⟨by rfl, ?hy5⟩) (HS.out _ HK1.out) ?rest5
  case hy5 =>
    intro V hV
    obtain y0 := hV
    go_simp
    all_goals rfl
  simp only [Act.put, List.setIfInBounds_toArray, List.set_cons_zero, List.set_cons_succ]
  refine wpAnyH_ready (rs := [6]) (by kernel_rfl) (by simp) (AllReadyH.cons (o := { dst := none, op := Op.store 9 (Operand.tmp 43) (Operand.tmp 41), type := 0, pos := "ref.go:226", after := #[{ on := 5, ground := Ground.data }, { on := 2, ground := Ground.data }, { on := 4, ground := Ground.chain }, { on := 0, ground := Ground.phase }, { on := 1, ground := Ground.phase }, { on := 2, ground := Ground.phase }, { on := 3, ground := Ground.phase }, { on := 4, ground := Ground.phase }], guard := none }) rfl (fun K' hK => ?_) AllReadyH.nil)
  obtain ⟨⟨p0, p1, p2, p3, p4, p5, p6⟩, f0, f1, f2, f3, f4, f5, f6⟩ := seven HB1.out
  have HB2 : Hid (((V1).setCell ⟨nb, 2, none⟩ (.string s2)).heap[nb]? = some (.cells #[q0, .int .i64 1, .string s2, q3, q4, q5, q6] 44 (0, 0))) := by
    have hq := HB1.out
    show _ = _
    simp [World.setCell, Array.getElem?_modify] at hq ⊢
    simp [hq]
  have HK2 : Hid (Kept (fun j => j = nb) V0 ((V1).setCell ⟨nb, 2, none⟩ (.string s2))) := (HK1.out).and (Kept.setCell (S := fun j => j = nb) _ ⟨nb, 2, none⟩ _ rfl)
  go_simp
  clear p0 p1 p2 p3 p4 p5 p6 f0 f1 f2 f3 f4 f5 f6
  refine hK.out _ _ (HS.out _ HK2.out) (fun _ => ?_)
  generalize (V1).setCell ⟨nb, 2, none⟩ (.string s2) = V2 at *
  clear hK K'
  try (simp only [Act.put, List.setIfInBounds_toArray, List.set_cons_zero, List.set_cons_succ])
  refine wpAnyH_take (i := 7) (oi := { dst := some 44, op := Op.fieldAddr 44 (Operand.tmp 4) 5, type := 0, pos := "ref.go:226", after := #[{ on := 0, ground := Ground.phase }, { on := 1, ground := Ground.phase }, { on := 2, ground := Ground.phase }, { on := 3, ground := Ground.phase }, { on := 4, ground := Ground.phase }, { on := 5, ground := Ground.phase }, { on := 6, ground := Ground.phase }], guard := none }) (v := ?vv6) rfl (by kernel_rfl) (by kernel_rfl) (by kernel_rfl) (fun _ _ _ h => h) (Or.inl ⟨by rfl, ?hy6⟩) (HS.out _ HK2.out) ?rest6
  case hy6 =>
    intro V hV
    obtain y0 := hV
    go_simp
    all_goals rfl
  simp only [Act.put, List.setIfInBounds_toArray, List.set_cons_zero, List.set_cons_succ]
  refine wpAnyH_ready (rs := [8]) (by kernel_rfl) (by simp) (AllReadyH.cons (o := { dst := none, op := Op.store 3 (Operand.tmp 44) (Operand.const (Value.int IntKind.i64 1)), type := 0, pos := "ref.go:226", after := #[{ on := 7, ground := Ground.data }, { on := 6, ground := Ground.chain }, { on := 0, ground := Ground.phase }, { on := 1, ground := Ground.phase }, { on := 2, ground := Ground.phase }, { on := 3, ground := Ground.phase }, { on := 4, ground := Ground.phase }, { on := 5, ground := Ground.phase }, { on := 6, ground := Ground.phase }], guard := none }) rfl (fun K' hK => ?_) AllReadyH.nil)
  obtain ⟨⟨p0, p1, p2, p3, p4, p5, p6⟩, f0, f1, f2, f3, f4, f5, f6⟩ := seven HB2.out
  have HB3 : Hid (((V2).setCell ⟨nb, 5, none⟩ (.int .i64 1)).heap[nb]? = some (.cells #[q0, .int .i64 1, .string s2, q3, q4, .int .i64 1, q6] 44 (0, 0))) := by
    have hq := HB2.out
    show _ = _
    simp [World.setCell, Array.getElem?_modify] at hq ⊢
    simp [hq]
  have HK3 : Hid (Kept (fun j => j = nb) V0 ((V2).setCell ⟨nb, 5, none⟩ (.int .i64 1))) := (HK2.out).and (Kept.setCell (S := fun j => j = nb) _ ⟨nb, 5, none⟩ _ rfl)
  go_simp
  clear p0 p1 p2 p3 p4 p5 p6 f0 f1 f2 f3 f4 f5 f6
  refine hK.out _ _ (HS.out _ HK3.out) (fun _ => ?_)
  generalize (V2).setCell ⟨nb, 5, none⟩ (.int .i64 1) = V3 at *
  clear hK K'
  try (simp only [Act.put, List.setIfInBounds_toArray, List.set_cons_zero, List.set_cons_succ])
  refine wpAnyH_done (by kernel_rfl) ?_ _
  exact HH.out _ _ _ _ _ _ _ HB3.out (HKD.out.and HK3.out)

set_option maxRecDepth 100000 in
set_option maxHeartbeats 8000000 in
theorem rn21 {W : World} {nb b o n c : Nat} {s2 : ByteArray} {q0 q1 q2 q3 q4 q5 q6 : Value} {ds : List Deferred} {u1 u2 u3 u5 u6 u7 u8 u9 u10 u11 u12 u13 u14 u15 u16 u17 u18 u19 u20 u21 u22 u23 u24 u25 u26 u27 u28 u29 u30 u31 u32 u33 u34 u35 u36 u37 u38 u39 u40 u41 u42 u43 u44 u45 u46 u47 u48 u49 u50 u51 u52 u53 u54 u55 u56 u57 u58 u59 u60 u61 u62 u63 u64 u65 u66 u67 u68 u69 u70 u71 u72 u73 u74 u75 u76 u77 u78 u79 u80 u81 u82 u83 u84 u85 u86 u87 u88 u89 u90 u91 u92 u93 u94 u95 u96 u97 u98 u99 u100 u101 u102 u103 u104 u105 u106 u107 u108 u109 u110 u111 u112 u113 u114 u115 u116 u117 u118 u119 u120 u121 u122 u123 u124 u125 u126 u127 u128 u129 u130 u131 u132 u133 u134 u135 u136 u137 u138 u139 u140 u141 u142 u143 u144 u145 u146 u147 u148 u149 u150 u151 u152 u153 u154 u155 u156 u157 u158 u159 u160 u161 u162 u163 u164 u165 u166 u167 u168 u169 u170 u171 u172 u173 u174 u175 u176 : Value} (K : Act → World → Prop)
    (hb : W.heap[nb]? = some (.cells #[q0, q1, q2, q3, q4, q5, q6] 44 (0, 0))) (x2 : W.cell? ⟨b, o + 2, none⟩ = some (.string s2)) (hne : b ≠ nb) (hn : 2 < n)
    (h : ∀ (v88 v89 v90 v91 v92 : Value) (W' : World), W'.heap[nb]? = some (.cells #[q0, .int .i64 3, .string s2, q3, q4, q5, q6] 44 (0, 0)) → Kept (fun j => j = nb) W W' → K { tmps := #[.slice (some ⟨b, o, none⟩) n c, u1, u2, u3, .pointer (some ⟨nb, 0, none⟩), u5, u6, u7, u8, u9, u10, u11, u12, u13, u14, u15, u16, u17, u18, u19, u20, u21, u22, u23, u24, u25, u26, u27, u28, u29, u30, u31, u32, u33, u34, u35, u36, u37, u38, u39, u40, u41, u42, u43, u44, u45, u46, u47, u48, u49, u50, u51, u52, u53, u54, u55, u56, u57, u58, u59, u60, u61, u62, u63, u64, u65, u66, u67, u68, u69, u70, u71, u72, u73, u74, u75, u76, u77, u78, u79, u80, u81, u82, u83, u84, u85, u86, u87, v88, v89, v90, v91, v92, u93, u94, u95, u96, u97, u98, u99, u100, u101, u102, u103, u104, u105, u106, u107, u108, u109, u110, u111, u112, u113, u114, u115, u116, u117, u118, u119, u120, u121, u122, u123, u124, u125, u126, u127, u128, u129, u130, u131, u132, u133, u134, u135, u136, u137, u138, u139, u140, u141, u142, u143, u144, u145, u146, u147, u148, u149, u150, u151, u152, u153, u154, u155, u156, u157, u158, u159, u160, u161, u162, u163, u164, u165, u166, u167, u168, u169, u170, u171, u172, u173, u174, u175, u176], defers := ds } W') :
    (Code.region 21 #[{ dst := some 88, op := Op.move (Operand.tmp 0), type := 22, pos := "ref.go:239", after := #[{ on := 4, ground := Ground.gcOnly Departure.lateStores }], guard := none }, { dst := some 89, op := Op.indexAddr 22 (Operand.tmp 88) (Operand.const (Value.int IntKind.i64 2)), type := 0, pos := "ref.go:239", after := #[{ on := 0, ground := Ground.data }, { on := 4, ground := Ground.gcOnly Departure.lateStores }], guard := none }, { dst := some 90, op := Op.load 9 (Operand.tmp 89), type := 9, pos := "ref.go:239", after := #[{ on := 1, ground := Ground.data }, { on := 4, ground := Ground.gcOnly Departure.lateStores }], guard := none }, { dst := some 91, op := Op.fieldAddr 44 (Operand.tmp 4) 1, type := 0, pos := "ref.go:239", after := #[{ on := 0, ground := Ground.textOnly Departure.lateStores }, { on := 1, ground := Ground.textOnly Departure.lateStores }, { on := 2, ground := Ground.textOnly Departure.lateStores }], guard := none }, { dst := none, op := Op.store 3 (Operand.tmp 91) (Operand.const (Value.int IntKind.i64 3)), type := 0, pos := "ref.go:239", after := #[{ on := 3, ground := Ground.data }, { on := 0, ground := Ground.textOnly Departure.lateStores }, { on := 1, ground := Ground.textOnly Departure.lateStores }, { on := 2, ground := Ground.textOnly Departure.lateStores }], guard := none }, { dst := some 92, op := Op.fieldAddr 44 (Operand.tmp 4) 2, type := 0, pos := "ref.go:239", after := #[{ on := 0, ground := Ground.phase }, { on := 1, ground := Ground.phase }, { on := 2, ground := Ground.phase }, { on := 3, ground := Ground.phase }, { on := 4, ground := Ground.phase }], guard := none }, { dst := none, op := Op.store 9 (Operand.tmp 92) (Operand.tmp 90), type := 0, pos := "ref.go:239", after := #[{ on := 5, ground := Ground.data }, { on := 2, ground := Ground.data }, { on := 4, ground := Ground.chain }, { on := 0, ground := Ground.phase }, { on := 1, ground := Ground.phase }, { on := 2, ground := Ground.phase }, { on := 3, ground := Ground.phase }, { on := 4, ground := Ground.phase }], guard := none }] true).wp Tryd.prog (onlyN K) { tmps := #[.slice (some ⟨b, o, none⟩) n c, u1, u2, u3, .pointer (some ⟨nb, 0, none⟩), u5, u6, u7, u8, u9, u10, u11, u12, u13, u14, u15, u16, u17, u18, u19, u20, u21, u22, u23, u24, u25, u26, u27, u28, u29, u30, u31, u32, u33, u34, u35, u36, u37, u38, u39, u40, u41, u42, u43, u44, u45, u46, u47, u48, u49, u50, u51, u52, u53, u54, u55, u56, u57, u58, u59, u60, u61, u62, u63, u64, u65, u66, u67, u68, u69, u70, u71, u72, u73, u74, u75, u76, u77, u78, u79, u80, u81, u82, u83, u84, u85, u86, u87, u88, u89, u90, u91, u92, u93, u94, u95, u96, u97, u98, u99, u100, u101, u102, u103, u104, u105, u106, u107, u108, u109, u110, u111, u112, u113, u114, u115, u116, u117, u118, u119, u120, u121, u122, u123, u124, u125, u126, u127, u128, u129, u130, u131, u132, u133, u134, u135, u136, u137, u138, u139, u140, u141, u142, u143, u144, u145, u146, u147, u148, u149, u150, u151, u152, u153, u154, u155, u156, u157, u158, u159, u160, u161, u162, u163, u164, u165, u166, u167, u168, u169, u170, u171, u172, u173, u174, u175, u176], defers := ds } W := by
  have HH : Hid _ := h
  have KD := Kept.drew (fun j => j = nb) W
  have hh : ∀ {V : World} {k : Nat} {v : Value}, Kept (fun j => j = nb) W V → W.cell? ⟨b, k, none⟩ = some v → V.cell? ⟨b, k, none⟩ = some v := fun {V k v} KV hc => by
    rw [World.cell?_of_block (w := W) (KV.block _ (World.block_lt_of_cell? W _ hc) hne)]
    exact hc
  have HS : Hid (∀ V, Kept (fun j => j = nb) W.drew V → V.cell? ⟨b, o + 2, none⟩ = some (.string s2)) := fun V KV => hh (KD.and KV) x2
  have HKD : Hid (Kept (fun j => j = nb) W W.drew) := KD
  have HB0 : Hid (W.drew.heap[nb]? = some (.cells #[q0, q1, q2, q3, q4, q5, q6] 44 (0, 0))) := hb
  have hS0 := HS.out W.drew (Kept.refl _ _)
  have e2 : (2 : Int) < (n : Int) := by omega
  clear h KD hb hh x2
  refine wp_region_held_drew (S := fun V => V.cell? ⟨b, o + 2, none⟩ = some (.string s2)) (by kernel_rfl) hS0 (fun _ => ?_)
  generalize W.drew = V0 at *
  refine wpAnyH_take (i := 0) (oi := { dst := some 88, op := Op.move (Operand.tmp 0), type := 22, pos := "ref.go:239", after := #[{ on := 4, ground := Ground.gcOnly Departure.lateStores }], guard := none }) (v := ?vv1) rfl (by kernel_rfl) (by kernel_rfl) (by kernel_rfl) (fun _ _ _ h => h) (Or.inl ⟨by rfl, ?hy1⟩) hS0 ?rest1
  case hy1 =>
    intro V hV
    obtain y0 := hV
    go_simp
    all_goals rfl
  simp only [Act.put, List.setIfInBounds_toArray, List.set_cons_zero, List.set_cons_succ]
  refine wpAnyH_take (i := 1) (oi := { dst := some 89, op := Op.indexAddr 22 (Operand.tmp 88) (Operand.const (Value.int IntKind.i64 2)), type := 0, pos := "ref.go:239", after := #[{ on := 0, ground := Ground.data }, { on := 4, ground := Ground.gcOnly Departure.lateStores }], guard := none }) (v := ?vv2) rfl (by kernel_rfl) (by kernel_rfl) (by kernel_rfl) (fun _ _ _ h => h) (Or.inl ⟨by rfl, ?hy2⟩) hS0 ?rest2
  case hy2 =>
    intro V hV
    obtain y0 := hV
    go_simp
    all_goals rfl
  simp only [Act.put, List.setIfInBounds_toArray, List.set_cons_zero, List.set_cons_succ]
  refine wpAnyH_take (i := 2) (oi := { dst := some 90, op := Op.load 9 (Operand.tmp 89), type := 9, pos := "ref.go:239", after := #[{ on := 1, ground := Ground.data }, { on := 4, ground := Ground.gcOnly Departure.lateStores }], guard := none }) (v := ?vv3) rfl (by kernel_rfl) (by kernel_rfl) (by kernel_rfl) (fun _ _ _ h => h) (Or.inl ⟨by rfl, ?hy3⟩) hS0 ?rest3
  case hy3 =>
    intro V hV
    obtain y0 := hV
    go_simp
    all_goals rfl
  simp only [Act.put, List.setIfInBounds_toArray, List.set_cons_zero, List.set_cons_succ]
  refine wpAnyH_take (i := 3) (oi := { dst := some 91, op := Op.fieldAddr 44 (Operand.tmp 4) 1, type := 0, pos := "ref.go:239", after := #[{ on := 0, ground := Ground.textOnly Departure.lateStores }, { on := 1, ground := Ground.textOnly Departure.lateStores }, { on := 2, ground := Ground.textOnly Departure.lateStores }], guard := none }) (v := ?vv4) rfl (by kernel_rfl) (by kernel_rfl) (by kernel_rfl) (fun _ _ _ h => h) (Or.inl ⟨by rfl, ?hy4⟩) hS0 ?rest4
  case hy4 =>
    intro V hV
    obtain y0 := hV
    go_simp
    all_goals rfl
  simp only [Act.put, List.setIfInBounds_toArray, List.set_cons_zero, List.set_cons_succ]
  refine wpAnyH_ready (rs := [4]) (by kernel_rfl) (by simp) (AllReadyH.cons (o := { dst := none, op := Op.store 3 (Operand.tmp 91) (Operand.const (Value.int IntKind.i64 3)), type := 0, pos := "ref.go:239", after := #[{ on := 3, ground := Ground.data }, { on := 0, ground := Ground.textOnly Departure.lateStores }, { on := 1, ground := Ground.textOnly Departure.lateStores }, { on := 2, ground := Ground.textOnly Departure.lateStores }], guard := none }) rfl (fun K' hK => ?_) AllReadyH.nil)
  obtain ⟨⟨p0, p1, p2, p3, p4, p5, p6⟩, f0, f1, f2, f3, f4, f5, f6⟩ := seven HB0.out
  have HB1 : Hid (((V0).setCell ⟨nb, 1, none⟩ (.int .i64 3)).heap[nb]? = some (.cells #[q0, .int .i64 3, q2, q3, q4, q5, q6] 44 (0, 0))) := by
    have hq := HB0.out
    show _ = _
    simp [World.setCell, Array.getElem?_modify] at hq ⊢
    simp [hq]
  have HK1 : Hid (Kept (fun j => j = nb) V0 ((V0).setCell ⟨nb, 1, none⟩ (.int .i64 3))) := ((Kept.refl (fun j => j = nb) V0)).and (Kept.setCell (S := fun j => j = nb) _ ⟨nb, 1, none⟩ _ rfl)
  go_simp
  clear p0 p1 p2 p3 p4 p5 p6 f0 f1 f2 f3 f4 f5 f6
  refine hK.out _ _ (HS.out _ HK1.out) (fun _ => ?_)
  generalize (V0).setCell ⟨nb, 1, none⟩ (.int .i64 3) = V1 at *
  clear hK K'
  try (simp only [Act.put, List.setIfInBounds_toArray, List.set_cons_zero, List.set_cons_succ])
  refine wpAnyH_take (i := 5) (oi := { dst := some 92, op := Op.fieldAddr 44 (Operand.tmp 4) 2, type := 0, pos := "ref.go:239", after := #[{ on := 0, ground := Ground.phase }, { on := 1, ground := Ground.phase }, { on := 2, ground := Ground.phase }, { on := 3, ground := Ground.phase }, { on := 4, ground := Ground.phase }], guard := none }) (v := ?vv5) rfl (by kernel_rfl) (by kernel_rfl) (by kernel_rfl) (fun _ _ _ h => h) (Or.inl ⟨by rfl, ?hy5⟩) (HS.out _ HK1.out) ?rest5
  case hy5 =>
    intro V hV
    obtain y0 := hV
    go_simp
    all_goals rfl
  simp only [Act.put, List.setIfInBounds_toArray, List.set_cons_zero, List.set_cons_succ]
  refine wpAnyH_ready (rs := [6]) (by kernel_rfl) (by simp) (AllReadyH.cons (o := { dst := none, op := Op.store 9 (Operand.tmp 92) (Operand.tmp 90), type := 0, pos := "ref.go:239", after := #[{ on := 5, ground := Ground.data }, { on := 2, ground := Ground.data }, { on := 4, ground := Ground.chain }, { on := 0, ground := Ground.phase }, { on := 1, ground := Ground.phase }, { on := 2, ground := Ground.phase }, { on := 3, ground := Ground.phase }, { on := 4, ground := Ground.phase }], guard := none }) rfl (fun K' hK => ?_) AllReadyH.nil)
  obtain ⟨⟨p0, p1, p2, p3, p4, p5, p6⟩, f0, f1, f2, f3, f4, f5, f6⟩ := seven HB1.out
  have HB2 : Hid (((V1).setCell ⟨nb, 2, none⟩ (.string s2)).heap[nb]? = some (.cells #[q0, .int .i64 3, .string s2, q3, q4, q5, q6] 44 (0, 0))) := by
    have hq := HB1.out
    show _ = _
    simp [World.setCell, Array.getElem?_modify] at hq ⊢
    simp [hq]
  have HK2 : Hid (Kept (fun j => j = nb) V0 ((V1).setCell ⟨nb, 2, none⟩ (.string s2))) := (HK1.out).and (Kept.setCell (S := fun j => j = nb) _ ⟨nb, 2, none⟩ _ rfl)
  go_simp
  clear p0 p1 p2 p3 p4 p5 p6 f0 f1 f2 f3 f4 f5 f6
  refine hK.out _ _ (HS.out _ HK2.out) (fun _ => ?_)
  generalize (V1).setCell ⟨nb, 2, none⟩ (.string s2) = V2 at *
  clear hK K'
  try (simp only [Act.put, List.setIfInBounds_toArray, List.set_cons_zero, List.set_cons_succ])
  refine wpAnyH_done (by kernel_rfl) ?_ _
  exact HH.out _ _ _ _ _ _ HB2.out (HKD.out.and HK2.out)

set_option maxRecDepth 100000 in
set_option maxHeartbeats 8000000 in
theorem rn24 {W : World} {nb b o n c : Nat} {s2 : ByteArray} {q0 q1 q2 q3 q4 q5 q6 : Value} {ds : List Deferred} {u1 u2 u3 u5 u6 u7 u8 u9 u10 u11 u12 u13 u14 u15 u16 u17 u18 u19 u20 u21 u22 u23 u24 u25 u26 u27 u28 u29 u30 u31 u32 u33 u34 u35 u36 u37 u38 u39 u40 u41 u42 u43 u44 u45 u46 u47 u48 u49 u50 u51 u52 u53 u54 u55 u56 u57 u58 u59 u60 u61 u62 u63 u64 u65 u66 u67 u68 u69 u70 u71 u72 u73 u74 u75 u76 u77 u78 u79 u80 u81 u82 u83 u84 u85 u86 u87 u88 u89 u90 u91 u92 u93 u94 u95 u96 u97 u98 u99 u100 u101 u102 u103 u104 u105 u106 u107 u108 u109 u110 u111 u112 u113 u114 u115 u116 u117 u118 u119 u120 u121 u122 u123 u124 u125 u126 u127 u128 u129 u130 u131 u132 u133 u134 u135 u136 u137 u138 u139 u140 u141 u142 u143 u144 u145 u146 u147 u148 u149 u150 u151 u152 u153 u154 u155 u156 u157 u158 u159 u160 u161 u162 u163 u164 u165 u166 u167 u168 u169 u170 u171 u172 u173 u174 u175 u176 : Value} (K : Act → World → Prop)
    (hb : W.heap[nb]? = some (.cells #[q0, q1, q2, q3, q4, q5, q6] 44 (0, 0))) (x2 : W.cell? ⟨b, o + 2, none⟩ = some (.string s2)) (hne : b ≠ nb) (hn : 2 < n)
    (h : ∀ (v99 v100 v101 v102 v103 : Value) (W' : World), W'.heap[nb]? = some (.cells #[q0, .int .i64 4, .string s2, q3, q4, q5, q6] 44 (0, 0)) → Kept (fun j => j = nb) W W' → K { tmps := #[.slice (some ⟨b, o, none⟩) n c, u1, u2, u3, .pointer (some ⟨nb, 0, none⟩), u5, u6, u7, u8, u9, u10, u11, u12, u13, u14, u15, u16, u17, u18, u19, u20, u21, u22, u23, u24, u25, u26, u27, u28, u29, u30, u31, u32, u33, u34, u35, u36, u37, u38, u39, u40, u41, u42, u43, u44, u45, u46, u47, u48, u49, u50, u51, u52, u53, u54, u55, u56, u57, u58, u59, u60, u61, u62, u63, u64, u65, u66, u67, u68, u69, u70, u71, u72, u73, u74, u75, u76, u77, u78, u79, u80, u81, u82, u83, u84, u85, u86, u87, u88, u89, u90, u91, u92, u93, u94, u95, u96, u97, u98, v99, v100, v101, v102, v103, u104, u105, u106, u107, u108, u109, u110, u111, u112, u113, u114, u115, u116, u117, u118, u119, u120, u121, u122, u123, u124, u125, u126, u127, u128, u129, u130, u131, u132, u133, u134, u135, u136, u137, u138, u139, u140, u141, u142, u143, u144, u145, u146, u147, u148, u149, u150, u151, u152, u153, u154, u155, u156, u157, u158, u159, u160, u161, u162, u163, u164, u165, u166, u167, u168, u169, u170, u171, u172, u173, u174, u175, u176], defers := ds } W') :
    (Code.region 24 #[{ dst := some 99, op := Op.move (Operand.tmp 0), type := 22, pos := "ref.go:242", after := #[{ on := 4, ground := Ground.gcOnly Departure.lateStores }], guard := none }, { dst := some 100, op := Op.indexAddr 22 (Operand.tmp 99) (Operand.const (Value.int IntKind.i64 2)), type := 0, pos := "ref.go:242", after := #[{ on := 0, ground := Ground.data }, { on := 4, ground := Ground.gcOnly Departure.lateStores }], guard := none }, { dst := some 101, op := Op.load 9 (Operand.tmp 100), type := 9, pos := "ref.go:242", after := #[{ on := 1, ground := Ground.data }, { on := 4, ground := Ground.gcOnly Departure.lateStores }], guard := none }, { dst := some 102, op := Op.fieldAddr 44 (Operand.tmp 4) 1, type := 0, pos := "ref.go:242", after := #[{ on := 0, ground := Ground.textOnly Departure.lateStores }, { on := 1, ground := Ground.textOnly Departure.lateStores }, { on := 2, ground := Ground.textOnly Departure.lateStores }], guard := none }, { dst := none, op := Op.store 3 (Operand.tmp 102) (Operand.const (Value.int IntKind.i64 4)), type := 0, pos := "ref.go:242", after := #[{ on := 3, ground := Ground.data }, { on := 0, ground := Ground.textOnly Departure.lateStores }, { on := 1, ground := Ground.textOnly Departure.lateStores }, { on := 2, ground := Ground.textOnly Departure.lateStores }], guard := none }, { dst := some 103, op := Op.fieldAddr 44 (Operand.tmp 4) 2, type := 0, pos := "ref.go:242", after := #[{ on := 0, ground := Ground.phase }, { on := 1, ground := Ground.phase }, { on := 2, ground := Ground.phase }, { on := 3, ground := Ground.phase }, { on := 4, ground := Ground.phase }], guard := none }, { dst := none, op := Op.store 9 (Operand.tmp 103) (Operand.tmp 101), type := 0, pos := "ref.go:242", after := #[{ on := 5, ground := Ground.data }, { on := 2, ground := Ground.data }, { on := 4, ground := Ground.chain }, { on := 0, ground := Ground.phase }, { on := 1, ground := Ground.phase }, { on := 2, ground := Ground.phase }, { on := 3, ground := Ground.phase }, { on := 4, ground := Ground.phase }], guard := none }] true).wp Tryd.prog (onlyN K) { tmps := #[.slice (some ⟨b, o, none⟩) n c, u1, u2, u3, .pointer (some ⟨nb, 0, none⟩), u5, u6, u7, u8, u9, u10, u11, u12, u13, u14, u15, u16, u17, u18, u19, u20, u21, u22, u23, u24, u25, u26, u27, u28, u29, u30, u31, u32, u33, u34, u35, u36, u37, u38, u39, u40, u41, u42, u43, u44, u45, u46, u47, u48, u49, u50, u51, u52, u53, u54, u55, u56, u57, u58, u59, u60, u61, u62, u63, u64, u65, u66, u67, u68, u69, u70, u71, u72, u73, u74, u75, u76, u77, u78, u79, u80, u81, u82, u83, u84, u85, u86, u87, u88, u89, u90, u91, u92, u93, u94, u95, u96, u97, u98, u99, u100, u101, u102, u103, u104, u105, u106, u107, u108, u109, u110, u111, u112, u113, u114, u115, u116, u117, u118, u119, u120, u121, u122, u123, u124, u125, u126, u127, u128, u129, u130, u131, u132, u133, u134, u135, u136, u137, u138, u139, u140, u141, u142, u143, u144, u145, u146, u147, u148, u149, u150, u151, u152, u153, u154, u155, u156, u157, u158, u159, u160, u161, u162, u163, u164, u165, u166, u167, u168, u169, u170, u171, u172, u173, u174, u175, u176], defers := ds } W := by
  have HH : Hid _ := h
  have KD := Kept.drew (fun j => j = nb) W
  have hh : ∀ {V : World} {k : Nat} {v : Value}, Kept (fun j => j = nb) W V → W.cell? ⟨b, k, none⟩ = some v → V.cell? ⟨b, k, none⟩ = some v := fun {V k v} KV hc => by
    rw [World.cell?_of_block (w := W) (KV.block _ (World.block_lt_of_cell? W _ hc) hne)]
    exact hc
  have HS : Hid (∀ V, Kept (fun j => j = nb) W.drew V → V.cell? ⟨b, o + 2, none⟩ = some (.string s2)) := fun V KV => hh (KD.and KV) x2
  have HKD : Hid (Kept (fun j => j = nb) W W.drew) := KD
  have HB0 : Hid (W.drew.heap[nb]? = some (.cells #[q0, q1, q2, q3, q4, q5, q6] 44 (0, 0))) := hb
  have hS0 := HS.out W.drew (Kept.refl _ _)
  have e2 : (2 : Int) < (n : Int) := by omega
  clear h KD hb hh x2
  refine wp_region_held_drew (S := fun V => V.cell? ⟨b, o + 2, none⟩ = some (.string s2)) (by kernel_rfl) hS0 (fun _ => ?_)
  generalize W.drew = V0 at *
  refine wpAnyH_take (i := 0) (oi := { dst := some 99, op := Op.move (Operand.tmp 0), type := 22, pos := "ref.go:242", after := #[{ on := 4, ground := Ground.gcOnly Departure.lateStores }], guard := none }) (v := ?vv1) rfl (by kernel_rfl) (by kernel_rfl) (by kernel_rfl) (fun _ _ _ h => h) (Or.inl ⟨by rfl, ?hy1⟩) hS0 ?rest1
  case hy1 =>
    intro V hV
    obtain y0 := hV
    go_simp
    all_goals rfl
  simp only [Act.put, List.setIfInBounds_toArray, List.set_cons_zero, List.set_cons_succ]
  refine wpAnyH_take (i := 1) (oi := { dst := some 100, op := Op.indexAddr 22 (Operand.tmp 99) (Operand.const (Value.int IntKind.i64 2)), type := 0, pos := "ref.go:242", after := #[{ on := 0, ground := Ground.data }, { on := 4, ground := Ground.gcOnly Departure.lateStores }], guard := none }) (v := ?vv2) rfl (by kernel_rfl) (by kernel_rfl) (by kernel_rfl) (fun _ _ _ h => h) (Or.inl ⟨by rfl, ?hy2⟩) hS0 ?rest2
  case hy2 =>
    intro V hV
    obtain y0 := hV
    go_simp
    all_goals rfl
  simp only [Act.put, List.setIfInBounds_toArray, List.set_cons_zero, List.set_cons_succ]
  refine wpAnyH_take (i := 2) (oi := { dst := some 101, op := Op.load 9 (Operand.tmp 100), type := 9, pos := "ref.go:242", after := #[{ on := 1, ground := Ground.data }, { on := 4, ground := Ground.gcOnly Departure.lateStores }], guard := none }) (v := ?vv3) rfl (by kernel_rfl) (by kernel_rfl) (by kernel_rfl) (fun _ _ _ h => h) (Or.inl ⟨by rfl, ?hy3⟩) hS0 ?rest3
  case hy3 =>
    intro V hV
    obtain y0 := hV
    go_simp
    all_goals rfl
  simp only [Act.put, List.setIfInBounds_toArray, List.set_cons_zero, List.set_cons_succ]
  refine wpAnyH_take (i := 3) (oi := { dst := some 102, op := Op.fieldAddr 44 (Operand.tmp 4) 1, type := 0, pos := "ref.go:242", after := #[{ on := 0, ground := Ground.textOnly Departure.lateStores }, { on := 1, ground := Ground.textOnly Departure.lateStores }, { on := 2, ground := Ground.textOnly Departure.lateStores }], guard := none }) (v := ?vv4) rfl (by kernel_rfl) (by kernel_rfl) (by kernel_rfl) (fun _ _ _ h => h) (Or.inl ⟨by rfl, ?hy4⟩) hS0 ?rest4
  case hy4 =>
    intro V hV
    obtain y0 := hV
    go_simp
    all_goals rfl
  simp only [Act.put, List.setIfInBounds_toArray, List.set_cons_zero, List.set_cons_succ]
  refine wpAnyH_ready (rs := [4]) (by kernel_rfl) (by simp) (AllReadyH.cons (o := { dst := none, op := Op.store 3 (Operand.tmp 102) (Operand.const (Value.int IntKind.i64 4)), type := 0, pos := "ref.go:242", after := #[{ on := 3, ground := Ground.data }, { on := 0, ground := Ground.textOnly Departure.lateStores }, { on := 1, ground := Ground.textOnly Departure.lateStores }, { on := 2, ground := Ground.textOnly Departure.lateStores }], guard := none }) rfl (fun K' hK => ?_) AllReadyH.nil)
  obtain ⟨⟨p0, p1, p2, p3, p4, p5, p6⟩, f0, f1, f2, f3, f4, f5, f6⟩ := seven HB0.out
  have HB1 : Hid (((V0).setCell ⟨nb, 1, none⟩ (.int .i64 4)).heap[nb]? = some (.cells #[q0, .int .i64 4, q2, q3, q4, q5, q6] 44 (0, 0))) := by
    have hq := HB0.out
    show _ = _
    simp [World.setCell, Array.getElem?_modify] at hq ⊢
    simp [hq]
  have HK1 : Hid (Kept (fun j => j = nb) V0 ((V0).setCell ⟨nb, 1, none⟩ (.int .i64 4))) := ((Kept.refl (fun j => j = nb) V0)).and (Kept.setCell (S := fun j => j = nb) _ ⟨nb, 1, none⟩ _ rfl)
  go_simp
  clear p0 p1 p2 p3 p4 p5 p6 f0 f1 f2 f3 f4 f5 f6
  refine hK.out _ _ (HS.out _ HK1.out) (fun _ => ?_)
  generalize (V0).setCell ⟨nb, 1, none⟩ (.int .i64 4) = V1 at *
  clear hK K'
  try (simp only [Act.put, List.setIfInBounds_toArray, List.set_cons_zero, List.set_cons_succ])
  refine wpAnyH_take (i := 5) (oi := { dst := some 103, op := Op.fieldAddr 44 (Operand.tmp 4) 2, type := 0, pos := "ref.go:242", after := #[{ on := 0, ground := Ground.phase }, { on := 1, ground := Ground.phase }, { on := 2, ground := Ground.phase }, { on := 3, ground := Ground.phase }, { on := 4, ground := Ground.phase }], guard := none }) (v := ?vv5) rfl (by kernel_rfl) (by kernel_rfl) (by kernel_rfl) (fun _ _ _ h => h) (Or.inl ⟨by rfl, ?hy5⟩) (HS.out _ HK1.out) ?rest5
  case hy5 =>
    intro V hV
    obtain y0 := hV
    go_simp
    all_goals rfl
  simp only [Act.put, List.setIfInBounds_toArray, List.set_cons_zero, List.set_cons_succ]
  refine wpAnyH_ready (rs := [6]) (by kernel_rfl) (by simp) (AllReadyH.cons (o := { dst := none, op := Op.store 9 (Operand.tmp 103) (Operand.tmp 101), type := 0, pos := "ref.go:242", after := #[{ on := 5, ground := Ground.data }, { on := 2, ground := Ground.data }, { on := 4, ground := Ground.chain }, { on := 0, ground := Ground.phase }, { on := 1, ground := Ground.phase }, { on := 2, ground := Ground.phase }, { on := 3, ground := Ground.phase }, { on := 4, ground := Ground.phase }], guard := none }) rfl (fun K' hK => ?_) AllReadyH.nil)
  obtain ⟨⟨p0, p1, p2, p3, p4, p5, p6⟩, f0, f1, f2, f3, f4, f5, f6⟩ := seven HB1.out
  have HB2 : Hid (((V1).setCell ⟨nb, 2, none⟩ (.string s2)).heap[nb]? = some (.cells #[q0, .int .i64 4, .string s2, q3, q4, q5, q6] 44 (0, 0))) := by
    have hq := HB1.out
    show _ = _
    simp [World.setCell, Array.getElem?_modify] at hq ⊢
    simp [hq]
  have HK2 : Hid (Kept (fun j => j = nb) V0 ((V1).setCell ⟨nb, 2, none⟩ (.string s2))) := (HK1.out).and (Kept.setCell (S := fun j => j = nb) _ ⟨nb, 2, none⟩ _ rfl)
  go_simp
  clear p0 p1 p2 p3 p4 p5 p6 f0 f1 f2 f3 f4 f5 f6
  refine hK.out _ _ (HS.out _ HK2.out) (fun _ => ?_)
  generalize (V1).setCell ⟨nb, 2, none⟩ (.string s2) = V2 at *
  clear hK K'
  try (simp only [Act.put, List.setIfInBounds_toArray, List.set_cons_zero, List.set_cons_succ])
  refine wpAnyH_done (by kernel_rfl) ?_ _
  exact HH.out _ _ _ _ _ _ HB2.out (HKD.out.and HK2.out)

set_option maxRecDepth 100000 in
set_option maxHeartbeats 8000000 in
theorem rn29 {W : World} {nb b o n c : Nat} {s2 s3 : ByteArray} {q0 q1 q2 q3 q4 q5 q6 : Value} {ds : List Deferred} {u1 u2 u3 u5 u6 u7 u8 u9 u10 u11 u12 u13 u14 u15 u16 u17 u18 u19 u20 u21 u22 u23 u24 u25 u26 u27 u28 u29 u30 u31 u32 u33 u34 u35 u36 u37 u38 u39 u40 u41 u42 u43 u44 u45 u46 u47 u48 u49 u50 u51 u52 u53 u54 u55 u56 u57 u58 u59 u60 u61 u62 u63 u64 u65 u66 u67 u68 u69 u70 u71 u72 u73 u74 u75 u76 u77 u78 u79 u80 u81 u82 u83 u84 u85 u86 u87 u88 u89 u90 u91 u92 u93 u94 u95 u96 u97 u98 u99 u100 u101 u102 u103 u104 u105 u106 u107 u108 u109 u110 u111 u112 u113 u114 u115 u116 u117 u118 u119 u120 u121 u122 u123 u124 u125 u126 u127 u128 u129 u130 u131 u132 u133 u134 u135 u136 u137 u138 u139 u140 u141 u142 u143 u144 u145 u146 u147 u148 u149 u150 u151 u152 u153 u154 u155 u156 u157 u158 u159 u160 u161 u162 u163 u164 u165 u166 u167 u168 u169 u170 u171 u172 u173 u174 u175 u176 : Value} (K : Act → World → Prop)
    (hb : W.heap[nb]? = some (.cells #[q0, q1, q2, q3, q4, q5, q6] 44 (0, 0))) (x2 : W.cell? ⟨b, o + 2, none⟩ = some (.string s2)) (x3 : W.cell? ⟨b, o + 3, none⟩ = some (.string s3)) (hne : b ≠ nb) (hn : 3 < n)
    (h : ∀ (v114 v115 v116 v117 v118 v119 v120 v121 v122 : Value) (W' : World), W'.heap[nb]? = some (.cells #[q0, .int .i64 5, .string s3, .string s2, q4, q5, q6] 44 (0, 0)) → Kept (fun j => j = nb) W W' → K { tmps := #[.slice (some ⟨b, o, none⟩) n c, u1, u2, u3, .pointer (some ⟨nb, 0, none⟩), u5, u6, u7, u8, u9, u10, u11, u12, u13, u14, u15, u16, u17, u18, u19, u20, u21, u22, u23, u24, u25, u26, u27, u28, u29, u30, u31, u32, u33, u34, u35, u36, u37, u38, u39, u40, u41, u42, u43, u44, u45, u46, u47, u48, u49, u50, u51, u52, u53, u54, u55, u56, u57, u58, u59, u60, u61, u62, u63, u64, u65, u66, u67, u68, u69, u70, u71, u72, u73, u74, u75, u76, u77, u78, u79, u80, u81, u82, u83, u84, u85, u86, u87, u88, u89, u90, u91, u92, u93, u94, u95, u96, u97, u98, u99, u100, u101, u102, u103, u104, u105, u106, u107, u108, u109, u110, u111, u112, u113, v114, v115, v116, v117, v118, v119, v120, v121, v122, u123, u124, u125, u126, u127, u128, u129, u130, u131, u132, u133, u134, u135, u136, u137, u138, u139, u140, u141, u142, u143, u144, u145, u146, u147, u148, u149, u150, u151, u152, u153, u154, u155, u156, u157, u158, u159, u160, u161, u162, u163, u164, u165, u166, u167, u168, u169, u170, u171, u172, u173, u174, u175, u176], defers := ds } W') :
    (Code.region 29 #[{ dst := some 114, op := Op.move (Operand.tmp 0), type := 22, pos := "ref.go:248", after := #[{ on := 7, ground := Ground.gcOnly Departure.lateStores }], guard := none }, { dst := some 115, op := Op.indexAddr 22 (Operand.tmp 114) (Operand.const (Value.int IntKind.i64 2)), type := 0, pos := "ref.go:248", after := #[{ on := 0, ground := Ground.data }, { on := 7, ground := Ground.gcOnly Departure.lateStores }], guard := none }, { dst := some 116, op := Op.load 9 (Operand.tmp 115), type := 9, pos := "ref.go:248", after := #[{ on := 1, ground := Ground.data }, { on := 7, ground := Ground.gcOnly Departure.lateStores }], guard := none }, { dst := some 117, op := Op.move (Operand.tmp 0), type := 22, pos := "ref.go:248", after := #[{ on := 9, ground := Ground.gcOnly Departure.lateStores }], guard := none }, { dst := some 118, op := Op.indexAddr 22 (Operand.tmp 117) (Operand.const (Value.int IntKind.i64 3)), type := 0, pos := "ref.go:248", after := #[{ on := 3, ground := Ground.data }, { on := 9, ground := Ground.gcOnly Departure.lateStores }], guard := none }, { dst := some 119, op := Op.load 9 (Operand.tmp 118), type := 9, pos := "ref.go:248", after := #[{ on := 4, ground := Ground.data }, { on := 9, ground := Ground.gcOnly Departure.lateStores }], guard := none }, { dst := some 120, op := Op.fieldAddr 44 (Operand.tmp 4) 1, type := 0, pos := "ref.go:248", after := #[{ on := 0, ground := Ground.textOnly Departure.lateStores }, { on := 1, ground := Ground.textOnly Departure.lateStores }, { on := 2, ground := Ground.textOnly Departure.lateStores }, { on := 3, ground := Ground.textOnly Departure.lateStores }, { on := 4, ground := Ground.textOnly Departure.lateStores }, { on := 5, ground := Ground.textOnly Departure.lateStores }], guard := none }, { dst := none, op := Op.store 3 (Operand.tmp 120) (Operand.const (Value.int IntKind.i64 5)), type := 0, pos := "ref.go:248", after := #[{ on := 6, ground := Ground.data }, { on := 0, ground := Ground.textOnly Departure.lateStores }, { on := 1, ground := Ground.textOnly Departure.lateStores }, { on := 2, ground := Ground.textOnly Departure.lateStores }, { on := 3, ground := Ground.textOnly Departure.lateStores }, { on := 4, ground := Ground.textOnly Departure.lateStores }, { on := 5, ground := Ground.textOnly Departure.lateStores }], guard := none }, { dst := some 121, op := Op.fieldAddr 44 (Operand.tmp 4) 3, type := 0, pos := "ref.go:248", after := #[{ on := 0, ground := Ground.phase }, { on := 1, ground := Ground.phase }, { on := 2, ground := Ground.phase }, { on := 3, ground := Ground.textOnly Departure.lateStores }, { on := 4, ground := Ground.textOnly Departure.lateStores }, { on := 5, ground := Ground.textOnly Departure.lateStores }, { on := 6, ground := Ground.phase }, { on := 7, ground := Ground.phase }], guard := none }, { dst := none, op := Op.store 9 (Operand.tmp 121) (Operand.tmp 116), type := 0, pos := "ref.go:248", after := #[{ on := 8, ground := Ground.data }, { on := 2, ground := Ground.data }, { on := 7, ground := Ground.chain }, { on := 0, ground := Ground.phase }, { on := 1, ground := Ground.phase }, { on := 2, ground := Ground.phase }, { on := 3, ground := Ground.textOnly Departure.lateStores }, { on := 4, ground := Ground.textOnly Departure.lateStores }, { on := 5, ground := Ground.textOnly Departure.lateStores }, { on := 6, ground := Ground.phase }, { on := 7, ground := Ground.phase }], guard := none }, { dst := some 122, op := Op.fieldAddr 44 (Operand.tmp 4) 2, type := 0, pos := "ref.go:248", after := #[{ on := 0, ground := Ground.phase }, { on := 1, ground := Ground.phase }, { on := 2, ground := Ground.phase }, { on := 3, ground := Ground.phase }, { on := 4, ground := Ground.phase }, { on := 5, ground := Ground.phase }, { on := 6, ground := Ground.phase }, { on := 7, ground := Ground.phase }, { on := 8, ground := Ground.phase }, { on := 9, ground := Ground.phase }], guard := none }, { dst := none, op := Op.store 9 (Operand.tmp 122) (Operand.tmp 119), type := 0, pos := "ref.go:248", after := #[{ on := 10, ground := Ground.data }, { on := 5, ground := Ground.data }, { on := 9, ground := Ground.chain }, { on := 0, ground := Ground.phase }, { on := 1, ground := Ground.phase }, { on := 2, ground := Ground.phase }, { on := 3, ground := Ground.phase }, { on := 4, ground := Ground.phase }, { on := 5, ground := Ground.phase }, { on := 6, ground := Ground.phase }, { on := 7, ground := Ground.phase }, { on := 8, ground := Ground.phase }, { on := 9, ground := Ground.phase }], guard := none }] true).wp Tryd.prog (onlyN K) { tmps := #[.slice (some ⟨b, o, none⟩) n c, u1, u2, u3, .pointer (some ⟨nb, 0, none⟩), u5, u6, u7, u8, u9, u10, u11, u12, u13, u14, u15, u16, u17, u18, u19, u20, u21, u22, u23, u24, u25, u26, u27, u28, u29, u30, u31, u32, u33, u34, u35, u36, u37, u38, u39, u40, u41, u42, u43, u44, u45, u46, u47, u48, u49, u50, u51, u52, u53, u54, u55, u56, u57, u58, u59, u60, u61, u62, u63, u64, u65, u66, u67, u68, u69, u70, u71, u72, u73, u74, u75, u76, u77, u78, u79, u80, u81, u82, u83, u84, u85, u86, u87, u88, u89, u90, u91, u92, u93, u94, u95, u96, u97, u98, u99, u100, u101, u102, u103, u104, u105, u106, u107, u108, u109, u110, u111, u112, u113, u114, u115, u116, u117, u118, u119, u120, u121, u122, u123, u124, u125, u126, u127, u128, u129, u130, u131, u132, u133, u134, u135, u136, u137, u138, u139, u140, u141, u142, u143, u144, u145, u146, u147, u148, u149, u150, u151, u152, u153, u154, u155, u156, u157, u158, u159, u160, u161, u162, u163, u164, u165, u166, u167, u168, u169, u170, u171, u172, u173, u174, u175, u176], defers := ds } W := by
  have HH : Hid _ := h
  have KD := Kept.drew (fun j => j = nb) W
  have hh : ∀ {V : World} {k : Nat} {v : Value}, Kept (fun j => j = nb) W V → W.cell? ⟨b, k, none⟩ = some v → V.cell? ⟨b, k, none⟩ = some v := fun {V k v} KV hc => by
    rw [World.cell?_of_block (w := W) (KV.block _ (World.block_lt_of_cell? W _ hc) hne)]
    exact hc
  have HS : Hid (∀ V, Kept (fun j => j = nb) W.drew V → V.cell? ⟨b, o + 2, none⟩ = some (.string s2) ∧ V.cell? ⟨b, o + 3, none⟩ = some (.string s3)) := fun V KV => ⟨hh (KD.and KV) x2, hh (KD.and KV) x3⟩
  have HKD : Hid (Kept (fun j => j = nb) W W.drew) := KD
  have HB0 : Hid (W.drew.heap[nb]? = some (.cells #[q0, q1, q2, q3, q4, q5, q6] 44 (0, 0))) := hb
  have hS0 := HS.out W.drew (Kept.refl _ _)
  have e2 : (2 : Int) < (n : Int) := by omega
  have e3 : (3 : Int) < (n : Int) := by omega
  clear h KD hb hh x2 x3
  refine wp_region_held_drew (S := fun V => V.cell? ⟨b, o + 2, none⟩ = some (.string s2) ∧ V.cell? ⟨b, o + 3, none⟩ = some (.string s3)) (by kernel_rfl) hS0 (fun _ => ?_)
  generalize W.drew = V0 at *
  refine wpAnyH_take (i := 0) (oi := { dst := some 114, op := Op.move (Operand.tmp 0), type := 22, pos := "ref.go:248", after := #[{ on := 7, ground := Ground.gcOnly Departure.lateStores }], guard := none }) (v := ?vv1) rfl (by kernel_rfl) (by kernel_rfl) (by kernel_rfl) (fun _ _ _ h => h) (Or.inl ⟨by rfl, ?hy1⟩) hS0 ?rest1
  case hy1 =>
    intro V hV
    obtain ⟨y0, y1⟩ := hV
    go_simp
    all_goals rfl
  simp only [Act.put, List.setIfInBounds_toArray, List.set_cons_zero, List.set_cons_succ]
  refine wpAnyH_take (i := 1) (oi := { dst := some 115, op := Op.indexAddr 22 (Operand.tmp 114) (Operand.const (Value.int IntKind.i64 2)), type := 0, pos := "ref.go:248", after := #[{ on := 0, ground := Ground.data }, { on := 7, ground := Ground.gcOnly Departure.lateStores }], guard := none }) (v := ?vv2) rfl (by kernel_rfl) (by kernel_rfl) (by kernel_rfl) (fun _ _ _ h => h) (Or.inl ⟨by rfl, ?hy2⟩) hS0 ?rest2
  case hy2 =>
    intro V hV
    obtain ⟨y0, y1⟩ := hV
    go_simp
    all_goals rfl
  simp only [Act.put, List.setIfInBounds_toArray, List.set_cons_zero, List.set_cons_succ]
  refine wpAnyH_take (i := 2) (oi := { dst := some 116, op := Op.load 9 (Operand.tmp 115), type := 9, pos := "ref.go:248", after := #[{ on := 1, ground := Ground.data }, { on := 7, ground := Ground.gcOnly Departure.lateStores }], guard := none }) (v := ?vv3) rfl (by kernel_rfl) (by kernel_rfl) (by kernel_rfl) (fun _ _ _ h => h) (Or.inl ⟨by rfl, ?hy3⟩) hS0 ?rest3
  case hy3 =>
    intro V hV
    obtain ⟨y0, y1⟩ := hV
    go_simp
    all_goals rfl
  simp only [Act.put, List.setIfInBounds_toArray, List.set_cons_zero, List.set_cons_succ]
  refine wpAnyH_take (i := 3) (oi := { dst := some 117, op := Op.move (Operand.tmp 0), type := 22, pos := "ref.go:248", after := #[{ on := 9, ground := Ground.gcOnly Departure.lateStores }], guard := none }) (v := ?vv4) rfl (by kernel_rfl) (by kernel_rfl) (by kernel_rfl) (fun _ _ _ h => h) (Or.inl ⟨by rfl, ?hy4⟩) hS0 ?rest4
  case hy4 =>
    intro V hV
    obtain ⟨y0, y1⟩ := hV
    go_simp
    all_goals rfl
  simp only [Act.put, List.setIfInBounds_toArray, List.set_cons_zero, List.set_cons_succ]
  refine wpAnyH_take (i := 4) (oi := { dst := some 118, op := Op.indexAddr 22 (Operand.tmp 117) (Operand.const (Value.int IntKind.i64 3)), type := 0, pos := "ref.go:248", after := #[{ on := 3, ground := Ground.data }, { on := 9, ground := Ground.gcOnly Departure.lateStores }], guard := none }) (v := ?vv5) rfl (by kernel_rfl) (by kernel_rfl) (by kernel_rfl) (fun _ _ _ h => h) (Or.inl ⟨by rfl, ?hy5⟩) hS0 ?rest5
  case hy5 =>
    intro V hV
    obtain ⟨y0, y1⟩ := hV
    go_simp
    all_goals rfl
  simp only [Act.put, List.setIfInBounds_toArray, List.set_cons_zero, List.set_cons_succ]
  refine wpAnyH_take (i := 5) (oi := { dst := some 119, op := Op.load 9 (Operand.tmp 118), type := 9, pos := "ref.go:248", after := #[{ on := 4, ground := Ground.data }, { on := 9, ground := Ground.gcOnly Departure.lateStores }], guard := none }) (v := ?vv6) rfl (by kernel_rfl) (by kernel_rfl) (by kernel_rfl) (fun _ _ _ h => h) (Or.inl ⟨by rfl, ?hy6⟩) hS0 ?rest6
  case hy6 =>
    intro V hV
    obtain ⟨y0, y1⟩ := hV
    go_simp
    all_goals rfl
  simp only [Act.put, List.setIfInBounds_toArray, List.set_cons_zero, List.set_cons_succ]
  refine wpAnyH_take (i := 6) (oi := { dst := some 120, op := Op.fieldAddr 44 (Operand.tmp 4) 1, type := 0, pos := "ref.go:248", after := #[{ on := 0, ground := Ground.textOnly Departure.lateStores }, { on := 1, ground := Ground.textOnly Departure.lateStores }, { on := 2, ground := Ground.textOnly Departure.lateStores }, { on := 3, ground := Ground.textOnly Departure.lateStores }, { on := 4, ground := Ground.textOnly Departure.lateStores }, { on := 5, ground := Ground.textOnly Departure.lateStores }], guard := none }) (v := ?vv7) rfl (by kernel_rfl) (by kernel_rfl) (by kernel_rfl) (fun _ _ _ h => h) (Or.inl ⟨by rfl, ?hy7⟩) hS0 ?rest7
  case hy7 =>
    intro V hV
    obtain ⟨y0, y1⟩ := hV
    go_simp
    all_goals rfl
  simp only [Act.put, List.setIfInBounds_toArray, List.set_cons_zero, List.set_cons_succ]
  refine wpAnyH_ready (rs := [7]) (by kernel_rfl) (by simp) (AllReadyH.cons (o := { dst := none, op := Op.store 3 (Operand.tmp 120) (Operand.const (Value.int IntKind.i64 5)), type := 0, pos := "ref.go:248", after := #[{ on := 6, ground := Ground.data }, { on := 0, ground := Ground.textOnly Departure.lateStores }, { on := 1, ground := Ground.textOnly Departure.lateStores }, { on := 2, ground := Ground.textOnly Departure.lateStores }, { on := 3, ground := Ground.textOnly Departure.lateStores }, { on := 4, ground := Ground.textOnly Departure.lateStores }, { on := 5, ground := Ground.textOnly Departure.lateStores }], guard := none }) rfl (fun K' hK => ?_) AllReadyH.nil)
  obtain ⟨⟨p0, p1, p2, p3, p4, p5, p6⟩, f0, f1, f2, f3, f4, f5, f6⟩ := seven HB0.out
  have HB1 : Hid (((V0).setCell ⟨nb, 1, none⟩ (.int .i64 5)).heap[nb]? = some (.cells #[q0, .int .i64 5, q2, q3, q4, q5, q6] 44 (0, 0))) := by
    have hq := HB0.out
    show _ = _
    simp [World.setCell, Array.getElem?_modify] at hq ⊢
    simp [hq]
  have HK1 : Hid (Kept (fun j => j = nb) V0 ((V0).setCell ⟨nb, 1, none⟩ (.int .i64 5))) := ((Kept.refl (fun j => j = nb) V0)).and (Kept.setCell (S := fun j => j = nb) _ ⟨nb, 1, none⟩ _ rfl)
  go_simp
  clear p0 p1 p2 p3 p4 p5 p6 f0 f1 f2 f3 f4 f5 f6
  refine hK.out _ _ (HS.out _ HK1.out) (fun _ => ?_)
  generalize (V0).setCell ⟨nb, 1, none⟩ (.int .i64 5) = V1 at *
  clear hK K'
  try (simp only [Act.put, List.setIfInBounds_toArray, List.set_cons_zero, List.set_cons_succ])
  refine wpAnyH_take (i := 8) (oi := { dst := some 121, op := Op.fieldAddr 44 (Operand.tmp 4) 3, type := 0, pos := "ref.go:248", after := #[{ on := 0, ground := Ground.phase }, { on := 1, ground := Ground.phase }, { on := 2, ground := Ground.phase }, { on := 3, ground := Ground.textOnly Departure.lateStores }, { on := 4, ground := Ground.textOnly Departure.lateStores }, { on := 5, ground := Ground.textOnly Departure.lateStores }, { on := 6, ground := Ground.phase }, { on := 7, ground := Ground.phase }], guard := none }) (v := ?vv8) rfl (by kernel_rfl) (by kernel_rfl) (by kernel_rfl) (fun _ _ _ h => h) (Or.inl ⟨by rfl, ?hy8⟩) (HS.out _ HK1.out) ?rest8
  case hy8 =>
    intro V hV
    obtain ⟨y0, y1⟩ := hV
    go_simp
    all_goals rfl
  simp only [Act.put, List.setIfInBounds_toArray, List.set_cons_zero, List.set_cons_succ]
  refine wpAnyH_ready (rs := [9]) (by kernel_rfl) (by simp) (AllReadyH.cons (o := { dst := none, op := Op.store 9 (Operand.tmp 121) (Operand.tmp 116), type := 0, pos := "ref.go:248", after := #[{ on := 8, ground := Ground.data }, { on := 2, ground := Ground.data }, { on := 7, ground := Ground.chain }, { on := 0, ground := Ground.phase }, { on := 1, ground := Ground.phase }, { on := 2, ground := Ground.phase }, { on := 3, ground := Ground.textOnly Departure.lateStores }, { on := 4, ground := Ground.textOnly Departure.lateStores }, { on := 5, ground := Ground.textOnly Departure.lateStores }, { on := 6, ground := Ground.phase }, { on := 7, ground := Ground.phase }], guard := none }) rfl (fun K' hK => ?_) AllReadyH.nil)
  obtain ⟨⟨p0, p1, p2, p3, p4, p5, p6⟩, f0, f1, f2, f3, f4, f5, f6⟩ := seven HB1.out
  have HB2 : Hid (((V1).setCell ⟨nb, 3, none⟩ (.string s2)).heap[nb]? = some (.cells #[q0, .int .i64 5, q2, .string s2, q4, q5, q6] 44 (0, 0))) := by
    have hq := HB1.out
    show _ = _
    simp [World.setCell, Array.getElem?_modify] at hq ⊢
    simp [hq]
  have HK2 : Hid (Kept (fun j => j = nb) V0 ((V1).setCell ⟨nb, 3, none⟩ (.string s2))) := (HK1.out).and (Kept.setCell (S := fun j => j = nb) _ ⟨nb, 3, none⟩ _ rfl)
  go_simp
  clear p0 p1 p2 p3 p4 p5 p6 f0 f1 f2 f3 f4 f5 f6
  refine hK.out _ _ (HS.out _ HK2.out) (fun _ => ?_)
  generalize (V1).setCell ⟨nb, 3, none⟩ (.string s2) = V2 at *
  clear hK K'
  try (simp only [Act.put, List.setIfInBounds_toArray, List.set_cons_zero, List.set_cons_succ])
  refine wpAnyH_take (i := 10) (oi := { dst := some 122, op := Op.fieldAddr 44 (Operand.tmp 4) 2, type := 0, pos := "ref.go:248", after := #[{ on := 0, ground := Ground.phase }, { on := 1, ground := Ground.phase }, { on := 2, ground := Ground.phase }, { on := 3, ground := Ground.phase }, { on := 4, ground := Ground.phase }, { on := 5, ground := Ground.phase }, { on := 6, ground := Ground.phase }, { on := 7, ground := Ground.phase }, { on := 8, ground := Ground.phase }, { on := 9, ground := Ground.phase }], guard := none }) (v := ?vv9) rfl (by kernel_rfl) (by kernel_rfl) (by kernel_rfl) (fun _ _ _ h => h) (Or.inl ⟨by rfl, ?hy9⟩) (HS.out _ HK2.out) ?rest9
  case hy9 =>
    intro V hV
    obtain ⟨y0, y1⟩ := hV
    go_simp
    all_goals rfl
  simp only [Act.put, List.setIfInBounds_toArray, List.set_cons_zero, List.set_cons_succ]
  refine wpAnyH_ready (rs := [11]) (by kernel_rfl) (by simp) (AllReadyH.cons (o := { dst := none, op := Op.store 9 (Operand.tmp 122) (Operand.tmp 119), type := 0, pos := "ref.go:248", after := #[{ on := 10, ground := Ground.data }, { on := 5, ground := Ground.data }, { on := 9, ground := Ground.chain }, { on := 0, ground := Ground.phase }, { on := 1, ground := Ground.phase }, { on := 2, ground := Ground.phase }, { on := 3, ground := Ground.phase }, { on := 4, ground := Ground.phase }, { on := 5, ground := Ground.phase }, { on := 6, ground := Ground.phase }, { on := 7, ground := Ground.phase }, { on := 8, ground := Ground.phase }, { on := 9, ground := Ground.phase }], guard := none }) rfl (fun K' hK => ?_) AllReadyH.nil)
  obtain ⟨⟨p0, p1, p2, p3, p4, p5, p6⟩, f0, f1, f2, f3, f4, f5, f6⟩ := seven HB2.out
  have HB3 : Hid (((V2).setCell ⟨nb, 2, none⟩ (.string s3)).heap[nb]? = some (.cells #[q0, .int .i64 5, .string s3, .string s2, q4, q5, q6] 44 (0, 0))) := by
    have hq := HB2.out
    show _ = _
    simp [World.setCell, Array.getElem?_modify] at hq ⊢
    simp [hq]
  have HK3 : Hid (Kept (fun j => j = nb) V0 ((V2).setCell ⟨nb, 2, none⟩ (.string s3))) := (HK2.out).and (Kept.setCell (S := fun j => j = nb) _ ⟨nb, 2, none⟩ _ rfl)
  go_simp
  clear p0 p1 p2 p3 p4 p5 p6 f0 f1 f2 f3 f4 f5 f6
  refine hK.out _ _ (HS.out _ HK3.out) (fun _ => ?_)
  generalize (V2).setCell ⟨nb, 2, none⟩ (.string s3) = V3 at *
  clear hK K'
  try (simp only [Act.put, List.setIfInBounds_toArray, List.set_cons_zero, List.set_cons_succ])
  refine wpAnyH_done (by kernel_rfl) ?_ _
  exact HH.out _ _ _ _ _ _ _ _ _ _ HB3.out (HKD.out.and HK3.out)

end Go.Proofs.YtlholgpenpfpbaaDoor

/-
  The reference's names: named, Name, Flow.
-/
namespace Go.Proofs.YtlholgpenpfpbaaDoor
open Go.RowKit

/-- A sign that a name may hold. -/
def chk (slash : Bool) (x : Int) : Bool := (decide (97 ≤ x) && decide (x ≤ 122)) || (decide (65 ≤ x) && decide (x ≤ 90)) || (decide (48 ≤ x) && decide (x ≤ 57)) || decide (x = 46) || decide (x = 45) || decide (x = 95) || (decide (x = 47) && slash)

theorem chk_letters (c : UInt8) : lettersB.data.toList.contains c = chk false ((c.toNat : Nat) : Int) := by
  have h : (List.range 256).all (fun n => lettersB.data.toList.contains n.toUInt8 == chk false (n : Int)) = true := by kernel_rfl
  have := List.all_eq_true.1 h c.toNat (List.mem_range.2 c.toNat_lt)
  simpa using this

theorem chk_flows (c : UInt8) : flowsB.data.toList.contains c = chk true ((c.toNat : Nat) : Int) := by
  have h : (List.range 256).all (fun n => flowsB.data.toList.contains n.toUInt8 == chk true (n : Int)) = true := by kernel_rfl
  have := List.all_eq_true.1 h c.toNat (List.mem_range.2 c.toNat_lt)
  simpa using this

def namP (s : ByteArray) (slash : Bool) (most : Int) : Bool := decide (1 ≤ s.size) && decide ((s.size : Int) ≤ most) && s.data.toList.all (fun c => chk slash ((c.toNat : Nat) : Int))

theorem nam_name (s : ByteArray) : namP s false 64 = nameP s := by
  unfold namP nameP madeP
  simp only [chk_letters]

theorem nam_flow (s : ByteArray) : namP s true 256 = flowP s := by
  unfold namP flowP madeP
  simp only [chk_flows]

theorem cls (x : Int) : x = 45 ∨ x = 46 ∨ x = 47 ∨ x = 95 ∨ (97 ≤ x ∧ x ≤ 122) ∨ (65 ≤ x ∧ x ≤ 90) ∨ (48 ≤ x ∧ x ≤ 57) ∨ x < 45 ∨ (58 ≤ x ∧ x ≤ 64) ∨ (91 ≤ x ∧ x ≤ 96 ∧ x ≠ 95) ∨ 123 ≤ x := by omega

set_option maxRecDepth 100000 in
set_option maxHeartbeats 8000000 in
theorem named_ref (w : World) (s : ByteArray) (slash : Bool) (most : Int) (hs : s.size ≤ maxLen) :
    Calls Tryd.prog 36 #[.string s, .bool slash, .int .i64 most] w fun e w' => e = .returned (.bool (namP s slash most)) ∧ w' = w := by
  have hM : s.size ≤ 9223372036854775807 := Nat.le_trans hs (by decide)
  clear hs
  go_enter Tryd.func36, Tryd.ntmps36
  go_wp2
  go_loopw [7, 8] (fun i _ wr => ∃ (k : Nat), k ≤ s.size ∧ i = .int .i64 k ∧ wr = w ∧ (s.data.toList.take k).all (fun c => chk slash ((c.toNat : Nat) : Int)) = true) (fun i _ _ => s.size - (intOf i).toNat)
  case atStart => exact ⟨0, Nat.zero_le _, rfl, rfl, rfl⟩
  case round =>
    obtain ⟨k, hk, rfl, hwr, hall⟩ := hrel
    subst hwr
    by_cases hlt : k < s.size
    · have hix : ∀ W, (Instr.index 9 (.string s) (.int .i64 (k : Int))).run Tryd.prog W = .ok (.int .u8 (((s[k]'hlt).toNat : Nat) : Int)) W := fun W => by
        rw [run_index_string W _ _ _ _ Tryd.underlying9]
        rw [dif_pos ⟨by omega, by omega⟩]
        simp
      have hnx := all_next s (fun c => chk slash ((c.toNat : Nat) : Int)) hlt
      rw [hall, Bool.true_and] at hnx
      have e0 : (k : Int) < (s.size : Int) := by omega
      generalize (((s[k]'hlt).toNat : Nat) : Int) = x at *
      have HA : Hid ((s.data.toList.take (k + 1)).all (fun c => chk slash ((c.toNat : Nat) : Int)) = chk slash x) := hnx
      clear hnx hall
      rcases cls x with h | h | h | h | h | h | h | h | h | h | h
      · subst h
        go_wp2
        go_roundw
        case rel => exact ⟨k + 1, by omega, by go_num, trivial, by rw [HA.out]; cases slash <;> rfl⟩
        case measure => simp [intOf]; omega
      · subst h
        go_wp2
        go_roundw
        case rel => exact ⟨k + 1, by omega, by go_num, trivial, by rw [HA.out]; cases slash <;> rfl⟩
        case measure => simp [intOf]; omega
      · subst h
        cases slash
        · go_wp2
          go_ret
          refine ⟨?_, rfl⟩
          unfold namP
          rw [all_ge _ _ (k + 1) (by rw [HA.out]; rfl)]
          simp
        · go_wp2
          go_roundw
          case rel => exact ⟨k + 1, by omega, by go_num, trivial, by rw [HA.out]; rfl⟩
          case measure => simp [intOf]; omega
      · subst h
        go_wp2
        go_roundw
        case rel => exact ⟨k + 1, by omega, by go_num, trivial, by rw [HA.out]; cases slash <;> rfl⟩
        case measure => simp [intOf]; omega
      · have HC : Hid (chk slash x = true) := by
          show chk slash x = true
          unfold chk; cases slash <;> simp <;> omega
        have a0 : 97 ≤ x := by omega
        have a1 : x ≤ 122 := by omega
        clear h
        go_wp2
        go_roundw
        case rel => exact ⟨k + 1, by omega, by go_num, trivial, by rw [HA.out]; exact HC.out⟩
        case measure => simp [intOf]; omega
      · have HC : Hid (chk slash x = true) := by
          show chk slash x = true
          unfold chk; cases slash <;> simp <;> omega
        have a0 : ¬ 97 ≤ x := by omega
        have a2 : 65 ≤ x := by omega
        have a3 : x ≤ 90 := by omega
        clear h
        go_wp2
        go_roundw
        case rel => exact ⟨k + 1, by omega, by go_num, trivial, by rw [HA.out]; exact HC.out⟩
        case measure => simp [intOf]; omega
      · have HC : Hid (chk slash x = true) := by
          show chk slash x = true
          unfold chk; cases slash <;> simp <;> omega
        have a0 : ¬ 97 ≤ x := by omega
        have a2 : ¬ 65 ≤ x := by omega
        have a4 : 48 ≤ x := by omega
        have a5 : x ≤ 57 := by omega
        clear h
        go_wp2
        go_roundw
        case rel => exact ⟨k + 1, by omega, by go_num, trivial, by rw [HA.out]; exact HC.out⟩
        case measure => simp [intOf]; omega
      · have HC : Hid (chk slash x = false) := by
          show chk slash x = false
          unfold chk; cases slash <;> simp <;> omega
        have a0 : ¬ 97 ≤ x := by omega
        have a2 : ¬ 65 ≤ x := by omega
        have a4 : ¬ 48 ≤ x := by omega
        have a6 : (x == 46) = false := by simp; omega
        have a7 : (x == 45) = false := by simp; omega
        have a8 : (x == 95) = false := by simp; omega
        have a9 : (x == 47) = false := by simp; omega
        clear h
        go_wp2
        go_ret
        refine ⟨?_, rfl⟩
        unfold namP
        rw [all_ge _ _ (k + 1) (by rw [HA.out]; exact HC.out)]
        simp
      · have HC : Hid (chk slash x = false) := by
          show chk slash x = false
          unfold chk; cases slash <;> simp <;> omega
        have a0 : ¬ 97 ≤ x := by omega
        have a2 : ¬ 65 ≤ x := by omega
        have a4 : 48 ≤ x := by omega
        have a5 : ¬ x ≤ 57 := by omega
        have a6 : (x == 46) = false := by simp; omega
        have a7 : (x == 45) = false := by simp; omega
        have a8 : (x == 95) = false := by simp; omega
        have a9 : (x == 47) = false := by simp; omega
        clear h
        go_wp2
        go_ret
        refine ⟨?_, rfl⟩
        unfold namP
        rw [all_ge _ _ (k + 1) (by rw [HA.out]; exact HC.out)]
        simp
      · have HC : Hid (chk slash x = false) := by
          show chk slash x = false
          unfold chk; cases slash <;> simp <;> omega
        have a0 : ¬ 97 ≤ x := by omega
        have a2 : 65 ≤ x := by omega
        have a3 : ¬ x ≤ 90 := by omega
        have a4 : 48 ≤ x := by omega
        have a5 : ¬ x ≤ 57 := by omega
        have a6 : (x == 46) = false := by simp; omega
        have a7 : (x == 45) = false := by simp; omega
        have a8 : (x == 95) = false := by simp; omega
        have a9 : (x == 47) = false := by simp; omega
        clear h
        go_wp2
        go_ret
        refine ⟨?_, rfl⟩
        unfold namP
        rw [all_ge _ _ (k + 1) (by rw [HA.out]; exact HC.out)]
        simp
      · have HC : Hid (chk slash x = false) := by
          show chk slash x = false
          unfold chk; cases slash <;> simp <;> omega
        have a0 : 97 ≤ x := by omega
        have a1 : ¬ x ≤ 122 := by omega
        have a2 : 65 ≤ x := by omega
        have a3 : ¬ x ≤ 90 := by omega
        have a4 : 48 ≤ x := by omega
        have a5 : ¬ x ≤ 57 := by omega
        have a6 : (x == 46) = false := by simp; omega
        have a7 : (x == 45) = false := by simp; omega
        have a8 : (x == 95) = false := by simp; omega
        have a9 : (x == 47) = false := by simp; omega
        clear h
        go_wp2
        go_ret
        refine ⟨?_, rfl⟩
        unfold namP
        rw [all_ge _ _ (k + 1) (by rw [HA.out]; exact HC.out)]
        simp
    · obtain rfl : k = s.size := by omega
      have e : s.data.toList.take s.size = s.data.toList := List.take_of_length_le (by simp)
      rw [e] at hall
      have HA : Hid (s.data.toList.all (fun c => chk slash ((c.toNat : Nat) : Int)) = true) := hall
      clear hall
      by_cases h1 : 1 ≤ s.size
      · have e1 : (1 : Int) ≤ (s.size : Int) := by omega
        by_cases h2 : (s.size : Int) ≤ most
        · go_wp2
          go_ret
          refine ⟨?_, rfl⟩
          unfold namP
          rw [HA.out]
          simp [h1, h2]
        · go_wp2
          go_ret
          refine ⟨?_, rfl⟩
          unfold namP
          rw [HA.out]
          simp [h1, h2]
      · have e1 : ¬ (1 : Int) ≤ (s.size : Int) := by omega
        go_wp2
        go_ret
        refine ⟨?_, rfl⟩
        unfold namP
        rw [HA.out]
        simp [h1]

end Go.Proofs.YtlholgpenpfpbaaDoor

/-
  The document's Find.
-/
namespace Go.Proofs.YtlholgpenpfpbaaDoor
open Go.RowKit

set_option maxRecDepth 100000 in
set_option maxHeartbeats 1000000 in
theorem refFind_any (w : World) (name : ByteArray) (a : Option Addr) (n c : Nat) (ns : List Nd) (hN : NodesAt w a ns) (hl : ns.length = n) (hn : n ≤ 4611686018427387904) (s : ByteArray) :
    Calls Tryd.prog 41 #[.agg #[.string name, .slice a n c], .string s] w fun e w' => e = .returned (.tuple #[.int .i64 ((findP ns s).getD 0 : Nat), .bool (findP ns s).isSome]) ∧ Kept (fun _ => False) w w' := by
  subst hl
  go_enter Tryd.func41, Tryd.ntmps41
  go_wp2
  go_loopw [6] (fun i wr => ∃ (k : Nat), k ≤ ns.length ∧ i = .int .i64 k ∧ wr = w.alloc (.cells #[.string name, .slice a ns.length c] 26) ∧ findP (ns.take k) s = none) (fun i _ => ns.length - (intOf i).toNat)
  case atStart => exact ⟨0, Nat.zero_le _, rfl, rfl, rfl⟩
  case round =>
    obtain ⟨k, hk, rfl, rfl, hf⟩ := hrel
    by_cases hlt : k < ns.length
    · obtain ⟨b, o, av, cv, rfl, hT, c0, c1, c2, c3, c4, c5, c6⟩ := (keptNew (Kept.alloc (fun _ => False) w (.cells #[.string name, .slice a ns.length c] 26)) hN).at hlt
      have hnx := findP_take (s := s) hlt
      have hft := fun h => findP_of_first hlt h (fun j hj => findP_none.1 hf _ (List.mem_take_iff_getElem.2 ⟨j, by omega, rfl⟩))
      rw [hf, Option.none_or] at hnx
      have HF : Hid ((ns[k]).name = s → findP ns s = some k) := hft
      have HN : Hid (findP (ns.take (k + 1)) s = if (ns[k]).name = s then some k else none) := hnx
      have e0 : (k : Int) < (ns.length : Int) := by omega
      clear hft hnx hT hN
      by_cases he : (ns[k]).name = s
      · have he2 : ((ns[k]).name.toList == s.toList) = true := by rw [he]; simp
        generalize ns[k] = x at *
        go_wp2
        go_ret2
        rw [HF.out he]
        exact ⟨rfl, Kept.alloc _ _ _⟩
      · have he2 : ((ns[k]).name.toList == s.toList) = false := by
          simp only [beq_eq_false_iff_ne, ne_eq]
          exact fun h => he (ByteArray.ext (Array.toList_inj.1 (by rw [← Lib.toList_data, ← Lib.toList_data]; exact h)))
        generalize ns[k] = x at *
        go_wp2
        go_roundw
        case rel =>
          refine ⟨k + 1, by omega, by go_num, trivial, ?_⟩
          rw [HN.out, if_neg he]
        case measure => simp [intOf]; omega
    · obtain rfl : k = ns.length := by omega
      clear hN
      go_wp2
      go_ret2
      rw [List.take_length] at hf
      rw [hf]
      exact ⟨rfl, Kept.alloc _ _ _⟩

end Go.Proofs.YtlholgpenpfpbaaDoor

/-
  The document's checkNode.
-/
namespace Go.Proofs.YtlholgpenpfpbaaDoor
open Go.RowKit

set_option maxRecDepth 100000 in
set_option maxHeartbeats 1000000 in
theorem refName_any (w : World) (s : ByteArray) (hs : s.size ≤ maxLen) :
    Calls Tryd.prog 17 #[.string s] w fun e w' => e = .returned (.bool (nameP s)) ∧ w' = w := by
  have h := named_ref w s false 64 hs
  rw [nam_name] at h
  generalize nameP s = b at *
  go_enter Tryd.func17, Tryd.ntmps17
  go_wp2_with (first
    | (go_at_call 36; refine h.mono ?_; rintro e w1 ⟨rfl, rfl⟩; clear h)
    | fail)
  go_ret
  exact ⟨rfl, rfl⟩

set_option maxRecDepth 100000 in
set_option maxHeartbeats 1000000 in
theorem refFlow_any (w : World) (s : ByteArray) (hs : s.size ≤ maxLen) :
    Calls Tryd.prog 39 #[.string s] w fun e w' => e = .returned (.bool (flowP s)) ∧ w' = w := by
  have h := named_ref w s true 256 hs
  rw [nam_flow] at h
  generalize flowP s = b at *
  go_enter Tryd.func39, Tryd.ntmps39
  go_wp2_with (first
    | (go_at_call 36; refine h.mono ?_; rintro e w1 ⟨rfl, rfl⟩; clear h)
    | fail)
  go_ret
  exact ⟨rfl, rfl⟩

theorem bytes_empty (s : ByteArray) : (s = ByteArray.empty) ↔ s.size = 0 := by
  constructor
  · intro h; subst h; rfl
  · intro h
    apply ByteArray.ext
    apply Array.eq_empty_of_size_eq_zero
    exact h

set_option maxRecDepth 100000 in
set_option maxHeartbeats 8000000 in
theorem refNode_raw (w : World) (name : ByteArray) (b o c n i j : Nat) (x0 : ByteArray) (x1 : Int) (x2 x3 : ByteArray) (x4 x5 : Int) (x6 : List ByteArray) (av : Option Addr) (lv cv : Nat) (b1 b2 b3 bf : Bool) (hn : i < n) (_hnn : n ≤ 1000000)
    (hN1 : ∀ V, Calls Tryd.prog 17 #[.string x0] V fun e w' => e = .returned (.bool b1) ∧ w' = V)
    (hN2 : ∀ V, Calls Tryd.prog 17 #[.string x2] V fun e w' => e = .returned (.bool b2) ∧ w' = V)
    (hF3 : ∀ V, Calls Tryd.prog 39 #[.string x3] V fun e w' => e = .returned (.bool b3) ∧ w' = V)
    (hFd : ∀ V, Kept (fun _ => False) w V → Calls Tryd.prog 41 #[.agg #[.string name, .slice (some ⟨b, o, none⟩) n c], .string x0] V fun e w' => e = .returned (.tuple #[.int .i64 (j : Nat), .bool bf]) ∧ Kept (fun _ => False) V w')
    (c0 : (w.alloc (.cells #[.string name, .slice (some ⟨b, o, none⟩) n c] 26)).cell? ⟨b, o + i * 7, none⟩ = some (.string x0))
    (c1 : (w.alloc (.cells #[.string name, .slice (some ⟨b, o, none⟩) n c] 26)).cell? ⟨b, o + i * 7 + 1, none⟩ = some (.int .i64 x1))
    (c2 : (w.alloc (.cells #[.string name, .slice (some ⟨b, o, none⟩) n c] 26)).cell? ⟨b, o + i * 7 + 2, none⟩ = some (.string x2))
    (c3 : (w.alloc (.cells #[.string name, .slice (some ⟨b, o, none⟩) n c] 26)).cell? ⟨b, o + i * 7 + 3, none⟩ = some (.string x3))
    (c4 : (w.alloc (.cells #[.string name, .slice (some ⟨b, o, none⟩) n c] 26)).cell? ⟨b, o + i * 7 + 4, none⟩ = some (.int .i64 x4))
    (c5 : (w.alloc (.cells #[.string name, .slice (some ⟨b, o, none⟩) n c] 26)).cell? ⟨b, o + i * 7 + 5, none⟩ = some (.int .i64 x5))
    (c6 : (w.alloc (.cells #[.string name, .slice (some ⟨b, o, none⟩) n c] 26)).cell? ⟨b, o + i * 7 + 6, none⟩ = some (.slice av lv cv)) :
    Calls Tryd.prog 40 #[.agg #[.string name, .slice (some ⟨b, o, none⟩) n c], .int .i64 i] w fun e w' => e = .returned (.int .i64 (if (b1 && (x1 == 2 || b2) && (x1 != 5 || b3)) = true then (if j < i then 16 else if fitsP ⟨x0, x1, x2, x3, x4, x5, x6⟩ = true then 0 else 1) else 17)) ∧ Kept (fun _ => False) w w' := by
  generalize hr : (if (b1 && (x1 == 2 || b2) && (x1 != 5 || b3)) = true then (if j < i then (16 : Int) else if fitsP ⟨x0, x1, x2, x3, x4, x5, x6⟩ = true then 0 else 1) else 17) = r
  have HR : Hid ((if (b1 && (x1 == 2 || b2) && (x1 != 5 || b3)) = true then (if j < i then (16 : Int) else if fitsP ⟨x0, x1, x2, x3, x4, x5, x6⟩ = true then 0 else 1) else 17) = r) := hr
  clear hr
  have s2 := str_empty x2
  have s3 := str_empty x3
  have e0 : (i : Int) < (n : Int) := by omega
  have HJ : Hid (j < i ∨ ¬ j < i) := Decidable.em _
  cases b1
  · go_enter Tryd.func40, Tryd.ntmps40
    go_wp2_with (first
      | (go_at_call_of 17 (Value.string x0); refine (hN1 _).mono ?_; rintro e w1 ⟨rfl, hw⟩; subst w1)
      | fail)
    go_ret
    refine ⟨?_, (Kept.alloc _ _ _).and (Kept.alloc _ _ _)⟩
    rw [← HR.out]
    rfl
  · rcases HJ.out with hj | hj
    · have ej : (j : Int) < (i : Int) := by omega
      cases b2 <;> cases b3
      all_goals (
        go_enter Tryd.func40, Tryd.ntmps40
        go_wp2_with (first
          | (go_at_call_of 17 (Value.string x0); refine (hN1 _).mono ?_; rintro e w1 ⟨rfl, hw⟩; subst w1)
          | (go_at_call_of 17 (Value.string x2); refine (hN2 _).mono ?_; rintro e w1 ⟨rfl, hw⟩; subst w1)
          | (go_at_call 39; refine (hF3 _).mono ?_; rintro e w1 ⟨rfl, hw⟩; subst w1)
          | (go_at_call 41; refine (hFd _ ((Kept.alloc _ _ _).and (Kept.alloc _ _ _))).mono ?_; rintro e w2 ⟨rfl, K2⟩; have hb := boxN K2; rw [World.size_alloc] at hb; obtain ⟨y0, y1, y2, y3, y4, y5, y6⟩ := hb)
          | fail))
      all_goals go_ret
      all_goals rw [← HR.out]
      all_goals clear HR
      all_goals first | refine ⟨?_, ((Kept.alloc _ _ _).and (Kept.alloc _ _ _)).and K2⟩ | refine ⟨?_, (Kept.alloc _ _ _).and (Kept.alloc _ _ _)⟩
      all_goals clear hN1 hN2 hF3 hFd c0 c1 c2 c3 c4 c5 c6
      all_goals try clear y0 y1 y2 y3 y4 y5 y6
      all_goals try clear K2
      all_goals have hx2 : (x2 = ByteArray.empty) ↔ x2.size = 0 := bytes_empty x2
      all_goals have hx3 : (x3 = ByteArray.empty) ↔ x3.size = 0 := bytes_empty x3
      all_goals unfold fitsP
      all_goals simp only []
      all_goals (first | refine congrArg (fun z => Ending.returned (Value.int .i64 z)) (show (1 : Int) = _ from ?_) | refine congrArg (fun z => Ending.returned (Value.int .i64 z)) (show (0 : Int) = _ from ?_) | refine congrArg (fun z => Ending.returned (Value.int .i64 z)) (show (16 : Int) = _ from ?_) | refine congrArg (fun z => Ending.returned (Value.int .i64 z)) (show (17 : Int) = _ from ?_))
      all_goals (grind; done)
    · have ej : ¬ (j : Int) < (i : Int) := by omega
      cases b2 <;> cases b3
      all_goals (
        go_enter Tryd.func40, Tryd.ntmps40
        go_wp2_with (first
          | (go_at_call_of 17 (Value.string x0); refine (hN1 _).mono ?_; rintro e w1 ⟨rfl, hw⟩; subst w1)
          | (go_at_call_of 17 (Value.string x2); refine (hN2 _).mono ?_; rintro e w1 ⟨rfl, hw⟩; subst w1)
          | (go_at_call 39; refine (hF3 _).mono ?_; rintro e w1 ⟨rfl, hw⟩; subst w1)
          | (go_at_call 41; refine (hFd _ ((Kept.alloc _ _ _).and (Kept.alloc _ _ _))).mono ?_; rintro e w2 ⟨rfl, K2⟩; have hb := boxN K2; rw [World.size_alloc] at hb; obtain ⟨y0, y1, y2, y3, y4, y5, y6⟩ := hb)
          | fail))
      all_goals go_ret
      all_goals rw [← HR.out]
      all_goals clear HR
      all_goals first | refine ⟨?_, ((Kept.alloc _ _ _).and (Kept.alloc _ _ _)).and K2⟩ | refine ⟨?_, (Kept.alloc _ _ _).and (Kept.alloc _ _ _)⟩
      all_goals clear hN1 hN2 hF3 hFd c0 c1 c2 c3 c4 c5 c6
      all_goals try clear y0 y1 y2 y3 y4 y5 y6
      all_goals try clear K2
      all_goals have hx2 : (x2 = ByteArray.empty) ↔ x2.size = 0 := bytes_empty x2
      all_goals have hx3 : (x3 = ByteArray.empty) ↔ x3.size = 0 := bytes_empty x3
      all_goals unfold fitsP
      all_goals simp only []
      all_goals (first | refine congrArg (fun z => Ending.returned (Value.int .i64 z)) (show (1 : Int) = _ from ?_) | refine congrArg (fun z => Ending.returned (Value.int .i64 z)) (show (0 : Int) = _ from ?_) | refine congrArg (fun z => Ending.returned (Value.int .i64 z)) (show (16 : Int) = _ from ?_) | refine congrArg (fun z => Ending.returned (Value.int .i64 z)) (show (17 : Int) = _ from ?_))
      all_goals (grind; done)

/-- The document's checkNode, for a node of a definition. -/
theorem refNode_any (w : World) (name : ByteArray) (a : Option Addr) (c i : Nat) (ns : List Nd) (hN : NodesAt w a ns) (hn : ns.length ≤ 1000000) (hi : i < ns.length) :
    Calls Tryd.prog 40 #[.agg #[.string name, .slice a ns.length c], .int .i64 i] w fun e w' => e = .returned (.int .i64 (nodeE ns i ns[i])) ∧ Kept (fun _ => False) w w' := by
  obtain ⟨b, o, av, cv, rfl, T, x0, x1, x2, x3, x4, x5, x6⟩ := (keptNew (Kept.alloc (fun _ => False) w (.cells #[.string name, .slice a ns.length c] 26)) hN).at hi
  have hok := hN.1 ns[i] (List.getElem_mem hi)
  exact refNode_raw w name b o c ns.length i ((findP ns (ns[i]).name).getD 0) (ns[i]).name (ns[i]).kind (ns[i]).arg (ns[i]).to (ns[i]).delay (ns[i]).tries (ns[i]).after av (ns[i]).after.length cv (nameP (ns[i]).name) (nameP (ns[i]).arg) (flowP (ns[i]).to) (findP ns (ns[i]).name).isSome hi hn
    (fun V => refName_any V _ hok.name) (fun V => refName_any V _ hok.arg) (fun V => refFlow_any V _ hok.to) (fun V K => refFind_any V name _ ns.length c ns (keptNew K hN) rfl (by omega) _) x0 x1 x2 x3 x4 x5 x6

end Go.Proofs.YtlholgpenpfpbaaDoor
