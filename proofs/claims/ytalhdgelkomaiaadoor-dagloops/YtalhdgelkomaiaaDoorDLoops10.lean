/-
  A name is put behind a node's After, as a region that draws its order.
-/
import Derived.Test.YtalhdgelkomaiaaDoorDDefCopy
namespace Go.Proofs.YtalhdgelkomaiaaDoor
open Go.RowKit

/-- A cell and that it may be written, behind what keeps it. -/
theorem cellKeep2 {w w' : World} (K : Kept (fun _ => False) w w') {a : Addr} {v : Value} (h : w.cell? a = some v) (hz : w.frozen? a = false) : w'.cell? a = some v ∧ w'.frozen? a = false := by
  have h2 := World.block_lt_of_cell? w _ h
  have hb := K.block _ h2 (fun h => h)
  refine ⟨keepC K h (fun _ _ h => h), ?_⟩
  rw [← hz]
  unfold World.frozen?
  rw [hb]

set_option maxRecDepth 100000 in
set_option maxHeartbeats 8000000 in
theorem loops10 {W : World} {db xb b o n c g cx p q cv : Nat} {av : Option Addr} {l : List ByteArray} {s : ByteArray} {ds : List Deferred} {u0 u1 u2 u4 u5 u6 u7 u8 u12 u13 u14 u15 u16 u17 u18 u19 u20 u21 u22 u23 u24 u25 u26 u27 u28 u29 u30 u31 u32 u33 u34 u35 u36 u37 u38 u39 u40 u41 u42 u43 u44 u45 u46 u47 u48 u49 u50 u51 u52 u53 u54 u55 u56 u57 u58 u59 u60 u61 u62 u63 u64 u65 u66 u67 u68 u69 u70 u71 u72 u73 u74 u75 u76 u77 u78 u79 u80 u81 u82 u83 u84 u85 u86 u87 u88 u89 u90 u91 u92 u93 u94 u95 u96 u97 u98 u99 u100 u101 u102 u103 u104 u105 u106 u107 u108 u109 u110 u111 u112 u113 u114 : Value} (K : Act → World → Prop)
    (x0 : W.cell? ⟨db, 1, none⟩ = some (.slice (some ⟨b, o, none⟩) n c)) (x1 : W.cell? ⟨xb, 1, none⟩ = some (.slice (some ⟨g, 0, none⟩) n cx)) (x2 : W.cell? ⟨b, o + p * 7 + 6, none⟩ = some (.slice av l.length cv)) (x3 : W.cell? ⟨b, o + q * 7, none⟩ = some (.string s))
    (hT : TextsAt W (.slice av l.length cv) l) (hl : l.length ≤ 1000) (hp : p < n) (hq : q < n) (hn : n ≤ 1000) (gv : Value) (hg : W.cell? ⟨g, p * 7 + 6, none⟩ = some gv) (hgz : W.frozen? ⟨g, p * 7 + 6, none⟩ = false) (hgd : db ≠ g) (hgx : xb ≠ g) (hgb : b ≠ g)
    (h : ∀ (v63 v64 v65 v66 v67 v68 v69 v70 v71 v72 v73 v74 v75 v76 v77 v78 v79 v80 v81 v82 v83 : Value) (a4 : Option Addr) (c4 : Nat) (w4 : World), w4.ownsRow W.drew.heap.size 9 1 (.slice a4 (l.length + 1) c4) (l.length + 1) (strsV l ++ [.string s]) → Kept (fun _ => False) W w4 → K { tmps := #[u0, u1, u2, .pointer (some ⟨db, 0, none⟩), u4, u5, u6, u7, u8, .int .i64 (p : Nat), .int .i64 (q : Nat), .pointer (some ⟨xb, 0, none⟩), u12, u13, u14, u15, u16, u17, u18, u19, u20, u21, u22, u23, u24, u25, u26, u27, u28, u29, u30, u31, u32, u33, u34, u35, u36, u37, u38, u39, u40, u41, u42, u43, u44, u45, u46, u47, u48, u49, u50, u51, u52, u53, u54, u55, u56, u57, u58, u59, u60, u61, u62, v63, v64, v65, v66, v67, v68, v69, v70, v71, v72, v73, v74, v75, v76, v77, v78, v79, v80, v81, v82, v83, u84, u85, u86, u87, u88, u89, u90, u91, u92, u93, u94, u95, u96, u97, u98, u99, u100, u101, u102, u103, u104, u105, u106, u107, u108, u109, u110, u111, u112, u113, u114], defers := ds } (w4.setCell ⟨g, p * 7 + 6, none⟩ (.slice a4 (l.length + 1) c4))) :
    (Code.region 10 #[{ dst := some 63, op := Op.fieldAddr 26 (Operand.tmp 11) 1, type := 0, pos := "more.go:23", after := #[], guard := none }, { dst := some 64, op := Op.load 24 (Operand.tmp 63), type := 24, pos := "more.go:23", after := #[{ on := 0, ground := Ground.data }], guard := none }, { dst := some 65, op := Op.move (Operand.tmp 9), type := 3, pos := "more.go:23", after := #[], guard := none }, { dst := some 66, op := Op.buildSlice 22 0 #[], type := 22, pos := "more.go:23", after := #[], guard := none }, { dst := some 67, op := Op.fieldAddr 26 (Operand.tmp 3) 1, type := 0, pos := "more.go:23", after := #[], guard := none }, { dst := some 68, op := Op.load 24 (Operand.tmp 67), type := 24, pos := "more.go:23", after := #[{ on := 4, ground := Ground.data }], guard := none }, { dst := some 69, op := Op.move (Operand.tmp 9), type := 3, pos := "more.go:23", after := #[], guard := none }, { dst := some 70, op := Op.indexAddr 24 (Operand.tmp 68) (Operand.tmp 69), type := 0, pos := "more.go:23", after := #[{ on := 5, ground := Ground.data }, { on := 6, ground := Ground.data }], guard := none }, { dst := some 71, op := Op.fieldAddr 47 (Operand.tmp 70) 6, type := 0, pos := "more.go:23", after := #[{ on := 7, ground := Ground.data }], guard := none }, { dst := some 72, op := Op.load 22 (Operand.tmp 71), type := 22, pos := "more.go:23", after := #[{ on := 8, ground := Ground.data }], guard := none }, { dst := some 73, op := Op.call { callee := Callee.builtin Builtin.append, args := #[Operand.tmp 66, Operand.tmp 72], argTypes := #[22, 22] }, type := 22, pos := "more.go:23", after := #[{ on := 3, ground := Ground.data }, { on := 9, ground := Ground.data }], guard := none }, { dst := some 74, op := Op.fieldAddr 26 (Operand.tmp 3) 1, type := 0, pos := "more.go:23", after := #[], guard := none }, { dst := some 75, op := Op.load 24 (Operand.tmp 74), type := 24, pos := "more.go:23", after := #[{ on := 11, ground := Ground.data }], guard := none }, { dst := some 76, op := Op.move (Operand.tmp 10), type := 3, pos := "more.go:23", after := #[], guard := none }, { dst := some 77, op := Op.indexAddr 24 (Operand.tmp 75) (Operand.tmp 76), type := 0, pos := "more.go:23", after := #[{ on := 12, ground := Ground.data }, { on := 13, ground := Ground.data }], guard := none }, { dst := some 78, op := Op.fieldAddr 47 (Operand.tmp 77) 0, type := 0, pos := "more.go:23", after := #[{ on := 14, ground := Ground.data }], guard := none }, { dst := some 79, op := Op.load 9 (Operand.tmp 78), type := 9, pos := "more.go:23", after := #[{ on := 15, ground := Ground.data }], guard := none }, { dst := some 80, op := Op.buildSlice 22 1 #[(0, Operand.tmp 79)], type := 22, pos := "more.go:23", after := #[{ on := 16, ground := Ground.data }], guard := none }, { dst := some 81, op := Op.call { callee := Callee.builtin Builtin.append, args := #[Operand.tmp 73, Operand.tmp 80], argTypes := #[22, 22] }, type := 22, pos := "more.go:23", after := #[{ on := 10, ground := Ground.data }, { on := 17, ground := Ground.data }, { on := 10, ground := Ground.chain }], guard := none }, { dst := some 82, op := Op.indexAddr 24 (Operand.tmp 64) (Operand.tmp 65), type := 0, pos := "more.go:23", after := #[{ on := 1, ground := Ground.data }, { on := 2, ground := Ground.data }, { on := 0, ground := Ground.phase }, { on := 1, ground := Ground.phase }, { on := 2, ground := Ground.phase }, { on := 3, ground := Ground.phase }, { on := 4, ground := Ground.phase }, { on := 5, ground := Ground.phase }, { on := 6, ground := Ground.phase }, { on := 7, ground := Ground.phase }, { on := 8, ground := Ground.phase }, { on := 9, ground := Ground.phase }, { on := 10, ground := Ground.phase }, { on := 11, ground := Ground.phase }, { on := 12, ground := Ground.phase }, { on := 13, ground := Ground.phase }, { on := 14, ground := Ground.phase }, { on := 15, ground := Ground.phase }, { on := 16, ground := Ground.phase }, { on := 17, ground := Ground.phase }, { on := 18, ground := Ground.phase }], guard := none }, { dst := some 83, op := Op.fieldAddr 47 (Operand.tmp 82) 6, type := 0, pos := "more.go:23", after := #[{ on := 19, ground := Ground.data }, { on := 0, ground := Ground.phase }, { on := 1, ground := Ground.phase }, { on := 2, ground := Ground.phase }, { on := 3, ground := Ground.phase }, { on := 4, ground := Ground.phase }, { on := 5, ground := Ground.phase }, { on := 6, ground := Ground.phase }, { on := 7, ground := Ground.phase }, { on := 8, ground := Ground.phase }, { on := 9, ground := Ground.phase }, { on := 10, ground := Ground.phase }, { on := 11, ground := Ground.phase }, { on := 12, ground := Ground.phase }, { on := 13, ground := Ground.phase }, { on := 14, ground := Ground.phase }, { on := 15, ground := Ground.phase }, { on := 16, ground := Ground.phase }, { on := 17, ground := Ground.phase }, { on := 18, ground := Ground.phase }], guard := none }, { dst := none, op := Op.store 22 (Operand.tmp 83) (Operand.tmp 81), type := 0, pos := "more.go:23", after := #[{ on := 20, ground := Ground.data }, { on := 18, ground := Ground.data }, { on := 18, ground := Ground.chain }, { on := 0, ground := Ground.phase }, { on := 1, ground := Ground.phase }, { on := 2, ground := Ground.phase }, { on := 3, ground := Ground.phase }, { on := 4, ground := Ground.phase }, { on := 5, ground := Ground.phase }, { on := 6, ground := Ground.phase }, { on := 7, ground := Ground.phase }, { on := 8, ground := Ground.phase }, { on := 9, ground := Ground.phase }, { on := 10, ground := Ground.phase }, { on := 11, ground := Ground.phase }, { on := 12, ground := Ground.phase }, { on := 13, ground := Ground.phase }, { on := 14, ground := Ground.phase }, { on := 15, ground := Ground.phase }, { on := 16, ground := Ground.phase }, { on := 17, ground := Ground.phase }, { on := 18, ground := Ground.phase }], guard := none }] true).wp Tryd.prog (onlyN K) { tmps := #[u0, u1, u2, .pointer (some ⟨db, 0, none⟩), u4, u5, u6, u7, u8, .int .i64 (p : Nat), .int .i64 (q : Nat), .pointer (some ⟨xb, 0, none⟩), u12, u13, u14, u15, u16, u17, u18, u19, u20, u21, u22, u23, u24, u25, u26, u27, u28, u29, u30, u31, u32, u33, u34, u35, u36, u37, u38, u39, u40, u41, u42, u43, u44, u45, u46, u47, u48, u49, u50, u51, u52, u53, u54, u55, u56, u57, u58, u59, u60, u61, u62, u63, u64, u65, u66, u67, u68, u69, u70, u71, u72, u73, u74, u75, u76, u77, u78, u79, u80, u81, u82, u83, u84, u85, u86, u87, u88, u89, u90, u91, u92, u93, u94, u95, u96, u97, u98, u99, u100, u101, u102, u103, u104, u105, u106, u107, u108, u109, u110, u111, u112, u113, u114], defers := ds } W := by
  obtain ⟨j0, hj0, hy0, hy1, hy2⟩ := info_parts Tryd.info9
  have HH : Hid _ := h
  have KD := Kept.drew (fun _ => False) W
  have HS : Hid (∀ V, Kept (fun _ => False) W.drew V → V.cell? ⟨db, 1, none⟩ = some (.slice (some ⟨b, o, none⟩) n c) ∧ V.cell? ⟨xb, 1, none⟩ = some (.slice (some ⟨g, 0, none⟩) n cx) ∧ V.cell? ⟨b, o + p * 7 + 6, none⟩ = some (.slice av l.length cv) ∧ V.cell? ⟨b, o + q * 7, none⟩ = some (.string s)) := fun V KV => ⟨keepC (KD.and KV) x0 (fun _ _ h => h), keepC (KD.and KV) x1 (fun _ _ h => h), keepC (KD.and KV) x2 (fun _ _ h => h), keepC (KD.and KV) x3 (fun _ _ h => h)⟩
  have HC : Hid (∀ V, Kept (fun _ => False) W.drew V → Src V 1 (.slice av l.length cv) l.length (strsV l)) := fun V KV => (hT.kept (KD.and KV) (fun _ _ h => h)).src
  have HT : Hid (∀ V, Kept (fun _ => False) W.drew V → V.cell? ⟨g, p * 7 + 6, none⟩ = some gv ∧ V.frozen? ⟨g, p * 7 + 6, none⟩ = false) := fun V KV => cellKeep2 (KD.and KV) hg hgz
  have HSet : Hid (∀ V, Kept (fun _ => False) W.drew V → ∀ u, (fun V : World => V.cell? ⟨db, 1, none⟩ = some (.slice (some ⟨b, o, none⟩) n c) ∧ V.cell? ⟨xb, 1, none⟩ = some (.slice (some ⟨g, 0, none⟩) n cx) ∧ V.cell? ⟨b, o + p * 7 + 6, none⟩ = some (.slice av l.length cv) ∧ V.cell? ⟨b, o + q * 7, none⟩ = some (.string s)) (V.setCell ⟨g, p * 7 + 6, none⟩ u)) := fun V KV u => by
    have KZ : Kept (fun j => j = g) V (V.setCell ⟨g, p * 7 + 6, none⟩ u) := Kept.setCell _ _ _ rfl
    have hh : ∀ {ad : Addr} {v : Value}, V.cell? ad = some v → ad.block ≠ g → (V.setCell ⟨g, p * 7 + 6, none⟩ u).cell? ad = some v := fun {ad v} hc hne => by
      rw [World.cell?_of_block (w := V) (KZ.block _ (World.block_lt_of_cell? V _ hc) hne)]
      exact hc
    obtain ⟨y0, y1, y2, y3⟩ := HS.out V KV
    exact ⟨hh y0 hgd, hh y1 hgx, hh y2 hgb, hh y3 hgb⟩
  have HKD : Hid (Kept (fun _ => False) W W.drew) := KD
  have hS0 := HS.out W.drew (Kept.refl _ _)
  have e1 : (p : Int) < (n : Int) := by omega
  have e2 : (q : Int) < (n : Int) := by omega
  have w1 : IntKind.i64.wrap (p : Int) = (p : Int) := by rw [IntKind.wrap_i64]; omega
  have w2 : IntKind.i64.wrap (q : Int) = (q : Int) := by rw [IntKind.wrap_i64]; omega
  clear h KD x0 x1 x2 x3 hT hg hgz
  refine wp_region_held_drew (S := fun V => V.cell? ⟨db, 1, none⟩ = some (.slice (some ⟨b, o, none⟩) n c) ∧ V.cell? ⟨xb, 1, none⟩ = some (.slice (some ⟨g, 0, none⟩) n cx) ∧ V.cell? ⟨b, o + p * 7 + 6, none⟩ = some (.slice av l.length cv) ∧ V.cell? ⟨b, o + q * 7, none⟩ = some (.string s)) (by kernel_rfl) hS0 (fun _ => ?_)
  refine wpAnyH_take (i := 0) (oi := { dst := some 63, op := Op.fieldAddr 26 (Operand.tmp 11) 1, type := 0, pos := "more.go:23", after := #[], guard := none }) (v := ?vv1) rfl (by kernel_rfl) (by kernel_rfl) (by kernel_rfl) (fun _ _ _ h => h) (Or.inl ⟨by rfl, ?hy1⟩) hS0 ?rest1
  case hy1 =>
    intro V hV
    obtain ⟨y0, y1, y2, y3⟩ := hV
    go_simp
    all_goals rfl
  simp only [Act.put, List.setIfInBounds_toArray, List.set_cons_zero, List.set_cons_succ]
  refine wpAnyH_take (i := 1) (oi := { dst := some 64, op := Op.load 24 (Operand.tmp 63), type := 24, pos := "more.go:23", after := #[{ on := 0, ground := Ground.data }], guard := none }) (v := ?vv2) rfl (by kernel_rfl) (by kernel_rfl) (by kernel_rfl) (fun _ _ _ h => h) (Or.inl ⟨by rfl, ?hy2⟩) hS0 ?rest2
  case hy2 =>
    intro V hV
    obtain ⟨y0, y1, y2, y3⟩ := hV
    go_simp
    all_goals rfl
  simp only [Act.put, List.setIfInBounds_toArray, List.set_cons_zero, List.set_cons_succ]
  refine wpAnyH_take (i := 2) (oi := { dst := some 65, op := Op.move (Operand.tmp 9), type := 3, pos := "more.go:23", after := #[], guard := none }) (v := ?vv3) rfl (by kernel_rfl) (by kernel_rfl) (by kernel_rfl) (fun _ _ _ h => h) (Or.inl ⟨by rfl, ?hy3⟩) hS0 ?rest3
  case hy3 =>
    intro V hV
    obtain ⟨y0, y1, y2, y3⟩ := hV
    go_simp
    all_goals rfl
  simp only [Act.put, List.setIfInBounds_toArray, List.set_cons_zero, List.set_cons_succ]
  refine wpAnyH_take (i := 4) (oi := { dst := some 67, op := Op.fieldAddr 26 (Operand.tmp 3) 1, type := 0, pos := "more.go:23", after := #[], guard := none }) (v := ?vv4) rfl (by kernel_rfl) (by kernel_rfl) (by kernel_rfl) (fun _ _ _ h => h) (Or.inl ⟨by rfl, ?hy4⟩) hS0 ?rest4
  case hy4 =>
    intro V hV
    obtain ⟨y0, y1, y2, y3⟩ := hV
    go_simp
    all_goals rfl
  simp only [Act.put, List.setIfInBounds_toArray, List.set_cons_zero, List.set_cons_succ]
  refine wpAnyH_take (i := 5) (oi := { dst := some 68, op := Op.load 24 (Operand.tmp 67), type := 24, pos := "more.go:23", after := #[{ on := 4, ground := Ground.data }], guard := none }) (v := ?vv5) rfl (by kernel_rfl) (by kernel_rfl) (by kernel_rfl) (fun _ _ _ h => h) (Or.inl ⟨by rfl, ?hy5⟩) hS0 ?rest5
  case hy5 =>
    intro V hV
    obtain ⟨y0, y1, y2, y3⟩ := hV
    go_simp
    all_goals rfl
  simp only [Act.put, List.setIfInBounds_toArray, List.set_cons_zero, List.set_cons_succ]
  refine wpAnyH_take (i := 6) (oi := { dst := some 69, op := Op.move (Operand.tmp 9), type := 3, pos := "more.go:23", after := #[], guard := none }) (v := ?vv6) rfl (by kernel_rfl) (by kernel_rfl) (by kernel_rfl) (fun _ _ _ h => h) (Or.inl ⟨by rfl, ?hy6⟩) hS0 ?rest6
  case hy6 =>
    intro V hV
    obtain ⟨y0, y1, y2, y3⟩ := hV
    go_simp
    all_goals rfl
  simp only [Act.put, List.setIfInBounds_toArray, List.set_cons_zero, List.set_cons_succ]
  refine wpAnyH_take (i := 7) (oi := { dst := some 70, op := Op.indexAddr 24 (Operand.tmp 68) (Operand.tmp 69), type := 0, pos := "more.go:23", after := #[{ on := 5, ground := Ground.data }, { on := 6, ground := Ground.data }], guard := none }) (v := ?vv7) rfl (by kernel_rfl) (by kernel_rfl) (by kernel_rfl) (fun _ _ _ h => h) (Or.inl ⟨by rfl, ?hy7⟩) hS0 ?rest7
  case hy7 =>
    intro V hV
    obtain ⟨y0, y1, y2, y3⟩ := hV
    go_simp
    all_goals rfl
  simp only [Act.put, List.setIfInBounds_toArray, List.set_cons_zero, List.set_cons_succ]
  refine wpAnyH_take (i := 8) (oi := { dst := some 71, op := Op.fieldAddr 47 (Operand.tmp 70) 6, type := 0, pos := "more.go:23", after := #[{ on := 7, ground := Ground.data }], guard := none }) (v := ?vv8) rfl (by kernel_rfl) (by kernel_rfl) (by kernel_rfl) (fun _ _ _ h => h) (Or.inl ⟨by rfl, ?hy8⟩) hS0 ?rest8
  case hy8 =>
    intro V hV
    obtain ⟨y0, y1, y2, y3⟩ := hV
    go_simp
    all_goals rfl
  simp only [Act.put, List.setIfInBounds_toArray, List.set_cons_zero, List.set_cons_succ]
  refine wpAnyH_take (i := 9) (oi := { dst := some 72, op := Op.load 22 (Operand.tmp 71), type := 22, pos := "more.go:23", after := #[{ on := 8, ground := Ground.data }], guard := none }) (v := ?vv9) rfl (by kernel_rfl) (by kernel_rfl) (by kernel_rfl) (fun _ _ _ h => h) (Or.inl ⟨by rfl, ?hy9⟩) hS0 ?rest9
  case hy9 =>
    intro V hV
    obtain ⟨y0, y1, y2, y3⟩ := hV
    go_simp
    all_goals rfl
  simp only [Act.put, List.setIfInBounds_toArray, List.set_cons_zero, List.set_cons_succ]
  refine wpAnyH_take (i := 11) (oi := { dst := some 74, op := Op.fieldAddr 26 (Operand.tmp 3) 1, type := 0, pos := "more.go:23", after := #[], guard := none }) (v := ?vv10) rfl (by kernel_rfl) (by kernel_rfl) (by kernel_rfl) (fun _ _ _ h => h) (Or.inl ⟨by rfl, ?hy10⟩) hS0 ?rest10
  case hy10 =>
    intro V hV
    obtain ⟨y0, y1, y2, y3⟩ := hV
    go_simp
    all_goals rfl
  simp only [Act.put, List.setIfInBounds_toArray, List.set_cons_zero, List.set_cons_succ]
  refine wpAnyH_take (i := 12) (oi := { dst := some 75, op := Op.load 24 (Operand.tmp 74), type := 24, pos := "more.go:23", after := #[{ on := 11, ground := Ground.data }], guard := none }) (v := ?vv11) rfl (by kernel_rfl) (by kernel_rfl) (by kernel_rfl) (fun _ _ _ h => h) (Or.inl ⟨by rfl, ?hy11⟩) hS0 ?rest11
  case hy11 =>
    intro V hV
    obtain ⟨y0, y1, y2, y3⟩ := hV
    go_simp
    all_goals rfl
  simp only [Act.put, List.setIfInBounds_toArray, List.set_cons_zero, List.set_cons_succ]
  refine wpAnyH_take (i := 13) (oi := { dst := some 76, op := Op.move (Operand.tmp 10), type := 3, pos := "more.go:23", after := #[], guard := none }) (v := ?vv12) rfl (by kernel_rfl) (by kernel_rfl) (by kernel_rfl) (fun _ _ _ h => h) (Or.inl ⟨by rfl, ?hy12⟩) hS0 ?rest12
  case hy12 =>
    intro V hV
    obtain ⟨y0, y1, y2, y3⟩ := hV
    go_simp
    all_goals rfl
  simp only [Act.put, List.setIfInBounds_toArray, List.set_cons_zero, List.set_cons_succ]
  refine wpAnyH_take (i := 14) (oi := { dst := some 77, op := Op.indexAddr 24 (Operand.tmp 75) (Operand.tmp 76), type := 0, pos := "more.go:23", after := #[{ on := 12, ground := Ground.data }, { on := 13, ground := Ground.data }], guard := none }) (v := ?vv13) rfl (by kernel_rfl) (by kernel_rfl) (by kernel_rfl) (fun _ _ _ h => h) (Or.inl ⟨by rfl, ?hy13⟩) hS0 ?rest13
  case hy13 =>
    intro V hV
    obtain ⟨y0, y1, y2, y3⟩ := hV
    go_simp
    all_goals rfl
  simp only [Act.put, List.setIfInBounds_toArray, List.set_cons_zero, List.set_cons_succ]
  refine wpAnyH_take (i := 15) (oi := { dst := some 78, op := Op.fieldAddr 47 (Operand.tmp 77) 0, type := 0, pos := "more.go:23", after := #[{ on := 14, ground := Ground.data }], guard := none }) (v := ?vv14) rfl (by kernel_rfl) (by kernel_rfl) (by kernel_rfl) (fun _ _ _ h => h) (Or.inl ⟨by rfl, ?hy14⟩) hS0 ?rest14
  case hy14 =>
    intro V hV
    obtain ⟨y0, y1, y2, y3⟩ := hV
    go_simp
    all_goals rfl
  simp only [Act.put, List.setIfInBounds_toArray, List.set_cons_zero, List.set_cons_succ]
  refine wpAnyH_take (i := 16) (oi := { dst := some 79, op := Op.load 9 (Operand.tmp 78), type := 9, pos := "more.go:23", after := #[{ on := 15, ground := Ground.data }], guard := none }) (v := ?vv15) rfl (by kernel_rfl) (by kernel_rfl) (by kernel_rfl) (fun _ _ _ h => h) (Or.inl ⟨by rfl, ?hy15⟩) hS0 ?rest15
  case hy15 =>
    intro V hV
    obtain ⟨y0, y1, y2, y3⟩ := hV
    go_simp
    all_goals rfl
  simp only [Act.put, List.setIfInBounds_toArray, List.set_cons_zero, List.set_cons_succ]
  refine wpAnyH_ready (rs := [3, 17]) (by kernel_rfl) (by simp) (AllReadyH.cons (o := { dst := some 66, op := Op.buildSlice 22 0 #[], type := 22, pos := "more.go:23", after := #[], guard := none }) rfl (fun K' hK => ?_) (AllReadyH.cons (o := { dst := some 80, op := Op.buildSlice 22 1 #[(0, Operand.tmp 79)], type := 22, pos := "more.go:23", after := #[{ on := 16, ground := Ground.data }], guard := none }) rfl (fun K' hK => ?_) AllReadyH.nil))
  · have R1 := ownsRow_empty (W.drew) W.drew.heap.size 9 1 (by simp)
    have HR1 : Hid ((((W.drew).alloc (.cells #[] 9))).ownsRow W.drew.heap.size 9 1 (.slice (some ⟨W.heap.size, 0, none⟩) 0 0) 0 []) := R1
    clear R1
    go_simp
    refine hK.out _ _ (HS.out _ ((Kept.refl (fun _ => False) W.drew).and (Kept.alloc _ _ _))) (fun _ => ?_)
    clear hK K'
    try (simp only [Act.put, List.setIfInBounds_toArray, List.set_cons_zero, List.set_cons_succ])
    refine wpAnyH_ready (rs := [10, 17]) (by kernel_rfl) (by simp) (AllReadyH.cons (o := { dst := some 73, op := Op.call { callee := Callee.builtin Builtin.append, args := #[Operand.tmp 66, Operand.tmp 72], argTypes := #[22, 22] }, type := 22, pos := "more.go:23", after := #[{ on := 3, ground := Ground.data }, { on := 9, ground := Ground.data }], guard := none }) rfl (fun K' hK => ?_) (AllReadyH.cons (o := { dst := some 80, op := Op.buildSlice 22 1 #[(0, Operand.tmp 79)], type := 22, pos := "more.go:23", after := #[{ on := 16, ground := Ground.data }], guard := none }) rfl (fun K' hK => ?_) AllReadyH.nil))
    · refine step_append_sr (((W.drew).alloc (.cells #[] 9))) (by rfl) _ _ 22 (by rfl) W.drew.heap.size 9 j0 _ 1 16 Tryd.underlying22 hj0 hy0 hy1 hy2 rfl (by decide) (.slice (some ⟨W.heap.size, 0, none⟩) 0 0) 0 [] (by rfl) HR1.out (.slice av l.length cv) (by rfl) l.length (strsV l) (HC.out _ ((Kept.refl (fun _ => False) W.drew).and (Kept.alloc _ _ _))) (strsV_one l) (by unfold maxLen; omega) (by omega) (by simp; try omega) ?_
      intro a3 c3 w3 ho3 hg3 _ hl3
      have KG : Kept (fun j => j = W.heap.size) (((W.drew).alloc (.cells #[] 9))) w3 := Kept.grown hg3 (fun j e => by cases e; rfl)
      have K3 : Kept (fun _ => False) W.drew w3 := (((Kept.refl (fun _ => False) W.drew).and (Kept.alloc _ _ _))).trans KG (fun j h => .inr (by have : W.drew.heap.size = W.heap.size := rfl; omega))
      simp only [Nat.zero_add, List.nil_append] at ho3 hl3
      rw [Nat.zero_add]
      have HO3 : Hid (w3.ownsRow W.drew.heap.size 9 1 (.slice a3 l.length c3) l.length (strsV l)) := ho3
      clear ho3 hl3
      have hz3 := KG.size
      simp only [World.size_alloc] at hz3
      refine hK.out _ _ (HS.out _ K3) (fun _ => ?_)
      clear hK K'
      try (simp only [Act.put, List.setIfInBounds_toArray, List.set_cons_zero, List.set_cons_succ])
      refine wpAnyH_ready (rs := [17]) (by kernel_rfl) (by simp) (AllReadyH.cons (o := { dst := some 80, op := Op.buildSlice 22 1 #[(0, Operand.tmp 79)], type := 22, pos := "more.go:23", after := #[{ on := 16, ground := Ground.data }], guard := none }) rfl (fun K' hK => ?_) AllReadyH.nil)
      go_simp
      refine hK.out _ _ (HS.out _ ((K3).and (Kept.alloc _ _ _))) (fun _ => ?_)
      clear hK K'
      try (simp only [Act.put, List.setIfInBounds_toArray, List.set_cons_zero, List.set_cons_succ])
      refine wpAnyH_ready (rs := [18]) (by kernel_rfl) (by simp) (AllReadyH.cons (o := { dst := some 81, op := Op.call { callee := Callee.builtin Builtin.append, args := #[Operand.tmp 73, Operand.tmp 80], argTypes := #[22, 22] }, type := 22, pos := "more.go:23", after := #[{ on := 10, ground := Ground.data }, { on := 17, ground := Ground.data }, { on := 10, ground := Ground.chain }], guard := none }) rfl (fun K' hK => ?_) AllReadyH.nil)
      refine step_append_sr (((w3).alloc (.cells #[.string s] 9))) (by rfl) _ _ 22 (by rfl) W.drew.heap.size 9 j0 _ 1 16 Tryd.underlying22 hj0 hy0 hy1 hy2 rfl (by decide) (.slice a3 l.length c3) l.length (strsV l) (by rfl) (HO3.out.alloc (.cells #[.string s] 9)) _ (by rfl) 1 [.string s] (.inl ⟨_, 1, rfl, rfl, World.news_of_block (heap_alloc_new _ _)⟩) (strsV_one [s]) (by unfold maxLen; omega) (by omega) (by have : W.drew.heap.size = W.heap.size := rfl; first | omega | (simp; omega)) ?_
      intro a4 c4 w4 ho4 hg4 _ hl4
      have K4 : Kept (fun _ => False) W.drew w4 := (((K3).and (Kept.alloc _ _ _))).trans (Kept.grown (S := fun j => W.drew.heap.size ≤ j) hg4 (fun j e => (HO3.out.lt j e).1)) (fun _ h => .inr h)
      have HO4 : Hid (w4.ownsRow W.drew.heap.size 9 1 (.slice a4 (l.length + 1) c4) (l.length + 1) (strsV l ++ [.string s])) := ho4
      clear ho4 hl4
      refine hK.out _ _ (HS.out _ K4) (fun _ => ?_)
      clear hK K'
      try (simp only [Act.put, List.setIfInBounds_toArray, List.set_cons_zero, List.set_cons_succ])
      refine wpAnyH_take (i := 19) (oi := { dst := some 82, op := Op.indexAddr 24 (Operand.tmp 64) (Operand.tmp 65), type := 0, pos := "more.go:23", after := #[{ on := 1, ground := Ground.data }, { on := 2, ground := Ground.data }, { on := 0, ground := Ground.phase }, { on := 1, ground := Ground.phase }, { on := 2, ground := Ground.phase }, { on := 3, ground := Ground.phase }, { on := 4, ground := Ground.phase }, { on := 5, ground := Ground.phase }, { on := 6, ground := Ground.phase }, { on := 7, ground := Ground.phase }, { on := 8, ground := Ground.phase }, { on := 9, ground := Ground.phase }, { on := 10, ground := Ground.phase }, { on := 11, ground := Ground.phase }, { on := 12, ground := Ground.phase }, { on := 13, ground := Ground.phase }, { on := 14, ground := Ground.phase }, { on := 15, ground := Ground.phase }, { on := 16, ground := Ground.phase }, { on := 17, ground := Ground.phase }, { on := 18, ground := Ground.phase }], guard := none }) (v := ?vv16) rfl (by kernel_rfl) (by kernel_rfl) (by kernel_rfl) (fun _ _ _ h => h) (Or.inl ⟨by rfl, ?hy16⟩) (HS.out _ K4) ?rest16
      case hy16 =>
        intro V hV
        obtain ⟨y0, y1, y2, y3⟩ := hV
        go_simp
        all_goals rfl
      simp only [Act.put, List.setIfInBounds_toArray, List.set_cons_zero, List.set_cons_succ]
      refine wpAnyH_take (i := 20) (oi := { dst := some 83, op := Op.fieldAddr 47 (Operand.tmp 82) 6, type := 0, pos := "more.go:23", after := #[{ on := 19, ground := Ground.data }, { on := 0, ground := Ground.phase }, { on := 1, ground := Ground.phase }, { on := 2, ground := Ground.phase }, { on := 3, ground := Ground.phase }, { on := 4, ground := Ground.phase }, { on := 5, ground := Ground.phase }, { on := 6, ground := Ground.phase }, { on := 7, ground := Ground.phase }, { on := 8, ground := Ground.phase }, { on := 9, ground := Ground.phase }, { on := 10, ground := Ground.phase }, { on := 11, ground := Ground.phase }, { on := 12, ground := Ground.phase }, { on := 13, ground := Ground.phase }, { on := 14, ground := Ground.phase }, { on := 15, ground := Ground.phase }, { on := 16, ground := Ground.phase }, { on := 17, ground := Ground.phase }, { on := 18, ground := Ground.phase }], guard := none }) (v := ?vv17) rfl (by kernel_rfl) (by kernel_rfl) (by kernel_rfl) (fun _ _ _ h => h) (Or.inl ⟨by rfl, ?hy17⟩) (HS.out _ K4) ?rest17
      case hy17 =>
        intro V hV
        obtain ⟨y0, y1, y2, y3⟩ := hV
        go_simp
        all_goals rfl
      simp only [Act.put, List.setIfInBounds_toArray, List.set_cons_zero, List.set_cons_succ]
      refine wpAnyH_ready (rs := [21]) (by kernel_rfl) (by simp) (AllReadyH.cons (o := { dst := none, op := Op.store 22 (Operand.tmp 83) (Operand.tmp 81), type := 0, pos := "more.go:23", after := #[{ on := 20, ground := Ground.data }, { on := 18, ground := Ground.data }, { on := 18, ground := Ground.chain }, { on := 0, ground := Ground.phase }, { on := 1, ground := Ground.phase }, { on := 2, ground := Ground.phase }, { on := 3, ground := Ground.phase }, { on := 4, ground := Ground.phase }, { on := 5, ground := Ground.phase }, { on := 6, ground := Ground.phase }, { on := 7, ground := Ground.phase }, { on := 8, ground := Ground.phase }, { on := 9, ground := Ground.phase }, { on := 10, ground := Ground.phase }, { on := 11, ground := Ground.phase }, { on := 12, ground := Ground.phase }, { on := 13, ground := Ground.phase }, { on := 14, ground := Ground.phase }, { on := 15, ground := Ground.phase }, { on := 16, ground := Ground.phase }, { on := 17, ground := Ground.phase }, { on := 18, ground := Ground.phase }], guard := none }) rfl (fun K' hK => ?_) AllReadyH.nil)
      obtain ⟨t1, t2⟩ := HT.out w4 K4
      obtain ⟨y0, y1, y2, y3⟩ := HS.out w4 K4
      have HS5 := HSet.out w4 K4 (.slice a4 (l.length + 1) c4)
      have HS6 : Hid _ := HS5
      clear HS5
      go_simp
      refine hK.out _ _ HS6.out (fun _ => ?_)
      clear hK K'
      try (simp only [Act.put, List.setIfInBounds_toArray, List.set_cons_zero, List.set_cons_succ])
      refine wpAnyH_done (by kernel_rfl) ?_ _
      exact HH.out _ _ _ _ _ _ _ _ _ _ _ _ _ _ _ _ _ _ _ _ _ a4 c4 w4 HO4.out (HKD.out.and K4)
    · go_simp
      refine hK.out _ _ (HS.out _ ((((Kept.refl (fun _ => False) W.drew).and (Kept.alloc _ _ _))).and (Kept.alloc _ _ _))) (fun _ => ?_)
      clear hK K'
      try (simp only [Act.put, List.setIfInBounds_toArray, List.set_cons_zero, List.set_cons_succ])
      refine wpAnyH_ready (rs := [10]) (by kernel_rfl) (by simp) (AllReadyH.cons (o := { dst := some 73, op := Op.call { callee := Callee.builtin Builtin.append, args := #[Operand.tmp 66, Operand.tmp 72], argTypes := #[22, 22] }, type := 22, pos := "more.go:23", after := #[{ on := 3, ground := Ground.data }, { on := 9, ground := Ground.data }], guard := none }) rfl (fun K' hK => ?_) AllReadyH.nil)
      refine step_append_sr (((((W.drew).alloc (.cells #[] 9))).alloc (.cells #[.string s] 9))) (by rfl) _ _ 22 (by rfl) W.drew.heap.size 9 j0 _ 1 16 Tryd.underlying22 hj0 hy0 hy1 hy2 rfl (by decide) (.slice (some ⟨W.heap.size, 0, none⟩) 0 0) 0 [] (by rfl) (HR1.out.alloc (.cells #[.string s] 9)) (.slice av l.length cv) (by rfl) l.length (strsV l) (HC.out _ ((((Kept.refl (fun _ => False) W.drew).and (Kept.alloc _ _ _))).and (Kept.alloc _ _ _))) (strsV_one l) (by unfold maxLen; omega) (by omega) (by simp; try omega) ?_
      intro a3 c3 w3 ho3 hg3 _ hl3
      have KG : Kept (fun j => j = W.heap.size) (((((W.drew).alloc (.cells #[] 9))).alloc (.cells #[.string s] 9))) w3 := Kept.grown hg3 (fun j e => by cases e; rfl)
      have K3 : Kept (fun _ => False) W.drew w3 := (((((Kept.refl (fun _ => False) W.drew).and (Kept.alloc _ _ _))).and (Kept.alloc _ _ _))).trans KG (fun j h => .inr (by have : W.drew.heap.size = W.heap.size := rfl; omega))
      simp only [Nat.zero_add, List.nil_append] at ho3 hl3
      rw [Nat.zero_add]
      have HO3 : Hid (w3.ownsRow W.drew.heap.size 9 1 (.slice a3 l.length c3) l.length (strsV l)) := ho3
      clear ho3 hl3
      have hob : w3.heap[W.heap.size + 1]? = some (.cells #[.string s] 9 (0, 0)) := by
        rw [KG.block (W.heap.size + 1) (by simp; try omega) (by omega)]
        have h := heap_alloc_new (((W.drew).alloc (.cells #[] 9))) (.cells #[.string s] 9)
        rw [World.size_alloc] at h
        exact h
      have HOB : Hid (w3.heap[W.heap.size + 1]? = some (.cells #[.string s] 9 (0, 0))) := hob
      clear hob
      have hz3 := KG.size
      simp only [World.size_alloc] at hz3
      refine hK.out _ _ (HS.out _ K3) (fun _ => ?_)
      clear hK K'
      try (simp only [Act.put, List.setIfInBounds_toArray, List.set_cons_zero, List.set_cons_succ])
      refine wpAnyH_ready (rs := [18]) (by kernel_rfl) (by simp) (AllReadyH.cons (o := { dst := some 81, op := Op.call { callee := Callee.builtin Builtin.append, args := #[Operand.tmp 73, Operand.tmp 80], argTypes := #[22, 22] }, type := 22, pos := "more.go:23", after := #[{ on := 10, ground := Ground.data }, { on := 17, ground := Ground.data }, { on := 10, ground := Ground.chain }], guard := none }) rfl (fun K' hK => ?_) AllReadyH.nil)
      refine step_append_sr (w3) (by rfl) _ _ 22 (by rfl) W.drew.heap.size 9 j0 _ 1 16 Tryd.underlying22 hj0 hy0 hy1 hy2 rfl (by decide) (.slice a3 l.length c3) l.length (strsV l) (by rfl) HO3.out _ (by rfl) 1 [.string s] (.inl ⟨_, 1, rfl, rfl, World.news_of_block HOB.out⟩) (strsV_one [s]) (by unfold maxLen; omega) (by omega) (by have : W.drew.heap.size = W.heap.size := rfl; first | omega | (simp; omega)) ?_
      intro a4 c4 w4 ho4 hg4 _ hl4
      have K4 : Kept (fun _ => False) W.drew w4 := (K3).trans (Kept.grown (S := fun j => W.drew.heap.size ≤ j) hg4 (fun j e => (HO3.out.lt j e).1)) (fun _ h => .inr h)
      have HO4 : Hid (w4.ownsRow W.drew.heap.size 9 1 (.slice a4 (l.length + 1) c4) (l.length + 1) (strsV l ++ [.string s])) := ho4
      clear ho4 hl4
      refine hK.out _ _ (HS.out _ K4) (fun _ => ?_)
      clear hK K'
      try (simp only [Act.put, List.setIfInBounds_toArray, List.set_cons_zero, List.set_cons_succ])
      refine wpAnyH_take (i := 19) (oi := { dst := some 82, op := Op.indexAddr 24 (Operand.tmp 64) (Operand.tmp 65), type := 0, pos := "more.go:23", after := #[{ on := 1, ground := Ground.data }, { on := 2, ground := Ground.data }, { on := 0, ground := Ground.phase }, { on := 1, ground := Ground.phase }, { on := 2, ground := Ground.phase }, { on := 3, ground := Ground.phase }, { on := 4, ground := Ground.phase }, { on := 5, ground := Ground.phase }, { on := 6, ground := Ground.phase }, { on := 7, ground := Ground.phase }, { on := 8, ground := Ground.phase }, { on := 9, ground := Ground.phase }, { on := 10, ground := Ground.phase }, { on := 11, ground := Ground.phase }, { on := 12, ground := Ground.phase }, { on := 13, ground := Ground.phase }, { on := 14, ground := Ground.phase }, { on := 15, ground := Ground.phase }, { on := 16, ground := Ground.phase }, { on := 17, ground := Ground.phase }, { on := 18, ground := Ground.phase }], guard := none }) (v := ?vv18) rfl (by kernel_rfl) (by kernel_rfl) (by kernel_rfl) (fun _ _ _ h => h) (Or.inl ⟨by rfl, ?hy18⟩) (HS.out _ K4) ?rest18
      case hy18 =>
        intro V hV
        obtain ⟨y0, y1, y2, y3⟩ := hV
        go_simp
        all_goals rfl
      simp only [Act.put, List.setIfInBounds_toArray, List.set_cons_zero, List.set_cons_succ]
      refine wpAnyH_take (i := 20) (oi := { dst := some 83, op := Op.fieldAddr 47 (Operand.tmp 82) 6, type := 0, pos := "more.go:23", after := #[{ on := 19, ground := Ground.data }, { on := 0, ground := Ground.phase }, { on := 1, ground := Ground.phase }, { on := 2, ground := Ground.phase }, { on := 3, ground := Ground.phase }, { on := 4, ground := Ground.phase }, { on := 5, ground := Ground.phase }, { on := 6, ground := Ground.phase }, { on := 7, ground := Ground.phase }, { on := 8, ground := Ground.phase }, { on := 9, ground := Ground.phase }, { on := 10, ground := Ground.phase }, { on := 11, ground := Ground.phase }, { on := 12, ground := Ground.phase }, { on := 13, ground := Ground.phase }, { on := 14, ground := Ground.phase }, { on := 15, ground := Ground.phase }, { on := 16, ground := Ground.phase }, { on := 17, ground := Ground.phase }, { on := 18, ground := Ground.phase }], guard := none }) (v := ?vv19) rfl (by kernel_rfl) (by kernel_rfl) (by kernel_rfl) (fun _ _ _ h => h) (Or.inl ⟨by rfl, ?hy19⟩) (HS.out _ K4) ?rest19
      case hy19 =>
        intro V hV
        obtain ⟨y0, y1, y2, y3⟩ := hV
        go_simp
        all_goals rfl
      simp only [Act.put, List.setIfInBounds_toArray, List.set_cons_zero, List.set_cons_succ]
      refine wpAnyH_ready (rs := [21]) (by kernel_rfl) (by simp) (AllReadyH.cons (o := { dst := none, op := Op.store 22 (Operand.tmp 83) (Operand.tmp 81), type := 0, pos := "more.go:23", after := #[{ on := 20, ground := Ground.data }, { on := 18, ground := Ground.data }, { on := 18, ground := Ground.chain }, { on := 0, ground := Ground.phase }, { on := 1, ground := Ground.phase }, { on := 2, ground := Ground.phase }, { on := 3, ground := Ground.phase }, { on := 4, ground := Ground.phase }, { on := 5, ground := Ground.phase }, { on := 6, ground := Ground.phase }, { on := 7, ground := Ground.phase }, { on := 8, ground := Ground.phase }, { on := 9, ground := Ground.phase }, { on := 10, ground := Ground.phase }, { on := 11, ground := Ground.phase }, { on := 12, ground := Ground.phase }, { on := 13, ground := Ground.phase }, { on := 14, ground := Ground.phase }, { on := 15, ground := Ground.phase }, { on := 16, ground := Ground.phase }, { on := 17, ground := Ground.phase }, { on := 18, ground := Ground.phase }], guard := none }) rfl (fun K' hK => ?_) AllReadyH.nil)
      obtain ⟨t1, t2⟩ := HT.out w4 K4
      obtain ⟨y0, y1, y2, y3⟩ := HS.out w4 K4
      have HS5 := HSet.out w4 K4 (.slice a4 (l.length + 1) c4)
      have HS6 : Hid _ := HS5
      clear HS5
      go_simp
      refine hK.out _ _ HS6.out (fun _ => ?_)
      clear hK K'
      try (simp only [Act.put, List.setIfInBounds_toArray, List.set_cons_zero, List.set_cons_succ])
      refine wpAnyH_done (by kernel_rfl) ?_ _
      exact HH.out _ _ _ _ _ _ _ _ _ _ _ _ _ _ _ _ _ _ _ _ _ a4 c4 w4 HO4.out (HKD.out.and K4)
  · go_simp
    refine hK.out _ _ (HS.out _ ((Kept.refl (fun _ => False) W.drew).and (Kept.alloc _ _ _))) (fun _ => ?_)
    clear hK K'
    try (simp only [Act.put, List.setIfInBounds_toArray, List.set_cons_zero, List.set_cons_succ])
    refine wpAnyH_ready (rs := [3]) (by kernel_rfl) (by simp) (AllReadyH.cons (o := { dst := some 66, op := Op.buildSlice 22 0 #[], type := 22, pos := "more.go:23", after := #[], guard := none }) rfl (fun K' hK => ?_) AllReadyH.nil)
    have R1 := ownsRow_empty (((W.drew).alloc (.cells #[.string s] 9))) W.drew.heap.size 9 1 (by simp)
    rw [World.size_alloc] at R1
    have HR1 : Hid ((((((W.drew).alloc (.cells #[.string s] 9))).alloc (.cells #[] 9))).ownsRow W.drew.heap.size 9 1 (.slice (some ⟨W.heap.size + 1, 0, none⟩) 0 0) 0 []) := R1
    clear R1
    go_simp
    refine hK.out _ _ (HS.out _ ((((Kept.refl (fun _ => False) W.drew).and (Kept.alloc _ _ _))).and (Kept.alloc _ _ _))) (fun _ => ?_)
    clear hK K'
    try (simp only [Act.put, List.setIfInBounds_toArray, List.set_cons_zero, List.set_cons_succ])
    refine wpAnyH_ready (rs := [10]) (by kernel_rfl) (by simp) (AllReadyH.cons (o := { dst := some 73, op := Op.call { callee := Callee.builtin Builtin.append, args := #[Operand.tmp 66, Operand.tmp 72], argTypes := #[22, 22] }, type := 22, pos := "more.go:23", after := #[{ on := 3, ground := Ground.data }, { on := 9, ground := Ground.data }], guard := none }) rfl (fun K' hK => ?_) AllReadyH.nil)
    refine step_append_sr (((((W.drew).alloc (.cells #[.string s] 9))).alloc (.cells #[] 9))) (by rfl) _ _ 22 (by rfl) W.drew.heap.size 9 j0 _ 1 16 Tryd.underlying22 hj0 hy0 hy1 hy2 rfl (by decide) (.slice (some ⟨W.heap.size + 1, 0, none⟩) 0 0) 0 [] (by rfl) HR1.out (.slice av l.length cv) (by rfl) l.length (strsV l) (HC.out _ ((((Kept.refl (fun _ => False) W.drew).and (Kept.alloc _ _ _))).and (Kept.alloc _ _ _))) (strsV_one l) (by unfold maxLen; omega) (by omega) (by simp; try omega) ?_
    intro a3 c3 w3 ho3 hg3 _ hl3
    have KG : Kept (fun j => j = W.heap.size + 1) (((((W.drew).alloc (.cells #[.string s] 9))).alloc (.cells #[] 9))) w3 := Kept.grown hg3 (fun j e => by cases e; rfl)
    have K3 : Kept (fun _ => False) W.drew w3 := (((((Kept.refl (fun _ => False) W.drew).and (Kept.alloc _ _ _))).and (Kept.alloc _ _ _))).trans KG (fun j h => .inr (by have : W.drew.heap.size = W.heap.size := rfl; omega))
    simp only [Nat.zero_add, List.nil_append] at ho3 hl3
    rw [Nat.zero_add]
    have HO3 : Hid (w3.ownsRow W.drew.heap.size 9 1 (.slice a3 l.length c3) l.length (strsV l)) := ho3
    clear ho3 hl3
    have hob : w3.heap[W.heap.size]? = some (.cells #[.string s] 9 (0, 0)) := by
      rw [KG.block (W.heap.size) (by simp; try omega) (by omega)]
      rw [Below.heap_alloc _ _ _ (by simp)]
      exact heap_alloc_new _ _
    have HOB : Hid (w3.heap[W.heap.size]? = some (.cells #[.string s] 9 (0, 0))) := hob
    clear hob
    have hz3 := KG.size
    simp only [World.size_alloc] at hz3
    refine hK.out _ _ (HS.out _ K3) (fun _ => ?_)
    clear hK K'
    try (simp only [Act.put, List.setIfInBounds_toArray, List.set_cons_zero, List.set_cons_succ])
    refine wpAnyH_ready (rs := [18]) (by kernel_rfl) (by simp) (AllReadyH.cons (o := { dst := some 81, op := Op.call { callee := Callee.builtin Builtin.append, args := #[Operand.tmp 73, Operand.tmp 80], argTypes := #[22, 22] }, type := 22, pos := "more.go:23", after := #[{ on := 10, ground := Ground.data }, { on := 17, ground := Ground.data }, { on := 10, ground := Ground.chain }], guard := none }) rfl (fun K' hK => ?_) AllReadyH.nil)
    refine step_append_sr (w3) (by rfl) _ _ 22 (by rfl) W.drew.heap.size 9 j0 _ 1 16 Tryd.underlying22 hj0 hy0 hy1 hy2 rfl (by decide) (.slice a3 l.length c3) l.length (strsV l) (by rfl) HO3.out _ (by rfl) 1 [.string s] (.inl ⟨_, 1, rfl, rfl, World.news_of_block HOB.out⟩) (strsV_one [s]) (by unfold maxLen; omega) (by omega) (by have : W.drew.heap.size = W.heap.size := rfl; first | omega | (simp; omega)) ?_
    intro a4 c4 w4 ho4 hg4 _ hl4
    have K4 : Kept (fun _ => False) W.drew w4 := (K3).trans (Kept.grown (S := fun j => W.drew.heap.size ≤ j) hg4 (fun j e => (HO3.out.lt j e).1)) (fun _ h => .inr h)
    have HO4 : Hid (w4.ownsRow W.drew.heap.size 9 1 (.slice a4 (l.length + 1) c4) (l.length + 1) (strsV l ++ [.string s])) := ho4
    clear ho4 hl4
    refine hK.out _ _ (HS.out _ K4) (fun _ => ?_)
    clear hK K'
    try (simp only [Act.put, List.setIfInBounds_toArray, List.set_cons_zero, List.set_cons_succ])
    refine wpAnyH_take (i := 19) (oi := { dst := some 82, op := Op.indexAddr 24 (Operand.tmp 64) (Operand.tmp 65), type := 0, pos := "more.go:23", after := #[{ on := 1, ground := Ground.data }, { on := 2, ground := Ground.data }, { on := 0, ground := Ground.phase }, { on := 1, ground := Ground.phase }, { on := 2, ground := Ground.phase }, { on := 3, ground := Ground.phase }, { on := 4, ground := Ground.phase }, { on := 5, ground := Ground.phase }, { on := 6, ground := Ground.phase }, { on := 7, ground := Ground.phase }, { on := 8, ground := Ground.phase }, { on := 9, ground := Ground.phase }, { on := 10, ground := Ground.phase }, { on := 11, ground := Ground.phase }, { on := 12, ground := Ground.phase }, { on := 13, ground := Ground.phase }, { on := 14, ground := Ground.phase }, { on := 15, ground := Ground.phase }, { on := 16, ground := Ground.phase }, { on := 17, ground := Ground.phase }, { on := 18, ground := Ground.phase }], guard := none }) (v := ?vv20) rfl (by kernel_rfl) (by kernel_rfl) (by kernel_rfl) (fun _ _ _ h => h) (Or.inl ⟨by rfl, ?hy20⟩) (HS.out _ K4) ?rest20
    case hy20 =>
      intro V hV
      obtain ⟨y0, y1, y2, y3⟩ := hV
      go_simp
      all_goals rfl
    simp only [Act.put, List.setIfInBounds_toArray, List.set_cons_zero, List.set_cons_succ]
    refine wpAnyH_take (i := 20) (oi := { dst := some 83, op := Op.fieldAddr 47 (Operand.tmp 82) 6, type := 0, pos := "more.go:23", after := #[{ on := 19, ground := Ground.data }, { on := 0, ground := Ground.phase }, { on := 1, ground := Ground.phase }, { on := 2, ground := Ground.phase }, { on := 3, ground := Ground.phase }, { on := 4, ground := Ground.phase }, { on := 5, ground := Ground.phase }, { on := 6, ground := Ground.phase }, { on := 7, ground := Ground.phase }, { on := 8, ground := Ground.phase }, { on := 9, ground := Ground.phase }, { on := 10, ground := Ground.phase }, { on := 11, ground := Ground.phase }, { on := 12, ground := Ground.phase }, { on := 13, ground := Ground.phase }, { on := 14, ground := Ground.phase }, { on := 15, ground := Ground.phase }, { on := 16, ground := Ground.phase }, { on := 17, ground := Ground.phase }, { on := 18, ground := Ground.phase }], guard := none }) (v := ?vv21) rfl (by kernel_rfl) (by kernel_rfl) (by kernel_rfl) (fun _ _ _ h => h) (Or.inl ⟨by rfl, ?hy21⟩) (HS.out _ K4) ?rest21
    case hy21 =>
      intro V hV
      obtain ⟨y0, y1, y2, y3⟩ := hV
      go_simp
      all_goals rfl
    simp only [Act.put, List.setIfInBounds_toArray, List.set_cons_zero, List.set_cons_succ]
    refine wpAnyH_ready (rs := [21]) (by kernel_rfl) (by simp) (AllReadyH.cons (o := { dst := none, op := Op.store 22 (Operand.tmp 83) (Operand.tmp 81), type := 0, pos := "more.go:23", after := #[{ on := 20, ground := Ground.data }, { on := 18, ground := Ground.data }, { on := 18, ground := Ground.chain }, { on := 0, ground := Ground.phase }, { on := 1, ground := Ground.phase }, { on := 2, ground := Ground.phase }, { on := 3, ground := Ground.phase }, { on := 4, ground := Ground.phase }, { on := 5, ground := Ground.phase }, { on := 6, ground := Ground.phase }, { on := 7, ground := Ground.phase }, { on := 8, ground := Ground.phase }, { on := 9, ground := Ground.phase }, { on := 10, ground := Ground.phase }, { on := 11, ground := Ground.phase }, { on := 12, ground := Ground.phase }, { on := 13, ground := Ground.phase }, { on := 14, ground := Ground.phase }, { on := 15, ground := Ground.phase }, { on := 16, ground := Ground.phase }, { on := 17, ground := Ground.phase }, { on := 18, ground := Ground.phase }], guard := none }) rfl (fun K' hK => ?_) AllReadyH.nil)
    obtain ⟨t1, t2⟩ := HT.out w4 K4
    obtain ⟨y0, y1, y2, y3⟩ := HS.out w4 K4
    have HS5 := HSet.out w4 K4 (.slice a4 (l.length + 1) c4)
    have HS6 : Hid _ := HS5
    clear HS5
    go_simp
    refine hK.out _ _ HS6.out (fun _ => ?_)
    clear hK K'
    try (simp only [Act.put, List.setIfInBounds_toArray, List.set_cons_zero, List.set_cons_succ])
    refine wpAnyH_done (by kernel_rfl) ?_ _
    exact HH.out _ _ _ _ _ _ _ _ _ _ _ _ _ _ _ _ _ _ _ _ _ a4 c4 w4 HO4.out (HKD.out.and K4)

end Go.Proofs.YtalhdgelkomaiaaDoor
