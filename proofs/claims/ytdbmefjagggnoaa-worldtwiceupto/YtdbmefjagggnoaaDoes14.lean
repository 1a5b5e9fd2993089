/-
  'does': Sync on both disks.
-/
import Derived.Test.YtdbmefjagggnoaaBothJ
namespace Go.Proofs.Ytdbmefjagggnoaa
open Go.RowKit Go.Maps Go.ChangeMaps Go.MapKept

set_option maxRecDepth 100000 in
set_option maxHeartbeats 40000000 in
theorem does14 {W : World} {S1 S2 : Nat → Prop} {d r n L bf bq bx j lo : Nat} {st : DSt} {rs : RSt} {G C : Int → Nat} {vL vF : Value} {M : List RM} {x : Int} {ds : List Deferred} {u2 u3 u4 u6 u7 u8 u9 u10 u11 u12 u13 u14 u15 u16 u17 u18 u19 u20 u21 u22 u23 u24 u25 u26 u27 u28 u29 u30 u31 u32 u33 u34 u35 u36 u37 u38 u39 u40 u41 u42 u43 u44 u45 u46 u47 u48 u49 u50 u51 u52 u53 u54 u55 u56 u57 u58 u59 u60 u61 u62 u63 u64 u65 u66 u67 u68 u69 u70 u71 u72 u73 u74 u75 u76 u77 u78 u79 u80 u81 u82 u83 u84 u85 u86 u87 u88 u89 u90 u91 u92 u93 u94 u95 u96 u97 u98 u99 u100 u101 u102 u103 u104 u105 u106 : Value} (K : Act → World → Prop) (D : DiskIn W S1 d n L st bf bq G C) (R : RefIn W S2 r rs vL vF M) (hd : ∀ k, S1 k → ¬ S2 k) (hlo : ∀ k, S1 k ∨ S2 k → lo ≤ k) (hw : lo ≤ W.heap.size) (hs : Sim st rs) (hb : RBd rs) (hn : Bnd j n L rs) (hj : j ≤ 200) (hx : isI64 x) (x1 : W.cell? ⟨bx, 1, none⟩ = some (.int .i64 x)) (h1 : ¬ S1 bx) (h2 : ¬ S2 bx)
    (h : ∀ (v63 v64 v65 v66 v67 v68 v69 v70 : Value) (w9 : World), Both w9 lo d r (j + 1) ∧ Below lo W.drew w9 → K { tmps := #[.pointer (some ⟨d, 0, none⟩), .pointer (some ⟨r, 0, none⟩), u2, u3, u4, .pointer (some ⟨bx, 0, none⟩), .bool true, u7, u8, u9, u10, u11, u12, u13, u14, u15, u16, u17, u18, u19, u20, u21, u22, u23, u24, u25, u26, u27, u28, u29, u30, u31, u32, u33, u34, u35, u36, u37, u38, u39, u40, u41, u42, u43, u44, u45, u46, u47, u48, u49, u50, u51, u52, u53, u54, u55, u56, u57, u58, u59, u60, u61, u62, v63, v64, v65, v66, v67, v68, v69, v70, .bool true, u72, u73, u74, u75, u76, u77, u78, u79, u80, u81, u82, u83, u84, u85, u86, u87, u88, u89, u90, u91, u92, u93, u94, u95, u96, u97, u98, u99, u100, u101, u102, u103, u104, u105, u106], defers := ds } w9) :
    (Code.region 14 #[{ dst := some 63, op := Op.move (Operand.tmp 0), type := 23, pos := "law.go:69", after := #[], guard := none }, { dst := some 64, op := Op.fieldAddr 31 (Operand.tmp 5) 1, type := 0, pos := "law.go:69", after := #[], guard := none }, { dst := some 65, op := Op.load 3 (Operand.tmp 64), type := 3, pos := "law.go:69", after := #[{ on := 1, ground := Ground.data }], guard := none }, { dst := some 66, op := Op.call { callee := Callee.value (Operand.func 39), args := #[Operand.tmp 63, Operand.tmp 65], argTypes := #[23, 3] }, type := 77, pos := "law.go:69", after := #[{ on := 0, ground := Ground.data }, { on := 2, ground := Ground.data }], guard := none }, { dst := some 67, op := Op.move (Operand.tmp 1), type := 25, pos := "law.go:69", after := #[], guard := none }, { dst := some 68, op := Op.fieldAddr 31 (Operand.tmp 5) 1, type := 0, pos := "law.go:69", after := #[], guard := none }, { dst := some 69, op := Op.load 3 (Operand.tmp 68), type := 3, pos := "law.go:69", after := #[{ on := 5, ground := Ground.data }], guard := none }, { dst := some 70, op := Op.call { callee := Callee.value (Operand.func 40), args := #[Operand.tmp 67, Operand.tmp 69], argTypes := #[25, 3] }, type := 77, pos := "law.go:69", after := #[{ on := 4, ground := Ground.data }, { on := 6, ground := Ground.data }, { on := 3, ground := Ground.chain }], guard := none }, { dst := some 71, op := Op.binOp BinOp.eql 77 (Operand.tmp 66) (Operand.tmp 70) 77, type := 4, pos := "law.go:69", after := #[{ on := 3, ground := Ground.data }, { on := 7, ground := Ground.data }], guard := none }, { dst := some 6, op := Op.assign (Operand.tmp 71), type := 4, pos := "law.go:69", after := #[{ on := 8, ground := Ground.data }, { on := 7, ground := Ground.chain }, { on := 0, ground := Ground.phase }, { on := 1, ground := Ground.phase }, { on := 2, ground := Ground.phase }, { on := 3, ground := Ground.phase }, { on := 4, ground := Ground.phase }, { on := 5, ground := Ground.phase }, { on := 6, ground := Ground.phase }, { on := 7, ground := Ground.phase }, { on := 8, ground := Ground.phase }], guard := none }] true).wp Try.prog (onlyN K) { tmps := #[.pointer (some ⟨d, 0, none⟩), .pointer (some ⟨r, 0, none⟩), u2, u3, u4, .pointer (some ⟨bx, 0, none⟩), u6, u7, u8, u9, u10, u11, u12, u13, u14, u15, u16, u17, u18, u19, u20, u21, u22, u23, u24, u25, u26, u27, u28, u29, u30, u31, u32, u33, u34, u35, u36, u37, u38, u39, u40, u41, u42, u43, u44, u45, u46, u47, u48, u49, u50, u51, u52, u53, u54, u55, u56, u57, u58, u59, u60, u61, u62, u63, u64, u65, u66, u67, u68, u69, u70, u71, u72, u73, u74, u75, u76, u77, u78, u79, u80, u81, u82, u83, u84, u85, u86, u87, u88, u89, u90, u91, u92, u93, u94, u95, u96, u97, u98, u99, u100, u101, u102, u103, u104, u105, u106], defers := ds } W := by
  have KD : Kept (fun _ => False) W W.drew := Kept.drew _ W
  have y1 := cell_kp KD x1 (fun h => h)
  have bn := hn.n
  have bl := hn.L
  have bf1 := hn.files
  have bq1 := hn.faults
  have bc := hn.count
  have ho := hs.ops
  have hML := R.len
  have hc : rs.count < 4611686018427387904 := by omega
  have he := hs.err hc x
  have D0 := D.kept KD (fun _ _ h => h)
  have R0 := R.kept KD (fun _ _ h => h)
  have hbl : ∀ f ∈ rs.L, f.bytes.length ≤ 1099511627776 := fun f hf => Nat.le_trans (sim_len D hs f hf) (by omega)
  have hdel : ∀ w1, Kept S1 W.drew w1 → RefIn w1 S2 r rs vL vF M := fun w1 K => R0.kept K (fun k h2 h1 => hd k h1 h2)
  have hS := sync_any D0 x hx (by omega) (by omega)
  have HJ : Hid _ := fun (w1 w2 : World) (S1x : Nat → Prop) (Gx Cx : Int → Nat) (D1 : DiskIn w1 S1x d (n + 1) L (st.sync x) bf bq Gx Cx) (K1 : Kept S1 W.drew w1) (hS1 : ∀ k, S1x k → S1 k ∨ W.drew.heap.size ≤ k) (T : RefTo w1 S2 r (rs.sync x) w2) => Both.join R0 hd hlo hw D1 K1 hS1 T (hs.sync hc x) (hb.sync x) (hn.sync x)
  have HR : Hid (∀ w1, Kept S1 W.drew w1 → Calls Try.prog 40 #[.pointer (some ⟨r, 0, none⟩), .int .i64 x] w1 fun e w' => e = .returned (.int .i64 (rs.err x)) ∧ RefTo w1 S2 r (rs.sync x) w') := fun w1 K => refSync_any (hdel w1 K) hb hs.rising x (by omega) (by omega) hc hbl
  rw [he] at hS
  generalize rs.err x = er at *
  clear D R D0 R0 hs hb hn hd hlo hdel hbl he ho
  go_region_with (first
    | (go_at_call 39; refine hS.mono ?_; rintro e w1 ⟨rfl, S1x, Gx, Cx, D1, K1, hS1⟩; have y2 := cell_kp K1 y1 h1; have hR := HR.out w1 K1; clear hS)
    | (go_at_call 40; refine hR.mono ?_; rintro e w2 ⟨rfl, T⟩; have y3 : w2.cell? ⟨bx, 1, none⟩ = some (.int .i64 x) := (by obtain ⟨_, _, _, _, _, K2, _⟩ := T; exact cell_kp K2 y2 h2); have J := HJ.out w1 w2 S1x Gx Cx D1 K1 hS1 T; clear hR)
    | fail)
  all_goals exact h _ _ _ _ _ _ _ _ _ J

end Go.Proofs.Ytdbmefjagggnoaa
