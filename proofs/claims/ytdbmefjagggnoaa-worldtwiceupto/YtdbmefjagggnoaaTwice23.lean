/-
  WorldTwice: what is read behind the second crash, held against what was.
-/
import Derived.Test.YtdbmefjagggnoaaTwice
import Derived.Deep.RegionHeld
namespace Go.Proofs.Ytdbmefjagggnoaa
open Go.RowKit Go.Maps Go.ChangeMaps Go.MapKept

set_option maxRecDepth 100000 in
set_option maxHeartbeats 4000000 in
theorem twice23 {W : World} {S1 : Nat → Prop} {d n L bf bq g h0 i m cap capw : Nat} {st : DSt} {G C : Int → Nat} {x : Int} {a1 : Option Addr} {c1 : Nat} {b : List Int} {ds : List Deferred} {u0 u1 u2 u3 u4 u5 u6 u8 u9 u12 u14 u15 u16 u17 u18 u19 u20 u21 u22 u23 u24 u25 u26 u27 u28 u29 u30 u31 u32 u33 u34 u35 u36 u37 u38 u39 u40 u41 u42 u43 u44 u45 u46 u47 u48 u49 u50 u51 u52 u53 u54 u55 u56 u57 u58 u59 u60 u61 u62 u63 u64 u65 u66 u67 u68 u69 u70 u71 u72 u73 u74 u75 u76 u77 u78 u79 u80 u81 u82 u83 : Value} (K : Act → World → Prop) (D : DiskIn W S1 d n L st bf bq G C) (hL : L ≤ 1099511627776) (hx : isI64 x) (x5 : W.cell? ⟨g, i, none⟩ = some (.int .i64 x)) (x6 : W.cell? ⟨h0, i, none⟩ = some (.slice a1 b.length c1)) (BW : BytesAt W a1 b.length c1 b) (hbx : st.bytesOf x = b) (hi : i < m)
    (h : ∀ (v70 v71 v72 v73 v74 v75 v76 v77 v78 v79 v80 v81 : Value) (w9 : World), Kept (fun _ => False) W.drew w9 → K { tmps := #[u0, u1, u2, u3, u4, u5, u6, .pointer (some ⟨d, 0, none⟩), u8, u9, .slice (some ⟨g, 0, none⟩) m cap, .slice (some ⟨h0, 0, none⟩) m capw, u12, .int .i64 (i : Int), u14, u15, u16, u17, u18, u19, u20, u21, u22, u23, u24, u25, u26, u27, u28, u29, u30, u31, u32, u33, u34, u35, u36, u37, u38, u39, u40, u41, u42, u43, u44, u45, u46, u47, u48, u49, u50, u51, u52, u53, u54, u55, u56, u57, u58, u59, u60, u61, u62, u63, u64, u65, u66, u67, u68, u69, v70, v71, v72, v73, v74, v75, v76, v77, v78, v79, v80, v81, .bool false, u83], defers := ds } w9) :
    (Code.region 23 #[{ dst := some 70, op := Op.move (Operand.tmp 7), type := 23, pos := "law.go:145", after := #[], guard := none }, { dst := some 71, op := Op.move (Operand.tmp 10), type := 29, pos := "law.go:145", after := #[], guard := none }, { dst := some 72, op := Op.move (Operand.tmp 13), type := 3, pos := "law.go:145", after := #[], guard := none }, { dst := some 73, op := Op.indexAddr 29 (Operand.tmp 71) (Operand.tmp 72), type := 0, pos := "law.go:145", after := #[{ on := 1, ground := Ground.data }, { on := 2, ground := Ground.data }], guard := none }, { dst := some 74, op := Op.load 3 (Operand.tmp 73), type := 3, pos := "law.go:145", after := #[{ on := 3, ground := Ground.data }], guard := none }, { dst := some 75, op := Op.call { callee := Callee.value (Operand.func 10), args := #[Operand.tmp 70, Operand.tmp 74], argTypes := #[23, 3] }, type := 28, pos := "law.go:145", after := #[{ on := 0, ground := Ground.data }, { on := 4, ground := Ground.data }], guard := none }, { dst := some 76, op := Op.convert 28 9 (Operand.tmp 75), type := 9, pos := "law.go:145", after := #[{ on := 5, ground := Ground.data }], guard := none }, { dst := some 77, op := Op.move (Operand.tmp 11), type := 38, pos := "law.go:145", after := #[], guard := none }, { dst := some 78, op := Op.move (Operand.tmp 13), type := 3, pos := "law.go:145", after := #[], guard := none }, { dst := some 79, op := Op.indexAddr 38 (Operand.tmp 77) (Operand.tmp 78), type := 0, pos := "law.go:145", after := #[{ on := 7, ground := Ground.data }, { on := 8, ground := Ground.data }], guard := none }, { dst := some 80, op := Op.load 28 (Operand.tmp 79), type := 28, pos := "law.go:145", after := #[{ on := 9, ground := Ground.data }], guard := none }, { dst := some 81, op := Op.convert 28 9 (Operand.tmp 80), type := 9, pos := "law.go:145", after := #[{ on := 10, ground := Ground.data }], guard := none }, { dst := some 82, op := Op.binOp BinOp.neq 9 (Operand.tmp 76) (Operand.tmp 81) 9, type := 4, pos := "law.go:145", after := #[{ on := 6, ground := Ground.data }, { on := 11, ground := Ground.data }], guard := none }] true).wp Try.prog (onlyN K) { tmps := #[u0, u1, u2, u3, u4, u5, u6, .pointer (some ⟨d, 0, none⟩), u8, u9, .slice (some ⟨g, 0, none⟩) m cap, .slice (some ⟨h0, 0, none⟩) m capw, u12, .int .i64 (i : Int), u14, u15, u16, u17, u18, u19, u20, u21, u22, u23, u24, u25, u26, u27, u28, u29, u30, u31, u32, u33, u34, u35, u36, u37, u38, u39, u40, u41, u42, u43, u44, u45, u46, u47, u48, u49, u50, u51, u52, u53, u54, u55, u56, u57, u58, u59, u60, u61, u62, u63, u64, u65, u66, u67, u68, u69, u70, u71, u72, u73, u74, u75, u76, u77, u78, u79, u80, u81, u82, u83], defers := ds } W := by
  have g1 : (i : Int) < (m : Int) := by omega
  have g2 : (0 : Int) ≤ (i : Int) := by omega
  have KD : Kept (fun _ => False) W W.drew := Kept.drew _ W
  have y5 := cell_kp KD x5 (fun h => h)
  have y6 := cell_kp KD x6 (fun h => h)
  have hR1 := read_any (D.kept KD (fun _ _ h => h)) (by omega) x hx
  have hbs := bytesOf_bs D x
  rw [hbx] at hR1 hbs
  have B8 := BW.kept KD (fun _ _ _ h => h)
  have HS : Hid (∀ V, Kept (fun _ => False) W.drew V → Kept (fun _ => False) W.drew V ∧ V.cell? ⟨g, i, none⟩ = some (.int .i64 x) ∧ V.cell? ⟨h0, i, none⟩ = some (.slice a1 b.length c1) ∧ (convert 28 9 (.slice a1 b.length c1)).run Try.prog V = .ok (.string (strOfNums b)) V) := fun V K => ⟨K, cell_kp K y5 (fun h => h), cell_kp K y6 (fun h => h), (B8.kept K (fun _ _ _ h => h)).str⟩
  clear D x5 x6 BW B8 hbx y5 y6
  go_region_held (fun V => Kept (fun _ => False) W.drew V ∧ V.cell? ⟨g, i, none⟩ = some (.int .i64 x) ∧ V.cell? ⟨h0, i, none⟩ = some (.slice a1 b.length c1) ∧ (convert 28 9 (.slice a1 b.length c1)).run Try.prog V = .ok (.string (strOfNums b)) V) (first | exact HS.out _ (Kept.refl _ _) | exact HS.out _ (by assumption)) (first
    | (go_at_call 10; refine hR1.mono ?_; rintro e w1 ⟨a2, c2, rfl, ho1, K1⟩; have s1 := (BytesAt.ofRow ho1 hbs).str; clear hR1 ho1)
    | fail)
  all_goals exact h _ _ _ _ _ _ _ _ _ _ _ _ _ K1

end Go.Proofs.Ytdbmefjagggnoaa
