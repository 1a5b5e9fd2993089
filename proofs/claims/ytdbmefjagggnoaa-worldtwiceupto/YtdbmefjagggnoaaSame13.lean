/-
  'same': what is read again, held against the document's.
-/
import Derived.Test.YtdbmefjagggnoaaBoth
namespace Go.Proofs.Ytdbmefjagggnoaa
open Go.RowKit Go.Maps Go.ChangeMaps Go.MapKept

set_option maxRecDepth 100000 in
set_option maxHeartbeats 40000000 in
theorem same13 {W : World} {S1 S2 : Nat → Prop} {d r n L bf bq g i m cap : Nat} {st : DSt} {rs : RSt} {G C : Int → Nat} {vL vF : Value} {M : List RM} {x : Int} {ds : List Deferred} {u2 u3 u4 u7 u8 u9 u10 u11 u12 u13 u14 u15 u16 u17 u18 u19 u20 u21 u22 u23 u24 u25 u26 u27 u28 u29 u30 u31 u32 u33 u34 u35 u36 u37 u38 u39 u40 u41 u42 u43 u44 u45 u46 u47 u48 u49 u50 u51 u52 u53 u54 u55 u56 u57 u58 u59 u60 u61 u62 u63 u64 u65 u66 u67 u68 u69 u70 u71 u72 u73 u74 u75 u76 u77 u78 u79 u80 u81 u82 u83 u84 u85 : Value} (K : Act → World → Prop) (D : DiskIn W S1 d n L st bf bq G C) (R : RefIn W S2 r rs vL vF M) (hs : Sim st rs) (hL : L ≤ 1099511627776) (hM : M.length ≤ 1099511627776) (hx : isI64 x) (x5 : W.cell? ⟨g, i, none⟩ = some (.int .i64 x)) (hi : i < m) (hc : m ≤ cap)
    (h : ∀ (v67 v68 v69 v70 v71 v72 v73 v74 v75 v76 v77 v78 v79 v80 : Value) (w9 : World), Kept (fun _ => False) W.drew w9 → K { tmps := #[.pointer (some ⟨d, 0, none⟩), .pointer (some ⟨r, 0, none⟩), u2, u3, u4, .slice (some ⟨g, 0, none⟩) m cap, .int .i64 (i : Int), u7, u8, u9, u10, u11, u12, u13, u14, u15, u16, u17, u18, u19, u20, u21, u22, u23, u24, u25, u26, u27, u28, u29, u30, u31, u32, u33, u34, u35, u36, u37, u38, u39, u40, u41, u42, u43, u44, u45, u46, u47, u48, u49, u50, u51, u52, u53, u54, u55, u56, u57, u58, u59, u60, u61, u62, u63, u64, u65, u66, v67, v68, v69, v70, v71, v72, v73, v74, v75, v76, v77, v78, v79, v80, .bool false, u82, u83, u84, u85], defers := ds } w9) :
    (Code.region 13 #[{ dst := some 67, op := Op.move (Operand.tmp 0), type := 23, pos := "law.go:52", after := #[], guard := none }, { dst := some 68, op := Op.move (Operand.tmp 5), type := 29, pos := "law.go:52", after := #[], guard := none }, { dst := some 69, op := Op.move (Operand.tmp 6), type := 3, pos := "law.go:52", after := #[], guard := none }, { dst := some 70, op := Op.indexAddr 29 (Operand.tmp 68) (Operand.tmp 69), type := 0, pos := "law.go:52", after := #[{ on := 1, ground := Ground.data }, { on := 2, ground := Ground.data }], guard := none }, { dst := some 71, op := Op.load 3 (Operand.tmp 70), type := 3, pos := "law.go:52", after := #[{ on := 3, ground := Ground.data }], guard := none }, { dst := some 72, op := Op.call { callee := Callee.value (Operand.func 10), args := #[Operand.tmp 67, Operand.tmp 71], argTypes := #[23, 3] }, type := 28, pos := "law.go:52", after := #[{ on := 0, ground := Ground.data }, { on := 4, ground := Ground.data }], guard := none }, { dst := some 73, op := Op.convert 28 9 (Operand.tmp 72), type := 9, pos := "law.go:52", after := #[{ on := 5, ground := Ground.data }], guard := none }, { dst := some 74, op := Op.move (Operand.tmp 1), type := 25, pos := "law.go:52", after := #[], guard := none }, { dst := some 75, op := Op.move (Operand.tmp 5), type := 29, pos := "law.go:52", after := #[], guard := none }, { dst := some 76, op := Op.move (Operand.tmp 6), type := 3, pos := "law.go:52", after := #[], guard := none }, { dst := some 77, op := Op.indexAddr 29 (Operand.tmp 75) (Operand.tmp 76), type := 0, pos := "law.go:52", after := #[{ on := 8, ground := Ground.data }, { on := 9, ground := Ground.data }], guard := none }, { dst := some 78, op := Op.load 3 (Operand.tmp 77), type := 3, pos := "law.go:52", after := #[{ on := 10, ground := Ground.data }], guard := none }, { dst := some 79, op := Op.call { callee := Callee.value (Operand.func 11), args := #[Operand.tmp 74, Operand.tmp 78], argTypes := #[25, 3] }, type := 28, pos := "law.go:52", after := #[{ on := 7, ground := Ground.data }, { on := 11, ground := Ground.data }, { on := 5, ground := Ground.chain }], guard := none }, { dst := some 80, op := Op.convert 28 9 (Operand.tmp 79), type := 9, pos := "law.go:52", after := #[{ on := 12, ground := Ground.data }], guard := none }, { dst := some 81, op := Op.binOp BinOp.neq 9 (Operand.tmp 73) (Operand.tmp 80) 9, type := 4, pos := "law.go:52", after := #[{ on := 6, ground := Ground.data }, { on := 13, ground := Ground.data }], guard := none }] true).wp Try.prog (onlyN K) { tmps := #[.pointer (some ⟨d, 0, none⟩), .pointer (some ⟨r, 0, none⟩), u2, u3, u4, .slice (some ⟨g, 0, none⟩) m cap, .int .i64 (i : Int), u7, u8, u9, u10, u11, u12, u13, u14, u15, u16, u17, u18, u19, u20, u21, u22, u23, u24, u25, u26, u27, u28, u29, u30, u31, u32, u33, u34, u35, u36, u37, u38, u39, u40, u41, u42, u43, u44, u45, u46, u47, u48, u49, u50, u51, u52, u53, u54, u55, u56, u57, u58, u59, u60, u61, u62, u63, u64, u65, u66, u67, u68, u69, u70, u71, u72, u73, u74, u75, u76, u77, u78, u79, u80, u81, u82, u83, u84, u85], defers := ds } W := by
  have hb := (hs.bytes x).1
  have hk := (hs.bytes x).2
  have hbs := bytesOf_bs D x
  have hbl := sim_bytes_len D hs x
  have g1 : (i : Int) < (m : Int) := by omega
  have g2 : (0 : Int) ≤ (i : Int) := by omega
  have g3 : (m : Int) ≤ (cap : Int) := by omega
  have KD : Kept (fun _ => False) W W.drew := Kept.drew _ W
  have y5 := cell_kp KD x5 (fun h => h)
  have HD : Hid (∀ V, Kept (fun _ => False) W.drew V → DiskIn V S1 d n L st bf bq G C) := fun V K => D.kept (KD.and K) (fun _ _ h => h)
  have HR : Hid (∀ V, Kept (fun _ => False) W.drew V → RefIn V S2 r rs vL vF M) := fun V K => R.kept (KD.and K) (fun _ _ h => h)
  have hR1 := read_any (HD.out W.drew (Kept.refl _ _)) (by omega) x hx
  have hR2 : ∀ V, Kept (fun _ => False) W.drew V → _ := fun V K => refRead_any (HR.out V K) hs.rising x hM (by omega)
  rw [← hb] at hR2 hbl
  clear hb hk
  generalize st.bytesOf x = b at *
  clear D R x5
  go_region_with (first
    | (go_at_call 10; refine hR1.mono ?_; rintro e w1 ⟨a1, c1, rfl, ho1, K1⟩; have y51 := cell_kp K1 y5 (fun h => h); have B1 := BytesAt.ofRow ho1 hbs; have HB1 : Hid _ := B1; have s1 := B1.str; have hR3 := hR2 w1 K1; clear hR1 hR2 ho1 B1)
    | (go_at_call 11; refine hR3.mono ?_; rintro e w2 ⟨a2, c2, rfl, ho2, K2⟩; have y52 := cell_kp K2 y51 (fun h => h); have s2 := (BytesAt.ofRow ho2 hbs).str; have s3 := (HB1.out.kept K2 (fun _ _ _ h => h)).str; have K12 := K1.and K2; clear hR3 ho2)
    | fail)
  all_goals exact h _ _ _ _ _ _ _ _ _ _ _ _ _ _ _ K12

end Go.Proofs.Ytdbmefjagggnoaa
