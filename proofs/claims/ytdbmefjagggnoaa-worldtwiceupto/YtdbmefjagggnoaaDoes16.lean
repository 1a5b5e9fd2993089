/-
  'does': Delete on both disks.
-/
import Derived.Test.YtdbmefjagggnoaaBothJ
namespace Go.Proofs.Ytdbmefjagggnoaa
open Go.RowKit Go.Maps Go.ChangeMaps Go.MapKept

set_option maxRecDepth 100000 in
set_option maxHeartbeats 40000000 in
theorem does16 {W : World} {S1 S2 : Nat → Prop} {d r n L bf bq bx j lo : Nat} {st : DSt} {rs : RSt} {G C : Int → Nat} {vL vF : Value} {M : List RM} {x : Int} {ds : List Deferred} {u2 u3 u4 u6 u7 u8 u9 u10 u11 u12 u13 u14 u15 u16 u17 u18 u19 u20 u21 u22 u23 u24 u25 u26 u27 u28 u29 u30 u31 u32 u33 u34 u35 u36 u37 u38 u39 u40 u41 u42 u43 u44 u45 u46 u47 u48 u49 u50 u51 u52 u53 u54 u55 u56 u57 u58 u59 u60 u61 u62 u63 u64 u65 u66 u67 u68 u69 u70 u71 u72 u73 u74 u75 u76 u77 u78 u79 u80 u81 u82 u83 u84 u85 u86 u87 u88 u89 u90 u91 u92 u93 u94 u95 u96 u97 u98 u99 u100 u101 u102 u103 u104 u105 u106 : Value} (K : Act → World → Prop) (D : DiskIn W S1 d n L st bf bq G C) (R : RefIn W S2 r rs vL vF M) (hd : ∀ k, S1 k → ¬ S2 k) (hlo : ∀ k, S1 k ∨ S2 k → lo ≤ k) (hw : lo ≤ W.heap.size) (hs : Sim st rs) (hb : RBd rs) (hn : Bnd j n L rs) (hj : j ≤ 200) (hx : isI64 x) (x1 : W.cell? ⟨bx, 1, none⟩ = some (.int .i64 x)) (h1 : ¬ S1 bx) (h2 : ¬ S2 bx)
    (h : ∀ (v74 v75 v76 v77 v78 v79 v80 v81 : Value) (w9 : World), Both w9 lo d r (j + 1) ∧ Below lo W.drew w9 → K { tmps := #[.pointer (some ⟨d, 0, none⟩), .pointer (some ⟨r, 0, none⟩), u2, u3, u4, .pointer (some ⟨bx, 0, none⟩), .bool true, u7, u8, u9, u10, u11, u12, u13, u14, u15, u16, u17, u18, u19, u20, u21, u22, u23, u24, u25, u26, u27, u28, u29, u30, u31, u32, u33, u34, u35, u36, u37, u38, u39, u40, u41, u42, u43, u44, u45, u46, u47, u48, u49, u50, u51, u52, u53, u54, u55, u56, u57, u58, u59, u60, u61, u62, u63, u64, u65, u66, u67, u68, u69, u70, u71, u72, u73, v74, v75, v76, v77, v78, v79, v80, v81, .bool true, u83, u84, u85, u86, u87, u88, u89, u90, u91, u92, u93, u94, u95, u96, u97, u98, u99, u100, u101, u102, u103, u104, u105, u106], defers := ds } w9) :
    (Code.region 16 #[{ dst := some 74, op := Op.move (Operand.tmp 0), type := 23, pos := "law.go:71", after := #[], guard := none }, { dst := some 75, op := Op.fieldAddr 31 (Operand.tmp 5) 1, type := 0, pos := "law.go:71", after := #[], guard := none }, { dst := some 76, op := Op.load 3 (Operand.tmp 75), type := 3, pos := "law.go:71", after := #[{ on := 1, ground := Ground.data }], guard := none }, { dst := some 77, op := Op.call { callee := Callee.value (Operand.func 41), args := #[Operand.tmp 74, Operand.tmp 76], argTypes := #[23, 3] }, type := 77, pos := "law.go:71", after := #[{ on := 0, ground := Ground.data }, { on := 2, ground := Ground.data }], guard := none }, { dst := some 78, op := Op.move (Operand.tmp 1), type := 25, pos := "law.go:71", after := #[], guard := none }, { dst := some 79, op := Op.fieldAddr 31 (Operand.tmp 5) 1, type := 0, pos := "law.go:71", after := #[], guard := none }, { dst := some 80, op := Op.load 3 (Operand.tmp 79), type := 3, pos := "law.go:71", after := #[{ on := 5, ground := Ground.data }], guard := none }, { dst := some 81, op := Op.call { callee := Callee.value (Operand.func 42), args := #[Operand.tmp 78, Operand.tmp 80], argTypes := #[25, 3] }, type := 77, pos := "law.go:71", after := #[{ on := 4, ground := Ground.data }, { on := 6, ground := Ground.data }, { on := 3, ground := Ground.chain }], guard := none }, { dst := some 82, op := Op.binOp BinOp.eql 77 (Operand.tmp 77) (Operand.tmp 81) 77, type := 4, pos := "law.go:71", after := #[{ on := 3, ground := Ground.data }, { on := 7, ground := Ground.data }], guard := none }, { dst := some 6, op := Op.assign (Operand.tmp 82), type := 4, pos := "law.go:71", after := #[{ on := 8, ground := Ground.data }, { on := 7, ground := Ground.chain }, { on := 0, ground := Ground.phase }, { on := 1, ground := Ground.phase }, { on := 2, ground := Ground.phase }, { on := 3, ground := Ground.phase }, { on := 4, ground := Ground.phase }, { on := 5, ground := Ground.phase }, { on := 6, ground := Ground.phase }, { on := 7, ground := Ground.phase }, { on := 8, ground := Ground.phase }], guard := none }] true).wp Try.prog (onlyN K) { tmps := #[.pointer (some ⟨d, 0, none⟩), .pointer (some ⟨r, 0, none⟩), u2, u3, u4, .pointer (some ⟨bx, 0, none⟩), u6, u7, u8, u9, u10, u11, u12, u13, u14, u15, u16, u17, u18, u19, u20, u21, u22, u23, u24, u25, u26, u27, u28, u29, u30, u31, u32, u33, u34, u35, u36, u37, u38, u39, u40, u41, u42, u43, u44, u45, u46, u47, u48, u49, u50, u51, u52, u53, u54, u55, u56, u57, u58, u59, u60, u61, u62, u63, u64, u65, u66, u67, u68, u69, u70, u71, u72, u73, u74, u75, u76, u77, u78, u79, u80, u81, u82, u83, u84, u85, u86, u87, u88, u89, u90, u91, u92, u93, u94, u95, u96, u97, u98, u99, u100, u101, u102, u103, u104, u105, u106], defers := ds } W := by
  have KD : Kept (fun _ => False) W W.drew := Kept.drew _ W
  have y1 := cell_kp KD x1 (fun h => h)
  have bn := hn.n
  have bl := hn.L
  have bf1 := hn.files
  have bq1 := hn.faults
  have bc := hn.count
  have ho := hs.ops
  have hML := R.len
  have hc : rs.count < 4611686018427387904 := by omega
  have he := hs.err hc x
  have D0 := D.kept KD (fun _ _ h => h)
  have R0 := R.kept KD (fun _ _ h => h)
  have hbl : ∀ f ∈ rs.L, f.bytes.length ≤ 1099511627776 := fun f hf => Nat.le_trans (sim_len D hs f hf) (by omega)
  have hdel : ∀ w1, Kept S1 W.drew w1 → RefIn w1 S2 r rs vL vF M := fun w1 K => R0.kept K (fun k h2 h1 => hd k h1 h2)
  have hS := delete_any D0 x hx (by omega)
  have HJ : Hid _ := fun (w1 w2 : World) (D1 : DiskIn w1 S1 d n L (st.delete x) bf bq G C) (K1 : Kept S1 W.drew w1) (T : RefTo w1 S2 r (rs.delete x) w2) => Both.join R0 hd hlo hw D1 K1 (fun _ h => .inl h) T (hs.delete hc x) (hb.delete x) (hn.delete x)
  have HR : Hid (∀ w1, Kept S1 W.drew w1 → Calls Try.prog 42 #[.pointer (some ⟨r, 0, none⟩), .int .i64 x] w1 fun e w' => e = .returned (.int .i64 (rs.err x)) ∧ RefTo w1 S2 r (rs.delete x) w') := fun w1 K => refDelete_any (hdel w1 K) hb x (by omega) (by omega) hc
  rw [he] at hS
  generalize rs.err x = er at *
  clear D R D0 R0 hs hb hn hd hlo hdel hbl he ho
  go_region_with (first
    | (go_at_call 41; refine hS.mono ?_; rintro e w1 ⟨rfl, D1, K1⟩; have y2 := cell_kp K1 y1 h1; have hR := HR.out w1 K1; clear hS)
    | (go_at_call 42; refine hR.mono ?_; rintro e w2 ⟨rfl, T⟩; have y3 : w2.cell? ⟨bx, 1, none⟩ = some (.int .i64 x) := (by obtain ⟨_, _, _, _, _, K2, _⟩ := T; exact cell_kp K2 y2 h2); have J := HJ.out w1 w2 D1 K1 T; clear hR)
    | fail)
  all_goals exact h _ _ _ _ _ _ _ _ _ J

end Go.Proofs.Ytdbmefjagggnoaa
