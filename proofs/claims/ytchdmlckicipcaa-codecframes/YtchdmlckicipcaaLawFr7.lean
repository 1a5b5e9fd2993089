/-
  A frame, held against the document's.
-/
import Derived.Test.YtchdmlckicipcaaCRefFr
import Derived.Test.YtchdmlckicipcaaCSpoil
import Derived.Test.YtchdmlckicipcaaLawSplitK
namespace Go.Proofs.Ytchdmlckicipcaa
open Go.RowKit Go.Shelf

theorem BytesAt.ofFrame {w : World} {base : Nat} {a : Option Addr} {n c : Nat} {f : List Int} (h : w.ownsRow base 5 1 (.slice a n c) n (f.map (Value.int .u8))) (hb : Bs f) (hl : f.length = n) : BytesAt w a n c f := by
  subst hl
  exact BytesAt.ofRow h hb

set_option maxRecDepth 100000 in
set_option maxHeartbeats 4000000 in
theorem fr7 {W : World} {pa fa : Option Addr} {pm pc fm fc : Nat} {p : List Int} {ds : List Deferred} {u0 u1 u2 u3 u4 u5 u6 u7 u8 u11 u12 u13 u14 u15 u16 u17 u18 u19 u20 u21 u22 u23 u24 u25 u26 u27 u28 u29 u30 u31 u32 u33 u34 u35 u36 u37 u38 u39 u40 u41 u42 u43 u44 u45 u46 u47 u48 u49 u50 u51 u52 u53 u54 u55 u56 u57 u58 u59 u60 u61 u62 u63 u64 u65 u66 u67 u68 u69 u70 u71 u72 u73 u74 u75 u76 u77 u78 u79 u80 u81 u82 u83 u84 u85 u86 u87 u88 u89 u90 u91 u92 u93 u94 u95 u96 u97 u98 u99 u100 u101 u102 u103 u104 u105 u106 u107 u108 u109 u110 u111 u112 u113 u114 u115 u116 u117 u118 u119 u120 u121 u122 u123 u124 u125 : Value} (K : Act → World → Prop) (BP : BytesAt W pa pm pc p) (BF : BytesAt W fa fm fc (frameB p)) (hm : pm ≤ 3000)
    (h : ∀ (v37 v38 v39 v40 v41 : Value) (w1 : World), Kept (fun _ => False) W.drew w1 → K { tmps := #[u0, u1, u2, u3, u4, u5, u6, u7, u8, .slice pa pm pc, .slice fa fm fc, u11, u12, u13, u14, u15, u16, u17, u18, u19, u20, u21, u22, u23, u24, u25, u26, u27, u28, u29, u30, u31, u32, u33, u34, u35, u36, v37, v38, v39, v40, v41, .bool false, u43, u44, u45, u46, u47, u48, u49, u50, u51, u52, u53, u54, u55, u56, u57, u58, u59, u60, u61, u62, u63, u64, u65, u66, u67, u68, u69, u70, u71, u72, u73, u74, u75, u76, u77, u78, u79, u80, u81, u82, u83, u84, u85, u86, u87, u88, u89, u90, u91, u92, u93, u94, u95, u96, u97, u98, u99, u100, u101, u102, u103, u104, u105, u106, u107, u108, u109, u110, u111, u112, u113, u114, u115, u116, u117, u118, u119, u120, u121, u122, u123, u124, u125], defers := ds } w1) :
    (Code.region 7 #[{ dst := some 37, op := Op.move (Operand.tmp 10), type := 23, pos := "law.go:275", after := #[], guard := none }, { dst := some 38, op := Op.convert 23 9 (Operand.tmp 37), type := 9, pos := "law.go:275", after := #[{ on := 0, ground := Ground.data }], guard := none }, { dst := some 39, op := Op.move (Operand.tmp 9), type := 23, pos := "law.go:275", after := #[], guard := none }, { dst := some 40, op := Op.call { callee := Callee.value (Operand.func 6), args := #[Operand.tmp 39], argTypes := #[23] }, type := 23, pos := "law.go:275", after := #[{ on := 2, ground := Ground.data }], guard := none }, { dst := some 41, op := Op.convert 23 9 (Operand.tmp 40), type := 9, pos := "law.go:275", after := #[{ on := 3, ground := Ground.data }], guard := none }, { dst := some 42, op := Op.binOp BinOp.neq 9 (Operand.tmp 38) (Operand.tmp 41) 9, type := 4, pos := "law.go:275", after := #[{ on := 1, ground := Ground.data }, { on := 4, ground := Ground.data }], guard := none }] true).wpIn Fence.wide 3 Try.prog (onlyN K) { tmps := #[u0, u1, u2, u3, u4, u5, u6, u7, u8, .slice pa pm pc, .slice fa fm fc, u11, u12, u13, u14, u15, u16, u17, u18, u19, u20, u21, u22, u23, u24, u25, u26, u27, u28, u29, u30, u31, u32, u33, u34, u35, u36, u37, u38, u39, u40, u41, u42, u43, u44, u45, u46, u47, u48, u49, u50, u51, u52, u53, u54, u55, u56, u57, u58, u59, u60, u61, u62, u63, u64, u65, u66, u67, u68, u69, u70, u71, u72, u73, u74, u75, u76, u77, u78, u79, u80, u81, u82, u83, u84, u85, u86, u87, u88, u89, u90, u91, u92, u93, u94, u95, u96, u97, u98, u99, u100, u101, u102, u103, u104, u105, u106, u107, u108, u109, u110, u111, u112, u113, u114, u115, u116, u117, u118, u119, u120, u121, u122, u123, u124, u125], defers := ds } W := by
  have hmix : Try.prog.follows .mixedOrders = true := by kernel_rfl
  have hF := refFrame_any W.drew pa pm pc p (BP.kept (Kept.drew (fun _ => False) W) (fun _ _ _ h => h)) (by omega)
  have BD := BF.kept (Kept.drew (fun _ => False) W) (fun _ _ _ h => h)
  have HBD : Hid _ := BD
  have s1 := BD.str
  have hb : Bs (frameB p) := BF.byte
  have hl : (frameB p).length = 8 + pm := by rw [frameB_length, BP.len]
  clear BP BF BD
  gi_region_with_o (refine ⟨trivial, ?_⟩; gi_at_call 6; refine (callsIn_wide.2 hF).mono ?_; rintro e w1 ⟨a1, c1, rfl, ho, K1⟩; have s2 := (BytesAt.ofFrame ho hb hl).str; have s3 := (HBD.out.kept K1 (fun _ _ _ h => h)).str)
  all_goals exact h _ _ _ _ _ _ K1

end Go.Proofs.Ytchdmlckicipcaa
