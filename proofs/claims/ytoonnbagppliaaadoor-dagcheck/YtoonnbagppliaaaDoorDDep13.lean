/-
  Depth: the longest row so far.
-/
import Derived.Test.YtoonnbagppliaaaDoorDWalkIn
import Derived.RegionIn
namespace Go.Proofs.YtoonnbagppliaaaDoor
open Go.RowKit Go.Shelf
attribute [local go_sem] Oper.semAt_some

set_option maxRecDepth 100000 in
set_option maxHeartbeats 2000000 in
theorem dep13 {W : World} {lb rc rb n i x y : Nat} {m r : Nat} {ds : List Deferred} {u0 u1 u2 u3 u7 u8 u9 u10 u11 u12 u13 u14 u15 u16 u17 u18 u19 u20 u21 u22 u23 u24 u25 u26 u27 u28 u29 u30 u31 u32 u33 u34 u35 u36 u37 u38 u39 u40 u41 u42 u43 u44 u45 u46 u47 u48 u49 u50 u51 u52 u53 u54 : Value} (K : Act → World → Prop) (hc : W.drew.cell? ⟨rc, 0, none⟩ = some (.slice (some ⟨rb, 0, none⟩) n n)) (hx : W.drew.cell? ⟨lb, 0, none⟩ = some (.int .i64 (x : Nat))) (hy : W.drew.cell? ⟨rb, i, none⟩ = some (.int .i64 (y : Nat))) (hz : W.drew.frozen? ⟨lb, 0, none⟩ = false) (hi : (i : Int) < (n : Int))
    (h : ∀ (v48 v49 v50 v51 v52 v53 : Value), K { tmps := #[u0, u1, u2, u3, .pointer (some ⟨rc, 0, none⟩), .pointer (some ⟨lb, 0, none⟩), .int .i64 (i : Nat), u7, u8, u9, u10, u11, u12, u13, u14, u15, u16, u17, u18, u19, u20, u21, u22, u23, u24, u25, u26, u27, u28, u29, u30, u31, u32, u33, u34, u35, u36, u37, u38, u39, u40, u41, u42, u43, u44, u45, u46, u47, v48, v49, v50, v51, v52, v53, u54], defers := ds } (W.drew.setCell ⟨lb, 0, none⟩ (.int .i64 (max (x : Int) (y : Int))))) :
    (Code.region 13 #[{ dst := some 48, op := Op.load 3 (Operand.tmp 5), type := 3, pos := "order.go:108", after := #[], guard := none }, { dst := some 49, op := Op.load 37 (Operand.tmp 4), type := 37, pos := "order.go:108", after := #[], guard := none }, { dst := some 50, op := Op.move (Operand.tmp 6), type := 3, pos := "order.go:108", after := #[], guard := none }, { dst := some 51, op := Op.indexAddr 37 (Operand.tmp 49) (Operand.tmp 50), type := 0, pos := "order.go:108", after := #[{ on := 1, ground := Ground.data }, { on := 2, ground := Ground.data }], guard := none }, { dst := some 52, op := Op.load 3 (Operand.tmp 51), type := 3, pos := "order.go:108", after := #[{ on := 3, ground := Ground.data }], guard := none }, { dst := some 53, op := Op.call { callee := Callee.builtin Builtin.max, args := #[Operand.tmp 48, Operand.tmp 52], argTypes := #[3, 3] }, type := 3, pos := "order.go:108", after := #[{ on := 0, ground := Ground.data }, { on := 4, ground := Ground.data }], guard := none }, { dst := none, op := Op.store 3 (Operand.tmp 5) (Operand.tmp 53), type := 0, pos := "order.go:108", after := #[{ on := 5, ground := Ground.data }, { on := 0, ground := Ground.phase }, { on := 1, ground := Ground.phase }, { on := 2, ground := Ground.phase }, { on := 3, ground := Ground.phase }, { on := 4, ground := Ground.phase }, { on := 5, ground := Ground.phase }], guard := none }] true).wpIn (Fence.wide.inRound r) m Tryd.prog (nrm K) { tmps := #[u0, u1, u2, u3, .pointer (some ⟨rc, 0, none⟩), .pointer (some ⟨lb, 0, none⟩), .int .i64 (i : Nat), u7, u8, u9, u10, u11, u12, u13, u14, u15, u16, u17, u18, u19, u20, u21, u22, u23, u24, u25, u26, u27, u28, u29, u30, u31, u32, u33, u34, u35, u36, u37, u38, u39, u40, u41, u42, u43, u44, u45, u46, u47, u48, u49, u50, u51, u52, u53, u54], defers := ds } W := by
  have HH : Hid _ := h
  clear h
  gi_region
  all_goals exact HH.out _ _ _ _ _ _

end Go.Proofs.YtoonnbagppliaaaDoor
