/-
  Changes: the codec's ReadOps.
-/
import Derived.Test.YtceocmhgbcimoaaCOpsP
namespace Go.Proofs.Ytceocmhgbcimoaa
open Go.RowKit

/-- What ReadOps answers. -/
def OpsOut (w' : World) (base : Nat) (e : Ending) : Except Nat (Int × List RdD) → Prop
  | .error pl => e = .returned (.tuple #[.slice none 0 0, .int .i64 pl, .int .i64 2])
  | .ok (_, xs) => ∃ v, e = .returned (.tuple #[v, .int .i64 0, .int .i64 0]) ∧ w'.ownsRow base 166 3 v xs.length (opCells xs)

def outVal (bad : Bool) (at_ : Nat) (v : Value) : Value := if bad then .tuple #[.slice none 0 0, .int .i64 at_, .int .i64 2] else .tuple #[v, .int .i64 0, .int .i64 0]

set_option maxRecDepth 100000 in
set_option maxHeartbeats 400000 in
theorem outOps_any {w : World} {r : Nat} {a : Option Addr} {m c : Nat} {raw : List Int} {at_ : Nat} {bad : Bool} (A : RAt w r a m c raw at_ bad) (v : Value) :
    Calls Try.prog 109 #[.pointer (some ⟨r, 0, none⟩), v] w fun e w' => e = .returned (outVal bad at_ v) ∧ Kept (fun _ => False) w w' := by
  have c1 := A.c1
  have c2 := A.c2
  have hlt := A.lt
  clear A
  cases bad with
  | true =>
    simp only [outVal, if_true]
    go_enter Try.func109, Try.ntmps109
    go_wp2
    go_region
    go_wp2
    go_ret3
    exact ⟨rfl, Kept.drew _ _⟩
  | false =>
    simp only [outVal, Bool.false_eq_true, if_false]
    go_enter Try.func109, Try.ntmps109
    go_wp2
    go_ret3
    exact ⟨rfl, Kept.refl _ _⟩

/-- Ahead of the reading. -/
theorem LSt.new {w : World} {a : Option Addr} {m c : Nat} {raw : List Int} (B : BytesAt w a m c raw) (hm : m ≤ 140737488355328) :
    LSt ((w.alloc (.cells #[.slice none 0 0] 80)).alloc (.cells #[.slice a m c, .int .i64 0, .bool false] 136)) ((w.alloc (.cells #[.slice none 0 0] 80)).alloc (.cells #[.slice a m c, .int .i64 0, .bool false] 136)) (w.heap.size + 1 + 1) w.heap.size (w.heap.size + 1) a m c raw 0 false [] (.slice none 0 0) := by
  have K1 := Kept.alloc (fun _ => False) w (.cells #[.slice none 0 0] 80)
  have K2 := Kept.alloc (fun _ => False) (w.alloc (.cells #[.slice none 0 0] 80)) (.cells #[.slice a m c, .int .i64 0, .bool false] 136)
  have s1 : (w.alloc (.cells #[.slice none 0 0] 80)).heap.size = w.heap.size + 1 := by simp
  have A := RAt.new (B.kept K1 (fun _ _ _ h => h)) hm
  rw [s1] at A
  refine ⟨A, ?_, World.ownsRow_nil _ _ _ _, Kept.refl _ _, by omega, by omega, by omega, by simp, fun hne ad e => by have := B.lt e hne; omega⟩
  rw [K2.block w.heap.size (by omega) (fun h => h), heap_alloc_new]

/-- What holds at the label. -/
def opJ (w : World) (a : Option Addr) (m c : Nat) (raw : List Int) (a' : Act) (w' : World) : Prop := ∃ (v8 u9 u10 u11 u12 u13 u14 u15 u16 v : Value) (n : Int) (xs : List RdD) (at_ : Nat) (bad : Bool),
  a' = { tmps := #[.slice a m c, undef, .slice none 0 0, .int .i64 0, .int .i64 0, .pointer (some ⟨w.heap.size, 0, none⟩), .pointer (some ⟨w.heap.size + 1, 0, none⟩), .slice a m c, v8, u9, u10, u11, u12, u13, u14, u15, u16], defers := [] } ∧
  LSt ((w.alloc (.cells #[.slice none 0 0] 80)).alloc (.cells #[.slice a m c, .int .i64 0, .bool false] 136)) w' (w.heap.size + 1 + 1) w.heap.size (w.heap.size + 1) a m c raw at_ bad xs v ∧ rdWhole rdOps raw = if bad then .error at_ else .ok (n, xs)

theorem LSt.close {w0 w : World} {base EL r : Nat} {a : Option Addr} {m c : Nat} {raw : List Int} {at_ : Nat} {bad : Bool} {xs : List RdD} {v : Value} (S : LSt w0 w base EL r a m c raw at_ bad xs v) :
    Calls Try.prog 96 #[.pointer (some ⟨r, 0, none⟩)] w fun e w' => e = .returned (.tuple #[]) ∧ LSt w0 w' base EL r a m c raw at_ (bad || decide (at_ < m)) xs v :=
  (rclose_any S.rd).mono (fun _ _ ⟨h, A, K⟩ => ⟨h, S.step K A⟩)

theorem ops_err {raw : List Int} {pl : Nat} (h : rdOps raw 0 = .error pl) : rdWhole rdOps raw = .error pl := by simp [rdWhole, h]
theorem ops_ok {raw : List Int} {n : Int} {xs : List RdD} {i : Nat} (h : rdOps raw 0 = .ok ((n, xs), i)) : rdWhole rdOps raw = if decide (i < raw.length) then .error i else .ok (n, xs) := by simp [rdWhole, h]

set_option maxRecDepth 100000 in
set_option maxHeartbeats 1000000 in
theorem readOps_any (w : World) (a : Option Addr) (m c : Nat) (raw : List Int) (B : BytesAt w a m c raw) (hm : m ≤ 1000000000) :
    Calls Try.prog 48 #[.slice a m c] w fun e w' => OpsOut w' w.heap.size e (rdWhole rdOps raw) ∧ Kept (fun _ => False) w w' := by
  have S0 := LSt.new B (by omega)
  have hlen := B.len
  have K0 : Kept (fun _ => False) w ((w.alloc (.cells #[.slice none 0 0] 80)).alloc (.cells #[.slice a m c, .int .i64 0, .bool false] 136)) := (Kept.alloc _ _ _).and (Kept.alloc _ _ _)
  have HK0 : Hid _ := K0
  clear B K0
  go_enter Try.func48, Try.ntmps48
  go_wp2
  refine wp_scope_loop 0 (opJ w a m c raw) (fun _ _ => 0) rfl ?_ ?_
  · clear S0
    rintro a' w' ⟨v8, u9, u10, u11, u12, u13, u14, u15, u16, v, n, xs, at_, bad, rfl, S, hx⟩
    have hO := outOps_any S.rd v
    have e0 := S.cell.1
    have HS : Hid _ := S
    have HX : Hid _ := hx
    have KS : Kept (fun _ => False) w w' := HK0.out.trans S.kept (fun k h => .inr (by omega))
    clear hx S
    cases bad with
    | true =>
      simp only [outVal, if_true] at hO
      go_wp2_with (first
        | (go_at_call 109; refine hO.mono ?_; rintro e w1 ⟨rfl, K1⟩; clear hO)
        | fail)
      simp only [Exit.jump]
      go_ret3
      rw [HX.out]
      simp only [if_true]
      exact ⟨rfl, KS.and K1⟩
    | false =>
      simp only [outVal, Bool.false_eq_true, if_false] at hO
      go_wp2_with (first
        | (go_at_call 109; refine hO.mono ?_; rintro e w1 ⟨rfl, K1⟩; clear hO)
        | fail)
      simp only [Exit.jump]
      go_ret3
      rw [HX.out]
      simp only [Bool.false_eq_true, if_false]
      have r1 := HS.out.row
      exact ⟨⟨v, rfl, ownsRow_mono (ownsRow_block' r1 (fun k hk => K1.block k (r1.lt k hk).2 (fun h => h))) (by omega)⟩, KS.and K1⟩
  · intro pass
    cases hd : rdOps raw 0 with
    | error pl =>
      clear pass
      go_wp2_with (first
        | (go_at_call 107; have _t := S0; refine (rlist_any S0 hm).mono ?_; intro e w1 h; rw [hd] at h; obtain ⟨rfl, xs, v, S⟩ := h; clear S0)
        | fail)
      go_step3
      exact ⟨rfl, _, _, _, _, _, _, _, _, _, v, 0, xs, pl, true, rfl, S, ops_err hd⟩
    | ok y =>
      obtain ⟨⟨n, xs⟩, i⟩ := y
      go_wp2_with (first
        | (go_at_call 107; have _t := S0; refine (rlist_any S0 hm).mono ?_; intro e w1 h; rw [hd] at h; obtain ⟨rfl, v, S1⟩ := h; clear S0)
        | (go_at_call 96; refine S1.close.mono ?_; rintro e w2 ⟨rfl, SE⟩; clear S1)
        | fail)
      go_step3
      refine (‹∀ (a : Act) (w : World), Code.wp _ _ _ a w → _›) _ _ ?_
      refine pass _ _ ⟨_, _, _, _, _, _, _, _, _, v, n, xs, i, _, rfl, SE, ?_⟩
      rw [ops_ok hd, hlen, Bool.false_or]

end Go.Proofs.Ytceocmhgbcimoaa
