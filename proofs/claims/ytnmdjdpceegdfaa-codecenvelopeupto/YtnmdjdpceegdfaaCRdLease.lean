/-
  The codec's ReadLease.
-/
import Derived.Test.YtnmdjdpceegdfaaCRec
namespace Go.Proofs.Ytnmdjdpceegdfaa
open Go.RowKit

abbrev LeaseD := Int × Int

def rdLease : Rd LeaseD := rdBind rdSig fun _ => rdNum 0 4503599627370496

/-- What ReadLease answers. -/
def leOut (x : Except Nat LeaseD) : Value := match x with
  | .error pl => .tuple #[.agg #[.int .i64 0, .int .i64 0], .int .i64 pl, .int .i64 2]
  | .ok (x0, x1) => .tuple #[.agg #[.int .i64 x0, .int .i64 x1], .int .i64 0, .int .i64 0]

set_option maxRecDepth 100000 in
set_option maxHeartbeats 400000 in
theorem outLease_any {w : World} {r : Nat} {a : Option Addr} {m c : Nat} {raw : List Int} {at_ : Nat} {bad : Bool} (A : RAt w r a m c raw at_ bad) (x0 : Int) (x1 : Int) (x : Except Nat LeaseD) (hx : x = if bad then .error at_ else .ok (x0, x1)) :
    Calls Try.prog 58 #[.pointer (some ⟨r, 0, none⟩), .agg #[.int .i64 x0, .int .i64 x1]] w fun e w' => e = .returned (leOut x) ∧ Kept (fun _ => False) w w' := by
  have c1 := A.c1
  have c2 := A.c2
  have hlt := A.lt
  clear A
  cases bad with
  | true =>
    obtain rfl : x = .error at_ := hx
    have c3 : (((w.alloc (.cells #[.int .i64 x0, .int .i64 x1] 44)).alloc (.cells #[.int .i64 0, .int .i64 0] 44)).alloc (.cells #[.int .i64 0, .int .i64 0] 44)).cell? ⟨r, 1, none⟩ = some (.int .i64 at_) :=
      (cell_keep (((Kept.alloc (fun _ => False) _ _).and (Kept.alloc _ _ _)).and (Kept.alloc _ _ _)) c1 (fun h => h)).1
    go_enter Try.func58, Try.ntmps58
    go_wp2
    go_region
    go_wp2
    refine bodyPost_ret (by simp [results, Try.results58, go_sem]; try rfl) rfl ?_
    exact ⟨rfl, (((Kept.alloc (fun _ => False) _ _).and (Kept.alloc _ _ _)).and (Kept.alloc _ _ _)).and (Kept.drew _ _)⟩
  | false =>
    obtain rfl : x = .ok (x0, x1) := hx
    go_enter Try.func58, Try.ntmps58
    go_wp2
    refine bodyPost_ret (by simp [results, Try.results58, go_sem]; try rfl) rfl ?_
    exact ⟨rfl, (Kept.alloc (fun _ => False) _ _).and (Kept.alloc _ _ _)⟩

theorem le_err0 {raw : List Int} {pl : Nat}  (h0 : rdSig raw 0 = .error pl) : rdWhole rdLease raw = .error pl := by simp [rdWhole, rdLease, rdBind, h0]
theorem le_err1 {raw : List Int} {pl : Nat} {i0 : Nat} {x0 : Int} (h0 : rdSig raw 0 = .ok (x0, i0)) (h1 : rdNum 0 4503599627370496 raw i0 = .error pl) : rdWhole rdLease raw = .error pl := by simp [rdWhole, rdLease, rdBind, h0, h1]
theorem le_ok {raw : List Int}  {i0 : Nat} {i1 : Nat} {x0 : Int} {x1 : Int} (h0 : rdSig raw 0 = .ok (x0, i0)) (h1 : rdNum 0 4503599627370496 raw i0 = .ok (x1, i1)) : rdWhole rdLease raw = if decide (i1 < raw.length) then .error i1 else .ok (x0, x1) := by simp [rdWhole, rdLease, rdBind, h0, h1]

/-- What holds at the label. -/
def leJ (w : World) (a : Option Addr) (m c : Nat) (raw : List Int) (a' : Act) (w' : World) : Prop := ∃ (v8 u9 u10 u11 u12 u13 u14 u15 u16 u17 u18 u19 u20 : Value) (x0 : Int) (x1 : Int) (at_ : Nat) (bad : Bool),
  a' = { tmps := #[.slice a m c, undef, .pointer (some ⟨w.heap.size, 0, none⟩), .int .i64 0, .int .i64 0, .pointer (some ⟨w.heap.size + 1, 0, none⟩), .pointer (some ⟨w.heap.size + 1 + 1, 0, none⟩), .slice a m c, v8, u9, u10, u11, u12, u13, u14, u15, u16, u17, u18, u19, u20], defers := [] } ∧
  RecSt w w' 44 w.heap.size (w.heap.size + 1) (w.heap.size + 1 + 1) a m c raw at_ bad #[.int .i64 0, .int .i64 0] #[.int .i64 x0, .int .i64 x1] ∧ rdWhole rdLease raw = if bad then .error at_ else .ok (x0, x1)

set_option maxRecDepth 100000 in
set_option maxHeartbeats 1000000 in
theorem readLease_any (w : World) (a : Option Addr) (m c : Nat) (raw : List Int) (B : BytesAt w a m c raw) (hm : m ≤ 140737488355328) :
    Calls Try.prog 23 #[.slice a m c] w fun e w' => e = .returned (leOut (rdWhole rdLease raw)) ∧ Kept (fun _ => False) w w' := by
  have S0 := RecSt.new B hm 44 #[.int .i64 0, .int .i64 0]
  have hlen := B.len
  clear B
  go_enter Try.func23, Try.ntmps23
  go_wp2
  refine wp_scope_loop 0 (leJ w a m c raw) (fun _ _ => 0) rfl ?_ ?_
  · clear S0
    rintro a' w' ⟨v8, u9, u10, u11, u12, u13, u14, u15, u16, u17, u18, u19, u20, x0, x1, at_, bad, rfl, S, hx⟩
    have hO := outLease_any S.rd x0 x1 _ hx
    have e0 := (S.cell (o := 0) rfl).1
    have e1 := (S.cell (o := 1) rfl).1
    have HS : Hid _ := S
    have HX : Hid _ := hx
    clear hx S
    cases hr : rdWhole rdLease raw with
    | error pl =>
      rw [hr] at hO
      have hres : ∀ w1, Kept (fun _ => False) w' w1 → ((w1.cell? ⟨w.heap.size, 0, none⟩ = some (.int .i64 0) ∧ w1.frozen? ⟨w.heap.size, 0, none⟩ = false) ∧ (w1.cell? ⟨w.heap.size, 1, none⟩ = some (.int .i64 0) ∧ w1.frozen? ⟨w.heap.size, 1, none⟩ = false)) ∧ w1.heap[w.heap.size]? = some (.cells #[.int .i64 0, .int .i64 0] 44 (0, 0)) := fun w1 K => by
        have hb := (K.block w.heap.size (Nat.lt_trans HS.out.r2 (Nat.lt_trans HS.out.r3 HS.out.rd.lt)) (fun h => h)).trans HS.out.res
        exact ⟨by simp [World.cell?, World.frozen?, hb], hb⟩
      go_wp2_with (first
        | (go_at_call 58; refine hO.mono ?_; rintro e w1 ⟨rfl, K1⟩; simp only [leOut]; obtain ⟨hr1, hb1⟩ := hres w1 K1; have HB : Hid _ := hb1; clear hO hres hb1)
        | fail)
      have hR : (((w1.setCell ⟨w.heap.size, 0, none⟩ (.int .i64 0)).setCell ⟨w.heap.size, 1, none⟩ (.int .i64 0))).heap[w.heap.size]? = some (.cells #[.int .i64 0, .int .i64 0] 44 (0, 0)) := by simp [World.setCell, Array.getElem?_modify, HB.out]
      have g0 := cellOf hR (o := 0) rfl
      have g1 := cellOf hR (o := 1) rfl
      simp only [Exit.jump]
      refine bodyPost_ret (by simp [results, Try.results23, go_sem, g0, g1]; try rfl) rfl ?_
      rw [hr]
      exact ⟨rfl, (((HS.out.kept.and K1).trans (Kept.setCell (S := fun k => k = w.heap.size) _ _ _ rfl) (fun k h => .inr (by omega))).trans (Kept.setCell (S := fun k => k = w.heap.size) _ _ _ rfl) (fun k h => .inr (by omega)))⟩
    | ok y =>
      obtain ⟨y0, y1⟩ := y
      rw [hr] at hO
      have hres : ∀ w1, Kept (fun _ => False) w' w1 → ((w1.cell? ⟨w.heap.size, 0, none⟩ = some (.int .i64 0) ∧ w1.frozen? ⟨w.heap.size, 0, none⟩ = false) ∧ (w1.cell? ⟨w.heap.size, 1, none⟩ = some (.int .i64 0) ∧ w1.frozen? ⟨w.heap.size, 1, none⟩ = false)) ∧ w1.heap[w.heap.size]? = some (.cells #[.int .i64 0, .int .i64 0] 44 (0, 0)) := fun w1 K => by
        have hb := (K.block w.heap.size (Nat.lt_trans HS.out.r2 (Nat.lt_trans HS.out.r3 HS.out.rd.lt)) (fun h => h)).trans HS.out.res
        exact ⟨by simp [World.cell?, World.frozen?, hb], hb⟩
      go_wp2_with (first
        | (go_at_call 58; refine hO.mono ?_; rintro e w1 ⟨rfl, K1⟩; simp only [leOut]; obtain ⟨hr1, hb1⟩ := hres w1 K1; have HB : Hid _ := hb1; clear hO hres hb1)
        | fail)
      have hR : (((w1.setCell ⟨w.heap.size, 0, none⟩ (.int .i64 y0)).setCell ⟨w.heap.size, 1, none⟩ (.int .i64 y1))).heap[w.heap.size]? = some (.cells #[.int .i64 y0, .int .i64 y1] 44 (0, 0)) := by simp [World.setCell, Array.getElem?_modify, HB.out]
      have g0 := cellOf hR (o := 0) rfl
      have g1 := cellOf hR (o := 1) rfl
      simp only [Exit.jump]
      refine bodyPost_ret (by simp [results, Try.results23, go_sem, g0, g1]; try rfl) rfl ?_
      rw [hr]
      exact ⟨rfl, (((HS.out.kept.and K1).trans (Kept.setCell (S := fun k => k = w.heap.size) _ _ _ rfl) (fun k h => .inr (by omega))).trans (Kept.setCell (S := fun k => k = w.heap.size) _ _ _ rfl) (fun k h => .inr (by omega)))⟩
  · intro pass

    cases hd0 : rdSig raw 0 with
    | error pl =>
      clear pass
      go_wp2_with (first
        | (go_at_call 45; have _t := S0; refine (rec_sig S0 0 _ rfl).mono ?_; intro e w1 h; rw [hd0] at h; obtain ⟨rfl, h⟩ := h; clear S0)
        | fail)
      go_step3
      rcases h with S | ⟨v, S⟩
      · exact ⟨rfl, _, _, _, _, _, _, _, _, _, _, _, _, _, 0, 0, pl, true, rfl, S, le_err0 hd0⟩
      · exact ⟨rfl, _, _, _, _, _, _, _, _, _, _, _, _, _, v, 0, pl, true, rfl, S, le_err0 hd0⟩
    | ok y0 =>
      obtain ⟨x0, i0⟩ := y0
      cases hd1 : rdNum 0 4503599627370496 raw i0 with
      | error pl =>
        clear pass
        go_wp2_with (first
          | (go_at_call 45; have _t := S0; refine (rec_sig S0 0 _ rfl).mono ?_; intro e w1 h; rw [hd0] at h; obtain ⟨rfl, S1⟩ := h; clear S0)
          | (go_at_call 43; have _t := S1; refine (rec_num S1 1 _ rfl 0 4503599627370496).mono ?_; intro e w2 h; rw [hd1] at h; obtain ⟨rfl, h⟩ := h; clear S1)
          | fail)
        go_step3
        rcases h with S | ⟨v, S⟩
        · exact ⟨rfl, _, _, _, _, _, _, _, _, _, _, _, _, _, x0, 0, pl, true, rfl, S, le_err1 hd0 hd1⟩
        · exact ⟨rfl, _, _, _, _, _, _, _, _, _, _, _, _, _, x0, v, pl, true, rfl, S, le_err1 hd0 hd1⟩
      | ok y1 =>
        obtain ⟨x1, i1⟩ := y1
        go_wp2_with (first
          | (go_at_call 45; have _t := S0; refine (rec_sig S0 0 _ rfl).mono ?_; intro e w1 h; rw [hd0] at h; obtain ⟨rfl, S1⟩ := h; clear S0)
          | (go_at_call 43; have _t := S1; refine (rec_num S1 1 _ rfl 0 4503599627370496).mono ?_; intro e w2 h; rw [hd1] at h; obtain ⟨rfl, S2⟩ := h; clear S1)
          | (go_at_call 46; refine (rec_close S2).mono ?_; rintro e w3 ⟨rfl, SE⟩; clear S2)
          | fail)
        go_step3
        refine (‹∀ (a : Act) (w : World), Code.wp _ _ _ a w → _›) _ _ ?_
        refine pass _ _ ⟨_, _, _, _, _, _, _, _, _, _, _, _, _, x0, x1, i1, _, rfl, SE, ?_⟩
        rw [le_ok hd0 hd1, hlen, Bool.false_or]

end Go.Proofs.Ytnmdjdpceegdfaa
