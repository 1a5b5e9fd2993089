/-
  The codec's ReadEnvelope.
-/
import Derived.Test.YtnmdjdpceegdfaaCRdMail
import Derived.Test.YtnmdjdpceegdfaaCEnv
namespace Go.Proofs.Ytnmdjdpceegdfaa
open Go.RowKit

/-- What ReadEnvelope answers. -/
def enOut (x : Except Nat EnvelopeD) : Value := match x with
  | .error pl => .tuple #[.agg #[.int .i64 0, .int .i64 0, .int .i64 0, .int .i64 0, .int .i64 0, .string ⟨#[]⟩, .string ⟨#[]⟩, .string ⟨#[]⟩, .string ⟨#[]⟩, .string ⟨#[]⟩, .int .i64 0], .int .i64 pl, .int .i64 2]
  | .ok (x0, x1, x2, x3, x4, x5, x6, x7, x8, x9, x10) => .tuple #[.agg #[.int .i64 x0, .int .i64 x1, .int .i64 x2, .int .i64 x3, .int .i64 x4, .string x5, .string x6, .string x7, .string x8, .string x9, .int .i64 x10], .int .i64 0, .int .i64 0]

set_option maxRecDepth 100000 in
set_option maxHeartbeats 400000 in
theorem outEnvelope_any {w : World} {r : Nat} {a : Option Addr} {m c : Nat} {raw : List Int} {at_ : Nat} {bad : Bool} (A : RAt w r a m c raw at_ bad) (x0 : Int) (x1 : Int) (x2 : Int) (x3 : Int) (x4 : Int) (x5 : ByteArray) (x6 : ByteArray) (x7 : ByteArray) (x8 : ByteArray) (x9 : ByteArray) (x10 : Int) (x : Except Nat EnvelopeD) (hx : x = if bad then .error at_ else .ok (x0, x1, x2, x3, x4, x5, x6, x7, x8, x9, x10)) :
    Calls Try.prog 56 #[.pointer (some ⟨r, 0, none⟩), .agg #[.int .i64 x0, .int .i64 x1, .int .i64 x2, .int .i64 x3, .int .i64 x4, .string x5, .string x6, .string x7, .string x8, .string x9, .int .i64 x10]] w fun e w' => e = .returned (enOut x) ∧ Kept (fun _ => False) w w' := by
  have c1 := A.c1
  have c2 := A.c2
  have hlt := A.lt
  clear A
  cases bad with
  | true =>
    obtain rfl : x = .error at_ := hx
    have c3 : (((w.alloc (.cells #[.int .i64 x0, .int .i64 x1, .int .i64 x2, .int .i64 x3, .int .i64 x4, .string x5, .string x6, .string x7, .string x8, .string x9, .int .i64 x10] 38)).alloc (.cells #[.int .i64 0, .int .i64 0, .int .i64 0, .int .i64 0, .int .i64 0, .string ⟨#[]⟩, .string ⟨#[]⟩, .string ⟨#[]⟩, .string ⟨#[]⟩, .string ⟨#[]⟩, .int .i64 0] 38)).alloc (.cells #[.int .i64 0, .int .i64 0, .int .i64 0, .int .i64 0, .int .i64 0, .string ⟨#[]⟩, .string ⟨#[]⟩, .string ⟨#[]⟩, .string ⟨#[]⟩, .string ⟨#[]⟩, .int .i64 0] 38)).cell? ⟨r, 1, none⟩ = some (.int .i64 at_) :=
      (cell_keep (((Kept.alloc (fun _ => False) _ _).and (Kept.alloc _ _ _)).and (Kept.alloc _ _ _)) c1 (fun h => h)).1
    go_enter Try.func56, Try.ntmps56
    go_wp2
    go_region
    go_wp2
    refine bodyPost_ret (by simp [results, Try.results56, go_sem]; try rfl) rfl ?_
    exact ⟨rfl, (((Kept.alloc (fun _ => False) _ _).and (Kept.alloc _ _ _)).and (Kept.alloc _ _ _)).and (Kept.drew _ _)⟩
  | false =>
    obtain rfl : x = .ok (x0, x1, x2, x3, x4, x5, x6, x7, x8, x9, x10) := hx
    go_enter Try.func56, Try.ntmps56
    go_wp2
    refine bodyPost_ret (by simp [results, Try.results56, go_sem]; try rfl) rfl ?_
    exact ⟨rfl, (Kept.alloc (fun _ => False) _ _).and (Kept.alloc _ _ _)⟩

theorem en_err0 {raw : List Int} {pl : Nat}  (h0 : rdNum 1 2 raw 0 = .error pl) : rdWhole rdEnvelope raw = .error pl := by simp [rdWhole, rdEnvelope, rdBind, h0]
theorem en_err1 {raw : List Int} {pl : Nat} {i0 : Nat} {x0 : Int} (h0 : rdNum 1 2 raw 0 = .ok (x0, i0)) (h1 : rdNum 0 4503599627370496 raw i0 = .error pl) : rdWhole rdEnvelope raw = .error pl := by simp [rdWhole, rdEnvelope, rdBind, h0, h1]
theorem en_err2 {raw : List Int} {pl : Nat} {i0 : Nat} {i1 : Nat} {x0 : Int} {x1 : Int} (h0 : rdNum 1 2 raw 0 = .ok (x0, i0)) (h1 : rdNum 0 4503599627370496 raw i0 = .ok (x1, i1)) (h2 : rdNum 0 4503599627370496 raw i1 = .error pl) : rdWhole rdEnvelope raw = .error pl := by simp [rdWhole, rdEnvelope, rdBind, h0, h1, h2]
theorem en_err3 {raw : List Int} {pl : Nat} {i0 : Nat} {i1 : Nat} {i2 : Nat} {x0 : Int} {x1 : Int} {x2 : Int} (h0 : rdNum 1 2 raw 0 = .ok (x0, i0)) (h1 : rdNum 0 4503599627370496 raw i0 = .ok (x1, i1)) (h2 : rdNum 0 4503599627370496 raw i1 = .ok (x2, i2)) (h3 : rdNum 0 4503599627370496 raw i2 = .error pl) : rdWhole rdEnvelope raw = .error pl := by simp [rdWhole, rdEnvelope, rdBind, h0, h1, h2, h3]
theorem en_err4 {raw : List Int} {pl : Nat} {i0 : Nat} {i1 : Nat} {i2 : Nat} {i3 : Nat} {x0 : Int} {x1 : Int} {x2 : Int} {x3 : Int} (h0 : rdNum 1 2 raw 0 = .ok (x0, i0)) (h1 : rdNum 0 4503599627370496 raw i0 = .ok (x1, i1)) (h2 : rdNum 0 4503599627370496 raw i1 = .ok (x2, i2)) (h3 : rdNum 0 4503599627370496 raw i2 = .ok (x3, i3)) (h4 : rdMail raw i3 = .error pl) : rdWhole rdEnvelope raw = .error pl := by simp [rdWhole, rdEnvelope, rdBind, h0, h1, h2, h3, h4]
theorem en_ok {raw : List Int}  {i0 : Nat} {i1 : Nat} {i2 : Nat} {i3 : Nat} {i4 : Nat} {x0 : Int} {x1 : Int} {x2 : Int} {x3 : Int} {x4 : Int} {x5 : ByteArray} {x6 : ByteArray} {x7 : ByteArray} {x8 : ByteArray} {x9 : ByteArray} {x10 : Int} (h0 : rdNum 1 2 raw 0 = .ok (x0, i0)) (h1 : rdNum 0 4503599627370496 raw i0 = .ok (x1, i1)) (h2 : rdNum 0 4503599627370496 raw i1 = .ok (x2, i2)) (h3 : rdNum 0 4503599627370496 raw i2 = .ok (x3, i3)) (h4 : rdMail raw i3 = .ok ((x4, x5, x6, x7, x8, x9, x10), i4)) : rdWhole rdEnvelope raw = if decide (i4 < raw.length) then .error i4 else .ok (x0, x1, x2, x3, x4, x5, x6, x7, x8, x9, x10) := by simp [rdWhole, rdEnvelope, rdBind, h0, h1, h2, h3, h4]

/-- What holds at the label. -/
def enJ (w : World) (a : Option Addr) (m c : Nat) (raw : List Int) (a' : Act) (w' : World) : Prop := ∃ (v8 u9 u10 u11 u12 u13 u14 u15 u16 u17 u18 u19 u20 u21 u22 u23 u24 u25 u26 u27 u28 u29 : Value) (x0 : Int) (x1 : Int) (x2 : Int) (x3 : Int) (x4 : Int) (x5 : ByteArray) (x6 : ByteArray) (x7 : ByteArray) (x8 : ByteArray) (x9 : ByteArray) (x10 : Int) (at_ : Nat) (bad : Bool),
  a' = { tmps := #[.slice a m c, undef, .pointer (some ⟨w.heap.size, 0, none⟩), .int .i64 0, .int .i64 0, .pointer (some ⟨w.heap.size + 1, 0, none⟩), .pointer (some ⟨w.heap.size + 1 + 1, 0, none⟩), .slice a m c, v8, u9, u10, u11, u12, u13, u14, u15, u16, u17, u18, u19, u20, u21, u22, u23, u24, u25, u26, u27, u28, u29], defers := [] } ∧
  RecSt w w' 38 w.heap.size (w.heap.size + 1) (w.heap.size + 1 + 1) a m c raw at_ bad #[.int .i64 0, .int .i64 0, .int .i64 0, .int .i64 0, .int .i64 0, .string ⟨#[]⟩, .string ⟨#[]⟩, .string ⟨#[]⟩, .string ⟨#[]⟩, .string ⟨#[]⟩, .int .i64 0] #[.int .i64 x0, .int .i64 x1, .int .i64 x2, .int .i64 x3, .int .i64 x4, .string x5, .string x6, .string x7, .string x8, .string x9, .int .i64 x10] ∧ rdWhole rdEnvelope raw = if bad then .error at_ else .ok (x0, x1, x2, x3, x4, x5, x6, x7, x8, x9, x10)

set_option maxRecDepth 100000 in
set_option maxHeartbeats 1000000 in
theorem readEnvelope_any (w : World) (a : Option Addr) (m c : Nat) (raw : List Int) (B : BytesAt w a m c raw) (hm : m ≤ 140737488355328) :
    Calls Try.prog 19 #[.slice a m c] w fun e w' => e = .returned (enOut (rdWhole rdEnvelope raw)) ∧ Kept (fun _ => False) w w' := by
  have S0 := RecSt.new B hm 38 #[.int .i64 0, .int .i64 0, .int .i64 0, .int .i64 0, .int .i64 0, .string ⟨#[]⟩, .string ⟨#[]⟩, .string ⟨#[]⟩, .string ⟨#[]⟩, .string ⟨#[]⟩, .int .i64 0]
  have hlen := B.len
  clear B
  go_enter Try.func19, Try.ntmps19
  go_wp2
  refine wp_scope_loop 0 (enJ w a m c raw) (fun _ _ => 0) rfl ?_ ?_
  · clear S0
    rintro a' w' ⟨v8, u9, u10, u11, u12, u13, u14, u15, u16, u17, u18, u19, u20, u21, u22, u23, u24, u25, u26, u27, u28, u29, x0, x1, x2, x3, x4, x5, x6, x7, x8, x9, x10, at_, bad, rfl, S, hx⟩
    have hO := outEnvelope_any S.rd x0 x1 x2 x3 x4 x5 x6 x7 x8 x9 x10 _ hx
    have e0 := (S.cell (o := 0) rfl).1
    have e1 := (S.cell (o := 1) rfl).1
    have e2 := (S.cell (o := 2) rfl).1
    have e3 := (S.cell (o := 3) rfl).1
    have e4 := (S.cell (o := 4) rfl).1
    have e5 := (S.cell (o := 5) rfl).1
    have e6 := (S.cell (o := 6) rfl).1
    have e7 := (S.cell (o := 7) rfl).1
    have e8 := (S.cell (o := 8) rfl).1
    have e9 := (S.cell (o := 9) rfl).1
    have e10 := (S.cell (o := 10) rfl).1
    have HS : Hid _ := S
    have HX : Hid _ := hx
    clear hx S
    cases hr : rdWhole rdEnvelope raw with
    | error pl =>
      rw [hr] at hO
      have hres : ∀ w1, Kept (fun _ => False) w' w1 → ((w1.cell? ⟨w.heap.size, 0, none⟩ = some (.int .i64 0) ∧ w1.frozen? ⟨w.heap.size, 0, none⟩ = false) ∧ (w1.cell? ⟨w.heap.size, 1, none⟩ = some (.int .i64 0) ∧ w1.frozen? ⟨w.heap.size, 1, none⟩ = false) ∧ (w1.cell? ⟨w.heap.size, 2, none⟩ = some (.int .i64 0) ∧ w1.frozen? ⟨w.heap.size, 2, none⟩ = false) ∧ (w1.cell? ⟨w.heap.size, 3, none⟩ = some (.int .i64 0) ∧ w1.frozen? ⟨w.heap.size, 3, none⟩ = false) ∧ (w1.cell? ⟨w.heap.size, 4, none⟩ = some (.int .i64 0) ∧ w1.frozen? ⟨w.heap.size, 4, none⟩ = false) ∧ (w1.cell? ⟨w.heap.size, 5, none⟩ = some (.string ⟨#[]⟩) ∧ w1.frozen? ⟨w.heap.size, 5, none⟩ = false) ∧ (w1.cell? ⟨w.heap.size, 6, none⟩ = some (.string ⟨#[]⟩) ∧ w1.frozen? ⟨w.heap.size, 6, none⟩ = false) ∧ (w1.cell? ⟨w.heap.size, 7, none⟩ = some (.string ⟨#[]⟩) ∧ w1.frozen? ⟨w.heap.size, 7, none⟩ = false) ∧ (w1.cell? ⟨w.heap.size, 8, none⟩ = some (.string ⟨#[]⟩) ∧ w1.frozen? ⟨w.heap.size, 8, none⟩ = false) ∧ (w1.cell? ⟨w.heap.size, 9, none⟩ = some (.string ⟨#[]⟩) ∧ w1.frozen? ⟨w.heap.size, 9, none⟩ = false) ∧ (w1.cell? ⟨w.heap.size, 10, none⟩ = some (.int .i64 0) ∧ w1.frozen? ⟨w.heap.size, 10, none⟩ = false)) ∧ w1.heap[w.heap.size]? = some (.cells #[.int .i64 0, .int .i64 0, .int .i64 0, .int .i64 0, .int .i64 0, .string ⟨#[]⟩, .string ⟨#[]⟩, .string ⟨#[]⟩, .string ⟨#[]⟩, .string ⟨#[]⟩, .int .i64 0] 38 (0, 0)) := fun w1 K => by
        have hb := (K.block w.heap.size (Nat.lt_trans HS.out.r2 (Nat.lt_trans HS.out.r3 HS.out.rd.lt)) (fun h => h)).trans HS.out.res
        exact ⟨by simp [World.cell?, World.frozen?, hb], hb⟩
      go_wp2_with (first
        | (go_at_call 56; refine hO.mono ?_; rintro e w1 ⟨rfl, K1⟩; simp only [enOut]; obtain ⟨hr1, hb1⟩ := hres w1 K1; have HB : Hid _ := hb1; clear hO hres hb1)
        | fail)
      have hR : ((((((((((((w1.setCell ⟨w.heap.size, 0, none⟩ (.int .i64 0)).setCell ⟨w.heap.size, 1, none⟩ (.int .i64 0)).setCell ⟨w.heap.size, 2, none⟩ (.int .i64 0)).setCell ⟨w.heap.size, 3, none⟩ (.int .i64 0)).setCell ⟨w.heap.size, 4, none⟩ (.int .i64 0)).setCell ⟨w.heap.size, 5, none⟩ (.string ⟨#[]⟩)).setCell ⟨w.heap.size, 6, none⟩ (.string ⟨#[]⟩)).setCell ⟨w.heap.size, 7, none⟩ (.string ⟨#[]⟩)).setCell ⟨w.heap.size, 8, none⟩ (.string ⟨#[]⟩)).setCell ⟨w.heap.size, 9, none⟩ (.string ⟨#[]⟩)).setCell ⟨w.heap.size, 10, none⟩ (.int .i64 0))).heap[w.heap.size]? = some (.cells #[.int .i64 0, .int .i64 0, .int .i64 0, .int .i64 0, .int .i64 0, .string ⟨#[]⟩, .string ⟨#[]⟩, .string ⟨#[]⟩, .string ⟨#[]⟩, .string ⟨#[]⟩, .int .i64 0] 38 (0, 0)) := by simp [World.setCell, Array.getElem?_modify, HB.out]
      have g0 := cellOf hR (o := 0) rfl
      have g1 := cellOf hR (o := 1) rfl
      have g2 := cellOf hR (o := 2) rfl
      have g3 := cellOf hR (o := 3) rfl
      have g4 := cellOf hR (o := 4) rfl
      have g5 := cellOf hR (o := 5) rfl
      have g6 := cellOf hR (o := 6) rfl
      have g7 := cellOf hR (o := 7) rfl
      have g8 := cellOf hR (o := 8) rfl
      have g9 := cellOf hR (o := 9) rfl
      have g10 := cellOf hR (o := 10) rfl
      simp only [Exit.jump]
      refine bodyPost_ret (by simp [results, Try.results19, go_sem, g0, g1, g2, g3, g4, g5, g6, g7, g8, g9, g10]; try rfl) rfl ?_
      rw [hr]
      exact ⟨rfl, ((((((((((((HS.out.kept.and K1).trans (Kept.setCell (S := fun k => k = w.heap.size) _ _ _ rfl) (fun k h => .inr (by omega))).trans (Kept.setCell (S := fun k => k = w.heap.size) _ _ _ rfl) (fun k h => .inr (by omega))).trans (Kept.setCell (S := fun k => k = w.heap.size) _ _ _ rfl) (fun k h => .inr (by omega))).trans (Kept.setCell (S := fun k => k = w.heap.size) _ _ _ rfl) (fun k h => .inr (by omega))).trans (Kept.setCell (S := fun k => k = w.heap.size) _ _ _ rfl) (fun k h => .inr (by omega))).trans (Kept.setCell (S := fun k => k = w.heap.size) _ _ _ rfl) (fun k h => .inr (by omega))).trans (Kept.setCell (S := fun k => k = w.heap.size) _ _ _ rfl) (fun k h => .inr (by omega))).trans (Kept.setCell (S := fun k => k = w.heap.size) _ _ _ rfl) (fun k h => .inr (by omega))).trans (Kept.setCell (S := fun k => k = w.heap.size) _ _ _ rfl) (fun k h => .inr (by omega))).trans (Kept.setCell (S := fun k => k = w.heap.size) _ _ _ rfl) (fun k h => .inr (by omega))).trans (Kept.setCell (S := fun k => k = w.heap.size) _ _ _ rfl) (fun k h => .inr (by omega)))⟩
    | ok y =>
      obtain ⟨y0, y1, y2, y3, y4, y5, y6, y7, y8, y9, y10⟩ := y
      rw [hr] at hO
      have hres : ∀ w1, Kept (fun _ => False) w' w1 → ((w1.cell? ⟨w.heap.size, 0, none⟩ = some (.int .i64 0) ∧ w1.frozen? ⟨w.heap.size, 0, none⟩ = false) ∧ (w1.cell? ⟨w.heap.size, 1, none⟩ = some (.int .i64 0) ∧ w1.frozen? ⟨w.heap.size, 1, none⟩ = false) ∧ (w1.cell? ⟨w.heap.size, 2, none⟩ = some (.int .i64 0) ∧ w1.frozen? ⟨w.heap.size, 2, none⟩ = false) ∧ (w1.cell? ⟨w.heap.size, 3, none⟩ = some (.int .i64 0) ∧ w1.frozen? ⟨w.heap.size, 3, none⟩ = false) ∧ (w1.cell? ⟨w.heap.size, 4, none⟩ = some (.int .i64 0) ∧ w1.frozen? ⟨w.heap.size, 4, none⟩ = false) ∧ (w1.cell? ⟨w.heap.size, 5, none⟩ = some (.string ⟨#[]⟩) ∧ w1.frozen? ⟨w.heap.size, 5, none⟩ = false) ∧ (w1.cell? ⟨w.heap.size, 6, none⟩ = some (.string ⟨#[]⟩) ∧ w1.frozen? ⟨w.heap.size, 6, none⟩ = false) ∧ (w1.cell? ⟨w.heap.size, 7, none⟩ = some (.string ⟨#[]⟩) ∧ w1.frozen? ⟨w.heap.size, 7, none⟩ = false) ∧ (w1.cell? ⟨w.heap.size, 8, none⟩ = some (.string ⟨#[]⟩) ∧ w1.frozen? ⟨w.heap.size, 8, none⟩ = false) ∧ (w1.cell? ⟨w.heap.size, 9, none⟩ = some (.string ⟨#[]⟩) ∧ w1.frozen? ⟨w.heap.size, 9, none⟩ = false) ∧ (w1.cell? ⟨w.heap.size, 10, none⟩ = some (.int .i64 0) ∧ w1.frozen? ⟨w.heap.size, 10, none⟩ = false)) ∧ w1.heap[w.heap.size]? = some (.cells #[.int .i64 0, .int .i64 0, .int .i64 0, .int .i64 0, .int .i64 0, .string ⟨#[]⟩, .string ⟨#[]⟩, .string ⟨#[]⟩, .string ⟨#[]⟩, .string ⟨#[]⟩, .int .i64 0] 38 (0, 0)) := fun w1 K => by
        have hb := (K.block w.heap.size (Nat.lt_trans HS.out.r2 (Nat.lt_trans HS.out.r3 HS.out.rd.lt)) (fun h => h)).trans HS.out.res
        exact ⟨by simp [World.cell?, World.frozen?, hb], hb⟩
      go_wp2_with (first
        | (go_at_call 56; refine hO.mono ?_; rintro e w1 ⟨rfl, K1⟩; simp only [enOut]; obtain ⟨hr1, hb1⟩ := hres w1 K1; have HB : Hid _ := hb1; clear hO hres hb1)
        | fail)
      have hR : ((((((((((((w1.setCell ⟨w.heap.size, 0, none⟩ (.int .i64 y0)).setCell ⟨w.heap.size, 1, none⟩ (.int .i64 y1)).setCell ⟨w.heap.size, 2, none⟩ (.int .i64 y2)).setCell ⟨w.heap.size, 3, none⟩ (.int .i64 y3)).setCell ⟨w.heap.size, 4, none⟩ (.int .i64 y4)).setCell ⟨w.heap.size, 5, none⟩ (.string y5)).setCell ⟨w.heap.size, 6, none⟩ (.string y6)).setCell ⟨w.heap.size, 7, none⟩ (.string y7)).setCell ⟨w.heap.size, 8, none⟩ (.string y8)).setCell ⟨w.heap.size, 9, none⟩ (.string y9)).setCell ⟨w.heap.size, 10, none⟩ (.int .i64 y10))).heap[w.heap.size]? = some (.cells #[.int .i64 y0, .int .i64 y1, .int .i64 y2, .int .i64 y3, .int .i64 y4, .string y5, .string y6, .string y7, .string y8, .string y9, .int .i64 y10] 38 (0, 0)) := by simp [World.setCell, Array.getElem?_modify, HB.out]
      have g0 := cellOf hR (o := 0) rfl
      have g1 := cellOf hR (o := 1) rfl
      have g2 := cellOf hR (o := 2) rfl
      have g3 := cellOf hR (o := 3) rfl
      have g4 := cellOf hR (o := 4) rfl
      have g5 := cellOf hR (o := 5) rfl
      have g6 := cellOf hR (o := 6) rfl
      have g7 := cellOf hR (o := 7) rfl
      have g8 := cellOf hR (o := 8) rfl
      have g9 := cellOf hR (o := 9) rfl
      have g10 := cellOf hR (o := 10) rfl
      simp only [Exit.jump]
      refine bodyPost_ret (by simp [results, Try.results19, go_sem, g0, g1, g2, g3, g4, g5, g6, g7, g8, g9, g10]; try rfl) rfl ?_
      rw [hr]
      exact ⟨rfl, ((((((((((((HS.out.kept.and K1).trans (Kept.setCell (S := fun k => k = w.heap.size) _ _ _ rfl) (fun k h => .inr (by omega))).trans (Kept.setCell (S := fun k => k = w.heap.size) _ _ _ rfl) (fun k h => .inr (by omega))).trans (Kept.setCell (S := fun k => k = w.heap.size) _ _ _ rfl) (fun k h => .inr (by omega))).trans (Kept.setCell (S := fun k => k = w.heap.size) _ _ _ rfl) (fun k h => .inr (by omega))).trans (Kept.setCell (S := fun k => k = w.heap.size) _ _ _ rfl) (fun k h => .inr (by omega))).trans (Kept.setCell (S := fun k => k = w.heap.size) _ _ _ rfl) (fun k h => .inr (by omega))).trans (Kept.setCell (S := fun k => k = w.heap.size) _ _ _ rfl) (fun k h => .inr (by omega))).trans (Kept.setCell (S := fun k => k = w.heap.size) _ _ _ rfl) (fun k h => .inr (by omega))).trans (Kept.setCell (S := fun k => k = w.heap.size) _ _ _ rfl) (fun k h => .inr (by omega))).trans (Kept.setCell (S := fun k => k = w.heap.size) _ _ _ rfl) (fun k h => .inr (by omega))).trans (Kept.setCell (S := fun k => k = w.heap.size) _ _ _ rfl) (fun k h => .inr (by omega)))⟩
  · intro pass

    cases hd0 : rdNum 1 2 raw 0 with
    | error pl =>
      clear pass
      go_wp2_with (first
        | (go_at_call 43; have _t := S0; refine (rec_num S0 0 _ rfl 1 2).mono ?_; intro e w1 h; rw [hd0] at h; obtain ⟨rfl, h⟩ := h; clear S0)
        | fail)
      go_step3
      rcases h with S | ⟨v, S⟩
      · exact ⟨rfl, _, _, _, _, _, _, _, _, _, _, _, _, _, _, _, _, _, _, _, _, _, _, 0, 0, 0, 0, 0, ⟨#[]⟩, ⟨#[]⟩, ⟨#[]⟩, ⟨#[]⟩, ⟨#[]⟩, 0, pl, true, rfl, S, en_err0 hd0⟩
      · exact ⟨rfl, _, _, _, _, _, _, _, _, _, _, _, _, _, _, _, _, _, _, _, _, _, _, v, 0, 0, 0, 0, ⟨#[]⟩, ⟨#[]⟩, ⟨#[]⟩, ⟨#[]⟩, ⟨#[]⟩, 0, pl, true, rfl, S, en_err0 hd0⟩
    | ok y0 =>
      obtain ⟨x0, i0⟩ := y0
      cases hd1 : rdNum 0 4503599627370496 raw i0 with
      | error pl =>
        clear pass
        go_wp2_with (first
          | (go_at_call 43; have _t := S0; refine (rec_num S0 0 _ rfl 1 2).mono ?_; intro e w1 h; rw [hd0] at h; obtain ⟨rfl, S1⟩ := h; clear S0)
          | (go_at_call 43; have _t := S1; refine (rec_num S1 1 _ rfl 0 4503599627370496).mono ?_; intro e w2 h; rw [hd1] at h; obtain ⟨rfl, h⟩ := h; clear S1)
          | fail)
        go_step3
        rcases h with S | ⟨v, S⟩
        · exact ⟨rfl, _, _, _, _, _, _, _, _, _, _, _, _, _, _, _, _, _, _, _, _, _, _, x0, 0, 0, 0, 0, ⟨#[]⟩, ⟨#[]⟩, ⟨#[]⟩, ⟨#[]⟩, ⟨#[]⟩, 0, pl, true, rfl, S, en_err1 hd0 hd1⟩
        · exact ⟨rfl, _, _, _, _, _, _, _, _, _, _, _, _, _, _, _, _, _, _, _, _, _, _, x0, v, 0, 0, 0, ⟨#[]⟩, ⟨#[]⟩, ⟨#[]⟩, ⟨#[]⟩, ⟨#[]⟩, 0, pl, true, rfl, S, en_err1 hd0 hd1⟩
      | ok y1 =>
        obtain ⟨x1, i1⟩ := y1
        cases hd2 : rdNum 0 4503599627370496 raw i1 with
        | error pl =>
          clear pass
          go_wp2_with (first
            | (go_at_call 43; have _t := S0; refine (rec_num S0 0 _ rfl 1 2).mono ?_; intro e w1 h; rw [hd0] at h; obtain ⟨rfl, S1⟩ := h; clear S0)
            | (go_at_call 43; have _t := S1; refine (rec_num S1 1 _ rfl 0 4503599627370496).mono ?_; intro e w2 h; rw [hd1] at h; obtain ⟨rfl, S2⟩ := h; clear S1)
            | (go_at_call 43; have _t := S2; refine (rec_num S2 2 _ rfl 0 4503599627370496).mono ?_; intro e w3 h; rw [hd2] at h; obtain ⟨rfl, h⟩ := h; clear S2)
            | fail)
          go_step3
          rcases h with S | ⟨v, S⟩
          · exact ⟨rfl, _, _, _, _, _, _, _, _, _, _, _, _, _, _, _, _, _, _, _, _, _, _, x0, x1, 0, 0, 0, ⟨#[]⟩, ⟨#[]⟩, ⟨#[]⟩, ⟨#[]⟩, ⟨#[]⟩, 0, pl, true, rfl, S, en_err2 hd0 hd1 hd2⟩
          · exact ⟨rfl, _, _, _, _, _, _, _, _, _, _, _, _, _, _, _, _, _, _, _, _, _, _, x0, x1, v, 0, 0, ⟨#[]⟩, ⟨#[]⟩, ⟨#[]⟩, ⟨#[]⟩, ⟨#[]⟩, 0, pl, true, rfl, S, en_err2 hd0 hd1 hd2⟩
        | ok y2 =>
          obtain ⟨x2, i2⟩ := y2
          cases hd3 : rdNum 0 4503599627370496 raw i2 with
          | error pl =>
            clear pass
            go_wp2_with (first
              | (go_at_call 43; have _t := S0; refine (rec_num S0 0 _ rfl 1 2).mono ?_; intro e w1 h; rw [hd0] at h; obtain ⟨rfl, S1⟩ := h; clear S0)
              | (go_at_call 43; have _t := S1; refine (rec_num S1 1 _ rfl 0 4503599627370496).mono ?_; intro e w2 h; rw [hd1] at h; obtain ⟨rfl, S2⟩ := h; clear S1)
              | (go_at_call 43; have _t := S2; refine (rec_num S2 2 _ rfl 0 4503599627370496).mono ?_; intro e w3 h; rw [hd2] at h; obtain ⟨rfl, S3⟩ := h; clear S2)
              | (go_at_call 43; have _t := S3; refine (rec_num S3 3 _ rfl 0 4503599627370496).mono ?_; intro e w4 h; rw [hd3] at h; obtain ⟨rfl, h⟩ := h; clear S3)
              | fail)
            go_step3
            rcases h with S | ⟨v, S⟩
            · exact ⟨rfl, _, _, _, _, _, _, _, _, _, _, _, _, _, _, _, _, _, _, _, _, _, _, x0, x1, x2, 0, 0, ⟨#[]⟩, ⟨#[]⟩, ⟨#[]⟩, ⟨#[]⟩, ⟨#[]⟩, 0, pl, true, rfl, S, en_err3 hd0 hd1 hd2 hd3⟩
            · exact ⟨rfl, _, _, _, _, _, _, _, _, _, _, _, _, _, _, _, _, _, _, _, _, _, _, x0, x1, x2, v, 0, ⟨#[]⟩, ⟨#[]⟩, ⟨#[]⟩, ⟨#[]⟩, ⟨#[]⟩, 0, pl, true, rfl, S, en_err3 hd0 hd1 hd2 hd3⟩
          | ok y3 =>
            obtain ⟨x3, i3⟩ := y3
            cases hd4 : rdMail raw i3 with
            | error pl =>
              clear pass
              go_wp2_with (first
                | (go_at_call 43; have _t := S0; refine (rec_num S0 0 _ rfl 1 2).mono ?_; intro e w1 h; rw [hd0] at h; obtain ⟨rfl, S1⟩ := h; clear S0)
                | (go_at_call 43; have _t := S1; refine (rec_num S1 1 _ rfl 0 4503599627370496).mono ?_; intro e w2 h; rw [hd1] at h; obtain ⟨rfl, S2⟩ := h; clear S1)
                | (go_at_call 43; have _t := S2; refine (rec_num S2 2 _ rfl 0 4503599627370496).mono ?_; intro e w3 h; rw [hd2] at h; obtain ⟨rfl, S3⟩ := h; clear S2)
                | (go_at_call 43; have _t := S3; refine (rec_num S3 3 _ rfl 0 4503599627370496).mono ?_; intro e w4 h; rw [hd3] at h; obtain ⟨rfl, S4⟩ := h; clear S3)
                | (go_at_call 55; have _t := S4; refine (rec_mail S4).mono ?_; intro e w5 h; rw [hd4] at h; obtain ⟨rfl, h⟩ := h; clear S4)
                | fail)
              go_step3
              obtain ⟨v4, v5, v6, v7, v8, v9, v10, S⟩ := h
              exact ⟨rfl, _, _, _, _, _, _, _, _, _, _, _, _, _, _, _, _, _, _, _, _, _, _, x0, x1, x2, x3, v4, v5, v6, v7, v8, v9, v10, pl, true, rfl, S, en_err4 hd0 hd1 hd2 hd3 hd4⟩
            | ok y4 =>
              obtain ⟨⟨x4, x5, x6, x7, x8, x9, x10⟩, i4⟩ := y4
              go_wp2_with (first
                | (go_at_call 43; have _t := S0; refine (rec_num S0 0 _ rfl 1 2).mono ?_; intro e w1 h; rw [hd0] at h; obtain ⟨rfl, S1⟩ := h; clear S0)
                | (go_at_call 43; have _t := S1; refine (rec_num S1 1 _ rfl 0 4503599627370496).mono ?_; intro e w2 h; rw [hd1] at h; obtain ⟨rfl, S2⟩ := h; clear S1)
                | (go_at_call 43; have _t := S2; refine (rec_num S2 2 _ rfl 0 4503599627370496).mono ?_; intro e w3 h; rw [hd2] at h; obtain ⟨rfl, S3⟩ := h; clear S2)
                | (go_at_call 43; have _t := S3; refine (rec_num S3 3 _ rfl 0 4503599627370496).mono ?_; intro e w4 h; rw [hd3] at h; obtain ⟨rfl, S4⟩ := h; clear S3)
                | (go_at_call 55; have _t := S4; refine (rec_mail S4).mono ?_; intro e w5 h; rw [hd4] at h; obtain ⟨rfl, S5⟩ := h; clear S4)
                | (go_at_call 46; refine (rec_close S5).mono ?_; rintro e w6 ⟨rfl, SE⟩; clear S5)
                | fail)
              go_step3
              refine (‹∀ (a : Act) (w : World), Code.wp _ _ _ a w → _›) _ _ ?_
              refine pass _ _ ⟨_, _, _, _, _, _, _, _, _, _, _, _, _, _, _, _, _, _, _, _, _, _, x0, x1, x2, x3, x4, x5, x6, x7, x8, x9, x10, i4, _, rfl, SE, ?_⟩
              rw [en_ok hd0 hd1 hd2 hd3 hd4, hlen, Bool.false_or]

end Go.Proofs.Ytnmdjdpceegdfaa
