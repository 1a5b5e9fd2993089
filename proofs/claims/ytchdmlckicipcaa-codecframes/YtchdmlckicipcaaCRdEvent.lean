/-
  The codec's ReadEvent.
-/
import Derived.Test.YtchdmlckicipcaaCRec
namespace Go.Proofs.Ytchdmlckicipcaa
open Go.RowKit

abbrev EventD := Int × ByteArray × ByteArray × Int

def rdEvent : Rd EventD := rdBind (rdNum 1 15) fun _ => rdBind rdText fun _ => rdBind rdText fun _ => rdSig

/-- What ReadEvent answers. -/
def evOut (x : Except Nat EventD) : Value := match x with
  | .error pl => .tuple #[.agg #[.int .i64 0, .string ⟨#[]⟩, .string ⟨#[]⟩, .int .i64 0], .int .i64 pl, .int .i64 2]
  | .ok (x0, x1, x2, x3) => .tuple #[.agg #[.int .i64 x0, .string x1, .string x2, .int .i64 x3], .int .i64 0, .int .i64 0]

set_option maxRecDepth 100000 in
set_option maxHeartbeats 400000 in
theorem outEvent_any {w : World} {r : Nat} {a : Option Addr} {m c : Nat} {raw : List Int} {at_ : Nat} {bad : Bool} (A : RAt w r a m c raw at_ bad) (x0 : Int) (x1 : ByteArray) (x2 : ByteArray) (x3 : Int) (x : Except Nat EventD) (hx : x = if bad then .error at_ else .ok (x0, x1, x2, x3)) :
    Calls Try.prog 31 #[.pointer (some ⟨r, 0, none⟩), .agg #[.int .i64 x0, .string x1, .string x2, .int .i64 x3]] w fun e w' => e = .returned (evOut x) ∧ Kept (fun _ => False) w w' := by
  have c1 := A.c1
  have c2 := A.c2
  have hlt := A.lt
  clear A
  cases bad with
  | true =>
    obtain rfl : x = .error at_ := hx
    have c3 : (((w.alloc (.cells #[.int .i64 x0, .string x1, .string x2, .int .i64 x3] 47)).alloc (.cells #[.int .i64 0, .string ⟨#[]⟩, .string ⟨#[]⟩, .int .i64 0] 47)).alloc (.cells #[.int .i64 0, .string ⟨#[]⟩, .string ⟨#[]⟩, .int .i64 0] 47)).cell? ⟨r, 1, none⟩ = some (.int .i64 at_) :=
      (cell_keep (((Kept.alloc (fun _ => False) _ _).and (Kept.alloc _ _ _)).and (Kept.alloc _ _ _)) c1 (fun h => h)).1
    go_enter Try.func31, Try.ntmps31
    go_wp2
    go_region
    go_wp2
    refine bodyPost_ret (by simp [results, Try.results31, go_sem]; try rfl) rfl ?_
    exact ⟨rfl, (((Kept.alloc (fun _ => False) _ _).and (Kept.alloc _ _ _)).and (Kept.alloc _ _ _)).and (Kept.drew _ _)⟩
  | false =>
    obtain rfl : x = .ok (x0, x1, x2, x3) := hx
    go_enter Try.func31, Try.ntmps31
    go_wp2
    refine bodyPost_ret (by simp [results, Try.results31, go_sem]; try rfl) rfl ?_
    exact ⟨rfl, (Kept.alloc (fun _ => False) _ _).and (Kept.alloc _ _ _)⟩

theorem ev_err0 {raw : List Int} {pl : Nat}  (h0 : rdNum 1 15 raw 0 = .error pl) : rdWhole rdEvent raw = .error pl := by simp [rdWhole, rdEvent, rdBind, h0]
theorem ev_err1 {raw : List Int} {pl : Nat} {i0 : Nat} {x0 : Int} (h0 : rdNum 1 15 raw 0 = .ok (x0, i0)) (h1 : rdText raw i0 = .error pl) : rdWhole rdEvent raw = .error pl := by simp [rdWhole, rdEvent, rdBind, h0, h1]
theorem ev_err2 {raw : List Int} {pl : Nat} {i0 : Nat} {i1 : Nat} {x0 : Int} {x1 : ByteArray} (h0 : rdNum 1 15 raw 0 = .ok (x0, i0)) (h1 : rdText raw i0 = .ok (x1, i1)) (h2 : rdText raw i1 = .error pl) : rdWhole rdEvent raw = .error pl := by simp [rdWhole, rdEvent, rdBind, h0, h1, h2]
theorem ev_err3 {raw : List Int} {pl : Nat} {i0 : Nat} {i1 : Nat} {i2 : Nat} {x0 : Int} {x1 : ByteArray} {x2 : ByteArray} (h0 : rdNum 1 15 raw 0 = .ok (x0, i0)) (h1 : rdText raw i0 = .ok (x1, i1)) (h2 : rdText raw i1 = .ok (x2, i2)) (h3 : rdSig raw i2 = .error pl) : rdWhole rdEvent raw = .error pl := by simp [rdWhole, rdEvent, rdBind, h0, h1, h2, h3]
theorem ev_ok {raw : List Int}  {i0 : Nat} {i1 : Nat} {i2 : Nat} {i3 : Nat} {x0 : Int} {x1 : ByteArray} {x2 : ByteArray} {x3 : Int} (h0 : rdNum 1 15 raw 0 = .ok (x0, i0)) (h1 : rdText raw i0 = .ok (x1, i1)) (h2 : rdText raw i1 = .ok (x2, i2)) (h3 : rdSig raw i2 = .ok (x3, i3)) : rdWhole rdEvent raw = if decide (i3 < raw.length) then .error i3 else .ok (x0, x1, x2, x3) := by simp [rdWhole, rdEvent, rdBind, h0, h1, h2, h3]

/-- What holds at the label. -/
def evJ (w : World) (a : Option Addr) (m c : Nat) (raw : List Int) (a' : Act) (w' : World) : Prop := ∃ (v8 u9 u10 u11 u12 u13 u14 u15 u16 u17 u18 u19 u20 u21 u22 u23 u24 u25 u26 : Value) (x0 : Int) (x1 : ByteArray) (x2 : ByteArray) (x3 : Int) (at_ : Nat) (bad : Bool),
  a' = { tmps := #[.slice a m c, undef, .pointer (some ⟨w.heap.size, 0, none⟩), .int .i64 0, .int .i64 0, .pointer (some ⟨w.heap.size + 1, 0, none⟩), .pointer (some ⟨w.heap.size + 1 + 1, 0, none⟩), .slice a m c, v8, u9, u10, u11, u12, u13, u14, u15, u16, u17, u18, u19, u20, u21, u22, u23, u24, u25, u26], defers := [] } ∧
  RecSt w w' 47 w.heap.size (w.heap.size + 1) (w.heap.size + 1 + 1) a m c raw at_ bad #[.int .i64 0, .string ⟨#[]⟩, .string ⟨#[]⟩, .int .i64 0] #[.int .i64 x0, .string x1, .string x2, .int .i64 x3] ∧ rdWhole rdEvent raw = if bad then .error at_ else .ok (x0, x1, x2, x3)

set_option maxRecDepth 100000 in
set_option maxHeartbeats 1000000 in
theorem readEvent_any (w : World) (a : Option Addr) (m c : Nat) (raw : List Int) (B : BytesAt w a m c raw) (hm : m ≤ 140737488355328) :
    Calls Try.prog 22 #[.slice a m c] w fun e w' => e = .returned (evOut (rdWhole rdEvent raw)) ∧ Kept (fun _ => False) w w' := by
  have S0 := RecSt.new B hm 47 #[.int .i64 0, .string ⟨#[]⟩, .string ⟨#[]⟩, .int .i64 0]
  have hlen := B.len
  clear B
  go_enter Try.func22, Try.ntmps22
  go_wp2
  refine wp_scope_loop 0 (evJ w a m c raw) (fun _ _ => 0) rfl ?_ ?_
  · clear S0
    rintro a' w' ⟨v8, u9, u10, u11, u12, u13, u14, u15, u16, u17, u18, u19, u20, u21, u22, u23, u24, u25, u26, x0, x1, x2, x3, at_, bad, rfl, S, hx⟩
    have hO := outEvent_any S.rd x0 x1 x2 x3 _ hx
    have e0 := (S.cell (o := 0) rfl).1
    have e1 := (S.cell (o := 1) rfl).1
    have e2 := (S.cell (o := 2) rfl).1
    have e3 := (S.cell (o := 3) rfl).1
    have HS : Hid _ := S
    have HX : Hid _ := hx
    clear hx S
    cases hr : rdWhole rdEvent raw with
    | error pl =>
      rw [hr] at hO
      have hres : ∀ w1, Kept (fun _ => False) w' w1 → ((w1.cell? ⟨w.heap.size, 0, none⟩ = some (.int .i64 0) ∧ w1.frozen? ⟨w.heap.size, 0, none⟩ = false) ∧ (w1.cell? ⟨w.heap.size, 1, none⟩ = some (.string ⟨#[]⟩) ∧ w1.frozen? ⟨w.heap.size, 1, none⟩ = false) ∧ (w1.cell? ⟨w.heap.size, 2, none⟩ = some (.string ⟨#[]⟩) ∧ w1.frozen? ⟨w.heap.size, 2, none⟩ = false) ∧ (w1.cell? ⟨w.heap.size, 3, none⟩ = some (.int .i64 0) ∧ w1.frozen? ⟨w.heap.size, 3, none⟩ = false)) ∧ w1.heap[w.heap.size]? = some (.cells #[.int .i64 0, .string ⟨#[]⟩, .string ⟨#[]⟩, .int .i64 0] 47 (0, 0)) := fun w1 K => by
        have hb := (K.block w.heap.size (Nat.lt_trans HS.out.r2 (Nat.lt_trans HS.out.r3 HS.out.rd.lt)) (fun h => h)).trans HS.out.res
        exact ⟨by simp [World.cell?, World.frozen?, hb], hb⟩
      go_wp2_with (first
        | (go_at_call 31; refine hO.mono ?_; rintro e w1 ⟨rfl, K1⟩; simp only [evOut]; obtain ⟨hr1, hb1⟩ := hres w1 K1; have HB : Hid _ := hb1; clear hO hres hb1)
        | fail)
      have hR : (((((w1.setCell ⟨w.heap.size, 0, none⟩ (.int .i64 0)).setCell ⟨w.heap.size, 1, none⟩ (.string ⟨#[]⟩)).setCell ⟨w.heap.size, 2, none⟩ (.string ⟨#[]⟩)).setCell ⟨w.heap.size, 3, none⟩ (.int .i64 0))).heap[w.heap.size]? = some (.cells #[.int .i64 0, .string ⟨#[]⟩, .string ⟨#[]⟩, .int .i64 0] 47 (0, 0)) := by simp [World.setCell, Array.getElem?_modify, HB.out]
      have g0 := cellOf hR (o := 0) rfl
      have g1 := cellOf hR (o := 1) rfl
      have g2 := cellOf hR (o := 2) rfl
      have g3 := cellOf hR (o := 3) rfl
      simp only [Exit.jump]
      refine bodyPost_ret (by simp [results, Try.results22, go_sem, g0, g1, g2, g3]; try rfl) rfl ?_
      rw [hr]
      exact ⟨rfl, (((((HS.out.kept.and K1).trans (Kept.setCell (S := fun k => k = w.heap.size) _ _ _ rfl) (fun k h => .inr (by omega))).trans (Kept.setCell (S := fun k => k = w.heap.size) _ _ _ rfl) (fun k h => .inr (by omega))).trans (Kept.setCell (S := fun k => k = w.heap.size) _ _ _ rfl) (fun k h => .inr (by omega))).trans (Kept.setCell (S := fun k => k = w.heap.size) _ _ _ rfl) (fun k h => .inr (by omega)))⟩
    | ok y =>
      obtain ⟨y0, y1, y2, y3⟩ := y
      rw [hr] at hO
      have hres : ∀ w1, Kept (fun _ => False) w' w1 → ((w1.cell? ⟨w.heap.size, 0, none⟩ = some (.int .i64 0) ∧ w1.frozen? ⟨w.heap.size, 0, none⟩ = false) ∧ (w1.cell? ⟨w.heap.size, 1, none⟩ = some (.string ⟨#[]⟩) ∧ w1.frozen? ⟨w.heap.size, 1, none⟩ = false) ∧ (w1.cell? ⟨w.heap.size, 2, none⟩ = some (.string ⟨#[]⟩) ∧ w1.frozen? ⟨w.heap.size, 2, none⟩ = false) ∧ (w1.cell? ⟨w.heap.size, 3, none⟩ = some (.int .i64 0) ∧ w1.frozen? ⟨w.heap.size, 3, none⟩ = false)) ∧ w1.heap[w.heap.size]? = some (.cells #[.int .i64 0, .string ⟨#[]⟩, .string ⟨#[]⟩, .int .i64 0] 47 (0, 0)) := fun w1 K => by
        have hb := (K.block w.heap.size (Nat.lt_trans HS.out.r2 (Nat.lt_trans HS.out.r3 HS.out.rd.lt)) (fun h => h)).trans HS.out.res
        exact ⟨by simp [World.cell?, World.frozen?, hb], hb⟩
      go_wp2_with (first
        | (go_at_call 31; refine hO.mono ?_; rintro e w1 ⟨rfl, K1⟩; simp only [evOut]; obtain ⟨hr1, hb1⟩ := hres w1 K1; have HB : Hid _ := hb1; clear hO hres hb1)
        | fail)
      have hR : (((((w1.setCell ⟨w.heap.size, 0, none⟩ (.int .i64 y0)).setCell ⟨w.heap.size, 1, none⟩ (.string y1)).setCell ⟨w.heap.size, 2, none⟩ (.string y2)).setCell ⟨w.heap.size, 3, none⟩ (.int .i64 y3))).heap[w.heap.size]? = some (.cells #[.int .i64 y0, .string y1, .string y2, .int .i64 y3] 47 (0, 0)) := by simp [World.setCell, Array.getElem?_modify, HB.out]
      have g0 := cellOf hR (o := 0) rfl
      have g1 := cellOf hR (o := 1) rfl
      have g2 := cellOf hR (o := 2) rfl
      have g3 := cellOf hR (o := 3) rfl
      simp only [Exit.jump]
      refine bodyPost_ret (by simp [results, Try.results22, go_sem, g0, g1, g2, g3]; try rfl) rfl ?_
      rw [hr]
      exact ⟨rfl, (((((HS.out.kept.and K1).trans (Kept.setCell (S := fun k => k = w.heap.size) _ _ _ rfl) (fun k h => .inr (by omega))).trans (Kept.setCell (S := fun k => k = w.heap.size) _ _ _ rfl) (fun k h => .inr (by omega))).trans (Kept.setCell (S := fun k => k = w.heap.size) _ _ _ rfl) (fun k h => .inr (by omega))).trans (Kept.setCell (S := fun k => k = w.heap.size) _ _ _ rfl) (fun k h => .inr (by omega)))⟩
  · intro pass

    cases hd0 : rdNum 1 15 raw 0 with
    | error pl =>
      clear pass
      go_wp2_with (first
        | (go_at_call 27; have _t := S0; refine (rec_num S0 0 _ rfl 1 15).mono ?_; intro e w1 h; rw [hd0] at h; obtain ⟨rfl, h⟩ := h; clear S0)
        | fail)
      go_step3
      rcases h with S | ⟨v, S⟩
      · exact ⟨rfl, _, _, _, _, _, _, _, _, _, _, _, _, _, _, _, _, _, _, _, 0, ⟨#[]⟩, ⟨#[]⟩, 0, pl, true, rfl, S, ev_err0 hd0⟩
      · exact ⟨rfl, _, _, _, _, _, _, _, _, _, _, _, _, _, _, _, _, _, _, _, v, ⟨#[]⟩, ⟨#[]⟩, 0, pl, true, rfl, S, ev_err0 hd0⟩
    | ok y0 =>
      obtain ⟨x0, i0⟩ := y0
      cases hd1 : rdText raw i0 with
      | error pl =>
        clear pass
        go_wp2_with (first
          | (go_at_call 27; have _t := S0; refine (rec_num S0 0 _ rfl 1 15).mono ?_; intro e w1 h; rw [hd0] at h; obtain ⟨rfl, S1⟩ := h; clear S0)
          | (go_at_call 28; have _t := S1; refine (rec_text S1 1 _ rfl).mono ?_; intro e w2 h; rw [hd1] at h; obtain ⟨rfl, h⟩ := h; clear S1)
          | fail)
        go_step3
        rcases h with S | ⟨v, S⟩
        · exact ⟨rfl, _, _, _, _, _, _, _, _, _, _, _, _, _, _, _, _, _, _, _, x0, ⟨#[]⟩, ⟨#[]⟩, 0, pl, true, rfl, S, ev_err1 hd0 hd1⟩
        · exact ⟨rfl, _, _, _, _, _, _, _, _, _, _, _, _, _, _, _, _, _, _, _, x0, v, ⟨#[]⟩, 0, pl, true, rfl, S, ev_err1 hd0 hd1⟩
      | ok y1 =>
        obtain ⟨x1, i1⟩ := y1
        cases hd2 : rdText raw i1 with
        | error pl =>
          clear pass
          go_wp2_with (first
            | (go_at_call 27; have _t := S0; refine (rec_num S0 0 _ rfl 1 15).mono ?_; intro e w1 h; rw [hd0] at h; obtain ⟨rfl, S1⟩ := h; clear S0)
            | (go_at_call 28; have _t := S1; refine (rec_text S1 1 _ rfl).mono ?_; intro e w2 h; rw [hd1] at h; obtain ⟨rfl, S2⟩ := h; clear S1)
            | (go_at_call 28; have _t := S2; refine (rec_text S2 2 _ rfl).mono ?_; intro e w3 h; rw [hd2] at h; obtain ⟨rfl, h⟩ := h; clear S2)
            | fail)
          go_step3
          rcases h with S | ⟨v, S⟩
          · exact ⟨rfl, _, _, _, _, _, _, _, _, _, _, _, _, _, _, _, _, _, _, _, x0, x1, ⟨#[]⟩, 0, pl, true, rfl, S, ev_err2 hd0 hd1 hd2⟩
          · exact ⟨rfl, _, _, _, _, _, _, _, _, _, _, _, _, _, _, _, _, _, _, _, x0, x1, v, 0, pl, true, rfl, S, ev_err2 hd0 hd1 hd2⟩
        | ok y2 =>
          obtain ⟨x2, i2⟩ := y2
          cases hd3 : rdSig raw i2 with
          | error pl =>
            clear pass
            go_wp2_with (first
              | (go_at_call 27; have _t := S0; refine (rec_num S0 0 _ rfl 1 15).mono ?_; intro e w1 h; rw [hd0] at h; obtain ⟨rfl, S1⟩ := h; clear S0)
              | (go_at_call 28; have _t := S1; refine (rec_text S1 1 _ rfl).mono ?_; intro e w2 h; rw [hd1] at h; obtain ⟨rfl, S2⟩ := h; clear S1)
              | (go_at_call 28; have _t := S2; refine (rec_text S2 2 _ rfl).mono ?_; intro e w3 h; rw [hd2] at h; obtain ⟨rfl, S3⟩ := h; clear S2)
              | (go_at_call 29; have _t := S3; refine (rec_sig S3 3 _ rfl).mono ?_; intro e w4 h; rw [hd3] at h; obtain ⟨rfl, h⟩ := h; clear S3)
              | fail)
            go_step3
            rcases h with S | ⟨v, S⟩
            · exact ⟨rfl, _, _, _, _, _, _, _, _, _, _, _, _, _, _, _, _, _, _, _, x0, x1, x2, 0, pl, true, rfl, S, ev_err3 hd0 hd1 hd2 hd3⟩
            · exact ⟨rfl, _, _, _, _, _, _, _, _, _, _, _, _, _, _, _, _, _, _, _, x0, x1, x2, v, pl, true, rfl, S, ev_err3 hd0 hd1 hd2 hd3⟩
          | ok y3 =>
            obtain ⟨x3, i3⟩ := y3
            go_wp2_with (first
              | (go_at_call 27; have _t := S0; refine (rec_num S0 0 _ rfl 1 15).mono ?_; intro e w1 h; rw [hd0] at h; obtain ⟨rfl, S1⟩ := h; clear S0)
              | (go_at_call 28; have _t := S1; refine (rec_text S1 1 _ rfl).mono ?_; intro e w2 h; rw [hd1] at h; obtain ⟨rfl, S2⟩ := h; clear S1)
              | (go_at_call 28; have _t := S2; refine (rec_text S2 2 _ rfl).mono ?_; intro e w3 h; rw [hd2] at h; obtain ⟨rfl, S3⟩ := h; clear S2)
              | (go_at_call 29; have _t := S3; refine (rec_sig S3 3 _ rfl).mono ?_; intro e w4 h; rw [hd3] at h; obtain ⟨rfl, S4⟩ := h; clear S3)
              | (go_at_call 30; refine (rec_close S4).mono ?_; rintro e w5 ⟨rfl, SE⟩; clear S4)
              | fail)
            go_step3
            refine (‹∀ (a : Act) (w : World), Code.wp _ _ _ a w → _›) _ _ ?_
            refine pass _ _ ⟨_, _, _, _, _, _, _, _, _, _, _, _, _, _, _, _, _, _, _, x0, x1, x2, x3, i3, _, rfl, SE, ?_⟩
            rw [ev_ok hd0 hd1 hd2 hd3, hlen, Bool.false_or]

end Go.Proofs.Ytchdmlckicipcaa
