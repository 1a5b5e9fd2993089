/-
  The document's ReadEvent.
-/
import Derived.Test.YtnmdjdpceegdfaaCRefText
import Derived.Test.YtnmdjdpceegdfaaCRdEvent
namespace Go.Proofs.Ytnmdjdpceegdfaa
open Go.RowKit

def evP0 (raw : List Int) : Except Nat (Int × Nat) := xnext (rdNum 1 15) raw (.ok 0)
def evP1 (raw : List Int) : Except Nat (ByteArray × Nat) := xnext rdText raw (xst (evP0 raw))
def evP2 (raw : List Int) : Except Nat (ByteArray × Nat) := xnext rdText raw (xst (evP1 raw))
def evP3 (raw : List Int) : Except Nat (Int × Nat) := xnext rdSig raw (xst (evP2 raw))

/-- The record as the document's reader tells it. -/
theorem ev_whole (raw : List Int) : rdWhole rdEvent raw = match xend raw (xst (evP3 raw)) with | .error pl => .error pl | .ok _ => .ok (xval 0 (evP0 raw), xval ⟨#[]⟩ (evP1 raw), xval ⟨#[]⟩ (evP2 raw), xval 0 (evP3 raw)) := by
  cases h0 : rdNum 1 15 raw 0 with
  | error e => simp [rdWhole, rdEvent, rdBind, evP0, evP1, evP2, evP3, xnext, xst, xend, h0]
  | ok y0 =>
    obtain ⟨v0, i0⟩ := y0
    cases h1 : rdText raw i0 with
    | error e => simp [rdWhole, rdEvent, rdBind, evP0, evP1, evP2, evP3, xnext, xst, xend, h0, h1]
    | ok y1 =>
      obtain ⟨v1, i1⟩ := y1
      cases h2 : rdText raw i1 with
      | error e => simp [rdWhole, rdEvent, rdBind, evP0, evP1, evP2, evP3, xnext, xst, xend, h0, h1, h2]
      | ok y2 =>
        obtain ⟨v2, i2⟩ := y2
        cases h3 : rdSig raw i2 with
        | error e => simp [rdWhole, rdEvent, rdBind, evP0, evP1, evP2, evP3, xnext, xst, xend, h0, h1, h2, h3]
        | ok y3 =>
          obtain ⟨v3, i3⟩ := y3
          simp only [rdWhole, rdEvent, rdBind, evP0, evP1, evP2, evP3, xnext, xst, xval, xend, h0, h1, h2, h3]
          split <;> rfl

theorem ev_f0 {w0 w : World} {T : TypeId} {R r E : Nat} {a : Option Addr} {m c : Nat} {raw : List Int} {zs cs : Array Value} (S : XRec w0 w T R r E a m c raw (.ok 0) zs cs) :
    Calls Try.prog 48 #[.pointer (some ⟨r, 0, none⟩), .int .i64 1, .int .i64 15] w fun e w' => e = .returned (.int .i64 (xval 0 (evP0 raw))) ∧ XRec w0 w' T R r E a m c raw (xst (evP0 raw)) zs cs := xrec_num S 1 15

theorem ev_f1 {w0 w : World} {T : TypeId} {R r E : Nat} {a : Option Addr} {m c : Nat} {raw : List Int} {zs cs : Array Value} (S : XRec w0 w T R r E a m c raw (xst (evP0 raw)) zs cs) :
    Calls Try.prog 49 #[.pointer (some ⟨r, 0, none⟩)] w fun e w' => e = .returned (.string (xval ⟨#[]⟩ (evP1 raw))) ∧ XRec w0 w' T R r E a m c raw (xst (evP1 raw)) zs cs := xrec_text S

theorem ev_f2 {w0 w : World} {T : TypeId} {R r E : Nat} {a : Option Addr} {m c : Nat} {raw : List Int} {zs cs : Array Value} (S : XRec w0 w T R r E a m c raw (xst (evP1 raw)) zs cs) :
    Calls Try.prog 49 #[.pointer (some ⟨r, 0, none⟩)] w fun e w' => e = .returned (.string (xval ⟨#[]⟩ (evP2 raw))) ∧ XRec w0 w' T R r E a m c raw (xst (evP2 raw)) zs cs := xrec_text S

theorem ev_f3 {w0 w : World} {T : TypeId} {R r E : Nat} {a : Option Addr} {m c : Nat} {raw : List Int} {zs cs : Array Value} (S : XRec w0 w T R r E a m c raw (xst (evP2 raw)) zs cs) :
    Calls Try.prog 50 #[.pointer (some ⟨r, 0, none⟩)] w fun e w' => e = .returned (.int .i64 (xval 0 (evP3 raw))) ∧ XRec w0 w' T R r E a m c raw (xst (evP3 raw)) zs cs := xrec_sig S

set_option maxRecDepth 100000 in
set_option maxHeartbeats 1000000 in
theorem xreadEvent_any (w : World) (a : Option Addr) (m c : Nat) (raw : List Int) (B : BytesAt w a m c raw) (hm : m ≤ 140737488355328) :
    Calls Try.prog 14 #[.slice a m c] w fun e w' => e = .returned (evOut (rdWhole rdEvent raw)) ∧ Kept (fun _ => False) w w' := by
  have S0 := XRec.new B hm 23 #[.int .i64 0, .string ⟨#[]⟩, .string ⟨#[]⟩, .int .i64 0]
  clear B
  have hW := ev_whole raw
  rw [hW]
  clear hW
  cases hx : xend raw (xst (evP3 raw)) with
  | error pl =>
    simp only [evOut]
    go_enter Try.func14, Try.ntmps14
    go_wp2_with (first
      | (go_at_call 48; have _t := S0; refine (ev_f0 S0).mono ?_; rintro e w1 ⟨rfl, T1⟩; obtain ⟨y0, z0⟩ := T1.cell (o := 0) rfl; have S1 := T1.store 0 (.int .i64 (xval 0 (evP0 raw))); clear S0 T1)
      | (go_at_call 49; have _t := S1; refine (ev_f1 S1).mono ?_; rintro e w2 ⟨rfl, T2⟩; obtain ⟨y1, z1⟩ := T2.cell (o := 1) rfl; have S2 := T2.store 1 (.string (xval ⟨#[]⟩ (evP1 raw))); clear S1 T2)
      | (go_at_call 49; have _t := S2; refine (ev_f2 S2).mono ?_; rintro e w3 ⟨rfl, T3⟩; obtain ⟨y2, z2⟩ := T3.cell (o := 2) rfl; have S3 := T3.store 2 (.string (xval ⟨#[]⟩ (evP2 raw))); clear S2 T3)
      | (go_at_call 50; have _t := S3; refine (ev_f3 S3).mono ?_; rintro e w4 ⟨rfl, T4⟩; obtain ⟨y3, z3⟩ := T4.cell (o := 3) rfl; have S4 := T4.store 3 (.int .i64 (xval 0 (evP3 raw))); clear S3 T4)
      | (go_at_call 51; have _t := S4; refine (xrec_end S4).mono ?_; rintro e wE ⟨rfl, ⟨hE, hR⟩, K⟩; rw [hx]; simp only [endTup]; obtain ⟨e0, _⟩ := cellOf' hE (o := 0) rfl; obtain ⟨e1, _⟩ := cellOf' hE (o := 1) rfl; obtain ⟨e2, _⟩ := cellOf' hE (o := 2) rfl; obtain ⟨e3, _⟩ := cellOf' hE (o := 3) rfl; obtain ⟨r0, g0⟩ := cellOf' hR (o := 0) rfl; obtain ⟨r1, g1⟩ := cellOf' hR (o := 1) rfl; obtain ⟨r2, g2⟩ := cellOf' hR (o := 2) rfl; obtain ⟨r3, g3⟩ := cellOf' hR (o := 3) rfl; have HR : Hid _ := hR; clear S4 hE hR)
      | fail)
    have hR : ((((wE.setCell ⟨w.heap.size, 0, none⟩ (.int .i64 0)).setCell ⟨w.heap.size, 1, none⟩ (.string ⟨#[]⟩)).setCell ⟨w.heap.size, 2, none⟩ (.string ⟨#[]⟩)).setCell ⟨w.heap.size, 3, none⟩ (.int .i64 0)).heap[w.heap.size]? = some (.cells #[.int .i64 0, .string ⟨#[]⟩, .string ⟨#[]⟩, .int .i64 0] 23 (0, 0)) := by simp [World.setCell, Array.getElem?_modify, HR.out]
    have q0 := cellOf hR (o := 0) rfl
    have q1 := cellOf hR (o := 1) rfl
    have q2 := cellOf hR (o := 2) rfl
    have q3 := cellOf hR (o := 3) rfl
    refine bodyPost_ret (by simp [results, Try.results14, go_sem, q0, q1, q2, q3]; try rfl) rfl ?_
    exact ⟨rfl, ((((K.trans (Kept.setCell (S := fun k => k = w.heap.size) _ _ _ rfl) (fun k h => .inr (by omega))).trans (Kept.setCell (S := fun k => k = w.heap.size) _ _ _ rfl) (fun k h => .inr (by omega))).trans (Kept.setCell (S := fun k => k = w.heap.size) _ _ _ rfl) (fun k h => .inr (by omega))).trans (Kept.setCell (S := fun k => k = w.heap.size) _ _ _ rfl) (fun k h => .inr (by omega)))⟩
  | ok pl =>
    simp only [evOut]
    go_enter Try.func14, Try.ntmps14
    go_wp2_with (first
      | (go_at_call 48; have _t := S0; refine (ev_f0 S0).mono ?_; rintro e w1 ⟨rfl, T1⟩; obtain ⟨y0, z0⟩ := T1.cell (o := 0) rfl; have S1 := T1.store 0 (.int .i64 (xval 0 (evP0 raw))); clear S0 T1)
      | (go_at_call 49; have _t := S1; refine (ev_f1 S1).mono ?_; rintro e w2 ⟨rfl, T2⟩; obtain ⟨y1, z1⟩ := T2.cell (o := 1) rfl; have S2 := T2.store 1 (.string (xval ⟨#[]⟩ (evP1 raw))); clear S1 T2)
      | (go_at_call 49; have _t := S2; refine (ev_f2 S2).mono ?_; rintro e w3 ⟨rfl, T3⟩; obtain ⟨y2, z2⟩ := T3.cell (o := 2) rfl; have S3 := T3.store 2 (.string (xval ⟨#[]⟩ (evP2 raw))); clear S2 T3)
      | (go_at_call 50; have _t := S3; refine (ev_f3 S3).mono ?_; rintro e w4 ⟨rfl, T4⟩; obtain ⟨y3, z3⟩ := T4.cell (o := 3) rfl; have S4 := T4.store 3 (.int .i64 (xval 0 (evP3 raw))); clear S3 T4)
      | (go_at_call 51; have _t := S4; refine (xrec_end S4).mono ?_; rintro e wE ⟨rfl, ⟨hE, hR⟩, K⟩; rw [hx]; simp only [endTup]; obtain ⟨e0, _⟩ := cellOf' hE (o := 0) rfl; obtain ⟨e1, _⟩ := cellOf' hE (o := 1) rfl; obtain ⟨e2, _⟩ := cellOf' hE (o := 2) rfl; obtain ⟨e3, _⟩ := cellOf' hE (o := 3) rfl; obtain ⟨r0, g0⟩ := cellOf' hR (o := 0) rfl; obtain ⟨r1, g1⟩ := cellOf' hR (o := 1) rfl; obtain ⟨r2, g2⟩ := cellOf' hR (o := 2) rfl; obtain ⟨r3, g3⟩ := cellOf' hR (o := 3) rfl; have HR : Hid _ := hR; clear S4 hE hR)
      | fail)
    have hR : ((((wE.setCell ⟨w.heap.size, 0, none⟩ (.int .i64 (xval 0 (evP0 raw)))).setCell ⟨w.heap.size, 1, none⟩ (.string (xval ⟨#[]⟩ (evP1 raw)))).setCell ⟨w.heap.size, 2, none⟩ (.string (xval ⟨#[]⟩ (evP2 raw)))).setCell ⟨w.heap.size, 3, none⟩ (.int .i64 (xval 0 (evP3 raw)))).heap[w.heap.size]? = some (.cells #[.int .i64 (xval 0 (evP0 raw)), .string (xval ⟨#[]⟩ (evP1 raw)), .string (xval ⟨#[]⟩ (evP2 raw)), .int .i64 (xval 0 (evP3 raw))] 23 (0, 0)) := by simp [World.setCell, Array.getElem?_modify, HR.out]
    have q0 := cellOf hR (o := 0) rfl
    have q1 := cellOf hR (o := 1) rfl
    have q2 := cellOf hR (o := 2) rfl
    have q3 := cellOf hR (o := 3) rfl
    refine bodyPost_ret (by simp [results, Try.results14, go_sem, q0, q1, q2, q3]; try rfl) rfl ?_
    exact ⟨rfl, ((((K.trans (Kept.setCell (S := fun k => k = w.heap.size) _ _ _ rfl) (fun k h => .inr (by omega))).trans (Kept.setCell (S := fun k => k = w.heap.size) _ _ _ rfl) (fun k h => .inr (by omega))).trans (Kept.setCell (S := fun k => k = w.heap.size) _ _ _ rfl) (fun k h => .inr (by omega))).trans (Kept.setCell (S := fun k => k = w.heap.size) _ _ _ rfl) (fun k h => .inr (by omega)))⟩

end Go.Proofs.Ytnmdjdpceegdfaa
