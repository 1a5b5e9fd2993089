/-
  The document's ReadLease.
-/
import Derived.Test.YtnmdjdpceegdfaaCXRec
import Derived.Test.YtnmdjdpceegdfaaCRdLease
namespace Go.Proofs.Ytnmdjdpceegdfaa
open Go.RowKit

def leP0 (raw : List Int) : Except Nat (Int × Nat) := xnext rdSig raw (.ok 0)
def leP1 (raw : List Int) : Except Nat (Int × Nat) := xnext (rdNum 0 4503599627370496) raw (xst (leP0 raw))

/-- The record as the document's reader tells it. -/
theorem le_whole (raw : List Int) : rdWhole rdLease raw = match xend raw (xst (leP1 raw)) with | .error pl => .error pl | .ok _ => .ok (xval 0 (leP0 raw), xval 0 (leP1 raw)) := by
  cases h0 : rdSig raw 0 with
  | error e => simp [rdWhole, rdLease, rdBind, leP0, leP1, xnext, xst, xend, h0]
  | ok y0 =>
    obtain ⟨v0, i0⟩ := y0
    cases h1 : rdNum 0 4503599627370496 raw i0 with
    | error e => simp [rdWhole, rdLease, rdBind, leP0, leP1, xnext, xst, xend, h0, h1]
    | ok y1 =>
      obtain ⟨v1, i1⟩ := y1
      simp only [rdWhole, rdLease, rdBind, leP0, leP1, xnext, xst, xval, xend, h0, h1]
      split <;> rfl

theorem le_f0 {w0 w : World} {T : TypeId} {R r E : Nat} {a : Option Addr} {m c : Nat} {raw : List Int} {zs cs : Array Value} (S : XRec w0 w T R r E a m c raw (.ok 0) zs cs) :
    Calls Try.prog 50 #[.pointer (some ⟨r, 0, none⟩)] w fun e w' => e = .returned (.int .i64 (xval 0 (leP0 raw))) ∧ XRec w0 w' T R r E a m c raw (xst (leP0 raw)) zs cs := xrec_sig S

theorem le_f1 {w0 w : World} {T : TypeId} {R r E : Nat} {a : Option Addr} {m c : Nat} {raw : List Int} {zs cs : Array Value} (S : XRec w0 w T R r E a m c raw (xst (leP0 raw)) zs cs) :
    Calls Try.prog 48 #[.pointer (some ⟨r, 0, none⟩), .int .i64 0, .int .i64 4503599627370496] w fun e w' => e = .returned (.int .i64 (xval 0 (leP1 raw))) ∧ XRec w0 w' T R r E a m c raw (xst (leP1 raw)) zs cs := xrec_num S 0 4503599627370496

set_option maxRecDepth 100000 in
set_option maxHeartbeats 1000000 in
theorem xreadLease_any (w : World) (a : Option Addr) (m c : Nat) (raw : List Int) (B : BytesAt w a m c raw) (hm : m ≤ 140737488355328) :
    Calls Try.prog 24 #[.slice a m c] w fun e w' => e = .returned (leOut (rdWhole rdLease raw)) ∧ Kept (fun _ => False) w w' := by
  have S0 := XRec.new B hm 44 #[.int .i64 0, .int .i64 0]
  clear B
  have hW := le_whole raw
  rw [hW]
  clear hW
  cases hx : xend raw (xst (leP1 raw)) with
  | error pl =>
    simp only [leOut]
    go_enter Try.func24, Try.ntmps24
    go_wp2_with (first
      | (go_at_call 50; have _t := S0; refine (le_f0 S0).mono ?_; rintro e w1 ⟨rfl, T1⟩; obtain ⟨y0, z0⟩ := T1.cell (o := 0) rfl; have S1 := T1.store 0 (.int .i64 (xval 0 (leP0 raw))); clear S0 T1)
      | (go_at_call 48; have _t := S1; refine (le_f1 S1).mono ?_; rintro e w2 ⟨rfl, T2⟩; obtain ⟨y1, z1⟩ := T2.cell (o := 1) rfl; have S2 := T2.store 1 (.int .i64 (xval 0 (leP1 raw))); clear S1 T2)
      | (go_at_call 51; have _t := S2; refine (xrec_end S2).mono ?_; rintro e wE ⟨rfl, ⟨hE, hR⟩, K⟩; rw [hx]; simp only [endTup]; obtain ⟨e0, _⟩ := cellOf' hE (o := 0) rfl; obtain ⟨e1, _⟩ := cellOf' hE (o := 1) rfl; obtain ⟨r0, g0⟩ := cellOf' hR (o := 0) rfl; obtain ⟨r1, g1⟩ := cellOf' hR (o := 1) rfl; have HR : Hid _ := hR; clear S2 hE hR)
      | fail)
    have hR : ((wE.setCell ⟨w.heap.size, 0, none⟩ (.int .i64 0)).setCell ⟨w.heap.size, 1, none⟩ (.int .i64 0)).heap[w.heap.size]? = some (.cells #[.int .i64 0, .int .i64 0] 44 (0, 0)) := by simp [World.setCell, Array.getElem?_modify, HR.out]
    have q0 := cellOf hR (o := 0) rfl
    have q1 := cellOf hR (o := 1) rfl
    refine bodyPost_ret (by simp [results, Try.results24, go_sem, q0, q1]; try rfl) rfl ?_
    exact ⟨rfl, ((K.trans (Kept.setCell (S := fun k => k = w.heap.size) _ _ _ rfl) (fun k h => .inr (by omega))).trans (Kept.setCell (S := fun k => k = w.heap.size) _ _ _ rfl) (fun k h => .inr (by omega)))⟩
  | ok pl =>
    simp only [leOut]
    go_enter Try.func24, Try.ntmps24
    go_wp2_with (first
      | (go_at_call 50; have _t := S0; refine (le_f0 S0).mono ?_; rintro e w1 ⟨rfl, T1⟩; obtain ⟨y0, z0⟩ := T1.cell (o := 0) rfl; have S1 := T1.store 0 (.int .i64 (xval 0 (leP0 raw))); clear S0 T1)
      | (go_at_call 48; have _t := S1; refine (le_f1 S1).mono ?_; rintro e w2 ⟨rfl, T2⟩; obtain ⟨y1, z1⟩ := T2.cell (o := 1) rfl; have S2 := T2.store 1 (.int .i64 (xval 0 (leP1 raw))); clear S1 T2)
      | (go_at_call 51; have _t := S2; refine (xrec_end S2).mono ?_; rintro e wE ⟨rfl, ⟨hE, hR⟩, K⟩; rw [hx]; simp only [endTup]; obtain ⟨e0, _⟩ := cellOf' hE (o := 0) rfl; obtain ⟨e1, _⟩ := cellOf' hE (o := 1) rfl; obtain ⟨r0, g0⟩ := cellOf' hR (o := 0) rfl; obtain ⟨r1, g1⟩ := cellOf' hR (o := 1) rfl; have HR : Hid _ := hR; clear S2 hE hR)
      | fail)
    have hR : ((wE.setCell ⟨w.heap.size, 0, none⟩ (.int .i64 (xval 0 (leP0 raw)))).setCell ⟨w.heap.size, 1, none⟩ (.int .i64 (xval 0 (leP1 raw)))).heap[w.heap.size]? = some (.cells #[.int .i64 (xval 0 (leP0 raw)), .int .i64 (xval 0 (leP1 raw))] 44 (0, 0)) := by simp [World.setCell, Array.getElem?_modify, HR.out]
    have q0 := cellOf hR (o := 0) rfl
    have q1 := cellOf hR (o := 1) rfl
    refine bodyPost_ret (by simp [results, Try.results24, go_sem, q0, q1]; try rfl) rfl ?_
    exact ⟨rfl, ((K.trans (Kept.setCell (S := fun k => k = w.heap.size) _ _ _ rfl) (fun k h => .inr (by omega))).trans (Kept.setCell (S := fun k => k = w.heap.size) _ _ _ rfl) (fun k h => .inr (by omega)))⟩

end Go.Proofs.Ytnmdjdpceegdfaa
