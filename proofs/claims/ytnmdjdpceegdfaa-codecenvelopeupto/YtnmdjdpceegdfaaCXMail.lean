/-
  A mail, or none: read by the document.
-/
import Derived.Test.YtnmdjdpceegdfaaCMailR
namespace Go.Proofs.Ytnmdjdpceegdfaa
open Go.RowKit

/-- On the way of reading: w0 is the world ahead, r the reader's block, R the result's, E the mail's. -/
structure MRec (w0 w : World) (r R E : Nat) (a : Option Addr) (m c : Nat) (raw : List Int) (st : Except Nat Nat) (cs : Array Value) : Prop where
  rd : XAt w r a m c raw st
  rcd : w.heap[E]? = some (.cells cs 36 (0, 0))
  res : w.heap[R]? = some (.cells #[.int .i64 0, .string ⟨#[]⟩, .string ⟨#[]⟩, .string ⟨#[]⟩, .string ⟨#[]⟩, .string ⟨#[]⟩, .int .i64 0] 36 (0, 0))
  kept : Kept (fun k => k = r) w0 w
  old : raw ≠ [] → ∀ ad, a = some ad → ad.block < w0.heap.size
  r0 : r < w0.heap.size
  r1 : w0.heap.size ≤ R
  r2 : R < E

section
variable {w0 w w' : World} {R r E : Nat} {a : Option Addr} {m c : Nat} {raw : List Int} {st : Except Nat Nat} {cs : Array Value}

theorem MRec.new (A : XAt w r a m c raw st) : MRec w ((w.alloc (.cells #[.int .i64 0, .string ⟨#[]⟩, .string ⟨#[]⟩, .string ⟨#[]⟩, .string ⟨#[]⟩, .string ⟨#[]⟩, .int .i64 0] 36)).alloc (.cells #[.int .i64 0, .string ⟨#[]⟩, .string ⟨#[]⟩, .string ⟨#[]⟩, .string ⟨#[]⟩, .string ⟨#[]⟩, .int .i64 0] 36)) r w.heap.size (w.heap.size + 1) a m c raw st #[.int .i64 0, .string ⟨#[]⟩, .string ⟨#[]⟩, .string ⟨#[]⟩, .string ⟨#[]⟩, .string ⟨#[]⟩, .int .i64 0] := by
  have K1 := Kept.alloc (fun _ => False) w (.cells #[.int .i64 0, .string ⟨#[]⟩, .string ⟨#[]⟩, .string ⟨#[]⟩, .string ⟨#[]⟩, .string ⟨#[]⟩, .int .i64 0] 36)
  have K2 := Kept.alloc (fun _ => False) (w.alloc (.cells #[.int .i64 0, .string ⟨#[]⟩, .string ⟨#[]⟩, .string ⟨#[]⟩, .string ⟨#[]⟩, .string ⟨#[]⟩, .int .i64 0] 36)) (.cells #[.int .i64 0, .string ⟨#[]⟩, .string ⟨#[]⟩, .string ⟨#[]⟩, .string ⟨#[]⟩, .string ⟨#[]⟩, .int .i64 0] 36)
  have s1 : (w.alloc (.cells #[.int .i64 0, .string ⟨#[]⟩, .string ⟨#[]⟩, .string ⟨#[]⟩, .string ⟨#[]⟩, .string ⟨#[]⟩, .int .i64 0] 36)).heap.size = w.heap.size + 1 := by simp
  refine ⟨(A.kept K1 (fun h => h) (fun _ _ _ h => h)).kept K2 (fun h => h) (fun _ _ _ h => h), ?_, ?_, (K1.and K2).mono (fun _ h => h.elim), fun hne ad e => A.bytes.lt e hne, A.lt, Nat.le_refl _, by omega⟩
  · have := heap_alloc_new (w.alloc (.cells #[.int .i64 0, .string ⟨#[]⟩, .string ⟨#[]⟩, .string ⟨#[]⟩, .string ⟨#[]⟩, .string ⟨#[]⟩, .int .i64 0] 36)) (.cells #[.int .i64 0, .string ⟨#[]⟩, .string ⟨#[]⟩, .string ⟨#[]⟩, .string ⟨#[]⟩, .string ⟨#[]⟩, .int .i64 0] 36)
    rw [s1] at this
    exact this
  · rw [K2.block w.heap.size (by omega) (fun h => h), heap_alloc_new]

theorem MRec.ltE (S : MRec w0 w r R E a m c raw st cs) : E < w.heap.size := (Array.getElem?_eq_some_iff.1 S.rcd).1

theorem MRec.cell (S : MRec w0 w r R E a m c raw st cs) {o : Nat} {u : Value} (hu : cs[o]? = some u) : w.cell? ⟨E, o, none⟩ = some u ∧ w.frozen? ⟨E, o, none⟩ = false := cellOf' S.rcd hu

theorem MRec.store (S : MRec w0 w r R E a m c raw st cs) (o : Nat) (v : Value) : MRec w0 (w.setCell ⟨E, o, none⟩ v) r R E a m c raw st (cs.setIfInBounds o v) := by
  have h0 := S.r0
  have h1 := S.r1
  have h2 := S.r2
  have K : Kept (fun k => k = E) w (w.setCell ⟨E, o, none⟩ v) := Kept.setCell (S := fun k => k = E) _ _ _ rfl
  refine ⟨S.rd.kept K (by show ¬ r = E; omega) (fun h ad e => by have := S.old h ad e; show ¬ ad.block = E; omega), ?_, ?_, S.kept.trans K (fun k h => .inr (by omega)), S.old, h0, h1, h2⟩
  · simp [World.setCell, Array.getElem?_modify, S.rcd]
  · rw [Below.heap_setCell _ _ _ _ (by show ¬ R = E; omega)]; exact S.res

theorem MRec.to {st' : Except Nat Nat} (S : MRec w0 w r R E a m c raw st cs) {w1 : World} (K : Kept (fun k => k = r) w w1) (A : XAt w1 r a m c raw st') : MRec w0 w1 r R E a m c raw st' cs := by
  have h0 := S.r0
  have h1 := S.r1
  have h2 := S.r2
  have hE := S.ltE
  exact ⟨A, (K.block E hE (by show ¬ E = r; omega)).trans S.rcd, (K.block R (by omega) (by show ¬ R = r; omega)).trans S.res, S.kept.and K, S.old, h0, h1, h2⟩

theorem MRec.fin (S : MRec w0 w r R E a m c raw st cs) (K : Kept (fun k => k = R) w w') : XAt w' r a m c raw st ∧ Kept (fun k => k = r) w0 w' := by
  have h0 := S.r0
  have h1 := S.r1
  exact ⟨S.rd.kept K (by show ¬ r = R; omega) (fun h ad e => by have := S.old h ad e; show ¬ ad.block = R; omega), S.kept.trans K (fun k h => .inr (by omega))⟩

theorem mrec_num (S : MRec w0 w r R E a m c raw st cs) (lo hi : Int) :
    Calls Try.prog 48 #[.pointer (some ⟨r, 0, none⟩), .int .i64 lo, .int .i64 hi] w fun e w' => e = .returned (.int .i64 (xval 0 (xnext (rdNum lo hi) raw st))) ∧ MRec w0 w' r R E a m c raw (xst (xnext (rdNum lo hi) raw st)) cs :=
  (xrd_any S.rd lo hi).mono (fun _ _ ⟨h, A, K⟩ => ⟨h, S.to K A⟩)

theorem mrec_text (S : MRec w0 w r R E a m c raw st cs) :
    Calls Try.prog 49 #[.pointer (some ⟨r, 0, none⟩)] w fun e w' => e = .returned (.string (xval ⟨#[]⟩ (xnext rdText raw st))) ∧ MRec w0 w' r R E a m c raw (xst (xnext rdText raw st)) cs :=
  (xrtext_any S.rd).mono (fun _ _ ⟨h, A, K⟩ => ⟨h, S.to K A⟩)
end

def maP0 (raw : List Int) (st : Except Nat Nat) : Except Nat (Int × Nat) := xnext (rdNum 0 4) raw st
def maP1 (raw : List Int) (st : Except Nat Nat) : Except Nat (ByteArray × Nat) := xnext rdText raw (xst (maP0 raw st))
def maP2 (raw : List Int) (st : Except Nat Nat) : Except Nat (ByteArray × Nat) := xnext rdText raw (xst (maP1 raw st))
def maP3 (raw : List Int) (st : Except Nat Nat) : Except Nat (ByteArray × Nat) := xnext rdText raw (xst (maP2 raw st))
def maP4 (raw : List Int) (st : Except Nat Nat) : Except Nat (ByteArray × Nat) := xnext rdText raw (xst (maP3 raw st))
def maP5 (raw : List Int) (st : Except Nat Nat) : Except Nat (ByteArray × Nat) := xnext rdText raw (xst (maP4 raw st))
def maP6 (raw : List Int) (st : Except Nat Nat) : Except Nat (Int × Nat) := xnext (rdNum 0 4) raw (xst (maP5 raw st))

theorem ma_f0 {w0 w : World} {R r E : Nat} {a : Option Addr} {m c : Nat} {raw : List Int} {st : Except Nat Nat} {cs : Array Value} (S : MRec w0 w r R E a m c raw st cs) :
    Calls Try.prog 48 #[.pointer (some ⟨r, 0, none⟩), .int .i64 0, .int .i64 4] w fun e w' => e = .returned (.int .i64 (xval 0 (maP0 raw st))) ∧ MRec w0 w' r R E a m c raw (xst (maP0 raw st)) cs := mrec_num S 0 4

theorem ma_f1 {w0 w : World} {R r E : Nat} {a : Option Addr} {m c : Nat} {raw : List Int} {st : Except Nat Nat} {cs : Array Value} (S : MRec w0 w r R E a m c raw (xst (maP0 raw st)) cs) :
    Calls Try.prog 49 #[.pointer (some ⟨r, 0, none⟩)] w fun e w' => e = .returned (.string (xval ⟨#[]⟩ (maP1 raw st))) ∧ MRec w0 w' r R E a m c raw (xst (maP1 raw st)) cs := mrec_text S

theorem ma_f2 {w0 w : World} {R r E : Nat} {a : Option Addr} {m c : Nat} {raw : List Int} {st : Except Nat Nat} {cs : Array Value} (S : MRec w0 w r R E a m c raw (xst (maP1 raw st)) cs) :
    Calls Try.prog 49 #[.pointer (some ⟨r, 0, none⟩)] w fun e w' => e = .returned (.string (xval ⟨#[]⟩ (maP2 raw st))) ∧ MRec w0 w' r R E a m c raw (xst (maP2 raw st)) cs := mrec_text S

theorem ma_f3 {w0 w : World} {R r E : Nat} {a : Option Addr} {m c : Nat} {raw : List Int} {st : Except Nat Nat} {cs : Array Value} (S : MRec w0 w r R E a m c raw (xst (maP2 raw st)) cs) :
    Calls Try.prog 49 #[.pointer (some ⟨r, 0, none⟩)] w fun e w' => e = .returned (.string (xval ⟨#[]⟩ (maP3 raw st))) ∧ MRec w0 w' r R E a m c raw (xst (maP3 raw st)) cs := mrec_text S

theorem ma_f4 {w0 w : World} {R r E : Nat} {a : Option Addr} {m c : Nat} {raw : List Int} {st : Except Nat Nat} {cs : Array Value} (S : MRec w0 w r R E a m c raw (xst (maP3 raw st)) cs) :
    Calls Try.prog 49 #[.pointer (some ⟨r, 0, none⟩)] w fun e w' => e = .returned (.string (xval ⟨#[]⟩ (maP4 raw st))) ∧ MRec w0 w' r R E a m c raw (xst (maP4 raw st)) cs := mrec_text S

theorem ma_f5 {w0 w : World} {R r E : Nat} {a : Option Addr} {m c : Nat} {raw : List Int} {st : Except Nat Nat} {cs : Array Value} (S : MRec w0 w r R E a m c raw (xst (maP4 raw st)) cs) :
    Calls Try.prog 49 #[.pointer (some ⟨r, 0, none⟩)] w fun e w' => e = .returned (.string (xval ⟨#[]⟩ (maP5 raw st))) ∧ MRec w0 w' r R E a m c raw (xst (maP5 raw st)) cs := mrec_text S

theorem ma_f6 {w0 w : World} {R r E : Nat} {a : Option Addr} {m c : Nat} {raw : List Int} {st : Except Nat Nat} {cs : Array Value} (S : MRec w0 w r R E a m c raw (xst (maP5 raw st)) cs) :
    Calls Try.prog 48 #[.pointer (some ⟨r, 0, none⟩), .int .i64 0, .int .i64 4] w fun e w' => e = .returned (.int .i64 (xval 0 (maP6 raw st))) ∧ MRec w0 w' r R E a m c raw (xst (maP6 raw st)) cs := mrec_num S 0 4

set_option maxRecDepth 100000 in
set_option maxHeartbeats 1000000 in
theorem xrmail_none {w : World} {r : Nat} {a : Option Addr} {m c : Nat} {raw : List Int} {st : Except Nat Nat} (A : XAt w r a m c raw st) (h : xval 0 (maP0 raw st) = 0) :
    Calls Try.prog 57 #[.pointer (some ⟨r, 0, none⟩)] w fun e w' => e = .returned (.agg #[.int .i64 0, .string ⟨#[]⟩, .string ⟨#[]⟩, .string ⟨#[]⟩, .string ⟨#[]⟩, .string ⟨#[]⟩, .int .i64 0]) ∧ XAt w' r a m c raw (xst (maP0 raw st)) ∧ Kept (fun k => k = r) w w' := by
  have S0 := MRec.new A
  have hN := ma_f0 S0
  rw [h] at hN
  clear A h
  go_enter Try.func57, Try.ntmps57
  go_wp2_with (first
    | (go_at_call 48; have _t := S0; refine hN.mono ?_; rintro e w1 ⟨rfl, T1⟩; obtain ⟨y0, z0⟩ := T1.cell (o := 0) rfl; have S1 := T1.store 0 (.int .i64 0); have e0 := (S1.cell (o := 0) rfl).1; have p0 := (S1.cell (o := 0) rfl).1; have p1 := (S1.cell (o := 1) rfl).1; have p2 := (S1.cell (o := 2) rfl).1; have p3 := (S1.cell (o := 3) rfl).1; have p4 := (S1.cell (o := 4) rfl).1; have p5 := (S1.cell (o := 5) rfl).1; have p6 := (S1.cell (o := 6) rfl).1; obtain ⟨r0, g0⟩ := cellOf' S1.res (o := 0) rfl; obtain ⟨r1, g1⟩ := cellOf' S1.res (o := 1) rfl; obtain ⟨r2, g2⟩ := cellOf' S1.res (o := 2) rfl; obtain ⟨r3, g3⟩ := cellOf' S1.res (o := 3) rfl; obtain ⟨r4, g4⟩ := cellOf' S1.res (o := 4) rfl; obtain ⟨r5, g5⟩ := cellOf' S1.res (o := 5) rfl; obtain ⟨r6, g6⟩ := cellOf' S1.res (o := 6) rfl; have HS : Hid _ := S1; clear S1; clear S0 _t T1 hN)
    | fail)
  have hb : (w1.setCell ⟨w.heap.size + 1, 0, none⟩ (.int .i64 0)).heap[w.heap.size]? = some (.cells #[.int .i64 0, .string ⟨#[]⟩, .string ⟨#[]⟩, .string ⟨#[]⟩, .string ⟨#[]⟩, .string ⟨#[]⟩, .int .i64 0] 36 (0, 0)) := HS.out.res
  have HF := HS.out.fin (w' := ((((((((w1.setCell ⟨w.heap.size + 1, 0, none⟩ (.int .i64 0)).setCell ⟨w.heap.size, 0, none⟩ (.int .i64 0)).setCell ⟨w.heap.size, 1, none⟩ (.string ⟨#[]⟩)).setCell ⟨w.heap.size, 2, none⟩ (.string ⟨#[]⟩)).setCell ⟨w.heap.size, 3, none⟩ (.string ⟨#[]⟩)).setCell ⟨w.heap.size, 4, none⟩ (.string ⟨#[]⟩)).setCell ⟨w.heap.size, 5, none⟩ (.string ⟨#[]⟩)).setCell ⟨w.heap.size, 6, none⟩ (.int .i64 0))) ((((((((Kept.refl _ _).and (Kept.setCell (S := fun k => k = w.heap.size) _ _ _ rfl)).and (Kept.setCell (S := fun k => k = w.heap.size) _ _ _ rfl)).and (Kept.setCell (S := fun k => k = w.heap.size) _ _ _ rfl)).and (Kept.setCell (S := fun k => k = w.heap.size) _ _ _ rfl)).and (Kept.setCell (S := fun k => k = w.heap.size) _ _ _ rfl)).and (Kept.setCell (S := fun k => k = w.heap.size) _ _ _ rfl)).and (Kept.setCell (S := fun k => k = w.heap.size) _ _ _ rfl))
  generalize (w1.setCell ⟨w.heap.size + 1, 0, none⟩ (.int .i64 0)) = wS at *
  have hR : (((((((wS.setCell ⟨w.heap.size, 0, none⟩ (.int .i64 0)).setCell ⟨w.heap.size, 1, none⟩ (.string ⟨#[]⟩)).setCell ⟨w.heap.size, 2, none⟩ (.string ⟨#[]⟩)).setCell ⟨w.heap.size, 3, none⟩ (.string ⟨#[]⟩)).setCell ⟨w.heap.size, 4, none⟩ (.string ⟨#[]⟩)).setCell ⟨w.heap.size, 5, none⟩ (.string ⟨#[]⟩)).setCell ⟨w.heap.size, 6, none⟩ (.int .i64 0)).heap[w.heap.size]? = some (.cells #[.int .i64 0, .string ⟨#[]⟩, .string ⟨#[]⟩, .string ⟨#[]⟩, .string ⟨#[]⟩, .string ⟨#[]⟩, .int .i64 0] 36 (0, 0)) := by simp [World.setCell, Array.getElem?_modify, hb]
  have q0 := cellOf hR (o := 0) rfl
  have q1 := cellOf hR (o := 1) rfl
  have q2 := cellOf hR (o := 2) rfl
  have q3 := cellOf hR (o := 3) rfl
  have q4 := cellOf hR (o := 4) rfl
  have q5 := cellOf hR (o := 5) rfl
  have q6 := cellOf hR (o := 6) rfl
  refine bodyPost_ret (by simp [results, Try.results57, go_sem, q0, q1, q2, q3, q4, q5, q6]; try rfl) rfl ?_
  exact ⟨rfl, HF⟩

set_option maxRecDepth 100000 in
set_option maxHeartbeats 1000000 in
theorem xrmail_gen {w : World} {r : Nat} {a : Option Addr} {m c : Nat} {raw : List Int} {s0 s1 s2 s3 s4 s5 s6 s7 : Except Nat Nat} {k : Int} {v1 v2 v3 v4 v5 : ByteArray} {v6 : Int} (A : XAt w r a m c raw s0) (hk : ¬ k = 0)
    (f0 : Hid (∀ (w0 w : World) (R E : Nat) (cs : Array Value), MRec w0 w r R E a m c raw s0 cs → Calls Try.prog 48 #[.pointer (some ⟨r, 0, none⟩), .int .i64 0, .int .i64 4] w fun e w' => e = .returned (.int .i64 k) ∧ MRec w0 w' r R E a m c raw s1 cs))
    (f1 : Hid (∀ (w0 w : World) (R E : Nat) (cs : Array Value), MRec w0 w r R E a m c raw s1 cs → Calls Try.prog 49 #[.pointer (some ⟨r, 0, none⟩)] w fun e w' => e = .returned (.string v1) ∧ MRec w0 w' r R E a m c raw s2 cs))
    (f2 : Hid (∀ (w0 w : World) (R E : Nat) (cs : Array Value), MRec w0 w r R E a m c raw s2 cs → Calls Try.prog 49 #[.pointer (some ⟨r, 0, none⟩)] w fun e w' => e = .returned (.string v2) ∧ MRec w0 w' r R E a m c raw s3 cs))
    (f3 : Hid (∀ (w0 w : World) (R E : Nat) (cs : Array Value), MRec w0 w r R E a m c raw s3 cs → Calls Try.prog 49 #[.pointer (some ⟨r, 0, none⟩)] w fun e w' => e = .returned (.string v3) ∧ MRec w0 w' r R E a m c raw s4 cs))
    (f4 : Hid (∀ (w0 w : World) (R E : Nat) (cs : Array Value), MRec w0 w r R E a m c raw s4 cs → Calls Try.prog 49 #[.pointer (some ⟨r, 0, none⟩)] w fun e w' => e = .returned (.string v4) ∧ MRec w0 w' r R E a m c raw s5 cs))
    (f5 : Hid (∀ (w0 w : World) (R E : Nat) (cs : Array Value), MRec w0 w r R E a m c raw s5 cs → Calls Try.prog 49 #[.pointer (some ⟨r, 0, none⟩)] w fun e w' => e = .returned (.string v5) ∧ MRec w0 w' r R E a m c raw s6 cs))
    (f6 : Hid (∀ (w0 w : World) (R E : Nat) (cs : Array Value), MRec w0 w r R E a m c raw s6 cs → Calls Try.prog 48 #[.pointer (some ⟨r, 0, none⟩), .int .i64 0, .int .i64 4] w fun e w' => e = .returned (.int .i64 v6) ∧ MRec w0 w' r R E a m c raw s7 cs)) :
    Calls Try.prog 57 #[.pointer (some ⟨r, 0, none⟩)] w fun e w' => e = .returned (.agg #[.int .i64 k, .string v1, .string v2, .string v3, .string v4, .string v5, .int .i64 v6]) ∧ XAt w' r a m c raw s7 ∧ Kept (fun k => k = r) w w' := by
  have S0 := MRec.new A
  clear A
  go_enter Try.func57, Try.ntmps57
  go_wp2_with (first
    | (go_at_call 48; have _t := S0; refine (f0.out _ _ _ _ _ S0).mono ?_; rintro e w1 ⟨rfl, T1⟩; obtain ⟨y0, z0⟩ := T1.cell (o := 0) rfl; have S1 : MRec w (w1.setCell ⟨w.heap.size + 1, 0, none⟩ (.int .i64 k)) r w.heap.size (w.heap.size + 1) a m c raw s1 #[.int .i64 k, .string ⟨#[]⟩, .string ⟨#[]⟩, .string ⟨#[]⟩, .string ⟨#[]⟩, .string ⟨#[]⟩, .int .i64 0] := T1.store 0 (.int .i64 k); have e0 := (S1.cell (o := 0) rfl).1; clear S0 _t T1 f0)
    | (go_at_call 49; have _t := S1; refine (f1.out _ _ _ _ _ S1).mono ?_; rintro e w2 ⟨rfl, T2⟩; obtain ⟨y1, z1⟩ := T2.cell (o := 1) rfl; have S2 : MRec w (w2.setCell ⟨w.heap.size + 1, 1, none⟩ (.string v1)) r w.heap.size (w.heap.size + 1) a m c raw s2 #[.int .i64 k, .string v1, .string ⟨#[]⟩, .string ⟨#[]⟩, .string ⟨#[]⟩, .string ⟨#[]⟩, .int .i64 0] := T2.store 1 (.string v1); clear S1 _t T2 f1)
    | (go_at_call 49; have _t := S2; refine (f2.out _ _ _ _ _ S2).mono ?_; rintro e w3 ⟨rfl, T3⟩; obtain ⟨y2, z2⟩ := T3.cell (o := 2) rfl; have S3 : MRec w (w3.setCell ⟨w.heap.size + 1, 2, none⟩ (.string v2)) r w.heap.size (w.heap.size + 1) a m c raw s3 #[.int .i64 k, .string v1, .string v2, .string ⟨#[]⟩, .string ⟨#[]⟩, .string ⟨#[]⟩, .int .i64 0] := T3.store 2 (.string v2); clear S2 _t T3 f2)
    | (go_at_call 49; have _t := S3; refine (f3.out _ _ _ _ _ S3).mono ?_; rintro e w4 ⟨rfl, T4⟩; obtain ⟨y3, z3⟩ := T4.cell (o := 3) rfl; have S4 : MRec w (w4.setCell ⟨w.heap.size + 1, 3, none⟩ (.string v3)) r w.heap.size (w.heap.size + 1) a m c raw s4 #[.int .i64 k, .string v1, .string v2, .string v3, .string ⟨#[]⟩, .string ⟨#[]⟩, .int .i64 0] := T4.store 3 (.string v3); clear S3 _t T4 f3)
    | (go_at_call 49; have _t := S4; refine (f4.out _ _ _ _ _ S4).mono ?_; rintro e w5 ⟨rfl, T5⟩; obtain ⟨y4, z4⟩ := T5.cell (o := 4) rfl; have S5 : MRec w (w5.setCell ⟨w.heap.size + 1, 4, none⟩ (.string v4)) r w.heap.size (w.heap.size + 1) a m c raw s5 #[.int .i64 k, .string v1, .string v2, .string v3, .string v4, .string ⟨#[]⟩, .int .i64 0] := T5.store 4 (.string v4); clear S4 _t T5 f4)
    | (go_at_call 49; have _t := S5; refine (f5.out _ _ _ _ _ S5).mono ?_; rintro e w6 ⟨rfl, T6⟩; obtain ⟨y5, z5⟩ := T6.cell (o := 5) rfl; have S6 : MRec w (w6.setCell ⟨w.heap.size + 1, 5, none⟩ (.string v5)) r w.heap.size (w.heap.size + 1) a m c raw s6 #[.int .i64 k, .string v1, .string v2, .string v3, .string v4, .string v5, .int .i64 0] := T6.store 5 (.string v5); clear S5 _t T6 f5)
    | (go_at_call 48; have _t := S6; refine (f6.out _ _ _ _ _ S6).mono ?_; rintro e w7 ⟨rfl, T7⟩; obtain ⟨y6, z6⟩ := T7.cell (o := 6) rfl; have S7 : MRec w (w7.setCell ⟨w.heap.size + 1, 6, none⟩ (.int .i64 v6)) r w.heap.size (w.heap.size + 1) a m c raw s7 #[.int .i64 k, .string v1, .string v2, .string v3, .string v4, .string v5, .int .i64 v6] := T7.store 6 (.int .i64 v6); have p0 := (S7.cell (o := 0) rfl).1; have p1 := (S7.cell (o := 1) rfl).1; have p2 := (S7.cell (o := 2) rfl).1; have p3 := (S7.cell (o := 3) rfl).1; have p4 := (S7.cell (o := 4) rfl).1; have p5 := (S7.cell (o := 5) rfl).1; have p6 := (S7.cell (o := 6) rfl).1; obtain ⟨r0, g0⟩ := cellOf' S7.res (o := 0) rfl; obtain ⟨r1, g1⟩ := cellOf' S7.res (o := 1) rfl; obtain ⟨r2, g2⟩ := cellOf' S7.res (o := 2) rfl; obtain ⟨r3, g3⟩ := cellOf' S7.res (o := 3) rfl; obtain ⟨r4, g4⟩ := cellOf' S7.res (o := 4) rfl; obtain ⟨r5, g5⟩ := cellOf' S7.res (o := 5) rfl; obtain ⟨r6, g6⟩ := cellOf' S7.res (o := 6) rfl; have HS : Hid _ := S7; clear S7; clear S6 _t T7 f6)
    | fail)
  have hb : (w7.setCell ⟨w.heap.size + 1, 6, none⟩ (.int .i64 v6)).heap[w.heap.size]? = some (.cells #[.int .i64 0, .string ⟨#[]⟩, .string ⟨#[]⟩, .string ⟨#[]⟩, .string ⟨#[]⟩, .string ⟨#[]⟩, .int .i64 0] 36 (0, 0)) := HS.out.res
  have HF := HS.out.fin (w' := ((((((((w7.setCell ⟨w.heap.size + 1, 6, none⟩ (.int .i64 v6)).setCell ⟨w.heap.size, 0, none⟩ (.int .i64 k)).setCell ⟨w.heap.size, 1, none⟩ (.string v1)).setCell ⟨w.heap.size, 2, none⟩ (.string v2)).setCell ⟨w.heap.size, 3, none⟩ (.string v3)).setCell ⟨w.heap.size, 4, none⟩ (.string v4)).setCell ⟨w.heap.size, 5, none⟩ (.string v5)).setCell ⟨w.heap.size, 6, none⟩ (.int .i64 v6))) ((((((((Kept.refl _ _).and (Kept.setCell (S := fun k => k = w.heap.size) _ _ _ rfl)).and (Kept.setCell (S := fun k => k = w.heap.size) _ _ _ rfl)).and (Kept.setCell (S := fun k => k = w.heap.size) _ _ _ rfl)).and (Kept.setCell (S := fun k => k = w.heap.size) _ _ _ rfl)).and (Kept.setCell (S := fun k => k = w.heap.size) _ _ _ rfl)).and (Kept.setCell (S := fun k => k = w.heap.size) _ _ _ rfl)).and (Kept.setCell (S := fun k => k = w.heap.size) _ _ _ rfl))
  generalize (w7.setCell ⟨w.heap.size + 1, 6, none⟩ (.int .i64 v6)) = wS at *
  have hR : (((((((wS.setCell ⟨w.heap.size, 0, none⟩ (.int .i64 k)).setCell ⟨w.heap.size, 1, none⟩ (.string v1)).setCell ⟨w.heap.size, 2, none⟩ (.string v2)).setCell ⟨w.heap.size, 3, none⟩ (.string v3)).setCell ⟨w.heap.size, 4, none⟩ (.string v4)).setCell ⟨w.heap.size, 5, none⟩ (.string v5)).setCell ⟨w.heap.size, 6, none⟩ (.int .i64 v6)).heap[w.heap.size]? = some (.cells #[.int .i64 k, .string v1, .string v2, .string v3, .string v4, .string v5, .int .i64 v6] 36 (0, 0)) := by simp [World.setCell, Array.getElem?_modify, hb]
  have q0 := cellOf hR (o := 0) rfl
  have q1 := cellOf hR (o := 1) rfl
  have q2 := cellOf hR (o := 2) rfl
  have q3 := cellOf hR (o := 3) rfl
  have q4 := cellOf hR (o := 4) rfl
  have q5 := cellOf hR (o := 5) rfl
  have q6 := cellOf hR (o := 6) rfl
  refine bodyPost_ret (by simp [results, Try.results57, go_sem, q0, q1, q2, q3, q4, q5, q6]; try rfl) rfl ?_
  exact ⟨rfl, HF⟩

theorem xrmail_some {w : World} {r : Nat} {a : Option Addr} {m c : Nat} {raw : List Int} {st : Except Nat Nat} (A : XAt w r a m c raw st) (hk : ¬ xval 0 (maP0 raw st) = 0) :
    Calls Try.prog 57 #[.pointer (some ⟨r, 0, none⟩)] w fun e w' => e = .returned (.agg #[.int .i64 (xval 0 (maP0 raw st)), .string (xval ⟨#[]⟩ (maP1 raw st)), .string (xval ⟨#[]⟩ (maP2 raw st)), .string (xval ⟨#[]⟩ (maP3 raw st)), .string (xval ⟨#[]⟩ (maP4 raw st)), .string (xval ⟨#[]⟩ (maP5 raw st)), .int .i64 (xval 0 (maP6 raw st))]) ∧ XAt w' r a m c raw (xst (maP6 raw st)) ∧ Kept (fun k => k = r) w w' :=
  xrmail_gen A hk (fun _ _ _ _ _ S => ma_f0 S) (fun _ _ _ _ _ S => ma_f1 S) (fun _ _ _ _ _ S => ma_f2 S) (fun _ _ _ _ _ S => ma_f3 S) (fun _ _ _ _ _ S => ma_f4 S) (fun _ _ _ _ _ S => ma_f5 S) (fun _ _ _ _ _ S => ma_f6 S)

end Go.Proofs.Ytnmdjdpceegdfaa
