/-
  A record that the document's reader reads field by field.
-/
import Derived.Test.YtceocmhgbcimoaaCRefMore
import Derived.Test.YtceocmhgbcimoaaCRec
namespace Go.Proofs.Ytceocmhgbcimoaa
open Go.RowKit

/-- On the way of reading: w0 is the world ahead, R the result's block, r the reader's, E the record's. -/
structure XRec (w0 w : World) (T : TypeId) (R r E : Nat) (a : Option Addr) (m c : Nat) (raw : List Int) (st : Except Nat Nat) (zs cs : Array Value) : Prop where
  rd : XAt w r a m c raw st
  rcd : w.heap[E]? = some (.cells cs T (0, 0))
  res : w.heap[R]? = some (.cells zs T (0, 0))
  kept : Kept (fun _ => False) w0 w
  old : raw ≠ [] → ∀ ad, a = some ad → ad.block < w0.heap.size
  r1 : w0.heap.size ≤ R
  r2 : R < r
  r3 : r < E

section
variable {w0 w w' : World} {T : TypeId} {R r E : Nat} {a : Option Addr} {m c : Nat} {raw : List Int} {st : Except Nat Nat} {zs cs : Array Value}

theorem XRec.new {w : World} (B : BytesAt w a m c raw) (hm : m ≤ 140737488355328) (T : TypeId) (zs : Array Value) :
    XRec w (((w.alloc (.cells zs T)).alloc (.cells #[.slice a m c, .int .i64 0, .bool false, .int .i64 0] 153)).alloc (.cells zs T)) T w.heap.size (w.heap.size + 1) (w.heap.size + 1 + 1) a m c raw (.ok 0) zs zs := by
  have K1 := Kept.alloc (fun _ => False) w (.cells zs T)
  have K2 := Kept.alloc (fun _ => False) (w.alloc (.cells zs T)) (.cells #[.slice a m c, .int .i64 0, .bool false, .int .i64 0] 153)
  have K3 := Kept.alloc (fun _ => False) ((w.alloc (.cells zs T)).alloc (.cells #[.slice a m c, .int .i64 0, .bool false, .int .i64 0] 153)) (.cells zs T)
  have s1 : (w.alloc (.cells zs T)).heap.size = w.heap.size + 1 := by simp
  have s2 : ((w.alloc (.cells zs T)).alloc (.cells #[.slice a m c, .int .i64 0, .bool false, .int .i64 0] 153)).heap.size = w.heap.size + 1 + 1 := by simp
  have A := (XAt.new (B.kept K1 (fun _ _ _ h => h)) hm).kept K3 (fun h => h) (fun _ _ _ h => h)
  rw [s1] at A
  refine ⟨A, ?_, ?_, (K1.and K2).and K3, fun hne ad e => B.lt e hne, Nat.le_refl _, by omega, by omega⟩
  · have := heap_alloc_new ((w.alloc (.cells zs T)).alloc (.cells #[.slice a m c, .int .i64 0, .bool false, .int .i64 0] 153)) (.cells zs T)
    rw [s2] at this
    exact this
  · rw [K3.block w.heap.size (by omega) (fun h => h), K2.block w.heap.size (by omega) (fun h => h), heap_alloc_new]

theorem XRec.ltE (S : XRec w0 w T R r E a m c raw st zs cs) : E < w.heap.size := (Array.getElem?_eq_some_iff.1 S.rcd).1

theorem XRec.cell (S : XRec w0 w T R r E a m c raw st zs cs) {o : Nat} {u : Value} (hu : cs[o]? = some u) : w.cell? ⟨E, o, none⟩ = some u ∧ w.frozen? ⟨E, o, none⟩ = false := cellOf' S.rcd hu

theorem XRec.resCell (S : XRec w0 w T R r E a m c raw st zs cs) {o : Nat} {u : Value} (hu : zs[o]? = some u) : w.cell? ⟨R, o, none⟩ = some u ∧ w.frozen? ⟨R, o, none⟩ = false := cellOf' S.res hu

/-- A value is laid into the record. -/
theorem XRec.store (S : XRec w0 w T R r E a m c raw st zs cs) (o : Nat) (v : Value) : XRec w0 (w.setCell ⟨E, o, none⟩ v) T R r E a m c raw st zs (cs.setIfInBounds o v) := by
  have h1 := S.r1
  have h2 := S.r2
  have h3 := S.r3
  have K : Kept (fun k => k = E) w (w.setCell ⟨E, o, none⟩ v) := Kept.setCell (S := fun k => k = E) _ _ _ rfl
  refine ⟨S.rd.kept K (by show ¬ r = E; omega) (fun h ad e => by have := S.old h ad e; show ¬ ad.block = E; omega), ?_, ?_, S.kept.trans K (fun k h => .inr (by omega)), S.old, h1, h2, h3⟩
  · simp [World.setCell, Array.getElem?_modify, S.rcd]
  · rw [Below.heap_setCell _ _ _ _ (by show ¬ R = E; omega)]; exact S.res

theorem XRec.to {st' : Except Nat Nat} (S : XRec w0 w T R r E a m c raw st zs cs) {w1 : World} (K : Kept (fun k => k = r) w w1) (A : XAt w1 r a m c raw st') : XRec w0 w1 T R r E a m c raw st' zs cs := by
  have h1 := S.r1
  have h2 := S.r2
  have h3 := S.r3
  have hE := S.ltE
  exact ⟨A, (K.block E hE (by show ¬ E = r; omega)).trans S.rcd, (K.block R (by omega) (by show ¬ R = r; omega)).trans S.res, S.kept.trans K (fun k h => .inr (by omega)), S.old, h1, h2, h3⟩

theorem xrec_num (S : XRec w0 w T R r E a m c raw st zs cs) (lo hi : Int) :
    Calls Try.prog 99 #[.pointer (some ⟨r, 0, none⟩), .int .i64 lo, .int .i64 hi] w fun e w' => e = .returned (.int .i64 (xval 0 (xnext (rdNum lo hi) raw st))) ∧ XRec w0 w' T R r E a m c raw (xst (xnext (rdNum lo hi) raw st)) zs cs :=
  (xrd_any S.rd lo hi).mono (fun _ _ ⟨h, A, K⟩ => ⟨h, S.to K A⟩)


theorem xrec_end (S : XRec w0 w T R r E a m c raw st zs cs) :
    Calls Try.prog 100 #[.pointer (some ⟨r, 0, none⟩)] w fun e w' => e = .returned (endTup (xend raw st)) ∧ (w'.heap[E]? = some (.cells cs T (0, 0)) ∧ w'.heap[R]? = some (.cells zs T (0, 0))) ∧ Kept (fun _ => False) w0 w' := by
  refine (xend_any S.rd).mono (fun _ _ ⟨h, K⟩ => ⟨h, ?_, ?_⟩)
  · have h1 := S.r1
    have h2 := S.r2
    have h3 := S.r3
    have hE := S.ltE
    exact ⟨(K.block E hE (by show ¬ E = r; omega)).trans S.rcd, (K.block R (by omega) (by show ¬ R = r; omega)).trans S.res⟩
  · have h1 := S.r1
    have h2 := S.r2
    exact S.kept.trans K (fun k h => .inr (by omega))
end

end Go.Proofs.Ytceocmhgbcimoaa
