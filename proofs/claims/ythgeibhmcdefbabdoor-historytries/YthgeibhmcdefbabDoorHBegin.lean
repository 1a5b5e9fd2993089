/-
  begin: a node begins.
-/
import Derived.Test.YthgeibhmcdefbabDoorHChild
import Derived.Test.YthgeibhmcdefbabDoorHBeg2
namespace Go.Proofs.YthgeibhmcdefbabDoor
open Go.RowKit

def zeroMl : Ml := ⟨0, ⟨#[]⟩, ⟨#[]⟩, ⟨#[]⟩, ⟨#[]⟩, ⟨#[]⟩, 0⟩

def beginP (nm : ByteArray) (ns : List Nd) (r : Rn) (x : Nd) : Rn :=
  if x.kind = 1 then tellP nm ns r ⟨2, x.name, ⟨#[]⟩, 0⟩ [⟨1, ⟨#[]⟩, x.name, 1, 0, zeroMl⟩]
  else if x.kind = 2 then tellP nm ns r ⟨7, x.name, ⟨#[]⟩, IntKind.i64.wrap (r.now + x.delay)⟩ [⟨2, ⟨#[]⟩, x.name, 0, IntKind.i64.wrap (r.now + x.delay), zeroMl⟩]
  else if x.kind = 3 then askP nm ns r x
  else if x.kind = 4 then waitP nm ns r x
  else if x.kind = 5 then tellP nm ns r ⟨14, x.name, ⟨#[]⟩, 0⟩ [msgP r.st.id ⟨3, x.«to», ⟨#[]⟩, x.name, x.arg, ⟨#[]⟩, 0⟩]
  else r

/-- tell with one task that lies in a new row. -/
theorem tell1 {w0 V : World} {H : Nat → Prop} {rb : Nat} {nm : ByteArray} {a : Option Addr} {c : Nat} {ns : List Nd} {r : Rn} {m : Nat} (E : Env w0 V H a ns) (R : RAt V H rb nm a ns.length c r) (F : Fit r m) (hm : m ≤ 1000000) (ev : Ev) (t : Tk) :
    Calls Tryd.prog 54 #[.pointer (some ⟨rb, 0, none⟩), .agg #[.int .i64 ev.kind, .string ev.node, .string ev.text, .int .i64 ev.num], .slice (some ⟨V.heap.size, 0, none⟩) 1 1] (V.alloc (.cells #[.int .i64 t.kind, .complex .f64 0 0, .string t.flow, .string t.node, .int .i64 t.tr, .int .i64 t.tm, .int .i64 t.mail.kind, .string t.mail.dst, .string t.mail.src, .string t.mail.node, .string t.mail.name, .string t.mail.text, .int .i64 t.mail.status] 56)) fun e w' => e = .returned (.tuple #[]) ∧ RGoes V H rb nm a ns.length c (tellP nm ns r ev [t]) w' := by
  have K6 : Kept (fun _ => False) V (V.alloc (.cells #[.int .i64 t.kind, .complex .f64 0 0, .string t.flow, .string t.node, .int .i64 t.tr, .int .i64 t.tm, .int .i64 t.mail.kind, .string t.mail.dst, .string t.mail.src, .string t.mail.node, .string t.mail.name, .string t.mail.text, .int .i64 t.mail.status] 56)) := Kept.alloc _ _ _
  have ht : ∀ g, H g → g < V.heap.size := by obtain ⟨_, _, _, _, _, _, _, _, ht⟩ := R; exact ht
  have hg : ∀ g, slBlk (.slice (some ⟨V.heap.size, 0, none⟩) [t].length 1) = some g → ¬ H g := fun g hg hh => by
    obtain rfl : V.heap.size = g := by simpa [slBlk] using hg
    exact absurd (ht _ hh) (Nat.lt_irrefl _)
  have hT := tellE (E.new K6) (R.new K6) F hm ev [t] _ 1 (flat_new V t) (by simp) hg
  rw [show [t].length = 1 from rfl] at hT
  exact hT.mono (fun e w' h => ⟨h.1, h.2.first K6⟩)

end Go.Proofs.YthgeibhmcdefbabDoor
