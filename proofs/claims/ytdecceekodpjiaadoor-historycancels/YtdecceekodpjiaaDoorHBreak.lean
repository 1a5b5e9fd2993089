/-
  breakAt: a workflow is closed by a node that failed.
-/
import Derived.Test.YtdecceekodpjiaaDoorHEndA
namespace Go.Proofs.YtdecceekodpjiaaDoor
open Go.RowKit

def breakP (nm : ByteArray) (ns : List Nd) (r : Rn) (node tx : ByteArray) : Rn := endP nm ns (tellP nm ns r ⟨6, node, tx, 0⟩ []) 3 tx

theorem flat_none (w : World) : FlatAt w 13 (.slice none ([] : List Tk).length 0) ([] : List Tk).length (tkF []) :=
  ⟨rfl, none, 0, rfl, Nat.le_refl _, Nat.zero_le _, .inl rfl⟩

set_option maxRecDepth 100000 in
set_option maxHeartbeats 8000000 in
theorem breakAt_any {w0 w : World} {H : Nat → Prop} {rb : Nat} {nm : ByteArray} {a : Option Addr} {c : Nat} {ns : List Nd} {r : Rn} {m : Nat} (E : Env w0 w H a ns) (R : RAt w H rb nm a ns.length c r) (F : Fit r m) (hm : m ≤ 999999) (hn : ns.length ≤ 999999) (node tx : ByteArray) :
    Calls Tryd.prog 41 #[.pointer (some ⟨rb, 0, none⟩), .string node, .string tx] w fun e w' => e = .returned (.tuple #[]) ∧ RGoes w H rb nm a ns.length c (breakP nm ns r node tx) w' := by
  have hT := tellE E R F (by omega) ⟨6, node, tx, 0⟩ [] none 0 (flat_none w) (by decide) (fun g h => by cases h)
  rw [List.length_nil] at hT
  have HE := hid E
  have HF1 : Hid (Fit (tellP nm ns r ⟨6, node, tx, 0⟩ []) (m + 1 + 0)) := tellP_fit F E.few _ _
  clear E R F
  go_enter Tryd.func41, Tryd.ntmps41
  go_wp2_with (first
    | (go_at_call 34; refine hT.mono ?_; rintro e w1 ⟨rfl, X1⟩; clear hT; obtain ⟨H1, E1, R1, hH1, K1⟩ := HE.out.goes X1; have hD := end_any E1 R1 HF1.out (by omega) hn 3 tx; have HX : Hid ((∀ g, H1 g → H g ∨ w.heap.size ≤ g) ∧ Kept H w w1) := ⟨hH1, K1⟩; clear X1 E1 R1 hH1 K1)
    | (go_at_call 42; refine hD.mono ?_; rintro e w2 ⟨rfl, X2⟩; clear hD)
    | fail)
  go_end0
  exact ⟨rfl, X2.trans HX.out.1 HX.out.2⟩

end Go.Proofs.YtdecceekodpjiaaDoor
