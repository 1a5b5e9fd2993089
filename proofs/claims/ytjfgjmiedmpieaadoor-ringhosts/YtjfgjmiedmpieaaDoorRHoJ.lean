/-
  RingHosts: what stands between the rounds over All, and behind them.
-/
import Derived.Test.YtjfgjmiedmpieaaDoorRHo26
namespace Go.Proofs.YtjfgjmiedmpieaaDoor
open Go.RowKit Go.Shelf Go.Sort

/-- Between the rounds: the counter, the mark, the loop's record. -/
structure HoJ (w0 W : World) (r : Loop) (k : Nat) : Prop where
  nb : W.heap[w0.heap.size]? = some (.cells #[.int .i64 (k : Int)] 3 (0, 0))
  dm : W.heap[w0.heap.size + 2]? = some (.deferred (some []))
  lp : W.heap[w0.heap.size + 3]? = some (.loop r)
  K : Kept (fun _ => False) w0 W

section
variable {w w0 W V : World} {r : Loop} {k : Nat}

theorem HoJ.keep (J : HoJ w0 W r k) (K : Kept (fun _ => False) W V) : HoJ w0 V r k := by
  have h : ∀ {i o}, W.heap[i]? = some o → V.heap[i]? = some o := fun {i o} hh => (K.block i (Array.getElem?_eq_some_iff.1 hh).1 (fun h => h)).trans hh
  exact ⟨h J.nb, h J.dm, h J.lp, J.K.and K⟩

theorem HoJ.put (J : HoJ w0 W r k) (r' : Loop) : HoJ w0 (W.putObj (w0.heap.size + 3) (.loop r')) r' k := by
  have K : Kept (fun j => j = w0.heap.size + 3) W (W.putObj (w0.heap.size + 3) (.loop r')) := Kept.putObj _ _ _ rfl
  have hl := (Array.getElem?_eq_some_iff.1 J.lp).1
  have h : ∀ {i o}, i ≠ w0.heap.size + 3 → W.heap[i]? = some o → (W.putObj (w0.heap.size + 3) (.loop r')).heap[i]? = some o := fun {i o} hn hh => (K.block i (Array.getElem?_eq_some_iff.1 hh).1 hn).trans hh
  refine ⟨h (by omega) J.nb, h (by omega) J.dm, ?_, J.K.trans K (fun i h => .inr (by have h' : i = w0.heap.size + 3 := h; omega))⟩
  simp [World.putObj, hl]

theorem HoJ.set (J : HoJ w0 W r k) (k' : Nat) : HoJ w0 (W.setCell ⟨w0.heap.size, 0, none⟩ (.int .i64 (k' : Int))) r k' := by
  have K : Kept (fun j => j = w0.heap.size) W (W.setCell ⟨w0.heap.size, 0, none⟩ (.int .i64 (k' : Int))) := Kept.setCell _ _ _ rfl
  have h : ∀ {i o}, i ≠ w0.heap.size → W.heap[i]? = some o → (W.setCell ⟨w0.heap.size, 0, none⟩ (.int .i64 (k' : Int))).heap[i]? = some o := fun {i o} hn hh => (K.block i (Array.getElem?_eq_some_iff.1 hh).1 hn).trans hh
  exact ⟨by simp [World.setCell, Array.getElem?_modify, J.nb], h (by omega) J.dm, h (by omega) J.lp, J.K.trans K (fun i h => .inr (by have h' : i = w0.heap.size := h; omega))⟩

theorem HoJ.cells (J : HoJ w0 W r k) : W.cell? ⟨w0.heap.size, 0, none⟩ = some (.int .i64 (k : Int)) ∧ W.frozen? ⟨w0.heap.size, 0, none⟩ = false :=
  ⟨by unfold World.cell?; rw [J.nb]; rfl, by unfold World.frozen?; rw [J.nb]; rfl⟩

theorem HoJ.same (J : HoJ w0 W r k) {r' : Loop} {k' : Nat} (J' : HoJ w0 V r' k') {g : Nat} (hg : g < w0.heap.size) : V.heap[g]? = W.heap[g]? :=
  (J'.K.block g hg (fun h => h)).trans (J.K.block g hg (fun h => h)).symm

/-- The answer is laid down, the mark stands. -/
structure HoX (w W : World) (b : Nat) (r : Loop) : Prop where
  res : W.heap[w.heap.size + 1]? = some (.cells #[.bool true] 4 (0, 0))
  dm : W.heap[b + 2]? = some (.deferred (some []))
  lp : W.heap[b + 3]? = some (.loop r)
  lt : w.heap.size + 1 < b
  K : Kept (fun j => w.heap.size ≤ j) w W

theorem HoJ.ends (J : HoJ w0 W r k) {stop : Int} {sb : Nat} (B : BxSt w w0 stop sb) : HoX w (W.setCell ⟨w.heap.size + 1, 0, none⟩ (.bool true)) w0.heap.size r := by
  have B' := B.kept J.K
  have hlt := (Array.getElem?_eq_some_iff.1 B.res).1
  have hne : w.heap.size + 1 < w0.heap.size := hlt
  have K : Kept (fun j => j = w.heap.size + 1) W (W.setCell ⟨w.heap.size + 1, 0, none⟩ (.bool true)) := Kept.setCell _ _ _ rfl
  have h : ∀ {i o}, i ≠ w.heap.size + 1 → W.heap[i]? = some o → (W.setCell ⟨w.heap.size + 1, 0, none⟩ (.bool true)).heap[i]? = some o := fun {i o} hn hh => (K.block i (Array.getElem?_eq_some_iff.1 hh).1 hn).trans hh
  exact ⟨by simp [World.setCell, Array.getElem?_modify, B'.res], h (by omega) J.dm, h (by omega) J.lp, hne, (B'.K.mono (fun _ h => h.elim)).and (K.mono (fun i h => by have h' : i = w.heap.size + 1 := h; omega))⟩

theorem HoX.put {b : Nat} (X : HoX w W b r) (r' : Loop) : HoX w (W.putObj (b + 3) (.loop r')) b r' := by
  have K : Kept (fun j => j = b + 3) W (W.putObj (b + 3) (.loop r')) := Kept.putObj _ _ _ rfl
  have hl := (Array.getElem?_eq_some_iff.1 X.lp).1
  have hb := X.lt
  have h : ∀ {i o}, i ≠ b + 3 → W.heap[i]? = some o → (W.putObj (b + 3) (.loop r')).heap[i]? = some o := fun {i o} hn hh => (K.block i (Array.getElem?_eq_some_iff.1 hh).1 hn).trans hh
  refine ⟨h (by omega) X.res, h (by omega) X.dm, ?_, X.lt, X.K.and (K.mono (fun i h => by have h' : i = b + 3 := h; omega))⟩
  simp [World.putObj, hl]

theorem HoX.fin {b : Nat} (X : HoX w W b r) : W.heap[b + 2]? = some (.deferred (some [])) ∧ (W.putObj (b + 2) (.deferred none)).cell? ⟨w.heap.size + 1, 0, none⟩ = some (.bool true) ∧ Below w.heap.size w (W.putObj (b + 2) (.deferred none)) := by
  have K : Kept (fun j => j = b + 2) W (W.putObj (b + 2) (.deferred none)) := Kept.putObj _ _ _ rfl
  have hb := X.lt
  refine ⟨X.dm, ?_, ?_⟩
  · have h := (K.block (w.heap.size + 1) (Array.getElem?_eq_some_iff.1 X.res).1 (fun h => by have h' : w.heap.size + 1 = b + 2 := h; omega)).trans X.res
    unfold World.cell?; rw [h]; rfl
  · exact ((Kept.refl (fun _ => False) w).trans (X.K.and (K.mono (fun i h => by have h' : i = b + 2 := h; show w.heap.size ≤ i; omega))) (fun _ h => .inr h)).none

end

theorem ret_b2 {a b : Bool} (h : b = a) : Ending.returned (.bool a) = .returned (.bool b) := by rw [h]

end Go.Proofs.YtjfgjmiedmpieaaDoor
