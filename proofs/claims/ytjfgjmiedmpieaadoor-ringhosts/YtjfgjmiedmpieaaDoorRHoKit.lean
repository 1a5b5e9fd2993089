/-
  What RingHosts lays down: its boxes, the ring and the document's ring.
-/
import Derived.Test.YtjfgjmiedmpieaaDoorRItoa
import Derived.Test.YtjfgjmiedmpieaaDoorRRefNew
import Derived.Test.YtjfgjmiedmpieaaDoorRRefShards
import Derived.Test.YtjfgjmiedmpieaaDoorRSpoil
import Derived.Test.YtjfgjmiedmpieaaDoorRAll
namespace Go.Proofs.YtjfgjmiedmpieaaDoor
open Go.RowKit Go.Shelf Go.Sort

theorem two_new (w : World) (o0 o1 : Obj) {X : World} (hX : (w.alloc o0).alloc o1 = X) :
    X.heap[w.heap.size]? = some o0 ∧ X.heap[w.heap.size + 1]? = some o1 ∧ X.heap.size = w.heap.size + 2 ∧ Kept (fun _ => False) w X := by
  subst hX
  have h1 : (w.alloc o0).heap.size = w.heap.size + 1 := by simp
  refine ⟨?_, ?_, by simp, (Kept.alloc _ _ _).and (Kept.alloc _ _ _)⟩
  · rw [(Kept.alloc (fun _ => False) (w.alloc o0) o1).block _ (by omega) (fun h => h), heap_alloc_new]
  · rw [← h1, heap_alloc_new]

theorem NewPost.ok {w : World} {zs : List Int} {p : Int} {e : Ending} {w' : World} (h : NewPost w zs p e w') (hok : Right zs ∧ 1 ≤ p ∧ p ≤ 64) : Kept (fun _ => False) w w' ∧ ∃ rb l, e = .returned (.tuple #[.pointer (some ⟨rb, 0, none⟩), .int .i64 0]) ∧ l.Perm (allSpots zs p.toNat) ∧ l.Pairwise noLater ∧ RingAt w' rb l := by
  obtain ⟨K, ⟨hn, _⟩ | ⟨_, h⟩⟩ := h
  · exact absurd hok hn
  · exact ⟨K, h⟩
theorem NewPost.no {w : World} {zs : List Int} {p : Int} {e : Ending} {w' : World} (h : NewPost w zs p e w') (hno : ¬ (Right zs ∧ 1 ≤ p ∧ p ≤ 64)) : e = .returned (.tuple #[.pointer none, .int .i64 1]) ∧ Kept (fun _ => False) w w' := by
  obtain ⟨K, ⟨_, he⟩ | ⟨h, _⟩⟩ := h
  · exact ⟨he, K⟩
  · exact absurd h hno
theorem RNewPost.ok {w : World} {zs : List Int} {p : Int} {e : Ending} {w' : World} (h : RNewPost w zs p e w') (hok : Right zs ∧ 1 ≤ p ∧ p ≤ 64) : Kept (fun _ => False) w w' ∧ ∃ rb l, e = .returned (.tuple #[.pointer (some ⟨rb, 0, none⟩), .int .i64 0]) ∧ l.Perm (allSpots zs p.toNat) ∧ l.Pairwise noLater ∧ QSt w' rb l (refHosts zs 16) := by
  obtain ⟨K, ⟨hn, _⟩ | ⟨_, h⟩⟩ := h
  · exact absurd hok hn
  · exact ⟨K, h⟩
theorem RNewPost.no {w : World} {zs : List Int} {p : Int} {e : Ending} {w' : World} (h : RNewPost w zs p e w') (hno : ¬ (Right zs ∧ 1 ≤ p ∧ p ≤ 64)) : e = .returned (.tuple #[.pointer none, .int .i64 1]) ∧ Kept (fun _ => False) w w' := by
  obtain ⟨K, ⟨_, he⟩ | ⟨h, _⟩⟩ := h
  · exact ⟨he, K⟩
  · exact absurd h hno

/-- The two first boxes: the answer, the stop. -/
structure BxSt (w W : World) (stop : Int) (sb : Nat) : Prop where
  res : W.heap[w.heap.size + 1]? = some (.cells #[.bool false] 4 (0, 0))
  stp : W.heap[sb]? = some (.cells #[.int .i64 stop] 3 (0, 0))
  ne : w.heap.size + 1 < sb
  K : Kept (fun _ => False) w W

theorem BxSt.kept {w W V : World} {stop : Int} {sb : Nat} (B : BxSt w W stop sb) (K : Kept (fun _ => False) W V) : BxSt w V stop sb :=
  ⟨(K.block _ (Array.getElem?_eq_some_iff.1 B.res).1 (fun h => h)).trans B.res, (K.block _ (Array.getElem?_eq_some_iff.1 B.stp).1 (fun h => h)).trans B.stp, B.ne, B.K.and K⟩

theorem BxSt.cells {w W : World} {stop : Int} {sb : Nat} (B : BxSt w W stop sb) : W.cell? ⟨w.heap.size + 1, 0, none⟩ = some (.bool false) ∧ W.frozen? ⟨w.heap.size + 1, 0, none⟩ = false ∧ W.cell? ⟨sb, 0, none⟩ = some (.int .i64 stop) :=
  ⟨by unfold World.cell?; rw [B.res]; rfl, by unfold World.frozen?; rw [B.res]; rfl, by unfold World.cell?; rw [B.stp]; rfl⟩

/-- The answer is laid down: nothing that was there is touched. -/
theorem BxSt.ends {w W : World} {stop : Int} {sb : Nat} (B : BxSt w W stop sb) : (W.setCell ⟨w.heap.size + 1, 0, none⟩ (.bool true)).cell? ⟨w.heap.size + 1, 0, none⟩ = some (.bool true) ∧ Below w.heap.size w (W.setCell ⟨w.heap.size + 1, 0, none⟩ (.bool true)) := by
  refine ⟨World.cell?_setCell_same' W ⟨w.heap.size + 1, 0, none⟩ _ (by rw [B.cells.1]; rfl), ?_⟩
  exact (B.K.trans (Kept.setCell (S := fun j => j = w.heap.size + 1) W ⟨w.heap.size + 1, 0, none⟩ (.bool true) rfl) (fun i h => .inr (by have h' : i = w.heap.size + 1 := h; omega))).none

/-- Both rings. -/
structure TwoSt (w W : World) (stop : Int) (sb bq rb qb : Nat) (L : List Sp) (hs : List Int) : Prop where
  bx : BxSt w W stop sb
  qbx : W.heap[bq]? = some (.cells #[.pointer (some ⟨qb, 0, none⟩)] 29 (0, 0))
  neq : w.heap.size + 1 < bq
  R : RingAt W rb L
  Q : QSt W qb L hs

theorem TwoSt.kept {w W V : World} {stop : Int} {sb bq rb qb : Nat} {L : List Sp} {hs : List Int} (B : TwoSt w W stop sb bq rb qb L hs) (K : Kept (fun _ => False) W V) : TwoSt w V stop sb bq rb qb L hs :=
  ⟨B.bx.kept K, (K.block _ (Array.getElem?_eq_some_iff.1 B.qbx).1 (fun h => h)).trans B.qbx, B.neq, B.R.kept K, B.Q.kept K⟩

theorem TwoSt.q {w W : World} {stop : Int} {sb bq rb qb : Nat} {L : List Sp} {hs : List Int} (B : TwoSt w W stop sb bq rb qb L hs) : W.cell? ⟨bq, 0, none⟩ = some (.pointer (some ⟨qb, 0, none⟩)) := by unfold World.cell?; rw [B.qbx]; rfl

end Go.Proofs.YtjfgjmiedmpieaaDoor
