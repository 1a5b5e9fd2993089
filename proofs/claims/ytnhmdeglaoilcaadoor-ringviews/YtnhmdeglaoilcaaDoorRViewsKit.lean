/-
  What the walk of RingViews shares: the two views' blocks, the copies, a view handed in.
-/
import Derived.Test.YtnhmdeglaoilcaaDoorRViews13
import Derived.Test.YtnhmdeglaoilcaaDoorRSpoil
namespace Go.Proofs.YtnhmdeglaoilcaaDoor
open Go.RowKit Go.Sort

/-- The two views lie at the start's end, their lists are the caller's. -/
structure VSt (w V : World) (x1 : Int) (a1 : Option Addr) (n1 c1 : Nat) (l1 : List Int) (x2 : Int) (a2 : Option Addr) (n2 c2 : Nat) (l2 : List Int) : Prop where
  k0 : V.cell? ⟨w.heap.size, 0, none⟩ = some (.int .i64 x1)
  k1 : V.cell? ⟨w.heap.size, 1, none⟩ = some (.slice a1 n1 c1)
  k2 : V.cell? ⟨w.heap.size + 1, 0, none⟩ = some (.int .i64 x2)
  k3 : V.cell? ⟨w.heap.size + 1, 1, none⟩ = some (.slice a2 n2 c2)
  w1 : IntsAt w a1 n1 c1 l1
  w2 : IntsAt w a2 n2 c2 l2
  K : Kept (fun _ => False) w V

section
variable {w V V' : World} {x1 : Int} {a1 : Option Addr} {n1 c1 : Nat} {l1 : List Int} {x2 : Int} {a2 : Option Addr} {n2 c2 : Nat} {l2 : List Int}

theorem VSt.I1 (A : VSt w V x1 a1 n1 c1 l1 x2 a2 n2 c2 l2) : IntsAt V a1 n1 c1 l1 := A.w1.kept A.K (fun _ _ _ h => h)
theorem VSt.I2 (A : VSt w V x1 a1 n1 c1 l1 x2 a2 n2 c2 l2) : IntsAt V a2 n2 c2 l2 := A.w2.kept A.K (fun _ _ _ h => h)
theorem VSt.sz (A : VSt w V x1 a1 n1 c1 l1 x2 a2 n2 c2 l2) : w.heap.size + 1 < V.heap.size := World.block_lt_of_cell? V _ A.k2

theorem cellKS {S : Nat → Prop} {w w' : World} {a : Addr} {v : Value} (K : Kept S w w') (h : w.cell? a = some v) (hs : ¬ S a.block) : w'.cell? a = some v :=
  (World.cell?_of_block (K.block _ (World.block_lt_of_cell? w _ h) hs)).trans h

theorem VSt.kept {S : Nat → Prop} (A : VSt w V x1 a1 n1 c1 l1 x2 a2 n2 c2 l2) (K : Kept S V V') (hS : ∀ k, S k → w.heap.size + 2 ≤ k) : VSt w V' x1 a1 n1 c1 l1 x2 a2 n2 c2 l2 :=
  ⟨cellKS K A.k0 (fun h => by have h5 := hS _ h; simp only at h5; omega), cellKS K A.k1 (fun h => by have h5 := hS _ h; simp only at h5; omega), cellKS K A.k2 (fun h => by have h5 := hS _ h; simp only at h5; omega), cellKS K A.k3 (fun h => by have h5 := hS _ h; simp only at h5; omega), A.w1, A.w2,
    A.K.trans K (fun i h => .inr (by have h5 := hS i h; omega))⟩

theorem VSt.start (w1 : IntsAt w a1 n1 c1 l1) (w2 : IntsAt w a2 n2 c2 l2) : VSt w ((w.alloc (.cells #[.int .i64 x1, .slice a1 n1 c1] 68)).alloc (.cells #[.int .i64 x2, .slice a2 n2 c2] 68)) x1 a1 n1 c1 l1 x2 a2 n2 c2 l2 := by
  have h1 : (w.alloc (.cells #[.int .i64 x1, .slice a1 n1 c1] 68)).heap.size = w.heap.size + 1 := by simp
  have k1 := Kept.alloc (fun _ => False) (w.alloc (.cells #[.int .i64 x1, .slice a1 n1 c1] 68)) (.cells #[.int .i64 x2, .slice a2 n2 c2] 68)
  have b0 := (k1.block w.heap.size (by omega) (fun h => h)).trans (heap_alloc_new w (.cells #[.int .i64 x1, .slice a1 n1 c1] 68))
  have b1 := heap_alloc_new (w.alloc (.cells #[.int .i64 x1, .slice a1 n1 c1] 68)) (.cells #[.int .i64 x2, .slice a2 n2 c2] 68)
  rw [h1] at b1
  obtain ⟨p0, p1, _, _⟩ := viewCells b0
  obtain ⟨q0, q1, _, _⟩ := viewCells b1
  exact ⟨p0, p1, q0, q1, w1, w2, (Kept.alloc _ _ _).and k1⟩

theorem VSt.past (A : VSt w V x1 a1 n1 c1 l1 x2 a2 n2 c2 l2) :
    (∀ X, (V.alloc X).cell? ⟨w.heap.size, 0, none⟩ = some (.int .i64 x1)) ∧ (∀ X, (V.alloc X).cell? ⟨w.heap.size, 1, none⟩ = some (.slice a1 n1 c1)) ∧ (∀ X, (V.alloc X).cell? ⟨w.heap.size + 1, 0, none⟩ = some (.int .i64 x2)) ∧ (∀ X, (V.alloc X).cell? ⟨w.heap.size + 1, 1, none⟩ = some (.slice a2 n2 c2)) ∧
    (∀ X Y, ((V.alloc X).alloc Y).cell? ⟨w.heap.size, 0, none⟩ = some (.int .i64 x1)) ∧ (∀ X Y, ((V.alloc X).alloc Y).cell? ⟨w.heap.size, 1, none⟩ = some (.slice a1 n1 c1)) ∧ (∀ X Y, ((V.alloc X).alloc Y).cell? ⟨w.heap.size + 1, 0, none⟩ = some (.int .i64 x2)) ∧ (∀ X Y, ((V.alloc X).alloc Y).cell? ⟨w.heap.size + 1, 1, none⟩ = some (.slice a2 n2 c2)) := by
  have B := fun X => A.kept (Kept.alloc (fun _ => False) V X) (fun _ h => h.elim)
  have C := fun X Y => (B X).kept (Kept.alloc (fun _ => False) _ Y) (fun _ h => h.elim)
  exact ⟨fun X => (B X).k0, fun X => (B X).k1, fun X => (B X).k2, fun X => (B X).k3, fun X Y => (C X Y).k0, fun X Y => (C X Y).k1, fun X Y => (C X Y).k2, fun X Y => (C X Y).k3⟩

end

theorem intsOfRowN {w : World} {base n : Nat} {a : Option Addr} {c : Nat} {l : List Int} (h : w.ownsRow base 3 1 (.slice a n c) n (l.map (Value.int .i64))) (hl : l.length = n) : IntsAt w a n c l := by
  subst hl; exact intsOfRow h

/-- The first comparison: the copy against the one that is wanted. -/
theorem viewsInts {w3 : World} {x y : Int} {a3 aw : Option Addr} {n c3 cw base : Nat} {l : List Int} (ho : w3.ownsRow base 3 1 (.slice a3 n c3) n (l.map (Value.int .i64))) (Iw : IntsAt w3 aw n cw l) (hn : n ≤ 1000) :
    Calls Tryd.prog 19 #[.slice a3 n c3, .slice aw n cw] ((w3.alloc (.cells #[.int .i64 x, .slice a3 n c3] 68)).alloc (.cells #[.int .i64 y, .slice aw n cw] 68)) fun e w' =>
      e = .returned (.bool true) ∧ Kept (fun _ => False) w3 w' ∧ w'.cell? ⟨w3.heap.size, 1, none⟩ = some (.slice a3 n c3) ∧ w'.cell? ⟨w3.heap.size + 1, 1, none⟩ = some (.slice aw n cw) := by
  have I3 := intsOfRowN ho Iw.len
  have A := VSt.start (x1 := x) (x2 := y) I3 Iw
  refine (ints_same _ a3 aw n c3 cw l A.I1 A.I2 (by omega)).mono ?_
  rintro e w' ⟨rfl, m, rfl⟩
  have B := A.kept (Kept.drewN (fun _ => False) _ m) (fun _ h => h.elim)
  exact ⟨rfl, B.K, B.k1, B.k3⟩

theorem keptNew {w w' : World} {n : Nat} {T : TypeId} (hg : (w.alloc (.cells #[] T)).grownBy w' (Value.slice (some ⟨w.heap.size, 0, none⟩) n n).ownBlock) : Kept (fun _ => False) w w' :=
  (Kept.alloc (fun _ => False) w (.cells #[] T)).trans (Kept.grown (S := fun j => j = w.heap.size) hg (fun j e => (Option.some.inj (show some w.heap.size = some j from e)).symm)) (fun i h => .inr (by have h' : i = w.heap.size := h; omega))

end Go.Proofs.YtnhmdeglaoilcaaDoor
