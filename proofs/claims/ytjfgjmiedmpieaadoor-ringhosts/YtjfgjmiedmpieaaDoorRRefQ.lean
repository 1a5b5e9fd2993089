/-
  The document's ring on its way: its spots and its hosts, two rows of their own.
-/
import Derived.Test.YtjfgjmiedmpieaaDoorRPut
namespace Go.Proofs.YtjfgjmiedmpieaaDoor
open Go.RowKit Go.Sort

/-- The document's ring in memory: spots l, hosts hs, each row in a block of its own. -/
structure QSt (w : World) (rb : Nat) (l : List Sp) (hs : List Int) : Prop where
  ok : ∃ vL vH, w.heap[rb]? = some (.cells #[vL, vH] 37 (0, 0)) ∧ w.ownsRow (rb + 1) 49 3 vL l.length (sp3 l) ∧ w.ownsRow (rb + 1) 3 1 vH hs.length (hs.map (Value.int .i64)) ∧ ∀ g, vL.ownBlock = some g → vH.ownBlock ≠ some g

theorem QSt.kept {w w' : World} {rb : Nat} {l : List Sp} {hs : List Int} (Q : QSt w rb l hs) (K : Kept (fun _ => False) w w') : QSt w' rb l hs := by
  obtain ⟨vL, vH, h, h1, h2, h3⟩ := Q.ok
  exact ⟨vL, vH, (K.block rb (Array.getElem?_eq_some_iff.1 h).1 (fun h => h)).trans h, rowKept h1 K (fun _ _ h => h), rowKept h2 K (fun _ _ h => h), h3⟩

theorem QSt.new (w : World) : QSt (w.alloc (.cells #[.slice none 0 0, .slice none 0 0] 37)) w.heap.size [] [] :=
  ⟨_, _, heap_alloc_new _ _, World.ownsRow_nil _ _ _ _, World.ownsRow_nil _ _ _ _, fun g h => by cases h⟩

/-- As Host and Shards want it. -/
theorem QSt.ref {w : World} {rb : Nat} {l : List Sp} {hs : List Int} (Q : QSt w rb l hs) (hf : l.length ≤ 1048576) : RefAt w rb l := by
  obtain ⟨vL, vH, h, h1, h2, h3⟩ := Q.ok
  obtain ⟨a, c, rfl⟩ := ownsRow_shape h1
  refine ⟨⟨a, c, by unfold World.cell?; rw [h]; rfl, ?_⟩, hf⟩
  rcases h1.2 with ⟨e, h0⟩ | ⟨g, cap, cur, e, hb, _⟩
  · simp only [Value.slice.injEq] at e
    exact .inl ⟨e.1, List.eq_nil_of_length_eq_zero h0⟩
  · simp only [Value.slice.injEq] at e
    obtain ⟨rfl, _, rfl⟩ := e
    exact .inr ⟨g, rfl, (h1.lt g rfl).2, rspOfRow h1⟩

theorem QSt.hosts {w : World} {rb : Nat} {l : List Sp} {hs : List Int} (Q : QSt w rb l hs) : ∃ a c, w.cell? ⟨rb, 1, none⟩ = some (.slice a hs.length c) ∧ IntsAt w a hs.length c hs := by
  obtain ⟨vL, vH, h, h1, h2, h3⟩ := Q.ok
  obtain ⟨a, c, rfl⟩ := ownsRow_shape h2
  exact ⟨a, c, by unfold World.cell?; rw [h]; rfl, intsOfRow h2⟩

theorem put_any (w : World) (rb : Nat) (l : List Sp) (hs : List Int) (x : Sp) (Q : QSt w rb l hs) (hfew : l.length ≤ 1048575) :
    Calls Tryd.prog 22 #[.pointer (some ⟨rb, 0, none⟩), .agg #[.int .i64 x.1.1, .int .i64 x.1.2, .int .i64 x.2]] w fun e w' => e = .returned (.tuple #[]) ∧ (∃ k, PutAt l x k ∧ QSt w' rb (l.take k ++ [x] ++ l.drop k) hs) ∧ Kept (fun j => j = rb) w w' := by
  obtain ⟨vL, vH, h, h1, h2, h3⟩ := Q.ok
  have hrb := (Array.getElem?_eq_some_iff.1 h).1
  have fin : ∀ (e : Ending) (w' : World), (e = .returned (.tuple #[]) ∧ ∃ k v', PutAt l x k ∧ w'.heap[rb]? = some (.cells #[v', vH] 37 (0, 0)) ∧ w'.ownsRow w.heap.size 49 3 v' (l.length + 1) (sp3 (l.take k ++ [x] ++ l.drop k)) ∧ Kept (fun j => j = rb) w w') → e = .returned (.tuple #[]) ∧ (∃ k, PutAt l x k ∧ QSt w' rb (l.take k ++ [x] ++ l.drop k) hs) ∧ Kept (fun j => j = rb) w w' := by
    rintro e w' ⟨rfl, k, v', hp, hr, ho, K⟩
    refine ⟨rfl, ⟨k, hp, ⟨v', vH, hr, ?_, ?_, fun g hg hg2 => ?_⟩⟩, K⟩
    · have hl : (l.take k ++ [x] ++ l.drop k).length = l.length + 1 := by have := hp.1; simp; omega
      rw [hl]
      exact ownsRow_mono ho hrb
    · exact rowKeepS h2 K (fun j hj e => by have := (h2.lt j hj).1; have e' : j = rb := e; omega)
    · have e1 := (ho.lt g hg).1
      have e2 := (h2.lt g hg2).2
      omega
  rcases h1.2 with ⟨rfl, h0⟩ | ⟨g, cap, cur, rfl, hb, _⟩
  · obtain rfl : l = [] := List.eq_nil_of_length_eq_zero h0
    exact (put_nil w rb x vH h).mono (fun e w' hh => fin e w' hh)
  · exact (put_some w rb (rb + 1) g cap l x vH h h1 hfew).mono (fun e w' hh => fin e w' hh)

/-- A host more. -/
theorem QSt.host {w V W : World} {rb : Nat} {l : List Sp} {hs : List Int} {vL vH : Value} {a3 : Option Addr} {n c3 : Nat} {h : Int} (hh : w.heap[rb]? = some (.cells #[vL, vH] 37 (0, 0))) (h1 : w.ownsRow (rb + 1) 49 3 vL l.length (sp3 l)) (h2 : w.ownsRow (rb + 1) 3 1 vH hs.length (hs.map (Value.int .i64))) (h3 : ∀ g, vL.ownBlock = some g → vH.ownBlock ≠ some g)
    (KV : Kept (fun _ => False) w V) (hg : V.grownBy W vH.ownBlock) (hn : n = hs.length + 1) (ho : W.ownsRow (rb + 1) 3 1 (.slice a3 n c3) n (hs.map (Value.int .i64) ++ [.int .i64 h])) (hl : (Value.slice a3 n c3).ownBlock = vH.ownBlock ∨ (Value.slice a3 n c3).ownBlock = some V.heap.size) :
    QSt (W.setCell ⟨rb, 1, none⟩ (.slice a3 n c3)) rb l (hs ++ [h]) ∧ Kept (fun j => rb ≤ j) w (W.setCell ⟨rb, 1, none⟩ (.slice a3 n c3)) := by
  subst hn
  have hrb := (Array.getElem?_eq_some_iff.1 hh).1
  have hrV : V.heap[rb]? = _ := (KV.block rb hrb (fun h => h)).trans hh
  have KG : Kept (fun j => vH.ownBlock = some j) V W := Kept.grown hg (fun j e => e)
  have hrW : W.heap[rb]? = _ := (KG.block rb (by have := KV.size; omega) (fun e => by have := (h2.lt rb e).1; omega)).trans hrV
  have KS : Kept (fun j => j = rb) W (W.setCell ⟨rb, 1, none⟩ (.slice a3 (hs.length + 1) c3)) := Kept.setCell _ _ _ rfl
  have hlV := KV.size
  refine ⟨⟨vL, .slice a3 (hs.length + 1) c3, by simp [World.setCell, Array.getElem?_modify, hrW], ?_, ?_, fun g hg1 hg2 => ?_⟩, ?_⟩
  · refine rowKeepS (rowKeepS (rowKept h1 KV (fun _ _ h => h)) KG (fun j hj => h3 j hj)) KS (fun j hj e => ?_)
    have := (h1.lt j hj).1
    have e' : j = rb := e
    omega
  · rw [List.length_append, List.map_append]
    refine rowKeepS ho KS (fun j hj e => ?_)
    have := (ho.lt j hj).1
    have e' : j = rb := e
    omega
  · rcases hl with e | e
    · rw [e] at hg2
      exact h3 g hg1 hg2
    · rw [e] at hg2
      have e5 := (h1.lt g hg1).2
      cases hg2
      omega
  · refine ((KV.mono (fun _ h => h.elim)).and (KG.mono (fun j e => ?_))).and (KS.mono (fun j e => by have e' : j = rb := e; omega))
    have := (h2.lt j e).1
    omega

end Go.Proofs.YtjfgjmiedmpieaaDoor
