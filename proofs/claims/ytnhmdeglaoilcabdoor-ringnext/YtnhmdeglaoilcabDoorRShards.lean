/-
  Shards: those that are a host's.
-/
import Derived.Test.YtnhmdeglaoilcabDoorRHosts
namespace Go.Proofs.YtnhmdeglaoilcabDoor
open Go.RowKit Go.Sort

/-- Whose what lies at p is: the number of a host, if there is one. -/
def hostAt (l : List Sp) (p : Pt) : Option Int := (l[l.countP (fun x => ahead x.1 p) % l.length]?).map (·.2)

theorem hostAt_nil (p : Pt) : hostAt [] p = none := rfl

theorem hostAt_next {l : List Sp} {p : Pt} {x : Sp} (hs : l.Pairwise noLater) (hx : IsNext l p x) : hostAt l p = some x.2 := by
  have h0 : 0 < l.length := List.length_pos_of_mem hx.1
  have hlt : l.countP (fun x => ahead x.1 p) % l.length < l.length := Nat.mod_lt _ h0
  have h1 := isNext_at p l hs h0 hlt
  unfold hostAt
  rw [List.getElem?_eq_getElem hlt, h1.unique hx]
  rfl

/-- Is shard j host h's? -/
def own (l : List Sp) (h : Int) (j : Nat) : Bool := hostAt l (shardPt j) == some h
/-- A host's shards among the first n. -/
def shL (l : List Sp) (h : Int) (n : Nat) : List Nat := (List.range n).filter (own l h)

theorem shL_next (l : List Sp) (h : Int) (k : Nat) : shL l h (k + 1) = shL l h k ++ (if own l h k then [k] else []) := by
  unfold shL
  rw [List.range_succ, List.filter_append]
  congr 1
  cases hk : own l h k
  · simp [hk]
  · simp [hk]

theorem shL_len (l : List Sp) (h : Int) (n : Nat) : (shL l h n).length ≤ n := by
  have := List.length_filter_le (own l h) (List.range n)
  rw [List.length_range] at this
  exact this

def nats (l : List Nat) : List Value := l.map (fun j : Nat => Value.int .i64 (j : Int))

theorem nats_ints (l : List Nat) : nats l = (l.map (fun j : Nat => (j : Int))).map (Value.int .i64) := by
  unfold nats
  rw [List.map_map]
  rfl

/-- Host at a number below a hundred, told by hostAt. -/
theorem hostDet_any (w : World) (rb : Nat) (l : List Sp) (R : RingAt w rb l) (hs : l.Pairwise noLater) (s : Nat) (h : s < 100) :
    Calls Tryd.prog 11 #[.pointer (some ⟨rb, 0, none⟩), .int .i64 (s : Int)] w fun e w' => e = .returned (.tuple #[.int .i64 ((hostAt l (shardPt s)).getD 0), .bool (hostAt l (shardPt s)).isSome]) ∧ Kept (fun _ => False) w w' :=
  (hostSmall_any w rb l R hs s h).mono fun e w' ⟨K, hc⟩ => by
    refine ⟨?_, K⟩
    rcases hc with ⟨hl, he⟩ | ⟨x, hx, he⟩
    · rw [he, hl, hostAt_nil]; rfl
    · rw [he, hostAt_next hs hx]; rfl


end Go.Proofs.YtnhmdeglaoilcabDoor
