/-
  ReadyNodes: the nodes that may begin.
-/
import Derived.Test.YtoonnbagppliaaaDoorDLevP
namespace Go.Proofs.YtoonnbagppliaaaDoor
open Go.RowKit

/-- One name of a node's After is over. -/
def oneP (ns : List Nd) (n : Nd) (l : List Bool) (s : ByteArray) : Bool := match aheadP ns n s with | some j => l.getD j false | none => false
def overP (ns : List Nd) (n : Nd) (l : List Bool) : Bool := n.after.all (oneP ns n l)

theorem over_next {ns : List Nd} {n : Nd} {l : List Bool} {k : Nat} (hk : k < n.after.length) (h : (n.after.take k).all (oneP ns n l) = true) (h1 : oneP ns n l n.after[k] = true) : (n.after.take (k + 1)).all (oneP ns n l) = true := by
  rw [List.take_add_one, List.getElem?_eq_getElem hk, Option.toList_some, List.all_append, h]
  simp [h1]

theorem over_not {ns : List Nd} {n : Nd} {l : List Bool} {k : Nat} (hk : k < n.after.length) (h1 : oneP ns n l n.after[k] = false) : overP ns n l = false := by
  unfold overP
  rw [List.all_eq_false]
  exact ⟨n.after[k], List.getElem_mem hk, by simp [h1]⟩

/-- The nodes that may begin, among the first. -/
def rdyB (ns : List Nd) (lo lb : List Bool) (i : Nat) : Bool := !lb.getD i false && match ns[i]? with | some n => overP ns n lo | none => false
def rdyL (ns : List Nd) (lo lb : List Bool) (k : Nat) : List Nat := (List.range k).filter (rdyB ns lo lb)

theorem rdyL_hit {ns : List Nd} {lo lb : List Bool} {k : Nat} (h : rdyB ns lo lb k = true) : rdyL ns lo lb (k + 1) = rdyL ns lo lb k ++ [k] := by
  unfold rdyL
  rw [List.range_succ, List.filter_append]
  simp [h]

theorem rdyL_miss {ns : List Nd} {lo lb : List Bool} {k : Nat} (h : rdyB ns lo lb k = false) : rdyL ns lo lb (k + 1) = rdyL ns lo lb k := by
  unfold rdyL
  rw [List.range_succ, List.filter_append]
  simp [h]

theorem rdyL_len (ns : List Nd) (lo lb : List Bool) (k : Nat) : (rdyL ns lo lb k).length ≤ k := by
  unfold rdyL
  have := List.length_filter_le (rdyB ns lo lb) (List.range k)
  simpa using this

theorem natsV_snoc (l : List Nat) (i : Nat) : natsV (l ++ [i]) = natsV l ++ [.int .i64 (i : Nat)] := by unfold natsV; simp

end Go.Proofs.YtoonnbagppliaaaDoor
