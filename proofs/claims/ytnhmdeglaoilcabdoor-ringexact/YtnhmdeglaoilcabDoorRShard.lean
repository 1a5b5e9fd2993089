/-
  Shard: a workflow's shard, the document's beside it; clip.
-/
import Derived.Test.YtnhmdeglaoilcabDoorRRef
namespace Go.Proofs.YtnhmdeglaoilcabDoor
open Go.RowKit Go.Sort

/-- A text that is not too long. -/
def clipS (s : ByteArray) : ByteArray := if 500 < s.size then s.extract 0 500 else s

theorem clipS_size (s : ByteArray) : (clipS s).size ≤ 500 := by
  unfold clipS
  split
  · simp; omega
  · omega

set_option maxRecDepth 100000 in
set_option maxHeartbeats 400000 in
theorem clip_any (w : World) (s : ByteArray) :
    Calls Tryd.prog 17 #[.string s] w fun e w' => e = .returned (.string (clipS s)) ∧ w' = w := by
  unfold clipS
  by_cases h : 500 < s.size
  · have h2 : (500 : Int) < (s.size : Int) := by omega
    have h3 : (500 : Int) ≤ (s.size : Int) := by omega
    rw [if_pos h]
    go_enter Tryd.func17, Tryd.ntmps17
    go_wp2
    go_ret
    exact ⟨rfl, rfl⟩
  · have h2 : ¬ (500 : Int) < (s.size : Int) := by omega
    rw [if_neg h]
    go_enter Tryd.func17, Tryd.ntmps17
    go_wp2
    go_ret
    exact ⟨rfl, rfl⟩


end Go.Proofs.YtnhmdeglaoilcabDoor
