/-
  fits: a node has what its kind allows.
-/
import Derived.Test.YtoonnbagppliaaaDoorDFind
namespace Go.Proofs.YtoonnbagppliaaaDoor
open Go.RowKit

set_option maxRecDepth 100000 in
set_option maxHeartbeats 1000000 in
theorem fits_any (w : World) (x0 : ByteArray) (x1 : Int) (x2 x3 : ByteArray) (x4 x5 : Int) (x6 : List ByteArray) (av : Option Addr) (lv cv : Nat) :
    Calls Tryd.prog 22 #[.agg #[.string x0, .int .i64 x1, .string x2, .string x3, .int .i64 x4, .int .i64 x5, .slice av lv cv]] w fun e w' => e = .returned (.bool (fitsP ⟨x0, x1, x2, x3, x4, x5, x6⟩)) ∧ Kept (fun _ => False) w w' := by
  have s2 := str_empty x2
  have s3 := str_empty x3
  generalize hr : fitsP ⟨x0, x1, x2, x3, x4, x5, x6⟩ = r
  have HR : Hid (fitsP ⟨x0, x1, x2, x3, x4, x5, x6⟩ = r) := hr
  clear hr
  go_enter Tryd.func22, Tryd.ntmps22
  go_wp2
  all_goals go_ret
  all_goals refine ⟨?_, Kept.alloc _ _ _⟩
  all_goals rw [← HR.out]
  all_goals clear HR
  all_goals unfold fitsP
  all_goals simp only []
  all_goals (first | (simp [*]; done) | (simp [*, show ¬ x5 ≤ 10 by omega]; done) | (simp [*, show ¬ 1 ≤ x5 by omega]))

end Go.Proofs.YtoonnbagppliaaaDoor
