/-
  What the end of CodecSplit's walk wants.
-/
import Derived.Test.YtchdmlckicipcaaCSplitP
import Derived.Test.YtchdmlckicipcaaCWakes
namespace Go.Proofs.Ytchdmlckicipcaa
open Go.RowKit Go.Shelf

/-- The code goes on behind its end, and no other way. -/
def onlyN (K : Act → World → Prop) : Exit → Act → World → Prop
  | .normal, a, w => K a w
  | _, _, _ => False

theorem wpIn_onlyN {F : Fence} {n : Nat} {P : Program} {c : Code} {Q : Exit → Act → World → Prop} {a : Act} {w : World} (h : c.wpIn F n P (onlyN (fun a w => Q .normal a w)) a w) : c.wpIn F n P Q a w :=
  wpIn_mono h (fun e a w hh => by
    cases e <;> first | exact hh | exact hh.elim)

end Go.Proofs.Ytchdmlckicipcaa
