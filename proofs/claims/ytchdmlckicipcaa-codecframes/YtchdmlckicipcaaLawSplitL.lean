/-
  A row of rows of bytes.
-/
import Derived.Test.YtchdmlckicipcaaCFrames
namespace Go.Proofs.Ytchdmlckicipcaa
open Go.RowKit Go.Shelf

abbrev PX := Option Addr × Nat × Nat × List Int

/-- A row of rows of bytes. -/
structure LAt (w : World) (a : Option Addr) (n c : Nat) (xs : List PX) : Prop where
  len : xs.length = n
  cap : n ≤ c
  cells : ∀ ad, a = some ad → 0 < n → ad.spot = none ∧ ∀ i x, xs[i]? = some x → w.cell? ⟨ad.block, ad.off + i, none⟩ = some (.slice x.1 x.2.1 x.2.2.1)
  bytes : ∀ x ∈ xs, BytesAt w x.1 x.2.1 x.2.2.1 x.2.2.2
  nil : a = none → n = 0

end Go.Proofs.Ytchdmlckicipcaa
