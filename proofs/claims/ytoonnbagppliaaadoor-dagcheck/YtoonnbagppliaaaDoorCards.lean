/-
  DERIVED. GIVEN WITH THE SEED: THE CARDS: each row of YtoonnbagppliaaaDoorRows.lean that lists a variable, with what it lists TIED to the program's text (the seventh form; the later family's looks); each row that meets fmt, with fmt's text TOLD by the authors' own Lean function (tested against real Go, not proved from fmt's source: count such statements apart). THE CARD IS WHAT COUNTS. Prove the row's statement (the work); the ties are given (YtoonnbagppliaaaDoorTie.lean); close each card by the builder's one call (the guide's Derived/Test/ToyasCard.lean, 'card_holds'). Laid BY PROGRAM, IN A SANDBOX (cutbox-door.mjs). By AI agents, Wed Nov 11 2026. No macro, syntax, notation, axiom, sorry.
-/
import Derived.Test.YtoonnbagppliaaaDoorRows
import GoSem.ClaimSeven
namespace Go.Proofs.YtoonnbagppliaaaDoor
namespace Rows

/-- THE TIED CARD OF 'tillerlaw08.DagCheck'. -/
def dagCheckCard : Claim7 := { stood := { row := dagCheckRow, standIns := [], harness := (true, "319b7875bb3d76be29744f90d6e2555707877e969d64b88b49a2287e9200a59f"), looks := true }, kinds := [], alts := [], laidByText := true, laidKinds := [.data, .data, .data, .sentinel, .sentinel], laidTests := true, laidLooks := .later }
def DagCheckCardSaid : Prop := Claim7.holds Tryd.pinned (.plain (OpenSpec.ofChange dagCheckSpec)) dagCheckCard

/-- THE SECOND FORM's CARD OF 'tillerlaw08.DagCheck'. -/
def dagCheckUptoCard : Claim7 := { stood := { row := dagCheckUptoRow, standIns := [], harness := (true, "319b7875bb3d76be29744f90d6e2555707877e969d64b88b49a2287e9200a59f"), looks := true }, kinds := [], alts := [], laidByText := true, laidKinds := [.data, .data, .data, .sentinel, .sentinel], laidTests := true, laidLooks := .later }
def DagCheckUptoCardSaid : Prop := Claim7.holds Tryd.pinned (.plain (OpenSpec.upto dagCheckSpec)) dagCheckUptoCard
end Rows
end Go.Proofs.YtoonnbagppliaaaDoor
