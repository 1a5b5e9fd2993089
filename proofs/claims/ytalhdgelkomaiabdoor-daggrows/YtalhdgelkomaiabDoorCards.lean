/-
  DERIVED. GIVEN WITH THE SEED: THE CARDS: each row of YtalhdgelkomaiabDoorRows.lean that lists a variable, with what it lists TIED to the program's text (the seventh form; the later family's looks); each row that meets fmt, with fmt's text TOLD by the authors' own Lean function (tested against real Go, not proved from fmt's source: count such statements apart). THE CARD IS WHAT COUNTS. Prove the row's statement (the work); the ties are given (YtalhdgelkomaiabDoorTie.lean); close each card by the builder's one call (the guide's Derived/Test/ToyasCard.lean, 'card_holds'). Laid BY PROGRAM, IN A SANDBOX (cutbox-door.mjs). By AI agents, Wed Nov 11 2026. No macro, syntax, notation, axiom, sorry.
-/
import Derived.Test.YtalhdgelkomaiabDoorRows
import GoSem.ClaimSeven
namespace Go.Proofs.YtalhdgelkomaiabDoor
namespace Rows

/-- THE TIED CARD OF 'tillerlaw08.DagGrows'. -/
def dagGrowsCard : Claim7 := { stood := { row := dagGrowsRow, standIns := [], harness := (true, "e5d50e7ccbec869de76ac81af5000133735f0c3c36457b9a730c2c2fa8003331"), looks := true }, kinds := [], alts := [], laidByText := true, laidKinds := [.data, .data, .data, .sentinel, .sentinel], laidTests := true, laidLooks := .later }
def DagGrowsCardSaid : Prop := Claim7.holds Tryd.pinned (.plain (OpenSpec.ofChange dagGrowsSpec)) dagGrowsCard

/-- THE SECOND FORM's CARD OF 'tillerlaw08.DagGrows'. -/
def dagGrowsUptoCard : Claim7 := { stood := { row := dagGrowsUptoRow, standIns := [], harness := (true, "e5d50e7ccbec869de76ac81af5000133735f0c3c36457b9a730c2c2fa8003331"), looks := true }, kinds := [], alts := [], laidByText := true, laidKinds := [.data, .data, .data, .sentinel, .sentinel], laidTests := true, laidLooks := .later }
def DagGrowsUptoCardSaid : Prop := Claim7.holds Tryd.pinned (.plain (OpenSpec.upto dagGrowsSpec)) dagGrowsUptoCard
end Rows
end Go.Proofs.YtalhdgelkomaiabDoor
