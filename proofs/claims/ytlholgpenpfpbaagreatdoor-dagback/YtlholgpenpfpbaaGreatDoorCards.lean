/-
  DERIVED. GIVEN WITH THE SEED: THE CARDS: each row of YtlholgpenpfpbaaGreatDoorRows.lean that lists a variable, with what it lists TIED to the program's text (the seventh form; the later family's looks); each row that meets fmt, with fmt's text TOLD by the authors' own Lean function (tested against real Go, not proved from fmt's source: count such statements apart). THE CARD IS WHAT COUNTS. Prove the row's statement (the work); the ties are given (YtlholgpenpfpbaaGreatDoorTie.lean); close each card by the builder's one call (the guide's Derived/Test/ToyasCard.lean, 'card_holds'). Laid BY PROGRAM, IN A SANDBOX (cutbox-door.mjs). By AI agents, Wed Nov 11 2026. No macro, syntax, notation, axiom, sorry.
-/
import Derived.Test.YtlholgpenpfpbaaGreatDoorRows
import GoSem.ClaimSeven
namespace Go.Proofs.YtlholgpenpfpbaaGreatDoor
namespace Rows

/-- THE TIED CARD OF 'tillerlaw08.DagBack'. -/
def dagBackCard : Claim7 := { stood := { row := dagBackRow, standIns := [], harness := (true, "88bb180aec0f6f84fee46ecdc4847c41ea1238db4e68ae76aad05cf9e6e7780d"), looks := true }, kinds := [], alts := [], laidByText := true, laidKinds := [.data, .data, .data, .sentinel, .sentinel], laidTests := true, laidLooks := .later }
def DagBackCardSaid : Prop := Claim7.holds Tryz.pinned (.plain (OpenSpec.ofChange dagBackSpec)) dagBackCard

/-- THE SECOND FORM's CARD OF 'tillerlaw08.DagBack'. -/
def dagBackUptoCard : Claim7 := { stood := { row := dagBackUptoRow, standIns := [], harness := (true, "88bb180aec0f6f84fee46ecdc4847c41ea1238db4e68ae76aad05cf9e6e7780d"), looks := true }, kinds := [], alts := [], laidByText := true, laidKinds := [.data, .data, .data, .sentinel, .sentinel], laidTests := true, laidLooks := .later }
def DagBackUptoCardSaid : Prop := Claim7.holds Tryz.pinned (.plain (OpenSpec.upto dagBackSpec)) dagBackUptoCard
end Rows
end Go.Proofs.YtlholgpenpfpbaaGreatDoor
