/-
  DERIVED. GIVEN WITH THE SEED: THE CARDS: each row of YtdbplemcjnlfiaaGreatDoorRows.lean that lists a variable, with what it lists TIED to the program's text (the seventh form; the later family's looks); each row that meets fmt, with fmt's text TOLD by the authors' own Lean function (tested against real Go, not proved from fmt's source: count such statements apart). THE CARD IS WHAT COUNTS. Prove the row's statement (the work); the ties are given (YtdbplemcjnlfiaaGreatDoorTie.lean); close each card by the builder's one call (the guide's Derived/Test/ToyasCard.lean, 'card_holds'). Laid BY PROGRAM, IN A SANDBOX (cutbox-door.mjs). By AI agents, Wed Nov 11 2026. No macro, syntax, notation, axiom, sorry.
-/
import Derived.Test.YtdbplemcjnlfiaaGreatDoorRows
import GoSem.ClaimSeven
namespace Go.Proofs.YtdbplemcjnlfiaaGreatDoor
namespace Rows

/-- THE TIED CARD OF 'tillerlaw13.FrontBack'. -/
def frontBackCard : Claim7 := { stood := { row := frontBackRow, standIns := [], harness := (true, "a6e7d1ffb8d65004288b74310e266ef507bfd8fa06772d27d53d577ee7ccdbc6"), looks := true }, kinds := [], alts := [], laidByText := true, laidKinds := [.data, .data, .data, .data, .sentinel, .sentinel, .data, .data, .pinned, .pinned], laidTests := true, laidLooks := .later }
def FrontBackCardSaid : Prop := Claim7.holds Tryz.pinned (.plain (OpenSpec.ofChange frontBackSpec)) frontBackCard

/-- THE TIED CARD OF 'tillerlaw13.FrontState'. -/
def frontStateCard : Claim7 := { stood := { row := frontStateRow, standIns := [], harness := (true, "a6e7d1ffb8d65004288b74310e266ef507bfd8fa06772d27d53d577ee7ccdbc6"), looks := true }, kinds := [], alts := [], laidByText := true, laidKinds := [.data, .data, .data, .data, .sentinel, .sentinel, .data, .data, .pinned, .pinned], laidTests := true, laidLooks := .later }
def FrontStateCardSaid : Prop := Claim7.holds Tryz.pinned (.plain (OpenSpec.ofChange frontStateSpec)) frontStateCard

/-- THE SECOND FORM's CARD OF 'tillerlaw13.FrontBack'. -/
def frontBackUptoCard : Claim7 := { stood := { row := frontBackUptoRow, standIns := [], harness := (true, "a6e7d1ffb8d65004288b74310e266ef507bfd8fa06772d27d53d577ee7ccdbc6"), looks := true }, kinds := [], alts := [], laidByText := true, laidKinds := [.data, .data, .data, .data, .sentinel, .sentinel, .data, .data, .pinned, .pinned], laidTests := true, laidLooks := .later }
def FrontBackUptoCardSaid : Prop := Claim7.holds Tryz.pinned (.plain (OpenSpec.upto frontBackSpec)) frontBackUptoCard

/-- THE SECOND FORM's CARD OF 'tillerlaw13.FrontState'. -/
def frontStateUptoCard : Claim7 := { stood := { row := frontStateUptoRow, standIns := [], harness := (true, "a6e7d1ffb8d65004288b74310e266ef507bfd8fa06772d27d53d577ee7ccdbc6"), looks := true }, kinds := [], alts := [], laidByText := true, laidKinds := [.data, .data, .data, .data, .sentinel, .sentinel, .data, .data, .pinned, .pinned], laidTests := true, laidLooks := .later }
def FrontStateUptoCardSaid : Prop := Claim7.holds Tryz.pinned (.plain (OpenSpec.upto frontStateSpec)) frontStateUptoCard
end Rows
end Go.Proofs.YtdbplemcjnlfiaaGreatDoor
