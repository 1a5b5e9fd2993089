/-
  DERIVED. GIVEN WITH THE SEED: THE CARDS: each row of YtcbiibkmmbilbaaGreatDoorRows.lean that lists a variable, with what it lists TIED to the program's text (the seventh form; the later family's looks); each row that meets fmt, with fmt's text TOLD by the authors' own Lean function (tested against real Go, not proved from fmt's source: count such statements apart). THE CARD IS WHAT COUNTS. Prove the row's statement (the work); the ties are given (YtcbiibkmmbilbaaGreatDoorTie.lean); close each card by the builder's one call (the guide's Derived/Test/ToyasCard.lean, 'card_holds'). Laid BY PROGRAM, IN A SANDBOX (cutbox-door.mjs). By AI agents, Wed Nov 11 2026. No macro, syntax, notation, axiom, sorry.
-/
import Derived.Test.YtcbiibkmmbilbaaGreatDoorRows
import GoSem.ClaimSeven
namespace Go.Proofs.YtcbiibkmmbilbaaGreatDoor
namespace Rows

/-- THE TIED CARD OF 'tillerlaw13.FrontRead'. -/
def frontReadCard : Claim7 := { stood := { row := frontReadRow, standIns := [], harness := (true, "122f78beadcafd831327ec11e43d8130fe845158ce8fc5b9c2e6196ebcf796b8"), looks := true }, kinds := [], alts := [], laidByText := true, laidKinds := [.data, .data, .data, .data, .sentinel, .sentinel, .data, .data, .pinned, .pinned], laidTests := true, laidLooks := .later }
def FrontReadCardSaid : Prop := Claim7.holds Tryz.pinned (.plain (OpenSpec.ofChange frontReadSpec)) frontReadCard

/-- THE TIED CARD OF 'tillerlaw13.FrontLimits'. -/
def frontLimitsCard : Claim7 := { stood := { row := frontLimitsRow, standIns := [], harness := (true, "122f78beadcafd831327ec11e43d8130fe845158ce8fc5b9c2e6196ebcf796b8"), looks := true }, kinds := [], alts := [], laidByText := true, laidKinds := [.data, .data, .data, .data, .sentinel, .sentinel, .data, .data, .pinned, .pinned], laidTests := true, laidLooks := .later }
def FrontLimitsCardSaid : Prop := Claim7.holds Tryz.pinned (.plain (OpenSpec.ofChange frontLimitsSpec)) frontLimitsCard

/-- THE TIED CARD OF 'tillerlaw13.FrontWhole'. -/
def frontWholeCard : Claim7 := { stood := { row := frontWholeRow, standIns := [], harness := (true, "122f78beadcafd831327ec11e43d8130fe845158ce8fc5b9c2e6196ebcf796b8"), looks := true }, kinds := [], alts := [], laidByText := true, laidKinds := [.data, .data, .data, .data, .sentinel, .sentinel, .data, .data, .pinned, .pinned], laidTests := true, laidLooks := .later }
def FrontWholeCardSaid : Prop := Claim7.holds Tryz.pinned (.plain (OpenSpec.ofChange frontWholeSpec)) frontWholeCard

/-- THE SECOND FORM's CARD OF 'tillerlaw13.FrontRead'. -/
def frontReadUptoCard : Claim7 := { stood := { row := frontReadUptoRow, standIns := [], harness := (true, "122f78beadcafd831327ec11e43d8130fe845158ce8fc5b9c2e6196ebcf796b8"), looks := true }, kinds := [], alts := [], laidByText := true, laidKinds := [.data, .data, .data, .data, .sentinel, .sentinel, .data, .data, .pinned, .pinned], laidTests := true, laidLooks := .later }
def FrontReadUptoCardSaid : Prop := Claim7.holds Tryz.pinned (.plain (OpenSpec.upto frontReadSpec)) frontReadUptoCard

/-- THE SECOND FORM's CARD OF 'tillerlaw13.FrontLimits'. -/
def frontLimitsUptoCard : Claim7 := { stood := { row := frontLimitsUptoRow, standIns := [], harness := (true, "122f78beadcafd831327ec11e43d8130fe845158ce8fc5b9c2e6196ebcf796b8"), looks := true }, kinds := [], alts := [], laidByText := true, laidKinds := [.data, .data, .data, .data, .sentinel, .sentinel, .data, .data, .pinned, .pinned], laidTests := true, laidLooks := .later }
def FrontLimitsUptoCardSaid : Prop := Claim7.holds Tryz.pinned (.plain (OpenSpec.upto frontLimitsSpec)) frontLimitsUptoCard

/-- THE SECOND FORM's CARD OF 'tillerlaw13.FrontWhole'. -/
def frontWholeUptoCard : Claim7 := { stood := { row := frontWholeUptoRow, standIns := [], harness := (true, "122f78beadcafd831327ec11e43d8130fe845158ce8fc5b9c2e6196ebcf796b8"), looks := true }, kinds := [], alts := [], laidByText := true, laidKinds := [.data, .data, .data, .data, .sentinel, .sentinel, .data, .data, .pinned, .pinned], laidTests := true, laidLooks := .later }
def FrontWholeUptoCardSaid : Prop := Claim7.holds Tryz.pinned (.plain (OpenSpec.upto frontWholeSpec)) frontWholeUptoCard
end Rows
end Go.Proofs.YtcbiibkmmbilbaaGreatDoor
