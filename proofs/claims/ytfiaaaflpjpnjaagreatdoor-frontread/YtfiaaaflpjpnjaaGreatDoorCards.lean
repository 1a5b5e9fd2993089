/-
  DERIVED. GIVEN WITH THE SEED: THE CARDS: each row of YtfiaaaflpjpnjaaGreatDoorRows.lean that lists a variable, with what it lists TIED to the program's text (the seventh form; the later family's looks); each row that meets fmt, with fmt's text TOLD by the authors' own Lean function (tested against real Go, not proved from fmt's source: count such statements apart). THE CARD IS WHAT COUNTS. Prove the row's statement (the work); the ties are given (YtfiaaaflpjpnjaaGreatDoorTie.lean); close each card by the builder's one call (the guide's Derived/Test/ToyasCard.lean, 'card_holds'). Laid BY PROGRAM, IN A SANDBOX (cutbox-door.mjs). By AI agents, Wed Nov 11 2026. No macro, syntax, notation, axiom, sorry.
-/
import Derived.Test.YtfiaaaflpjpnjaaGreatDoorRows
import GoSem.ClaimSeven
namespace Go.Proofs.YtfiaaaflpjpnjaaGreatDoor
namespace Rows

/-- THE TIED CARD OF 'tillerlaw13.FrontRead'. -/
def frontReadCard : Claim7 := { stood := { row := frontReadRow, standIns := [], harness := (true, "99131d00ab37390dfb40a56163e2a9ae3100bac7e107bd6a9330152aa4435ac9"), looks := true }, kinds := [], alts := [], laidByText := true, laidKinds := [.data, .data, .data, .data, .sentinel, .sentinel, .data, .data, .pinned, .pinned], laidTests := true, laidLooks := .later }
def FrontReadCardSaid : Prop := Claim7.holds Tryz.pinned (.plain (OpenSpec.ofChange frontReadSpec)) frontReadCard

/-- THE TIED CARD OF 'tillerlaw13.FrontLimits'. -/
def frontLimitsCard : Claim7 := { stood := { row := frontLimitsRow, standIns := [], harness := (true, "99131d00ab37390dfb40a56163e2a9ae3100bac7e107bd6a9330152aa4435ac9"), looks := true }, kinds := [], alts := [], laidByText := true, laidKinds := [.data, .data, .data, .data, .sentinel, .sentinel, .data, .data, .pinned, .pinned], laidTests := true, laidLooks := .later }
def FrontLimitsCardSaid : Prop := Claim7.holds Tryz.pinned (.plain (OpenSpec.ofChange frontLimitsSpec)) frontLimitsCard

/-- THE SECOND FORM's CARD OF 'tillerlaw13.FrontRead'. -/
def frontReadUptoCard : Claim7 := { stood := { row := frontReadUptoRow, standIns := [], harness := (true, "99131d00ab37390dfb40a56163e2a9ae3100bac7e107bd6a9330152aa4435ac9"), looks := true }, kinds := [], alts := [], laidByText := true, laidKinds := [.data, .data, .data, .data, .sentinel, .sentinel, .data, .data, .pinned, .pinned], laidTests := true, laidLooks := .later }
def FrontReadUptoCardSaid : Prop := Claim7.holds Tryz.pinned (.plain (OpenSpec.upto frontReadSpec)) frontReadUptoCard

/-- THE SECOND FORM's CARD OF 'tillerlaw13.FrontLimits'. -/
def frontLimitsUptoCard : Claim7 := { stood := { row := frontLimitsUptoRow, standIns := [], harness := (true, "99131d00ab37390dfb40a56163e2a9ae3100bac7e107bd6a9330152aa4435ac9"), looks := true }, kinds := [], alts := [], laidByText := true, laidKinds := [.data, .data, .data, .data, .sentinel, .sentinel, .data, .data, .pinned, .pinned], laidTests := true, laidLooks := .later }
def FrontLimitsUptoCardSaid : Prop := Claim7.holds Tryz.pinned (.plain (OpenSpec.upto frontLimitsSpec)) frontLimitsUptoCard
end Rows
end Go.Proofs.YtfiaaaflpjpnjaaGreatDoor
