/-
  DERIVED. GIVEN WITH THE SEED: THE CARDS: each row of YtfogkbdbncfleaaGreatDoorRows.lean that lists a variable, with what it lists TIED to the program's text (the seventh form; the later family's looks); each row that meets fmt, with fmt's text TOLD by the authors' own Lean function (tested against real Go, not proved from fmt's source: count such statements apart). THE CARD IS WHAT COUNTS. Prove the row's statement (the work); the ties are given (YtfogkbdbncfleaaGreatDoorTie.lean); close each card by the builder's one call (the guide's Derived/Test/ToyasCard.lean, 'card_holds'). Laid BY PROGRAM, IN A SANDBOX (cutbox-door.mjs). By AI agents, Wed Nov 11 2026. No macro, syntax, notation, axiom, sorry.
-/
import Derived.Test.YtfogkbdbncfleaaGreatDoorRows
import GoSem.ClaimSeven
namespace Go.Proofs.YtfogkbdbncfleaaGreatDoor
namespace Rows

/-- THE TIED CARD OF 'tillerlaw13.FrontObject'. -/
def frontObjectCard : Claim7 := { stood := { row := frontObjectRow, standIns := [], harness := (true, "7e1009aae316c24fd73ee44cb79b22f76e8e22dedd2cd28f033d1e08e1632334"), looks := true }, kinds := [], alts := [], laidByText := true, laidKinds := [.data, .data, .data, .data, .sentinel, .sentinel, .data, .data, .pinned, .pinned], laidTests := true, laidLooks := .later }
def FrontObjectCardSaid : Prop := Claim7.holds Tryz.pinned (.plain (OpenSpec.ofChange frontObjectSpec)) frontObjectCard

/-- THE TIED CARD OF 'tillerlaw13.FrontBack'. -/
def frontBackCard : Claim7 := { stood := { row := frontBackRow, standIns := [], harness := (true, "7e1009aae316c24fd73ee44cb79b22f76e8e22dedd2cd28f033d1e08e1632334"), looks := true }, kinds := [], alts := [], laidByText := true, laidKinds := [.data, .data, .data, .data, .sentinel, .sentinel, .data, .data, .pinned, .pinned], laidTests := true, laidLooks := .later }
def FrontBackCardSaid : Prop := Claim7.holds Tryz.pinned (.plain (OpenSpec.ofChange frontBackSpec)) frontBackCard

/-- THE TIED CARD OF 'tillerlaw13.FrontState'. -/
def frontStateCard : Claim7 := { stood := { row := frontStateRow, standIns := [], harness := (true, "7e1009aae316c24fd73ee44cb79b22f76e8e22dedd2cd28f033d1e08e1632334"), looks := true }, kinds := [], alts := [], laidByText := true, laidKinds := [.data, .data, .data, .data, .sentinel, .sentinel, .data, .data, .pinned, .pinned], laidTests := true, laidLooks := .later }
def FrontStateCardSaid : Prop := Claim7.holds Tryz.pinned (.plain (OpenSpec.ofChange frontStateSpec)) frontStateCard

/-- THE TIED CARD OF 'tillerlaw13.FrontSpoilt'. -/
def frontSpoiltCard : Claim7 := { stood := { row := frontSpoiltRow, standIns := [], harness := (true, "7e1009aae316c24fd73ee44cb79b22f76e8e22dedd2cd28f033d1e08e1632334"), looks := true }, kinds := [], alts := [], laidByText := true, laidKinds := [.data, .data, .data, .data, .sentinel, .sentinel, .data, .data, .pinned, .pinned], laidTests := true, laidLooks := .later }
def FrontSpoiltCardSaid : Prop := Claim7.holds Tryz.pinned (.plain (OpenSpec.ofChange frontSpoiltSpec)) frontSpoiltCard

/-- THE SECOND FORM's CARD OF 'tillerlaw13.FrontObject'. -/
def frontObjectUptoCard : Claim7 := { stood := { row := frontObjectUptoRow, standIns := [], harness := (true, "7e1009aae316c24fd73ee44cb79b22f76e8e22dedd2cd28f033d1e08e1632334"), looks := true }, kinds := [], alts := [], laidByText := true, laidKinds := [.data, .data, .data, .data, .sentinel, .sentinel, .data, .data, .pinned, .pinned], laidTests := true, laidLooks := .later }
def FrontObjectUptoCardSaid : Prop := Claim7.holds Tryz.pinned (.plain (OpenSpec.upto frontObjectSpec)) frontObjectUptoCard

/-- THE SECOND FORM's CARD OF 'tillerlaw13.FrontBack'. -/
def frontBackUptoCard : Claim7 := { stood := { row := frontBackUptoRow, standIns := [], harness := (true, "7e1009aae316c24fd73ee44cb79b22f76e8e22dedd2cd28f033d1e08e1632334"), looks := true }, kinds := [], alts := [], laidByText := true, laidKinds := [.data, .data, .data, .data, .sentinel, .sentinel, .data, .data, .pinned, .pinned], laidTests := true, laidLooks := .later }
def FrontBackUptoCardSaid : Prop := Claim7.holds Tryz.pinned (.plain (OpenSpec.upto frontBackSpec)) frontBackUptoCard

/-- THE SECOND FORM's CARD OF 'tillerlaw13.FrontState'. -/
def frontStateUptoCard : Claim7 := { stood := { row := frontStateUptoRow, standIns := [], harness := (true, "7e1009aae316c24fd73ee44cb79b22f76e8e22dedd2cd28f033d1e08e1632334"), looks := true }, kinds := [], alts := [], laidByText := true, laidKinds := [.data, .data, .data, .data, .sentinel, .sentinel, .data, .data, .pinned, .pinned], laidTests := true, laidLooks := .later }
def FrontStateUptoCardSaid : Prop := Claim7.holds Tryz.pinned (.plain (OpenSpec.upto frontStateSpec)) frontStateUptoCard

/-- THE SECOND FORM's CARD OF 'tillerlaw13.FrontSpoilt'. -/
def frontSpoiltUptoCard : Claim7 := { stood := { row := frontSpoiltUptoRow, standIns := [], harness := (true, "7e1009aae316c24fd73ee44cb79b22f76e8e22dedd2cd28f033d1e08e1632334"), looks := true }, kinds := [], alts := [], laidByText := true, laidKinds := [.data, .data, .data, .data, .sentinel, .sentinel, .data, .data, .pinned, .pinned], laidTests := true, laidLooks := .later }
def FrontSpoiltUptoCardSaid : Prop := Claim7.holds Tryz.pinned (.plain (OpenSpec.upto frontSpoiltSpec)) frontSpoiltUptoCard
end Rows
end Go.Proofs.YtfogkbdbncfleaaGreatDoor
