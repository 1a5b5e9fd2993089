/-
  DERIVED. GIVEN WITH THE SEED: THE CARDS: each row of YtimipkhjcgmioaaGreatDoorRows.lean that lists a variable, with what it lists TIED to the program's text (the seventh form; the later family's looks); each row that meets fmt, with fmt's text TOLD by the authors' own Lean function (tested against real Go, not proved from fmt's source: count such statements apart). THE CARD IS WHAT COUNTS. Prove the row's statement (the work); the ties are given (YtimipkhjcgmioaaGreatDoorTie.lean); close each card by the builder's one call (the guide's Derived/Test/ToyasCard.lean, 'card_holds'). Laid BY PROGRAM, IN A SANDBOX (cutbox-door.mjs). By AI agents, Wed Nov 11 2026. No macro, syntax, notation, axiom, sorry.
-/
import Derived.Test.YtimipkhjcgmioaaGreatDoorRows
import GoSem.ClaimSeven
namespace Go.Proofs.YtimipkhjcgmioaaGreatDoor
namespace Rows

/-- THE TIED CARD OF 'tillerlaw13.FrontRead'. -/
def frontReadCard : Claim7 := { stood := { row := frontReadRow, standIns := [], harness := (true, "8efd9f6de0fb7ff9ff62a58b8a6fd19f8a99fdc8c1c0a5cf327117b5c54c0b41"), looks := true }, kinds := [], alts := [], laidByText := true, laidKinds := [.data, .data, .data, .data, .sentinel, .sentinel, .data, .data, .pinned, .pinned], laidTests := true, laidLooks := .later }
def FrontReadCardSaid : Prop := Claim7.holds Tryz.pinned (.plain (OpenSpec.ofChange frontReadSpec)) frontReadCard

/-- THE TIED CARD OF 'tillerlaw13.FrontObject'. -/
def frontObjectCard : Claim7 := { stood := { row := frontObjectRow, standIns := [], harness := (true, "8efd9f6de0fb7ff9ff62a58b8a6fd19f8a99fdc8c1c0a5cf327117b5c54c0b41"), looks := true }, kinds := [], alts := [], laidByText := true, laidKinds := [.data, .data, .data, .data, .sentinel, .sentinel, .data, .data, .pinned, .pinned], laidTests := true, laidLooks := .later }
def FrontObjectCardSaid : Prop := Claim7.holds Tryz.pinned (.plain (OpenSpec.ofChange frontObjectSpec)) frontObjectCard

/-- THE TIED CARD OF 'tillerlaw13.FrontBack'. -/
def frontBackCard : Claim7 := { stood := { row := frontBackRow, standIns := [], harness := (true, "8efd9f6de0fb7ff9ff62a58b8a6fd19f8a99fdc8c1c0a5cf327117b5c54c0b41"), looks := true }, kinds := [], alts := [], laidByText := true, laidKinds := [.data, .data, .data, .data, .sentinel, .sentinel, .data, .data, .pinned, .pinned], laidTests := true, laidLooks := .later }
def FrontBackCardSaid : Prop := Claim7.holds Tryz.pinned (.plain (OpenSpec.ofChange frontBackSpec)) frontBackCard

/-- THE TIED CARD OF 'tillerlaw13.FrontReplies'. -/
def frontRepliesCard : Claim7 := { stood := { row := frontRepliesRow, standIns := [], harness := (true, "8efd9f6de0fb7ff9ff62a58b8a6fd19f8a99fdc8c1c0a5cf327117b5c54c0b41"), looks := true }, kinds := [], alts := [], laidByText := true, laidKinds := [.data, .data, .data, .data, .sentinel, .sentinel, .data, .data, .pinned, .pinned], laidTests := true, laidLooks := .later }
def FrontRepliesCardSaid : Prop := Claim7.holds Tryz.pinned (.plain (OpenSpec.ofChange frontRepliesSpec)) frontRepliesCard

/-- THE TIED CARD OF 'tillerlaw13.FrontState'. -/
def frontStateCard : Claim7 := { stood := { row := frontStateRow, standIns := [], harness := (true, "8efd9f6de0fb7ff9ff62a58b8a6fd19f8a99fdc8c1c0a5cf327117b5c54c0b41"), looks := true }, kinds := [], alts := [], laidByText := true, laidKinds := [.data, .data, .data, .data, .sentinel, .sentinel, .data, .data, .pinned, .pinned], laidTests := true, laidLooks := .later }
def FrontStateCardSaid : Prop := Claim7.holds Tryz.pinned (.plain (OpenSpec.ofChange frontStateSpec)) frontStateCard

/-- THE TIED CARD OF 'tillerlaw13.FrontLimits'. -/
def frontLimitsCard : Claim7 := { stood := { row := frontLimitsRow, standIns := [], harness := (true, "8efd9f6de0fb7ff9ff62a58b8a6fd19f8a99fdc8c1c0a5cf327117b5c54c0b41"), looks := true }, kinds := [], alts := [], laidByText := true, laidKinds := [.data, .data, .data, .data, .sentinel, .sentinel, .data, .data, .pinned, .pinned], laidTests := true, laidLooks := .later }
def FrontLimitsCardSaid : Prop := Claim7.holds Tryz.pinned (.plain (OpenSpec.ofChange frontLimitsSpec)) frontLimitsCard

/-- THE SECOND FORM's CARD OF 'tillerlaw13.FrontRead'. -/
def frontReadUptoCard : Claim7 := { stood := { row := frontReadUptoRow, standIns := [], harness := (true, "8efd9f6de0fb7ff9ff62a58b8a6fd19f8a99fdc8c1c0a5cf327117b5c54c0b41"), looks := true }, kinds := [], alts := [], laidByText := true, laidKinds := [.data, .data, .data, .data, .sentinel, .sentinel, .data, .data, .pinned, .pinned], laidTests := true, laidLooks := .later }
def FrontReadUptoCardSaid : Prop := Claim7.holds Tryz.pinned (.plain (OpenSpec.upto frontReadSpec)) frontReadUptoCard

/-- THE SECOND FORM's CARD OF 'tillerlaw13.FrontObject'. -/
def frontObjectUptoCard : Claim7 := { stood := { row := frontObjectUptoRow, standIns := [], harness := (true, "8efd9f6de0fb7ff9ff62a58b8a6fd19f8a99fdc8c1c0a5cf327117b5c54c0b41"), looks := true }, kinds := [], alts := [], laidByText := true, laidKinds := [.data, .data, .data, .data, .sentinel, .sentinel, .data, .data, .pinned, .pinned], laidTests := true, laidLooks := .later }
def FrontObjectUptoCardSaid : Prop := Claim7.holds Tryz.pinned (.plain (OpenSpec.upto frontObjectSpec)) frontObjectUptoCard

/-- THE SECOND FORM's CARD OF 'tillerlaw13.FrontBack'. -/
def frontBackUptoCard : Claim7 := { stood := { row := frontBackUptoRow, standIns := [], harness := (true, "8efd9f6de0fb7ff9ff62a58b8a6fd19f8a99fdc8c1c0a5cf327117b5c54c0b41"), looks := true }, kinds := [], alts := [], laidByText := true, laidKinds := [.data, .data, .data, .data, .sentinel, .sentinel, .data, .data, .pinned, .pinned], laidTests := true, laidLooks := .later }
def FrontBackUptoCardSaid : Prop := Claim7.holds Tryz.pinned (.plain (OpenSpec.upto frontBackSpec)) frontBackUptoCard

/-- THE SECOND FORM's CARD OF 'tillerlaw13.FrontReplies'. -/
def frontRepliesUptoCard : Claim7 := { stood := { row := frontRepliesUptoRow, standIns := [], harness := (true, "8efd9f6de0fb7ff9ff62a58b8a6fd19f8a99fdc8c1c0a5cf327117b5c54c0b41"), looks := true }, kinds := [], alts := [], laidByText := true, laidKinds := [.data, .data, .data, .data, .sentinel, .sentinel, .data, .data, .pinned, .pinned], laidTests := true, laidLooks := .later }
def FrontRepliesUptoCardSaid : Prop := Claim7.holds Tryz.pinned (.plain (OpenSpec.upto frontRepliesSpec)) frontRepliesUptoCard

/-- THE SECOND FORM's CARD OF 'tillerlaw13.FrontState'. -/
def frontStateUptoCard : Claim7 := { stood := { row := frontStateUptoRow, standIns := [], harness := (true, "8efd9f6de0fb7ff9ff62a58b8a6fd19f8a99fdc8c1c0a5cf327117b5c54c0b41"), looks := true }, kinds := [], alts := [], laidByText := true, laidKinds := [.data, .data, .data, .data, .sentinel, .sentinel, .data, .data, .pinned, .pinned], laidTests := true, laidLooks := .later }
def FrontStateUptoCardSaid : Prop := Claim7.holds Tryz.pinned (.plain (OpenSpec.upto frontStateSpec)) frontStateUptoCard

/-- THE SECOND FORM's CARD OF 'tillerlaw13.FrontLimits'. -/
def frontLimitsUptoCard : Claim7 := { stood := { row := frontLimitsUptoRow, standIns := [], harness := (true, "8efd9f6de0fb7ff9ff62a58b8a6fd19f8a99fdc8c1c0a5cf327117b5c54c0b41"), looks := true }, kinds := [], alts := [], laidByText := true, laidKinds := [.data, .data, .data, .data, .sentinel, .sentinel, .data, .data, .pinned, .pinned], laidTests := true, laidLooks := .later }
def FrontLimitsUptoCardSaid : Prop := Claim7.holds Tryz.pinned (.plain (OpenSpec.upto frontLimitsSpec)) frontLimitsUptoCard
end Rows
end Go.Proofs.YtimipkhjcgmioaaGreatDoor
