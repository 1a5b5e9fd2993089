/-
  DERIVED. GIVEN WITH THE SEED: THE CARDS: each row of YtimipkhjcgmioabGreatDoorRows.lean that lists a variable, with what it lists TIED to the program's text (the seventh form; the later family's looks); each row that meets fmt, with fmt's text TOLD by the authors' own Lean function (tested against real Go, not proved from fmt's source: count such statements apart). THE CARD IS WHAT COUNTS. Prove the row's statement (the work); the ties are given (YtimipkhjcgmioabGreatDoorTie.lean); close each card by the builder's one call (the guide's Derived/Test/ToyasCard.lean, 'card_holds'). Laid BY PROGRAM, IN A SANDBOX (cutbox-door.mjs). By AI agents, Wed Nov 11 2026. No macro, syntax, notation, axiom, sorry.
-/
import Derived.Test.YtimipkhjcgmioabGreatDoorRows
import GoSem.ClaimSeven
namespace Go.Proofs.YtimipkhjcgmioabGreatDoor
namespace Rows

/-- THE TIED CARD OF 'tillerlaw13.FrontWhole'. -/
def frontWholeCard : Claim7 := { stood := { row := frontWholeRow, standIns := [], harness := (true, "c57458d37f09c9d308ad0f3c6526e8a3662fd0f21d548a524603d94e3245f549"), looks := true }, kinds := [], alts := [], laidByText := true, laidKinds := [.data, .data, .data, .data, .sentinel, .sentinel, .data, .data, .pinned, .pinned], laidTests := true, laidLooks := .later }
def FrontWholeCardSaid : Prop := Claim7.holds Tryz.pinned (.plain (OpenSpec.ofChange frontWholeSpec)) frontWholeCard

/-- THE TIED CARD OF 'tillerlaw13.FrontEscapes'. -/
def frontEscapesCard : Claim7 := { stood := { row := frontEscapesRow, standIns := [], harness := (true, "c57458d37f09c9d308ad0f3c6526e8a3662fd0f21d548a524603d94e3245f549"), looks := true }, kinds := [], alts := [], laidByText := true, laidKinds := [.data, .data, .data, .data, .sentinel, .sentinel, .data, .data, .pinned, .pinned], laidTests := true, laidLooks := .later }
def FrontEscapesCardSaid : Prop := Claim7.holds Tryz.pinned (.plain (OpenSpec.ofChange frontEscapesSpec)) frontEscapesCard

/-- THE TIED CARD OF 'tillerlaw13.FrontSpoilt'. -/
def frontSpoiltCard : Claim7 := { stood := { row := frontSpoiltRow, standIns := [], harness := (true, "c57458d37f09c9d308ad0f3c6526e8a3662fd0f21d548a524603d94e3245f549"), looks := true }, kinds := [], alts := [], laidByText := true, laidKinds := [.data, .data, .data, .data, .sentinel, .sentinel, .data, .data, .pinned, .pinned], laidTests := true, laidLooks := .later }
def FrontSpoiltCardSaid : Prop := Claim7.holds Tryz.pinned (.plain (OpenSpec.ofChange frontSpoiltSpec)) frontSpoiltCard

/-- THE SECOND FORM's CARD OF 'tillerlaw13.FrontWhole'. -/
def frontWholeUptoCard : Claim7 := { stood := { row := frontWholeUptoRow, standIns := [], harness := (true, "c57458d37f09c9d308ad0f3c6526e8a3662fd0f21d548a524603d94e3245f549"), looks := true }, kinds := [], alts := [], laidByText := true, laidKinds := [.data, .data, .data, .data, .sentinel, .sentinel, .data, .data, .pinned, .pinned], laidTests := true, laidLooks := .later }
def FrontWholeUptoCardSaid : Prop := Claim7.holds Tryz.pinned (.plain (OpenSpec.upto frontWholeSpec)) frontWholeUptoCard

/-- THE SECOND FORM's CARD OF 'tillerlaw13.FrontEscapes'. -/
def frontEscapesUptoCard : Claim7 := { stood := { row := frontEscapesUptoRow, standIns := [], harness := (true, "c57458d37f09c9d308ad0f3c6526e8a3662fd0f21d548a524603d94e3245f549"), looks := true }, kinds := [], alts := [], laidByText := true, laidKinds := [.data, .data, .data, .data, .sentinel, .sentinel, .data, .data, .pinned, .pinned], laidTests := true, laidLooks := .later }
def FrontEscapesUptoCardSaid : Prop := Claim7.holds Tryz.pinned (.plain (OpenSpec.upto frontEscapesSpec)) frontEscapesUptoCard

/-- THE SECOND FORM's CARD OF 'tillerlaw13.FrontSpoilt'. -/
def frontSpoiltUptoCard : Claim7 := { stood := { row := frontSpoiltUptoRow, standIns := [], harness := (true, "c57458d37f09c9d308ad0f3c6526e8a3662fd0f21d548a524603d94e3245f549"), looks := true }, kinds := [], alts := [], laidByText := true, laidKinds := [.data, .data, .data, .data, .sentinel, .sentinel, .data, .data, .pinned, .pinned], laidTests := true, laidLooks := .later }
def FrontSpoiltUptoCardSaid : Prop := Claim7.holds Tryz.pinned (.plain (OpenSpec.upto frontSpoiltSpec)) frontSpoiltUptoCard
end Rows
end Go.Proofs.YtimipkhjcgmioabGreatDoor
