/-
  DERIVED. GIVEN WITH THE SEED: THE CARDS: each row of YtpamnmginddgdabDoorRows.lean that lists a variable, with what it lists TIED to the program's text (the seventh form; the later family's looks); each row that meets fmt, with fmt's text TOLD by the authors' own Lean function (tested against real Go, not proved from fmt's source: count such statements apart). THE CARD IS WHAT COUNTS. Prove the row's statement (the work); the ties are given (YtpamnmginddgdabDoorTie.lean); close each card by the builder's one call (the guide's Derived/Test/ToyasCard.lean, 'card_holds'). Laid BY PROGRAM, IN A SANDBOX (cutbox-door.mjs). By AI agents, Wed Nov 11 2026. No macro, syntax, notation, axiom, sorry.
-/
import Derived.Test.YtpamnmginddgdabDoorRows
import GoSem.ClaimSeven
namespace Go.Proofs.YtpamnmginddgdabDoor
namespace Rows

/-- THE TIED CARD OF 'tillerlaw08.DagNames'. -/
def dagNamesCard : Claim7 := { stood := { row := dagNamesRow, standIns := [], harness := (true, "e9882d64ae3f5ae8f6c609fb20d327e6b9df8e84ae9f3b231d33feec4171d8fd"), looks := true }, kinds := [], alts := [], laidByText := true, laidKinds := [.data, .data, .data, .sentinel, .sentinel], laidTests := true, laidLooks := .later }
def DagNamesCardSaid : Prop := Claim7.holds Tryd.pinned (.plain (OpenSpec.ofChange dagNamesSpec)) dagNamesCard

/-- THE TIED CARD OF 'tillerlaw08.DagLoops'. -/
def dagLoopsCard : Claim7 := { stood := { row := dagLoopsRow, standIns := [], harness := (true, "e9882d64ae3f5ae8f6c609fb20d327e6b9df8e84ae9f3b231d33feec4171d8fd"), looks := true }, kinds := [], alts := [], laidByText := true, laidKinds := [.data, .data, .data, .sentinel, .sentinel], laidTests := true, laidLooks := .later }
def DagLoopsCardSaid : Prop := Claim7.holds Tryd.pinned (.plain (OpenSpec.ofChange dagLoopsSpec)) dagLoopsCard

/-- THE TIED CARD OF 'tillerlaw08.DagSpaces'. -/
def dagSpacesCard : Claim7 := { stood := { row := dagSpacesRow, standIns := [], harness := (true, "e9882d64ae3f5ae8f6c609fb20d327e6b9df8e84ae9f3b231d33feec4171d8fd"), looks := true }, kinds := [], alts := [], laidByText := true, laidKinds := [.data, .data, .data, .sentinel, .sentinel], laidTests := true, laidLooks := .later }
def DagSpacesCardSaid : Prop := Claim7.holds Tryd.pinned (.plain (OpenSpec.ofChange dagSpacesSpec)) dagSpacesCard

/-- THE TIED CARD OF 'tillerlaw08.DagGrows'. -/
def dagGrowsCard : Claim7 := { stood := { row := dagGrowsRow, standIns := [], harness := (true, "e9882d64ae3f5ae8f6c609fb20d327e6b9df8e84ae9f3b231d33feec4171d8fd"), looks := true }, kinds := [], alts := [], laidByText := true, laidKinds := [.data, .data, .data, .sentinel, .sentinel], laidTests := true, laidLooks := .later }
def DagGrowsCardSaid : Prop := Claim7.holds Tryd.pinned (.plain (OpenSpec.ofChange dagGrowsSpec)) dagGrowsCard

/-- THE SECOND FORM's CARD OF 'tillerlaw08.DagNames'. -/
def dagNamesUptoCard : Claim7 := { stood := { row := dagNamesUptoRow, standIns := [], harness := (true, "e9882d64ae3f5ae8f6c609fb20d327e6b9df8e84ae9f3b231d33feec4171d8fd"), looks := true }, kinds := [], alts := [], laidByText := true, laidKinds := [.data, .data, .data, .sentinel, .sentinel], laidTests := true, laidLooks := .later }
def DagNamesUptoCardSaid : Prop := Claim7.holds Tryd.pinned (.plain (OpenSpec.upto dagNamesSpec)) dagNamesUptoCard

/-- THE SECOND FORM's CARD OF 'tillerlaw08.DagLoops'. -/
def dagLoopsUptoCard : Claim7 := { stood := { row := dagLoopsUptoRow, standIns := [], harness := (true, "e9882d64ae3f5ae8f6c609fb20d327e6b9df8e84ae9f3b231d33feec4171d8fd"), looks := true }, kinds := [], alts := [], laidByText := true, laidKinds := [.data, .data, .data, .sentinel, .sentinel], laidTests := true, laidLooks := .later }
def DagLoopsUptoCardSaid : Prop := Claim7.holds Tryd.pinned (.plain (OpenSpec.upto dagLoopsSpec)) dagLoopsUptoCard

/-- THE SECOND FORM's CARD OF 'tillerlaw08.DagSpaces'. -/
def dagSpacesUptoCard : Claim7 := { stood := { row := dagSpacesUptoRow, standIns := [], harness := (true, "e9882d64ae3f5ae8f6c609fb20d327e6b9df8e84ae9f3b231d33feec4171d8fd"), looks := true }, kinds := [], alts := [], laidByText := true, laidKinds := [.data, .data, .data, .sentinel, .sentinel], laidTests := true, laidLooks := .later }
def DagSpacesUptoCardSaid : Prop := Claim7.holds Tryd.pinned (.plain (OpenSpec.upto dagSpacesSpec)) dagSpacesUptoCard

/-- THE SECOND FORM's CARD OF 'tillerlaw08.DagGrows'. -/
def dagGrowsUptoCard : Claim7 := { stood := { row := dagGrowsUptoRow, standIns := [], harness := (true, "e9882d64ae3f5ae8f6c609fb20d327e6b9df8e84ae9f3b231d33feec4171d8fd"), looks := true }, kinds := [], alts := [], laidByText := true, laidKinds := [.data, .data, .data, .sentinel, .sentinel], laidTests := true, laidLooks := .later }
def DagGrowsUptoCardSaid : Prop := Claim7.holds Tryd.pinned (.plain (OpenSpec.upto dagGrowsSpec)) dagGrowsUptoCard
end Rows
end Go.Proofs.YtpamnmginddgdabDoor
