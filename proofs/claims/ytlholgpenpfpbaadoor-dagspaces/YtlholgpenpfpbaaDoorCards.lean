/-
  DERIVED. GIVEN WITH THE SEED: THE CARDS: each row of YtlholgpenpfpbaaDoorRows.lean that lists a variable, with what it lists TIED to the program's text (the seventh form; the later family's looks); each row that meets fmt, with fmt's text TOLD by the authors' own Lean function (tested against real Go, not proved from fmt's source: count such statements apart). THE CARD IS WHAT COUNTS. Prove the row's statement (the work); the ties are given (YtlholgpenpfpbaaDoorTie.lean); close each card by the builder's one call (the guide's Derived/Test/ToyasCard.lean, 'card_holds'). Laid BY PROGRAM, IN A SANDBOX (cutbox-door.mjs). By AI agents, Wed Nov 11 2026. No macro, syntax, notation, axiom, sorry.
-/
import Derived.Test.YtlholgpenpfpbaaDoorRows
import GoSem.ClaimSeven
namespace Go.Proofs.YtlholgpenpfpbaaDoor
namespace Rows

/-- THE TIED CARD OF 'tillerlaw08.DagParse'. -/
def dagParseCard : Claim7 := { stood := { row := dagParseRow, standIns := [], harness := (true, "ad96af87da451fc374afea9b7697d0ab5c366a7084f8dee347aeabee1f0e7081"), looks := true }, kinds := [], alts := [], laidByText := true, laidKinds := [.data, .data, .data, .sentinel, .sentinel], laidTests := true, laidLooks := .later }
def DagParseCardSaid : Prop := Claim7.holds Tryd.pinned (.plain (OpenSpec.ofChange dagParseSpec)) dagParseCard

/-- THE TIED CARD OF 'tillerlaw08.DagSpaces'. -/
def dagSpacesCard : Claim7 := { stood := { row := dagSpacesRow, standIns := [], harness := (true, "ad96af87da451fc374afea9b7697d0ab5c366a7084f8dee347aeabee1f0e7081"), looks := true }, kinds := [], alts := [], laidByText := true, laidKinds := [.data, .data, .data, .sentinel, .sentinel], laidTests := true, laidLooks := .later }
def DagSpacesCardSaid : Prop := Claim7.holds Tryd.pinned (.plain (OpenSpec.ofChange dagSpacesSpec)) dagSpacesCard

/-- THE SECOND FORM's CARD OF 'tillerlaw08.DagParse'. -/
def dagParseUptoCard : Claim7 := { stood := { row := dagParseUptoRow, standIns := [], harness := (true, "ad96af87da451fc374afea9b7697d0ab5c366a7084f8dee347aeabee1f0e7081"), looks := true }, kinds := [], alts := [], laidByText := true, laidKinds := [.data, .data, .data, .sentinel, .sentinel], laidTests := true, laidLooks := .later }
def DagParseUptoCardSaid : Prop := Claim7.holds Tryd.pinned (.plain (OpenSpec.upto dagParseSpec)) dagParseUptoCard

/-- THE SECOND FORM's CARD OF 'tillerlaw08.DagSpaces'. -/
def dagSpacesUptoCard : Claim7 := { stood := { row := dagSpacesUptoRow, standIns := [], harness := (true, "ad96af87da451fc374afea9b7697d0ab5c366a7084f8dee347aeabee1f0e7081"), looks := true }, kinds := [], alts := [], laidByText := true, laidKinds := [.data, .data, .data, .sentinel, .sentinel], laidTests := true, laidLooks := .later }
def DagSpacesUptoCardSaid : Prop := Claim7.holds Tryd.pinned (.plain (OpenSpec.upto dagSpacesSpec)) dagSpacesUptoCard
end Rows
end Go.Proofs.YtlholgpenpfpbaaDoor
