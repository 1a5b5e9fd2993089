/-
  DERIVED. GIVEN WITH THE SEED: THE CARDS: each row of YtalhdgelkomaiaaDoorRows.lean that lists a variable, with what it lists TIED to the program's text (the seventh form; the later family's looks); each row that meets fmt, with fmt's text TOLD by the authors' own Lean function (tested against real Go, not proved from fmt's source: count such statements apart). THE CARD IS WHAT COUNTS. Prove the row's statement (the work); the ties are given (YtalhdgelkomaiaaDoorTie.lean); close each card by the builder's one call (the guide's Derived/Test/ToyasCard.lean, 'card_holds'). Laid BY PROGRAM, IN A SANDBOX (cutbox-door.mjs). By AI agents, Wed Nov 11 2026. No macro, syntax, notation, axiom, sorry.
-/
import Derived.Test.YtalhdgelkomaiaaDoorRows
import GoSem.ClaimSeven
namespace Go.Proofs.YtalhdgelkomaiaaDoor
namespace Rows

/-- THE TIED CARD OF 'tillerlaw08.DagParse'. -/
def dagParseCard : Claim7 := { stood := { row := dagParseRow, standIns := [], harness := (true, "3e4cc01d23d98c5918c70648e5977be952caea70326ba0f751308abac608b07d"), looks := true }, kinds := [], alts := [], laidByText := true, laidKinds := [.data, .data, .data, .sentinel, .sentinel], laidTests := true, laidLooks := .later }
def DagParseCardSaid : Prop := Claim7.holds Tryd.pinned (.plain (OpenSpec.ofChange dagParseSpec)) dagParseCard

/-- THE TIED CARD OF 'tillerlaw08.DagCheck'. -/
def dagCheckCard : Claim7 := { stood := { row := dagCheckRow, standIns := [], harness := (true, "3e4cc01d23d98c5918c70648e5977be952caea70326ba0f751308abac608b07d"), looks := true }, kinds := [], alts := [], laidByText := true, laidKinds := [.data, .data, .data, .sentinel, .sentinel], laidTests := true, laidLooks := .later }
def DagCheckCardSaid : Prop := Claim7.holds Tryd.pinned (.plain (OpenSpec.ofChange dagCheckSpec)) dagCheckCard

/-- THE TIED CARD OF 'tillerlaw08.DagRuns'. -/
def dagRunsCard : Claim7 := { stood := { row := dagRunsRow, standIns := [], harness := (true, "3e4cc01d23d98c5918c70648e5977be952caea70326ba0f751308abac608b07d"), looks := true }, kinds := [], alts := [], laidByText := true, laidKinds := [.data, .data, .data, .sentinel, .sentinel], laidTests := true, laidLooks := .later }
def DagRunsCardSaid : Prop := Claim7.holds Tryd.pinned (.plain (OpenSpec.ofChange dagRunsSpec)) dagRunsCard

/-- THE TIED CARD OF 'tillerlaw08.DagLoops'. -/
def dagLoopsCard : Claim7 := { stood := { row := dagLoopsRow, standIns := [], harness := (true, "3e4cc01d23d98c5918c70648e5977be952caea70326ba0f751308abac608b07d"), looks := true }, kinds := [], alts := [], laidByText := true, laidKinds := [.data, .data, .data, .sentinel, .sentinel], laidTests := true, laidLooks := .later }
def DagLoopsCardSaid : Prop := Claim7.holds Tryd.pinned (.plain (OpenSpec.ofChange dagLoopsSpec)) dagLoopsCard

/-- THE TIED CARD OF 'tillerlaw08.DagSpaces'. -/
def dagSpacesCard : Claim7 := { stood := { row := dagSpacesRow, standIns := [], harness := (true, "3e4cc01d23d98c5918c70648e5977be952caea70326ba0f751308abac608b07d"), looks := true }, kinds := [], alts := [], laidByText := true, laidKinds := [.data, .data, .data, .sentinel, .sentinel], laidTests := true, laidLooks := .later }
def DagSpacesCardSaid : Prop := Claim7.holds Tryd.pinned (.plain (OpenSpec.ofChange dagSpacesSpec)) dagSpacesCard

/-- THE SECOND FORM's CARD OF 'tillerlaw08.DagParse'. -/
def dagParseUptoCard : Claim7 := { stood := { row := dagParseUptoRow, standIns := [], harness := (true, "3e4cc01d23d98c5918c70648e5977be952caea70326ba0f751308abac608b07d"), looks := true }, kinds := [], alts := [], laidByText := true, laidKinds := [.data, .data, .data, .sentinel, .sentinel], laidTests := true, laidLooks := .later }
def DagParseUptoCardSaid : Prop := Claim7.holds Tryd.pinned (.plain (OpenSpec.upto dagParseSpec)) dagParseUptoCard

/-- THE SECOND FORM's CARD OF 'tillerlaw08.DagCheck'. -/
def dagCheckUptoCard : Claim7 := { stood := { row := dagCheckUptoRow, standIns := [], harness := (true, "3e4cc01d23d98c5918c70648e5977be952caea70326ba0f751308abac608b07d"), looks := true }, kinds := [], alts := [], laidByText := true, laidKinds := [.data, .data, .data, .sentinel, .sentinel], laidTests := true, laidLooks := .later }
def DagCheckUptoCardSaid : Prop := Claim7.holds Tryd.pinned (.plain (OpenSpec.upto dagCheckSpec)) dagCheckUptoCard

/-- THE SECOND FORM's CARD OF 'tillerlaw08.DagRuns'. -/
def dagRunsUptoCard : Claim7 := { stood := { row := dagRunsUptoRow, standIns := [], harness := (true, "3e4cc01d23d98c5918c70648e5977be952caea70326ba0f751308abac608b07d"), looks := true }, kinds := [], alts := [], laidByText := true, laidKinds := [.data, .data, .data, .sentinel, .sentinel], laidTests := true, laidLooks := .later }
def DagRunsUptoCardSaid : Prop := Claim7.holds Tryd.pinned (.plain (OpenSpec.upto dagRunsSpec)) dagRunsUptoCard

/-- THE SECOND FORM's CARD OF 'tillerlaw08.DagLoops'. -/
def dagLoopsUptoCard : Claim7 := { stood := { row := dagLoopsUptoRow, standIns := [], harness := (true, "3e4cc01d23d98c5918c70648e5977be952caea70326ba0f751308abac608b07d"), looks := true }, kinds := [], alts := [], laidByText := true, laidKinds := [.data, .data, .data, .sentinel, .sentinel], laidTests := true, laidLooks := .later }
def DagLoopsUptoCardSaid : Prop := Claim7.holds Tryd.pinned (.plain (OpenSpec.upto dagLoopsSpec)) dagLoopsUptoCard

/-- THE SECOND FORM's CARD OF 'tillerlaw08.DagSpaces'. -/
def dagSpacesUptoCard : Claim7 := { stood := { row := dagSpacesUptoRow, standIns := [], harness := (true, "3e4cc01d23d98c5918c70648e5977be952caea70326ba0f751308abac608b07d"), looks := true }, kinds := [], alts := [], laidByText := true, laidKinds := [.data, .data, .data, .sentinel, .sentinel], laidTests := true, laidLooks := .later }
def DagSpacesUptoCardSaid : Prop := Claim7.holds Tryd.pinned (.plain (OpenSpec.upto dagSpacesSpec)) dagSpacesUptoCard
end Rows
end Go.Proofs.YtalhdgelkomaiaaDoor
