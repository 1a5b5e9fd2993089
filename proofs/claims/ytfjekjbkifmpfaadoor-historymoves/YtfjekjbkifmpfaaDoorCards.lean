/-
  DERIVED. GIVEN WITH THE SEED: THE CARDS: each row of YtfjekjbkifmpfaaDoorRows.lean that lists a variable, with what it lists TIED to the program's text (the seventh form; the later family's looks); each row that meets fmt, with fmt's text TOLD by the authors' own Lean function (tested against real Go, not proved from fmt's source: count such statements apart). THE CARD IS WHAT COUNTS. Prove the row's statement (the work); the ties are given (YtfjekjbkifmpfaaDoorTie.lean); close each card by the builder's one call (the guide's Derived/Test/ToyasCard.lean, 'card_holds'). Laid BY PROGRAM, IN A SANDBOX (cutbox-door.mjs). By AI agents, Wed Nov 11 2026. No macro, syntax, notation, axiom, sorry.
-/
import Derived.Test.YtfjekjbkifmpfaaDoorRows
import GoSem.ClaimSeven
namespace Go.Proofs.YtfjekjbkifmpfaaDoor
namespace Rows

/-- THE TIED CARD OF 'tillerlaw09.HistoryExact'. -/
def historyExactCard : Claim7 := { stood := { row := historyExactRow, standIns := [], harness := (true, "628d267cf7c652ea387b3b6dc14d2c1f7146afd57fb2c4033ee164963cee18e9"), looks := false }, kinds := [], alts := [], laidByText := true, laidKinds := [.data], laidTests := true, laidLooks := .later }
def HistoryExactCardSaid : Prop := Claim7.holds Tryd.pinned (.plain (OpenSpec.ofChange historyExactSpec)) historyExactCard

/-- THE TIED CARD OF 'tillerlaw09.HistoryFolds'. -/
def historyFoldsCard : Claim7 := { stood := { row := historyFoldsRow, standIns := [], harness := (true, "628d267cf7c652ea387b3b6dc14d2c1f7146afd57fb2c4033ee164963cee18e9"), looks := false }, kinds := [], alts := [], laidByText := true, laidKinds := [.data], laidTests := true, laidLooks := .later }
def HistoryFoldsCardSaid : Prop := Claim7.holds Tryd.pinned (.plain (OpenSpec.ofChange historyFoldsSpec)) historyFoldsCard

/-- THE TIED CARD OF 'tillerlaw09.HistoryApply'. -/
def historyApplyCard : Claim7 := { stood := { row := historyApplyRow, standIns := [], harness := (true, "628d267cf7c652ea387b3b6dc14d2c1f7146afd57fb2c4033ee164963cee18e9"), looks := false }, kinds := [], alts := [], laidByText := true, laidKinds := [.data], laidTests := true, laidLooks := .later }
def HistoryApplyCardSaid : Prop := Claim7.holds Tryd.pinned (.plain (OpenSpec.ofChange historyApplySpec)) historyApplyCard

/-- THE TIED CARD OF 'tillerlaw09.HistoryEnds'. -/
def historyEndsCard : Claim7 := { stood := { row := historyEndsRow, standIns := [], harness := (true, "628d267cf7c652ea387b3b6dc14d2c1f7146afd57fb2c4033ee164963cee18e9"), looks := false }, kinds := [], alts := [], laidByText := true, laidKinds := [.data], laidTests := true, laidLooks := .later }
def HistoryEndsCardSaid : Prop := Claim7.holds Tryd.pinned (.plain (OpenSpec.ofChange historyEndsSpec)) historyEndsCard

/-- THE TIED CARD OF 'tillerlaw09.HistoryMoves'. -/
def historyMovesCard : Claim7 := { stood := { row := historyMovesRow, standIns := [], harness := (true, "628d267cf7c652ea387b3b6dc14d2c1f7146afd57fb2c4033ee164963cee18e9"), looks := false }, kinds := [], alts := [], laidByText := true, laidKinds := [.data], laidTests := true, laidLooks := .later }
def HistoryMovesCardSaid : Prop := Claim7.holds Tryd.pinned (.plain (OpenSpec.ofChange historyMovesSpec)) historyMovesCard

/-- THE TIED CARD OF 'tillerlaw09.HistoryTasks'. -/
def historyTasksCard : Claim7 := { stood := { row := historyTasksRow, standIns := [], harness := (true, "628d267cf7c652ea387b3b6dc14d2c1f7146afd57fb2c4033ee164963cee18e9"), looks := false }, kinds := [], alts := [], laidByText := true, laidKinds := [.data], laidTests := true, laidLooks := .later }
def HistoryTasksCardSaid : Prop := Claim7.holds Tryd.pinned (.plain (OpenSpec.ofChange historyTasksSpec)) historyTasksCard

/-- THE SECOND FORM's CARD OF 'tillerlaw09.HistoryExact'. -/
def historyExactUptoCard : Claim7 := { stood := { row := historyExactUptoRow, standIns := [], harness := (true, "628d267cf7c652ea387b3b6dc14d2c1f7146afd57fb2c4033ee164963cee18e9"), looks := false }, kinds := [], alts := [], laidByText := true, laidKinds := [.data], laidTests := true, laidLooks := .later }
def HistoryExactUptoCardSaid : Prop := Claim7.holds Tryd.pinned (.plain (OpenSpec.upto historyExactSpec)) historyExactUptoCard

/-- THE SECOND FORM's CARD OF 'tillerlaw09.HistoryFolds'. -/
def historyFoldsUptoCard : Claim7 := { stood := { row := historyFoldsUptoRow, standIns := [], harness := (true, "628d267cf7c652ea387b3b6dc14d2c1f7146afd57fb2c4033ee164963cee18e9"), looks := false }, kinds := [], alts := [], laidByText := true, laidKinds := [.data], laidTests := true, laidLooks := .later }
def HistoryFoldsUptoCardSaid : Prop := Claim7.holds Tryd.pinned (.plain (OpenSpec.upto historyFoldsSpec)) historyFoldsUptoCard

/-- THE SECOND FORM's CARD OF 'tillerlaw09.HistoryApply'. -/
def historyApplyUptoCard : Claim7 := { stood := { row := historyApplyUptoRow, standIns := [], harness := (true, "628d267cf7c652ea387b3b6dc14d2c1f7146afd57fb2c4033ee164963cee18e9"), looks := false }, kinds := [], alts := [], laidByText := true, laidKinds := [.data], laidTests := true, laidLooks := .later }
def HistoryApplyUptoCardSaid : Prop := Claim7.holds Tryd.pinned (.plain (OpenSpec.upto historyApplySpec)) historyApplyUptoCard

/-- THE SECOND FORM's CARD OF 'tillerlaw09.HistoryEnds'. -/
def historyEndsUptoCard : Claim7 := { stood := { row := historyEndsUptoRow, standIns := [], harness := (true, "628d267cf7c652ea387b3b6dc14d2c1f7146afd57fb2c4033ee164963cee18e9"), looks := false }, kinds := [], alts := [], laidByText := true, laidKinds := [.data], laidTests := true, laidLooks := .later }
def HistoryEndsUptoCardSaid : Prop := Claim7.holds Tryd.pinned (.plain (OpenSpec.upto historyEndsSpec)) historyEndsUptoCard

/-- THE SECOND FORM's CARD OF 'tillerlaw09.HistoryMoves'. -/
def historyMovesUptoCard : Claim7 := { stood := { row := historyMovesUptoRow, standIns := [], harness := (true, "628d267cf7c652ea387b3b6dc14d2c1f7146afd57fb2c4033ee164963cee18e9"), looks := false }, kinds := [], alts := [], laidByText := true, laidKinds := [.data], laidTests := true, laidLooks := .later }
def HistoryMovesUptoCardSaid : Prop := Claim7.holds Tryd.pinned (.plain (OpenSpec.upto historyMovesSpec)) historyMovesUptoCard

/-- THE SECOND FORM's CARD OF 'tillerlaw09.HistoryTasks'. -/
def historyTasksUptoCard : Claim7 := { stood := { row := historyTasksUptoRow, standIns := [], harness := (true, "628d267cf7c652ea387b3b6dc14d2c1f7146afd57fb2c4033ee164963cee18e9"), looks := false }, kinds := [], alts := [], laidByText := true, laidKinds := [.data], laidTests := true, laidLooks := .later }
def HistoryTasksUptoCardSaid : Prop := Claim7.holds Tryd.pinned (.plain (OpenSpec.upto historyTasksSpec)) historyTasksUptoCard
end Rows
end Go.Proofs.YtfjekjbkifmpfaaDoor
