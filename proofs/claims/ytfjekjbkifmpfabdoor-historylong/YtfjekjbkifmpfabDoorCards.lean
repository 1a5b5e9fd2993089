/-
  DERIVED. GIVEN WITH THE SEED: THE CARDS: each row of YtfjekjbkifmpfabDoorRows.lean that lists a variable, with what it lists TIED to the program's text (the seventh form; the later family's looks); each row that meets fmt, with fmt's text TOLD by the authors' own Lean function (tested against real Go, not proved from fmt's source: count such statements apart). THE CARD IS WHAT COUNTS. Prove the row's statement (the work); the ties are given (YtfjekjbkifmpfabDoorTie.lean); close each card by the builder's one call (the guide's Derived/Test/ToyasCard.lean, 'card_holds'). Laid BY PROGRAM, IN A SANDBOX (cutbox-door.mjs). By AI agents, Wed Nov 11 2026. No macro, syntax, notation, axiom, sorry.
-/
import Derived.Test.YtfjekjbkifmpfabDoorRows
import GoSem.ClaimSeven
namespace Go.Proofs.YtfjekjbkifmpfabDoor
namespace Rows

/-- THE TIED CARD OF 'tillerlaw09.HistoryLong'. -/
def historyLongCard : Claim7 := { stood := { row := historyLongRow, standIns := [], harness := (true, "2a1f7f68c032f0783804180a1dd7aee7deef425a48fac715850a1bb8d30a5631"), looks := false }, kinds := [], alts := [], laidByText := true, laidKinds := [.data], laidTests := true, laidLooks := .later }
def HistoryLongCardSaid : Prop := Claim7.holds Tryd.pinned (.plain (OpenSpec.ofChange historyLongSpec)) historyLongCard

/-- THE SECOND FORM's CARD OF 'tillerlaw09.HistoryLong'. -/
def historyLongUptoCard : Claim7 := { stood := { row := historyLongUptoRow, standIns := [], harness := (true, "2a1f7f68c032f0783804180a1dd7aee7deef425a48fac715850a1bb8d30a5631"), looks := false }, kinds := [], alts := [], laidByText := true, laidKinds := [.data], laidTests := true, laidLooks := .later }
def HistoryLongUptoCardSaid : Prop := Claim7.holds Tryd.pinned (.plain (OpenSpec.upto historyLongSpec)) historyLongUptoCard
end Rows
end Go.Proofs.YtfjekjbkifmpfabDoor
