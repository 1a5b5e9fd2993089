/-
  DERIVED. GIVEN WITH THE SEED: THE CARDS: each row of YthgeibhmcdefbabDoorRows.lean that lists a variable, with what it lists TIED to the program's text (the seventh form; the later family's looks); each row that meets fmt, with fmt's text TOLD by the authors' own Lean function (tested against real Go, not proved from fmt's source: count such statements apart). THE CARD IS WHAT COUNTS. Prove the row's statement (the work); the ties are given (YthgeibhmcdefbabDoorTie.lean); close each card by the builder's one call (the guide's Derived/Test/ToyasCard.lean, 'card_holds'). Laid BY PROGRAM, IN A SANDBOX (cutbox-door.mjs). By AI agents, Wed Nov 11 2026. No macro, syntax, notation, axiom, sorry.
-/
import Derived.Test.YthgeibhmcdefbabDoorRows
import GoSem.ClaimSeven
namespace Go.Proofs.YthgeibhmcdefbabDoor
namespace Rows

/-- THE TIED CARD OF 'tillerlaw09.HistoryLong'. -/
def historyLongCard : Claim7 := { stood := { row := historyLongRow, standIns := [], harness := (true, "9d8cebe17c93de9583c4976f2453eb3c5a2e94c88e9f3c13457528af23dd0000"), looks := false }, kinds := [], alts := [], laidByText := true, laidKinds := [.data], laidTests := true, laidLooks := .later }
def HistoryLongCardSaid : Prop := Claim7.holds Tryd.pinned (.plain (OpenSpec.ofChange historyLongSpec)) historyLongCard

/-- THE TIED CARD OF 'tillerlaw09.HistoryTries'. -/
def historyTriesCard : Claim7 := { stood := { row := historyTriesRow, standIns := [], harness := (true, "9d8cebe17c93de9583c4976f2453eb3c5a2e94c88e9f3c13457528af23dd0000"), looks := false }, kinds := [], alts := [], laidByText := true, laidKinds := [.data], laidTests := true, laidLooks := .later }
def HistoryTriesCardSaid : Prop := Claim7.holds Tryd.pinned (.plain (OpenSpec.ofChange historyTriesSpec)) historyTriesCard

/-- THE TIED CARD OF 'tillerlaw09.HistoryCancels'. -/
def historyCancelsCard : Claim7 := { stood := { row := historyCancelsRow, standIns := [], harness := (true, "9d8cebe17c93de9583c4976f2453eb3c5a2e94c88e9f3c13457528af23dd0000"), looks := false }, kinds := [], alts := [], laidByText := true, laidKinds := [.data], laidTests := true, laidLooks := .later }
def HistoryCancelsCardSaid : Prop := Claim7.holds Tryd.pinned (.plain (OpenSpec.ofChange historyCancelsSpec)) historyCancelsCard

/-- THE TIED CARD OF 'tillerlaw09.HistorySignals'. -/
def historySignalsCard : Claim7 := { stood := { row := historySignalsRow, standIns := [], harness := (true, "9d8cebe17c93de9583c4976f2453eb3c5a2e94c88e9f3c13457528af23dd0000"), looks := false }, kinds := [], alts := [], laidByText := true, laidKinds := [.data], laidTests := true, laidLooks := .later }
def HistorySignalsCardSaid : Prop := Claim7.holds Tryd.pinned (.plain (OpenSpec.ofChange historySignalsSpec)) historySignalsCard

/-- THE TIED CARD OF 'tillerlaw09.HistoryRoots'. -/
def historyRootsCard : Claim7 := { stood := { row := historyRootsRow, standIns := [], harness := (true, "9d8cebe17c93de9583c4976f2453eb3c5a2e94c88e9f3c13457528af23dd0000"), looks := false }, kinds := [], alts := [], laidByText := true, laidKinds := [.data], laidTests := true, laidLooks := .later }
def HistoryRootsCardSaid : Prop := Claim7.holds Tryd.pinned (.plain (OpenSpec.ofChange historyRootsSpec)) historyRootsCard

/-- THE TIED CARD OF 'tillerlaw09.HistoryTwins'. -/
def historyTwinsCard : Claim7 := { stood := { row := historyTwinsRow, standIns := [], harness := (true, "9d8cebe17c93de9583c4976f2453eb3c5a2e94c88e9f3c13457528af23dd0000"), looks := false }, kinds := [], alts := [], laidByText := true, laidKinds := [.data], laidTests := true, laidLooks := .later }
def HistoryTwinsCardSaid : Prop := Claim7.holds Tryd.pinned (.plain (OpenSpec.ofChange historyTwinsSpec)) historyTwinsCard

/-- THE SECOND FORM's CARD OF 'tillerlaw09.HistoryLong'. -/
def historyLongUptoCard : Claim7 := { stood := { row := historyLongUptoRow, standIns := [], harness := (true, "9d8cebe17c93de9583c4976f2453eb3c5a2e94c88e9f3c13457528af23dd0000"), looks := false }, kinds := [], alts := [], laidByText := true, laidKinds := [.data], laidTests := true, laidLooks := .later }
def HistoryLongUptoCardSaid : Prop := Claim7.holds Tryd.pinned (.plain (OpenSpec.upto historyLongSpec)) historyLongUptoCard

/-- THE SECOND FORM's CARD OF 'tillerlaw09.HistoryTries'. -/
def historyTriesUptoCard : Claim7 := { stood := { row := historyTriesUptoRow, standIns := [], harness := (true, "9d8cebe17c93de9583c4976f2453eb3c5a2e94c88e9f3c13457528af23dd0000"), looks := false }, kinds := [], alts := [], laidByText := true, laidKinds := [.data], laidTests := true, laidLooks := .later }
def HistoryTriesUptoCardSaid : Prop := Claim7.holds Tryd.pinned (.plain (OpenSpec.upto historyTriesSpec)) historyTriesUptoCard

/-- THE SECOND FORM's CARD OF 'tillerlaw09.HistoryCancels'. -/
def historyCancelsUptoCard : Claim7 := { stood := { row := historyCancelsUptoRow, standIns := [], harness := (true, "9d8cebe17c93de9583c4976f2453eb3c5a2e94c88e9f3c13457528af23dd0000"), looks := false }, kinds := [], alts := [], laidByText := true, laidKinds := [.data], laidTests := true, laidLooks := .later }
def HistoryCancelsUptoCardSaid : Prop := Claim7.holds Tryd.pinned (.plain (OpenSpec.upto historyCancelsSpec)) historyCancelsUptoCard

/-- THE SECOND FORM's CARD OF 'tillerlaw09.HistorySignals'. -/
def historySignalsUptoCard : Claim7 := { stood := { row := historySignalsUptoRow, standIns := [], harness := (true, "9d8cebe17c93de9583c4976f2453eb3c5a2e94c88e9f3c13457528af23dd0000"), looks := false }, kinds := [], alts := [], laidByText := true, laidKinds := [.data], laidTests := true, laidLooks := .later }
def HistorySignalsUptoCardSaid : Prop := Claim7.holds Tryd.pinned (.plain (OpenSpec.upto historySignalsSpec)) historySignalsUptoCard

/-- THE SECOND FORM's CARD OF 'tillerlaw09.HistoryRoots'. -/
def historyRootsUptoCard : Claim7 := { stood := { row := historyRootsUptoRow, standIns := [], harness := (true, "9d8cebe17c93de9583c4976f2453eb3c5a2e94c88e9f3c13457528af23dd0000"), looks := false }, kinds := [], alts := [], laidByText := true, laidKinds := [.data], laidTests := true, laidLooks := .later }
def HistoryRootsUptoCardSaid : Prop := Claim7.holds Tryd.pinned (.plain (OpenSpec.upto historyRootsSpec)) historyRootsUptoCard

/-- THE SECOND FORM's CARD OF 'tillerlaw09.HistoryTwins'. -/
def historyTwinsUptoCard : Claim7 := { stood := { row := historyTwinsUptoRow, standIns := [], harness := (true, "9d8cebe17c93de9583c4976f2453eb3c5a2e94c88e9f3c13457528af23dd0000"), looks := false }, kinds := [], alts := [], laidByText := true, laidKinds := [.data], laidTests := true, laidLooks := .later }
def HistoryTwinsUptoCardSaid : Prop := Claim7.holds Tryd.pinned (.plain (OpenSpec.upto historyTwinsSpec)) historyTwinsUptoCard
end Rows
end Go.Proofs.YthgeibhmcdefbabDoor
