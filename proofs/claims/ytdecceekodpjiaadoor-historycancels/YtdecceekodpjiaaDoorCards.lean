/-
  DERIVED. GIVEN WITH THE SEED: THE CARDS: each row of YtdecceekodpjiaaDoorRows.lean that lists a variable, with what it lists TIED to the program's text (the seventh form; the later family's looks); each row that meets fmt, with fmt's text TOLD by the authors' own Lean function (tested against real Go, not proved from fmt's source: count such statements apart). THE CARD IS WHAT COUNTS. Prove the row's statement (the work); the ties are given (YtdecceekodpjiaaDoorTie.lean); close each card by the builder's one call (the guide's Derived/Test/ToyasCard.lean, 'card_holds'). Laid BY PROGRAM, IN A SANDBOX (cutbox-door.mjs). By AI agents, Wed Nov 11 2026. No macro, syntax, notation, axiom, sorry.
-/
import Derived.Test.YtdecceekodpjiaaDoorRows
import GoSem.ClaimSeven
namespace Go.Proofs.YtdecceekodpjiaaDoor
namespace Rows

/-- THE TIED CARD OF 'tillerlaw09.HistoryCancels'. -/
def historyCancelsCard : Claim7 := { stood := { row := historyCancelsRow, standIns := [], harness := (true, "1afb58809577afd5177e62243a3694f070b4fd419bd6de8b840034b44bb59183"), looks := false }, kinds := [], alts := [], laidByText := true, laidKinds := [.data], laidTests := true, laidLooks := .later }
def HistoryCancelsCardSaid : Prop := Claim7.holds Tryd.pinned (.plain (OpenSpec.ofChange historyCancelsSpec)) historyCancelsCard

/-- THE TIED CARD OF 'tillerlaw09.HistorySignals'. -/
def historySignalsCard : Claim7 := { stood := { row := historySignalsRow, standIns := [], harness := (true, "1afb58809577afd5177e62243a3694f070b4fd419bd6de8b840034b44bb59183"), looks := false }, kinds := [], alts := [], laidByText := true, laidKinds := [.data], laidTests := true, laidLooks := .later }
def HistorySignalsCardSaid : Prop := Claim7.holds Tryd.pinned (.plain (OpenSpec.ofChange historySignalsSpec)) historySignalsCard

/-- THE TIED CARD OF 'tillerlaw09.HistoryRoots'. -/
def historyRootsCard : Claim7 := { stood := { row := historyRootsRow, standIns := [], harness := (true, "1afb58809577afd5177e62243a3694f070b4fd419bd6de8b840034b44bb59183"), looks := false }, kinds := [], alts := [], laidByText := true, laidKinds := [.data], laidTests := true, laidLooks := .later }
def HistoryRootsCardSaid : Prop := Claim7.holds Tryd.pinned (.plain (OpenSpec.ofChange historyRootsSpec)) historyRootsCard

/-- THE TIED CARD OF 'tillerlaw09.HistoryTwins'. -/
def historyTwinsCard : Claim7 := { stood := { row := historyTwinsRow, standIns := [], harness := (true, "1afb58809577afd5177e62243a3694f070b4fd419bd6de8b840034b44bb59183"), looks := false }, kinds := [], alts := [], laidByText := true, laidKinds := [.data], laidTests := true, laidLooks := .later }
def HistoryTwinsCardSaid : Prop := Claim7.holds Tryd.pinned (.plain (OpenSpec.ofChange historyTwinsSpec)) historyTwinsCard

/-- THE SECOND FORM's CARD OF 'tillerlaw09.HistoryCancels'. -/
def historyCancelsUptoCard : Claim7 := { stood := { row := historyCancelsUptoRow, standIns := [], harness := (true, "1afb58809577afd5177e62243a3694f070b4fd419bd6de8b840034b44bb59183"), looks := false }, kinds := [], alts := [], laidByText := true, laidKinds := [.data], laidTests := true, laidLooks := .later }
def HistoryCancelsUptoCardSaid : Prop := Claim7.holds Tryd.pinned (.plain (OpenSpec.upto historyCancelsSpec)) historyCancelsUptoCard

/-- THE SECOND FORM's CARD OF 'tillerlaw09.HistorySignals'. -/
def historySignalsUptoCard : Claim7 := { stood := { row := historySignalsUptoRow, standIns := [], harness := (true, "1afb58809577afd5177e62243a3694f070b4fd419bd6de8b840034b44bb59183"), looks := false }, kinds := [], alts := [], laidByText := true, laidKinds := [.data], laidTests := true, laidLooks := .later }
def HistorySignalsUptoCardSaid : Prop := Claim7.holds Tryd.pinned (.plain (OpenSpec.upto historySignalsSpec)) historySignalsUptoCard

/-- THE SECOND FORM's CARD OF 'tillerlaw09.HistoryRoots'. -/
def historyRootsUptoCard : Claim7 := { stood := { row := historyRootsUptoRow, standIns := [], harness := (true, "1afb58809577afd5177e62243a3694f070b4fd419bd6de8b840034b44bb59183"), looks := false }, kinds := [], alts := [], laidByText := true, laidKinds := [.data], laidTests := true, laidLooks := .later }
def HistoryRootsUptoCardSaid : Prop := Claim7.holds Tryd.pinned (.plain (OpenSpec.upto historyRootsSpec)) historyRootsUptoCard

/-- THE SECOND FORM's CARD OF 'tillerlaw09.HistoryTwins'. -/
def historyTwinsUptoCard : Claim7 := { stood := { row := historyTwinsUptoRow, standIns := [], harness := (true, "1afb58809577afd5177e62243a3694f070b4fd419bd6de8b840034b44bb59183"), looks := false }, kinds := [], alts := [], laidByText := true, laidKinds := [.data], laidTests := true, laidLooks := .later }
def HistoryTwinsUptoCardSaid : Prop := Claim7.holds Tryd.pinned (.plain (OpenSpec.upto historyTwinsSpec)) historyTwinsUptoCard
end Rows
end Go.Proofs.YtdecceekodpjiaaDoor
