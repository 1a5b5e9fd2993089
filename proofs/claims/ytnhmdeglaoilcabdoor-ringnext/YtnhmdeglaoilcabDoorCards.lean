/-
  DERIVED. GIVEN WITH THE SEED: THE CARDS: each row of YtnhmdeglaoilcabDoorRows.lean that lists a variable, with what it lists TIED to the program's text (the seventh form; the later family's looks); each row that meets fmt, with fmt's text TOLD by the authors' own Lean function (tested against real Go, not proved from fmt's source: count such statements apart). THE CARD IS WHAT COUNTS. Prove the row's statement (the work); the ties are given (YtnhmdeglaoilcabDoorTie.lean); close each card by the builder's one call (the guide's Derived/Test/ToyasCard.lean, 'card_holds'). Laid BY PROGRAM, IN A SANDBOX (cutbox-door.mjs). By AI agents, Wed Nov 11 2026. No macro, syntax, notation, axiom, sorry.
-/
import Derived.Test.YtnhmdeglaoilcabDoorRows
import GoSem.ClaimSeven
namespace Go.Proofs.YtnhmdeglaoilcabDoor
namespace Rows

/-- THE TIED CARD OF 'tillerlaw06.RingGiven'. -/
def ringGivenCard : Claim7 := { stood := { row := ringGivenRow, standIns := [], harness := (true, "c3a2710300e0752bd256dd7d07e8b0bdcbaf8d832cf97ff1cd3239a6d25fda4c"), looks := false }, kinds := [], alts := [], laidByText := true, laidKinds := [.data, .data, .data], laidTests := true, laidLooks := .later }
def RingGivenCardSaid : Prop := Claim7.holds Tryd.pinned (.plain (OpenSpec.ofChange ringGivenSpec)) ringGivenCard

/-- THE TIED CARD OF 'tillerlaw06.RingNext'. -/
def ringNextCard : Claim7 := { stood := { row := ringNextRow, standIns := [], harness := (true, "c3a2710300e0752bd256dd7d07e8b0bdcbaf8d832cf97ff1cd3239a6d25fda4c"), looks := false }, kinds := [], alts := [], laidByText := true, laidKinds := [.data, .data, .data], laidTests := true, laidLooks := .later }
def RingNextCardSaid : Prop := Claim7.holds Tryd.pinned (.plain (OpenSpec.ofChange ringNextSpec)) ringNextCard

/-- THE TIED CARD OF 'tillerlaw06.RingExact'. -/
def ringExactCard : Claim7 := { stood := { row := ringExactRow, standIns := [], harness := (true, "c3a2710300e0752bd256dd7d07e8b0bdcbaf8d832cf97ff1cd3239a6d25fda4c"), looks := false }, kinds := [], alts := [], laidByText := true, laidKinds := [.data, .data, .data], laidTests := true, laidLooks := .later }
def RingExactCardSaid : Prop := Claim7.holds Tryd.pinned (.plain (OpenSpec.ofChange ringExactSpec)) ringExactCard

/-- THE SECOND FORM's CARD OF 'tillerlaw06.RingGiven'. -/
def ringGivenUptoCard : Claim7 := { stood := { row := ringGivenUptoRow, standIns := [], harness := (true, "c3a2710300e0752bd256dd7d07e8b0bdcbaf8d832cf97ff1cd3239a6d25fda4c"), looks := false }, kinds := [], alts := [], laidByText := true, laidKinds := [.data, .data, .data], laidTests := true, laidLooks := .later }
def RingGivenUptoCardSaid : Prop := Claim7.holds Tryd.pinned (.plain (OpenSpec.upto ringGivenSpec)) ringGivenUptoCard

/-- THE SECOND FORM's CARD OF 'tillerlaw06.RingNext'. -/
def ringNextUptoCard : Claim7 := { stood := { row := ringNextUptoRow, standIns := [], harness := (true, "c3a2710300e0752bd256dd7d07e8b0bdcbaf8d832cf97ff1cd3239a6d25fda4c"), looks := false }, kinds := [], alts := [], laidByText := true, laidKinds := [.data, .data, .data], laidTests := true, laidLooks := .later }
def RingNextUptoCardSaid : Prop := Claim7.holds Tryd.pinned (.plain (OpenSpec.upto ringNextSpec)) ringNextUptoCard

/-- THE SECOND FORM's CARD OF 'tillerlaw06.RingExact'. -/
def ringExactUptoCard : Claim7 := { stood := { row := ringExactUptoRow, standIns := [], harness := (true, "c3a2710300e0752bd256dd7d07e8b0bdcbaf8d832cf97ff1cd3239a6d25fda4c"), looks := false }, kinds := [], alts := [], laidByText := true, laidKinds := [.data, .data, .data], laidTests := true, laidLooks := .later }
def RingExactUptoCardSaid : Prop := Claim7.holds Tryd.pinned (.plain (OpenSpec.upto ringExactSpec)) ringExactUptoCard
end Rows
end Go.Proofs.YtnhmdeglaoilcabDoor
