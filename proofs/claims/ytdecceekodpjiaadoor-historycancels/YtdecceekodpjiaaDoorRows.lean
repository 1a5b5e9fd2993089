/-
  NARROWER THAN 'FOR EVERY INPUT', by the rows' own cells (each row's printed sentence says how): HistoryCancels: laid · HistorySignals: laid · HistoryRoots: laid · HistoryTwins: laid.
  DERIVED. THE GIVEN ROWS OF THIS SEAT. 4 by the template 'for every input the law returns true; each argument reads behind the call as it read before'; 0 by the template 'total and deterministic' (their statements: YtdecceekodpjiaaDoorTotals.lean).
  GIVEN WITH THE SEED: the statements are not yours to turn. If you find one false, say at which input.
  Laid BY PROGRAM, IN A SANDBOX (cutbox-rows.mjs): the forced cells as the released guide's own fill.sh prints them over the translation 45cfc97e912dc61b… (all of the seat's roots in one cut). By AI agents, Wed Nov 11 2026. No macro, syntax, notation, axiom, sorry.
-/
import Derived.Test.YtdecceekodpjiaaDoorChecked
import GoSem.Claim
import GoSem.ClaimJoined
import GoSem.ClaimMapViews
import Derived.JoinedTies
import Derived.KernelRfl
namespace Go.Proofs.YtdecceekodpjiaaDoor
/- THE CELL 'sum', in the pinned program and in every row, IS THE sha256 OF THE DUMP (.gsa) THAT YtdecceekodpjiaaDoorProg.lean LOADS. Nothing in Lean hashes anything: it is a label: what it is worth is what the hold of that sum in a sandbox is worth. -/
noncomputable def Tryd.pinned : Pinned := { name := "ytdecceekodpjiaadoor", sum := "45cfc97e912dc61b28b6ccfe0c1c7707a31ef8445b28a4996ae4d46ed904b516", checked := Tryd.checked }
namespace Rows
def none {H : Type} : Left H := { results := [], args := [] }

/- WHAT THE LISTED PACKAGE-LEVEL VARIABLES READ AS WHEN THE CALL BEGINS. Each datum BY PROGRAM (the guide's laid-datum.mjs) off the statement by which the dump's own 'gosem.cut.vars' lays the variable. In a bare row this is a premise. The card (YtdecceekodpjiaaDoorCards.lean) ties it to the program's text. -/
def laid_tiller_history_moves {H : Type} : DataW H := .agg [.agg [.lit (.int .i64 2), .lit (.int .i64 1), .lit (.int .i64 0), .lit (.int .i64 1), .lit (.bool false)], .agg [.lit (.int .i64 3), .lit (.int .i64 1), .lit (.int .i64 1), .lit (.int .i64 2), .lit (.bool false)], .agg [.lit (.int .i64 5), .lit (.int .i64 1), .lit (.int .i64 2), .lit (.int .i64 1), .lit (.bool false)], .agg [.lit (.int .i64 4), .lit (.int .i64 1), .lit (.int .i64 2), .lit (.int .i64 3), .lit (.bool true)], .agg [.lit (.int .i64 6), .lit (.int .i64 0), .lit (.int .i64 2), .lit (.int .i64 4), .lit (.bool true)], .agg [.lit (.int .i64 6), .lit (.int .i64 3), .lit (.int .i64 0), .lit (.int .i64 4), .lit (.bool true)], .agg [.lit (.int .i64 7), .lit (.int .i64 2), .lit (.int .i64 0), .lit (.int .i64 2), .lit (.bool false)], .agg [.lit (.int .i64 8), .lit (.int .i64 2), .lit (.int .i64 2), .lit (.int .i64 3), .lit (.bool false)], .agg [.lit (.int .i64 9), .lit (.int .i64 3), .lit (.int .i64 0), .lit (.int .i64 2), .lit (.bool false)], .agg [.lit (.int .i64 10), .lit (.int .i64 3), .lit (.int .i64 2), .lit (.int .i64 3), .lit (.bool true)], .agg [.lit (.int .i64 11), .lit (.int .i64 4), .lit (.int .i64 0), .lit (.int .i64 2), .lit (.bool false)], .agg [.lit (.int .i64 12), .lit (.int .i64 4), .lit (.int .i64 2), .lit (.int .i64 3), .lit (.bool true)], .agg [.lit (.int .i64 12), .lit (.int .i64 4), .lit (.int .i64 0), .lit (.int .i64 3), .lit (.bool true)], .agg [.lit (.int .i64 14), .lit (.int .i64 5), .lit (.int .i64 0), .lit (.int .i64 3), .lit (.bool false)]]

/-- 'tillerlaw09.HistoryCancels': WHATEVER THE INPUT: true; the input reads as it did. -/
def historyCancelsSpec : ChangeSpec := { name := "historyCancels", fn := fun _ => fun
  | [d] => { results := [.lit (.bool true)], args := [d] }
  | _ => none }
def historyCancelsRow : OpenClaim := { program := "ytdecceekodpjiaadoor", sum := "45cfc97e912dc61b28b6ccfe0c1c7707a31ef8445b28a4996ae4d46ed904b516", func := "tiller/tillerlaw09.HistoryCancels", spec := "historyCancels", inPlace := ["internal/bytealg.IndexByteString"], unfollowed := true, recurses := true, named := ["tiller/history.moves"], apart := false, laid := [("tiller/history.moves", laid_tiller_history_moves)] }
def HistoryCancelsSaid : Prop := historyCancelsRow.holds Tryd.pinned (OpenSpec.ofChange historyCancelsSpec)

/-- ITS FALSE NEIGHBOUR: 'it returns false'. Refute it at one input. -/
def historyCancelsWrong : ChangeSpec := { name := "historyCancels", fn := fun _ => fun
  | [d] => { results := [.lit (.bool false)], args := [d] }
  | _ => none }
def HistoryCancelsWrongFalsely : Prop := historyCancelsRow.holds Tryd.pinned (OpenSpec.ofChange historyCancelsWrong)

/-- 'tillerlaw09.HistorySignals': WHATEVER THE INPUT: true; the input reads as it did. -/
def historySignalsSpec : ChangeSpec := { name := "historySignals", fn := fun _ => fun
  | [d1, d2] => { results := [.lit (.bool true)], args := [d1, d2] }
  | _ => none }
def historySignalsRow : OpenClaim := { program := "ytdecceekodpjiaadoor", sum := "45cfc97e912dc61b28b6ccfe0c1c7707a31ef8445b28a4996ae4d46ed904b516", func := "tiller/tillerlaw09.HistorySignals", spec := "historySignals", inPlace := ["internal/bytealg.IndexByteString"], unfollowed := true, recurses := true, named := ["tiller/history.moves"], apart := false, laid := [("tiller/history.moves", laid_tiller_history_moves)] }
def HistorySignalsSaid : Prop := historySignalsRow.holds Tryd.pinned (OpenSpec.ofChange historySignalsSpec)

/-- ITS FALSE NEIGHBOUR: 'it returns false'. Refute it at one input. -/
def historySignalsWrong : ChangeSpec := { name := "historySignals", fn := fun _ => fun
  | [d1, d2] => { results := [.lit (.bool false)], args := [d1, d2] }
  | _ => none }
def HistorySignalsWrongFalsely : Prop := historySignalsRow.holds Tryd.pinned (OpenSpec.ofChange historySignalsWrong)

/-- 'tillerlaw09.HistoryRoots': WHATEVER THE INPUT: true; the input reads as it did. -/
def historyRootsSpec : ChangeSpec := { name := "historyRoots", fn := fun _ => fun
  | [d1, d2] => { results := [.lit (.bool true)], args := [d1, d2] }
  | _ => none }
def historyRootsRow : OpenClaim := { program := "ytdecceekodpjiaadoor", sum := "45cfc97e912dc61b28b6ccfe0c1c7707a31ef8445b28a4996ae4d46ed904b516", func := "tiller/tillerlaw09.HistoryRoots", spec := "historyRoots", inPlace := ["internal/bytealg.IndexByteString"], unfollowed := true, recurses := true, named := ["tiller/history.moves"], apart := false, laid := [("tiller/history.moves", laid_tiller_history_moves)] }
def HistoryRootsSaid : Prop := historyRootsRow.holds Tryd.pinned (OpenSpec.ofChange historyRootsSpec)

/-- ITS FALSE NEIGHBOUR: 'it returns false'. Refute it at one input. -/
def historyRootsWrong : ChangeSpec := { name := "historyRoots", fn := fun _ => fun
  | [d1, d2] => { results := [.lit (.bool false)], args := [d1, d2] }
  | _ => none }
def HistoryRootsWrongFalsely : Prop := historyRootsRow.holds Tryd.pinned (OpenSpec.ofChange historyRootsWrong)

/-- 'tillerlaw09.HistoryTwins': WHATEVER THE INPUT: true; the input reads as it did. -/
def historyTwinsSpec : ChangeSpec := { name := "historyTwins", fn := fun _ => fun
  | [d1, d2] => { results := [.lit (.bool true)], args := [d1, d2] }
  | _ => none }
def historyTwinsRow : OpenClaim := { program := "ytdecceekodpjiaadoor", sum := "45cfc97e912dc61b28b6ccfe0c1c7707a31ef8445b28a4996ae4d46ed904b516", func := "tiller/tillerlaw09.HistoryTwins", spec := "historyTwins", inPlace := ["internal/bytealg.IndexByteString"], unfollowed := true, recurses := true, named := ["tiller/history.moves"], apart := false, laid := [("tiller/history.moves", laid_tiller_history_moves)] }
def HistoryTwinsSaid : Prop := historyTwinsRow.holds Tryd.pinned (OpenSpec.ofChange historyTwinsSpec)

/-- ITS FALSE NEIGHBOUR: 'it returns false'. Refute it at one input. -/
def historyTwinsWrong : ChangeSpec := { name := "historyTwins", fn := fun _ => fun
  | [d1, d2] => { results := [.lit (.bool false)], args := [d1, d2] }
  | _ => none }
def HistoryTwinsWrongFalsely : Prop := historyTwinsRow.holds Tryd.pinned (OpenSpec.ofChange historyTwinsWrong)

/- THE SECOND FORM. 'bulk': how many values and letters a reading holds, each counted each time it is reached (what is shared counts as often as it is met; a slice's spare places count too). A statement '..UptoSaid' is the law's where the arguments, and the package variables that the reading takes, are together of bulk at most 1048576: NARROWER than '..Said'. Prove '..Said' where nothing that the law and all that it calls make is longer than what came in: it says more and counts as full. Else prove '..UptoSaid'. A law counts once. -/
mutual
def uptoBulk {H : Type} : DataW H → Nat
  | .lit (.string bytes) => bytes.length + 1
  | .lit _ => 1
  | .nil => 1
  | .ptr d => uptoBulk d + 1
  | .slice elems spare => uptoBulkAll elems + uptoBulkAll spare + 1
  | .agg parts => uptoBulkAll parts + 1
  | .iface _ d => uptoBulk d + 1
  | .map entries => uptoBulkEntries entries + 1
  | .held _ => 1
def uptoBulkAll {H : Type} : List (DataW H) → Nat
  | [] => 0
  | d :: r => uptoBulk d + uptoBulkAll r
def uptoBulkEntries {H : Type} : List (Lit × DataW H) → Nat
  | [] => 0
  | x :: r => uptoBulkEntry x + uptoBulkEntries r
def uptoBulkEntry {H : Type} : Lit × DataW H → Nat
  | (.string bytes, d) => bytes.length + uptoBulk d + 1
  | (_, d) => uptoBulk d + 1
 end
def uptoSmall : (H : Type) → List (DataW H) → Bool := fun _ ds => decide (uptoBulkAll ds ≤ 1048576)
def OpenSpec.upto (s : _root_.Go.ChangeSpec) : _root_.Go.OpenSpec := { _root_.Go.OpenSpec.ofChange s with cond := some uptoSmall }

/-- 'tillerlaw09.HistoryCancels', WHERE WHAT IT READS IS OF BULK AT MOST 1048576: true; the input reads as it did. -/
def historyCancelsUptoRow : OpenClaim := { program := "ytdecceekodpjiaadoor", sum := "45cfc97e912dc61b28b6ccfe0c1c7707a31ef8445b28a4996ae4d46ed904b516", func := "tiller/tillerlaw09.HistoryCancels", spec := "historyCancels", inPlace := ["internal/bytealg.IndexByteString"], unfollowed := true, recurses := true, named := ["tiller/history.moves"], apart := false, laid := [("tiller/history.moves", laid_tiller_history_moves)], narrowed := true }
def HistoryCancelsUptoSaid : Prop := historyCancelsUptoRow.holds Tryd.pinned (OpenSpec.upto historyCancelsSpec)

/-- 'tillerlaw09.HistorySignals', WHERE WHAT IT READS IS OF BULK AT MOST 1048576: true; the input reads as it did. -/
def historySignalsUptoRow : OpenClaim := { program := "ytdecceekodpjiaadoor", sum := "45cfc97e912dc61b28b6ccfe0c1c7707a31ef8445b28a4996ae4d46ed904b516", func := "tiller/tillerlaw09.HistorySignals", spec := "historySignals", inPlace := ["internal/bytealg.IndexByteString"], unfollowed := true, recurses := true, named := ["tiller/history.moves"], apart := false, laid := [("tiller/history.moves", laid_tiller_history_moves)], narrowed := true }
def HistorySignalsUptoSaid : Prop := historySignalsUptoRow.holds Tryd.pinned (OpenSpec.upto historySignalsSpec)

/-- 'tillerlaw09.HistoryRoots', WHERE WHAT IT READS IS OF BULK AT MOST 1048576: true; the input reads as it did. -/
def historyRootsUptoRow : OpenClaim := { program := "ytdecceekodpjiaadoor", sum := "45cfc97e912dc61b28b6ccfe0c1c7707a31ef8445b28a4996ae4d46ed904b516", func := "tiller/tillerlaw09.HistoryRoots", spec := "historyRoots", inPlace := ["internal/bytealg.IndexByteString"], unfollowed := true, recurses := true, named := ["tiller/history.moves"], apart := false, laid := [("tiller/history.moves", laid_tiller_history_moves)], narrowed := true }
def HistoryRootsUptoSaid : Prop := historyRootsUptoRow.holds Tryd.pinned (OpenSpec.upto historyRootsSpec)

/-- 'tillerlaw09.HistoryTwins', WHERE WHAT IT READS IS OF BULK AT MOST 1048576: true; the input reads as it did. -/
def historyTwinsUptoRow : OpenClaim := { program := "ytdecceekodpjiaadoor", sum := "45cfc97e912dc61b28b6ccfe0c1c7707a31ef8445b28a4996ae4d46ed904b516", func := "tiller/tillerlaw09.HistoryTwins", spec := "historyTwins", inPlace := ["internal/bytealg.IndexByteString"], unfollowed := true, recurses := true, named := ["tiller/history.moves"], apart := false, laid := [("tiller/history.moves", laid_tiller_history_moves)], narrowed := true }
def HistoryTwinsUptoSaid : Prop := historyTwinsUptoRow.holds Tryd.pinned (OpenSpec.upto historyTwinsSpec)

end Rows
end Go.Proofs.YtdecceekodpjiaaDoor
