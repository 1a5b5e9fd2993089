/-
  NARROWER THAN 'FOR EVERY INPUT', by the rows' own cells (each row's printed sentence says how): HistoryExact: laid · HistoryFolds: laid · HistoryApply: laid · HistoryEnds: laid · HistoryMoves: laid · HistoryTasks: laid.
  DERIVED. THE GIVEN ROWS OF THIS SEAT. 6 by the template 'for every input the law returns true; each argument reads behind the call as it read before'; 0 by the template 'total and deterministic' (their statements: YtfjekjbkifmpfaaDoorTotals.lean).
  GIVEN WITH THE SEED: the statements are not yours to turn. If you find one false, say at which input.
  Laid BY PROGRAM, IN A SANDBOX (cutbox-rows.mjs): the forced cells as the released guide's own fill.sh prints them over the translation e8faa0e5e9e5b6d1… (all of the seat's roots in one cut). By AI agents, Wed Nov 11 2026. No macro, syntax, notation, axiom, sorry.
-/
import Derived.Test.YtfjekjbkifmpfaaDoorChecked
import GoSem.Claim
import GoSem.ClaimJoined
import GoSem.ClaimMapViews
import Derived.JoinedTies
import Derived.KernelRfl
namespace Go.Proofs.YtfjekjbkifmpfaaDoor
/- THE CELL 'sum', in the pinned program and in every row, IS THE sha256 OF THE DUMP (.gsa) THAT YtfjekjbkifmpfaaDoorProg.lean LOADS. Nothing in Lean hashes anything: it is a label: what it is worth is what the hold of that sum in a sandbox is worth. -/
noncomputable def Tryd.pinned : Pinned := { name := "ytfjekjbkifmpfaadoor", sum := "e8faa0e5e9e5b6d14c9241bac2b477c1bd49e6676495ae63f9704d9b87ce856b", checked := Tryd.checked }
namespace Rows
def none {H : Type} : Left H := { results := [], args := [] }

/- WHAT THE LISTED PACKAGE-LEVEL VARIABLES READ AS WHEN THE CALL BEGINS. Each datum BY PROGRAM (the guide's laid-datum.mjs) off the statement by which the dump's own 'gosem.cut.vars' lays the variable. In a bare row this is a premise. The card (YtfjekjbkifmpfaaDoorCards.lean) ties it to the program's text. -/
def laid_tiller_history_moves {H : Type} : DataW H := .agg [.agg [.lit (.int .i64 2), .lit (.int .i64 1), .lit (.int .i64 0), .lit (.int .i64 1), .lit (.bool false)], .agg [.lit (.int .i64 3), .lit (.int .i64 1), .lit (.int .i64 1), .lit (.int .i64 2), .lit (.bool false)], .agg [.lit (.int .i64 5), .lit (.int .i64 1), .lit (.int .i64 2), .lit (.int .i64 1), .lit (.bool false)], .agg [.lit (.int .i64 4), .lit (.int .i64 1), .lit (.int .i64 2), .lit (.int .i64 3), .lit (.bool true)], .agg [.lit (.int .i64 6), .lit (.int .i64 0), .lit (.int .i64 2), .lit (.int .i64 4), .lit (.bool true)], .agg [.lit (.int .i64 6), .lit (.int .i64 3), .lit (.int .i64 0), .lit (.int .i64 4), .lit (.bool true)], .agg [.lit (.int .i64 7), .lit (.int .i64 2), .lit (.int .i64 0), .lit (.int .i64 2), .lit (.bool false)], .agg [.lit (.int .i64 8), .lit (.int .i64 2), .lit (.int .i64 2), .lit (.int .i64 3), .lit (.bool false)], .agg [.lit (.int .i64 9), .lit (.int .i64 3), .lit (.int .i64 0), .lit (.int .i64 2), .lit (.bool false)], .agg [.lit (.int .i64 10), .lit (.int .i64 3), .lit (.int .i64 2), .lit (.int .i64 3), .lit (.bool true)], .agg [.lit (.int .i64 11), .lit (.int .i64 4), .lit (.int .i64 0), .lit (.int .i64 2), .lit (.bool false)], .agg [.lit (.int .i64 12), .lit (.int .i64 4), .lit (.int .i64 2), .lit (.int .i64 3), .lit (.bool true)], .agg [.lit (.int .i64 12), .lit (.int .i64 4), .lit (.int .i64 0), .lit (.int .i64 3), .lit (.bool true)], .agg [.lit (.int .i64 14), .lit (.int .i64 5), .lit (.int .i64 0), .lit (.int .i64 3), .lit (.bool false)]]

/-- 'tillerlaw09.HistoryExact': WHATEVER THE INPUT: true; the input reads as it did. -/
def historyExactSpec : ChangeSpec := { name := "historyExact", fn := fun _ => fun
  | [d1, d2] => { results := [.lit (.bool true)], args := [d1, d2] }
  | _ => none }
def historyExactRow : OpenClaim := { program := "ytfjekjbkifmpfaadoor", sum := "e8faa0e5e9e5b6d14c9241bac2b477c1bd49e6676495ae63f9704d9b87ce856b", func := "tiller/tillerlaw09.HistoryExact", spec := "historyExact", inPlace := ["internal/bytealg.IndexByteString"], unfollowed := true, recurses := true, named := ["tiller/history.moves"], apart := false, laid := [("tiller/history.moves", laid_tiller_history_moves)] }
def HistoryExactSaid : Prop := historyExactRow.holds Tryd.pinned (OpenSpec.ofChange historyExactSpec)

/-- ITS FALSE NEIGHBOUR: 'it returns false'. Refute it at one input. -/
def historyExactWrong : ChangeSpec := { name := "historyExact", fn := fun _ => fun
  | [d1, d2] => { results := [.lit (.bool false)], args := [d1, d2] }
  | _ => none }
def HistoryExactWrongFalsely : Prop := historyExactRow.holds Tryd.pinned (OpenSpec.ofChange historyExactWrong)

/-- 'tillerlaw09.HistoryFolds': WHATEVER THE INPUT: true; the input reads as it did. -/
def historyFoldsSpec : ChangeSpec := { name := "historyFolds", fn := fun _ => fun
  | [d1, d2, d3] => { results := [.lit (.bool true)], args := [d1, d2, d3] }
  | _ => none }
def historyFoldsRow : OpenClaim := { program := "ytfjekjbkifmpfaadoor", sum := "e8faa0e5e9e5b6d14c9241bac2b477c1bd49e6676495ae63f9704d9b87ce856b", func := "tiller/tillerlaw09.HistoryFolds", spec := "historyFolds", inPlace := ["internal/bytealg.IndexByteString"], unfollowed := true, recurses := true, named := ["tiller/history.moves"], apart := false, laid := [("tiller/history.moves", laid_tiller_history_moves)] }
def HistoryFoldsSaid : Prop := historyFoldsRow.holds Tryd.pinned (OpenSpec.ofChange historyFoldsSpec)

/-- ITS FALSE NEIGHBOUR: 'it returns false'. Refute it at one input. -/
def historyFoldsWrong : ChangeSpec := { name := "historyFolds", fn := fun _ => fun
  | [d1, d2, d3] => { results := [.lit (.bool false)], args := [d1, d2, d3] }
  | _ => none }
def HistoryFoldsWrongFalsely : Prop := historyFoldsRow.holds Tryd.pinned (OpenSpec.ofChange historyFoldsWrong)

/-- 'tillerlaw09.HistoryApply': WHATEVER THE INPUT: true; the input reads as it did. -/
def historyApplySpec : ChangeSpec := { name := "historyApply", fn := fun _ => fun
  | [d1, d2, d3] => { results := [.lit (.bool true)], args := [d1, d2, d3] }
  | _ => none }
def historyApplyRow : OpenClaim := { program := "ytfjekjbkifmpfaadoor", sum := "e8faa0e5e9e5b6d14c9241bac2b477c1bd49e6676495ae63f9704d9b87ce856b", func := "tiller/tillerlaw09.HistoryApply", spec := "historyApply", inPlace := ["internal/bytealg.IndexByteString"], unfollowed := true, recurses := true, named := ["tiller/history.moves"], apart := false, laid := [("tiller/history.moves", laid_tiller_history_moves)] }
def HistoryApplySaid : Prop := historyApplyRow.holds Tryd.pinned (OpenSpec.ofChange historyApplySpec)

/-- ITS FALSE NEIGHBOUR: 'it returns false'. Refute it at one input. -/
def historyApplyWrong : ChangeSpec := { name := "historyApply", fn := fun _ => fun
  | [d1, d2, d3] => { results := [.lit (.bool false)], args := [d1, d2, d3] }
  | _ => none }
def HistoryApplyWrongFalsely : Prop := historyApplyRow.holds Tryd.pinned (OpenSpec.ofChange historyApplyWrong)

/-- 'tillerlaw09.HistoryEnds': WHATEVER THE INPUT: true; the input reads as it did. -/
def historyEndsSpec : ChangeSpec := { name := "historyEnds", fn := fun _ => fun
  | [d1, d2, d3] => { results := [.lit (.bool true)], args := [d1, d2, d3] }
  | _ => none }
def historyEndsRow : OpenClaim := { program := "ytfjekjbkifmpfaadoor", sum := "e8faa0e5e9e5b6d14c9241bac2b477c1bd49e6676495ae63f9704d9b87ce856b", func := "tiller/tillerlaw09.HistoryEnds", spec := "historyEnds", inPlace := ["internal/bytealg.IndexByteString"], unfollowed := true, recurses := true, named := ["tiller/history.moves"], apart := false, laid := [("tiller/history.moves", laid_tiller_history_moves)] }
def HistoryEndsSaid : Prop := historyEndsRow.holds Tryd.pinned (OpenSpec.ofChange historyEndsSpec)

/-- ITS FALSE NEIGHBOUR: 'it returns false'. Refute it at one input. -/
def historyEndsWrong : ChangeSpec := { name := "historyEnds", fn := fun _ => fun
  | [d1, d2, d3] => { results := [.lit (.bool false)], args := [d1, d2, d3] }
  | _ => none }
def HistoryEndsWrongFalsely : Prop := historyEndsRow.holds Tryd.pinned (OpenSpec.ofChange historyEndsWrong)

/-- 'tillerlaw09.HistoryMoves': WHATEVER THE INPUT: true; the input reads as it did. -/
def historyMovesSpec : ChangeSpec := { name := "historyMoves", fn := fun _ => fun
  | [d1, d2] => { results := [.lit (.bool true)], args := [d1, d2] }
  | _ => none }
def historyMovesRow : OpenClaim := { program := "ytfjekjbkifmpfaadoor", sum := "e8faa0e5e9e5b6d14c9241bac2b477c1bd49e6676495ae63f9704d9b87ce856b", func := "tiller/tillerlaw09.HistoryMoves", spec := "historyMoves", inPlace := ["internal/bytealg.IndexByteString"], unfollowed := true, recurses := true, named := ["tiller/history.moves"], apart := false, laid := [("tiller/history.moves", laid_tiller_history_moves)] }
def HistoryMovesSaid : Prop := historyMovesRow.holds Tryd.pinned (OpenSpec.ofChange historyMovesSpec)

/-- ITS FALSE NEIGHBOUR: 'it returns false'. Refute it at one input. -/
def historyMovesWrong : ChangeSpec := { name := "historyMoves", fn := fun _ => fun
  | [d1, d2] => { results := [.lit (.bool false)], args := [d1, d2] }
  | _ => none }
def HistoryMovesWrongFalsely : Prop := historyMovesRow.holds Tryd.pinned (OpenSpec.ofChange historyMovesWrong)

/-- 'tillerlaw09.HistoryTasks': WHATEVER THE INPUT: true; the input reads as it did. -/
def historyTasksSpec : ChangeSpec := { name := "historyTasks", fn := fun _ => fun
  | [d1, d2] => { results := [.lit (.bool true)], args := [d1, d2] }
  | _ => none }
def historyTasksRow : OpenClaim := { program := "ytfjekjbkifmpfaadoor", sum := "e8faa0e5e9e5b6d14c9241bac2b477c1bd49e6676495ae63f9704d9b87ce856b", func := "tiller/tillerlaw09.HistoryTasks", spec := "historyTasks", inPlace := ["internal/bytealg.IndexByteString"], unfollowed := true, recurses := true, named := ["tiller/history.moves"], apart := false, laid := [("tiller/history.moves", laid_tiller_history_moves)] }
def HistoryTasksSaid : Prop := historyTasksRow.holds Tryd.pinned (OpenSpec.ofChange historyTasksSpec)

/-- ITS FALSE NEIGHBOUR: 'it returns false'. Refute it at one input. -/
def historyTasksWrong : ChangeSpec := { name := "historyTasks", fn := fun _ => fun
  | [d1, d2] => { results := [.lit (.bool false)], args := [d1, d2] }
  | _ => none }
def HistoryTasksWrongFalsely : Prop := historyTasksRow.holds Tryd.pinned (OpenSpec.ofChange historyTasksWrong)

/- THE SECOND FORM. 'bulk': how many values and letters a reading holds, each counted each time it is reached (what is shared counts as often as it is met; a slice's spare places count too). A statement '..UptoSaid' is the law's where the arguments, and the package variables that the reading takes, are together of bulk at most 1048576: NARROWER than '..Said'. Prove '..Said' where nothing that the law and all that it calls make is longer than what came in: it says more and counts as full. Else prove '..UptoSaid'. A law counts once. -/
mutual
def uptoBulk {H : Type} : DataW H → Nat
  | .lit (.string bytes) => bytes.length + 1
  | .lit _ => 1
  | .nil => 1
  | .ptr d => uptoBulk d + 1
  | .slice elems spare => uptoBulkAll elems + uptoBulkAll spare + 1
  | .agg parts => uptoBulkAll parts + 1
  | .iface _ d => uptoBulk d + 1
  | .map entries => uptoBulkEntries entries + 1
  | .held _ => 1
def uptoBulkAll {H : Type} : List (DataW H) → Nat
  | [] => 0
  | d :: r => uptoBulk d + uptoBulkAll r
def uptoBulkEntries {H : Type} : List (Lit × DataW H) → Nat
  | [] => 0
  | x :: r => uptoBulkEntry x + uptoBulkEntries r
def uptoBulkEntry {H : Type} : Lit × DataW H → Nat
  | (.string bytes, d) => bytes.length + uptoBulk d + 1
  | (_, d) => uptoBulk d + 1
 end
def uptoSmall : (H : Type) → List (DataW H) → Bool := fun _ ds => decide (uptoBulkAll ds ≤ 1048576)
def OpenSpec.upto (s : _root_.Go.ChangeSpec) : _root_.Go.OpenSpec := { _root_.Go.OpenSpec.ofChange s with cond := some uptoSmall }

/-- 'tillerlaw09.HistoryExact', WHERE WHAT IT READS IS OF BULK AT MOST 1048576: true; the input reads as it did. -/
def historyExactUptoRow : OpenClaim := { program := "ytfjekjbkifmpfaadoor", sum := "e8faa0e5e9e5b6d14c9241bac2b477c1bd49e6676495ae63f9704d9b87ce856b", func := "tiller/tillerlaw09.HistoryExact", spec := "historyExact", inPlace := ["internal/bytealg.IndexByteString"], unfollowed := true, recurses := true, named := ["tiller/history.moves"], apart := false, laid := [("tiller/history.moves", laid_tiller_history_moves)], narrowed := true }
def HistoryExactUptoSaid : Prop := historyExactUptoRow.holds Tryd.pinned (OpenSpec.upto historyExactSpec)

/-- 'tillerlaw09.HistoryFolds', WHERE WHAT IT READS IS OF BULK AT MOST 1048576: true; the input reads as it did. -/
def historyFoldsUptoRow : OpenClaim := { program := "ytfjekjbkifmpfaadoor", sum := "e8faa0e5e9e5b6d14c9241bac2b477c1bd49e6676495ae63f9704d9b87ce856b", func := "tiller/tillerlaw09.HistoryFolds", spec := "historyFolds", inPlace := ["internal/bytealg.IndexByteString"], unfollowed := true, recurses := true, named := ["tiller/history.moves"], apart := false, laid := [("tiller/history.moves", laid_tiller_history_moves)], narrowed := true }
def HistoryFoldsUptoSaid : Prop := historyFoldsUptoRow.holds Tryd.pinned (OpenSpec.upto historyFoldsSpec)

/-- 'tillerlaw09.HistoryApply', WHERE WHAT IT READS IS OF BULK AT MOST 1048576: true; the input reads as it did. -/
def historyApplyUptoRow : OpenClaim := { program := "ytfjekjbkifmpfaadoor", sum := "e8faa0e5e9e5b6d14c9241bac2b477c1bd49e6676495ae63f9704d9b87ce856b", func := "tiller/tillerlaw09.HistoryApply", spec := "historyApply", inPlace := ["internal/bytealg.IndexByteString"], unfollowed := true, recurses := true, named := ["tiller/history.moves"], apart := false, laid := [("tiller/history.moves", laid_tiller_history_moves)], narrowed := true }
def HistoryApplyUptoSaid : Prop := historyApplyUptoRow.holds Tryd.pinned (OpenSpec.upto historyApplySpec)

/-- 'tillerlaw09.HistoryEnds', WHERE WHAT IT READS IS OF BULK AT MOST 1048576: true; the input reads as it did. -/
def historyEndsUptoRow : OpenClaim := { program := "ytfjekjbkifmpfaadoor", sum := "e8faa0e5e9e5b6d14c9241bac2b477c1bd49e6676495ae63f9704d9b87ce856b", func := "tiller/tillerlaw09.HistoryEnds", spec := "historyEnds", inPlace := ["internal/bytealg.IndexByteString"], unfollowed := true, recurses := true, named := ["tiller/history.moves"], apart := false, laid := [("tiller/history.moves", laid_tiller_history_moves)], narrowed := true }
def HistoryEndsUptoSaid : Prop := historyEndsUptoRow.holds Tryd.pinned (OpenSpec.upto historyEndsSpec)

/-- 'tillerlaw09.HistoryMoves', WHERE WHAT IT READS IS OF BULK AT MOST 1048576: true; the input reads as it did. -/
def historyMovesUptoRow : OpenClaim := { program := "ytfjekjbkifmpfaadoor", sum := "e8faa0e5e9e5b6d14c9241bac2b477c1bd49e6676495ae63f9704d9b87ce856b", func := "tiller/tillerlaw09.HistoryMoves", spec := "historyMoves", inPlace := ["internal/bytealg.IndexByteString"], unfollowed := true, recurses := true, named := ["tiller/history.moves"], apart := false, laid := [("tiller/history.moves", laid_tiller_history_moves)], narrowed := true }
def HistoryMovesUptoSaid : Prop := historyMovesUptoRow.holds Tryd.pinned (OpenSpec.upto historyMovesSpec)

/-- 'tillerlaw09.HistoryTasks', WHERE WHAT IT READS IS OF BULK AT MOST 1048576: true; the input reads as it did. -/
def historyTasksUptoRow : OpenClaim := { program := "ytfjekjbkifmpfaadoor", sum := "e8faa0e5e9e5b6d14c9241bac2b477c1bd49e6676495ae63f9704d9b87ce856b", func := "tiller/tillerlaw09.HistoryTasks", spec := "historyTasks", inPlace := ["internal/bytealg.IndexByteString"], unfollowed := true, recurses := true, named := ["tiller/history.moves"], apart := false, laid := [("tiller/history.moves", laid_tiller_history_moves)], narrowed := true }
def HistoryTasksUptoSaid : Prop := historyTasksUptoRow.holds Tryd.pinned (OpenSpec.upto historyTasksSpec)

end Rows
end Go.Proofs.YtfjekjbkifmpfaaDoor
