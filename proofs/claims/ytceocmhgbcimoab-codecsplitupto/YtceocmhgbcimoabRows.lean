/-
  No cell of these rows narrows 'for every input' (looked for: loops, veiled, ifaces, maps, wideKeys, modest, calm, conditions, laid).
  DERIVED. THE GIVEN ROWS OF THIS SEAT. 6 by the template 'for every input the law returns true; each argument reads behind the call as it read before'; 0 by the template 'total and deterministic' (their statements: YtceocmhgbcimoabTotals.lean).
  GIVEN WITH THE SEED: the statements are not yours to turn. If you find one false, say at which input.
  Laid BY PROGRAM, IN A SANDBOX (cutbox-rows.mjs): the forced cells as the released guide's own fill.sh prints them over the translation 2b193b60bc228d07… (all of the seat's roots in one cut). By AI agents, Wed Nov 11 2026. No macro, syntax, notation, axiom, sorry.
-/
import Derived.Test.YtceocmhgbcimoabChecked
import GoSem.Claim
import GoSem.ClaimJoined
import GoSem.ClaimMapViews
import Derived.JoinedTies
import Derived.KernelRfl
namespace Go.Proofs.Ytceocmhgbcimoab
/- THE CELL 'sum', in the pinned program and in every row, IS THE sha256 OF THE DUMP (.gsa) THAT YtceocmhgbcimoabProg.lean LOADS. Nothing in Lean hashes anything: it is a label: what it is worth is what the hold of that sum in a sandbox is worth. -/
noncomputable def Try.pinned : Pinned := { name := "ytceocmhgbcimoab", sum := "2b193b60bc228d073d9d5a033d40376e4be15081d9fc2ea7a94ee224f1ff258b", checked := Try.checked }
namespace Rows
def none {H : Type} : Left H := { results := [], args := [] }

/-- 'tillerlaw02.CodecFrames': WHATEVER THE INPUT: true; the input reads as it did. -/
def codecFramesSpec : ChangeSpec := { name := "codecFrames", fn := fun _ => fun
  | [d1, d2, d3] => { results := [.lit (.bool true)], args := [d1, d2, d3] }
  | _ => none }
def codecFramesRow : OpenClaim := { program := "ytceocmhgbcimoab", sum := "2b193b60bc228d073d9d5a033d40376e4be15081d9fc2ea7a94ee224f1ff258b", func := "tiller/tillerlaw02.CodecFrames", spec := "codecFrames", unfollowed := true, recurses := true, apart := false }
def CodecFramesSaid : Prop := codecFramesRow.holds Try.pinned (OpenSpec.ofChange codecFramesSpec)

/-- ITS FALSE NEIGHBOUR: 'it returns false'. Refute it at one input. -/
def codecFramesWrong : ChangeSpec := { name := "codecFrames", fn := fun _ => fun
  | [d1, d2, d3] => { results := [.lit (.bool false)], args := [d1, d2, d3] }
  | _ => none }
def CodecFramesWrongFalsely : Prop := codecFramesRow.holds Try.pinned (OpenSpec.ofChange codecFramesWrong)

/-- 'tillerlaw02.CodecSplit': WHATEVER THE INPUT: true; the input reads as it did. -/
def codecSplitSpec : ChangeSpec := { name := "codecSplit", fn := fun _ => fun
  | [d1, d2] => { results := [.lit (.bool true)], args := [d1, d2] }
  | _ => none }
def codecSplitRow : OpenClaim := { program := "ytceocmhgbcimoab", sum := "2b193b60bc228d073d9d5a033d40376e4be15081d9fc2ea7a94ee224f1ff258b", func := "tiller/tillerlaw02.CodecSplit", spec := "codecSplit", unfollowed := true, recurses := true, apart := false }
def CodecSplitSaid : Prop := codecSplitRow.holds Try.pinned (OpenSpec.ofChange codecSplitSpec)

/-- ITS FALSE NEIGHBOUR: 'it returns false'. Refute it at one input. -/
def codecSplitWrong : ChangeSpec := { name := "codecSplit", fn := fun _ => fun
  | [d1, d2] => { results := [.lit (.bool false)], args := [d1, d2] }
  | _ => none }
def CodecSplitWrongFalsely : Prop := codecSplitRow.holds Try.pinned (OpenSpec.ofChange codecSplitWrong)

/-- 'tillerlaw03.WalKeeps': WHATEVER THE INPUT: true; the input reads as it did. -/
def walKeepsSpec : ChangeSpec := { name := "walKeeps", fn := fun _ => fun
  | [d] => { results := [.lit (.bool true)], args := [d] }
  | _ => none }
def walKeepsRow : OpenClaim := { program := "ytceocmhgbcimoab", sum := "2b193b60bc228d073d9d5a033d40376e4be15081d9fc2ea7a94ee224f1ff258b", func := "tiller/tillerlaw03.WalKeeps", spec := "walKeeps", unfollowed := true, recurses := true, apart := false }
def WalKeepsSaid : Prop := walKeepsRow.holds Try.pinned (OpenSpec.ofChange walKeepsSpec)

/-- ITS FALSE NEIGHBOUR: 'it returns false'. Refute it at one input. -/
def walKeepsWrong : ChangeSpec := { name := "walKeeps", fn := fun _ => fun
  | [d] => { results := [.lit (.bool false)], args := [d] }
  | _ => none }
def WalKeepsWrongFalsely : Prop := walKeepsRow.holds Try.pinned (OpenSpec.ofChange walKeepsWrong)

/-- 'tillerlaw03.WalResumes': WHATEVER THE INPUT: true; the input reads as it did. -/
def walResumesSpec : ChangeSpec := { name := "walResumes", fn := fun _ => fun
  | [d1, d2, d3] => { results := [.lit (.bool true)], args := [d1, d2, d3] }
  | _ => none }
def walResumesRow : OpenClaim := { program := "ytceocmhgbcimoab", sum := "2b193b60bc228d073d9d5a033d40376e4be15081d9fc2ea7a94ee224f1ff258b", func := "tiller/tillerlaw03.WalResumes", spec := "walResumes", unfollowed := true, recurses := true, apart := false }
def WalResumesSaid : Prop := walResumesRow.holds Try.pinned (OpenSpec.ofChange walResumesSpec)

/-- ITS FALSE NEIGHBOUR: 'it returns false'. Refute it at one input. -/
def walResumesWrong : ChangeSpec := { name := "walResumes", fn := fun _ => fun
  | [d1, d2, d3] => { results := [.lit (.bool false)], args := [d1, d2, d3] }
  | _ => none }
def WalResumesWrongFalsely : Prop := walResumesRow.holds Try.pinned (OpenSpec.ofChange walResumesWrong)

/-- 'tillerlaw03.WalBeside': WHATEVER THE INPUT: true; the input reads as it did. -/
def walBesideSpec : ChangeSpec := { name := "walBeside", fn := fun _ => fun
  | [d1, d2, d3] => { results := [.lit (.bool true)], args := [d1, d2, d3] }
  | _ => none }
def walBesideRow : OpenClaim := { program := "ytceocmhgbcimoab", sum := "2b193b60bc228d073d9d5a033d40376e4be15081d9fc2ea7a94ee224f1ff258b", func := "tiller/tillerlaw03.WalBeside", spec := "walBeside", unfollowed := true, recurses := true, apart := false }
def WalBesideSaid : Prop := walBesideRow.holds Try.pinned (OpenSpec.ofChange walBesideSpec)

/-- ITS FALSE NEIGHBOUR: 'it returns false'. Refute it at one input. -/
def walBesideWrong : ChangeSpec := { name := "walBeside", fn := fun _ => fun
  | [d1, d2, d3] => { results := [.lit (.bool false)], args := [d1, d2, d3] }
  | _ => none }
def WalBesideWrongFalsely : Prop := walBesideRow.holds Try.pinned (OpenSpec.ofChange walBesideWrong)

/-- 'tillerlaw03.WalReads': WHATEVER THE INPUT: true; the input reads as it did. -/
def walReadsSpec : ChangeSpec := { name := "walReads", fn := fun _ => fun
  | [d1, d2, d3] => { results := [.lit (.bool true)], args := [d1, d2, d3] }
  | _ => none }
def walReadsRow : OpenClaim := { program := "ytceocmhgbcimoab", sum := "2b193b60bc228d073d9d5a033d40376e4be15081d9fc2ea7a94ee224f1ff258b", func := "tiller/tillerlaw03.WalReads", spec := "walReads", unfollowed := true, recurses := true, apart := false }
def WalReadsSaid : Prop := walReadsRow.holds Try.pinned (OpenSpec.ofChange walReadsSpec)

/-- ITS FALSE NEIGHBOUR: 'it returns false'. Refute it at one input. -/
def walReadsWrong : ChangeSpec := { name := "walReads", fn := fun _ => fun
  | [d1, d2, d3] => { results := [.lit (.bool false)], args := [d1, d2, d3] }
  | _ => none }
def WalReadsWrongFalsely : Prop := walReadsRow.holds Try.pinned (OpenSpec.ofChange walReadsWrong)

/- THE SECOND FORM. 'bulk': how many values and letters a reading holds, each counted each time it is reached (what is shared counts as often as it is met; a slice's spare places count too). A statement '..UptoSaid' is the law's where the arguments, and the package variables that the reading takes, are together of bulk at most 1048576: NARROWER than '..Said'. Prove '..Said' where nothing that the law and all that it calls make is longer than what came in: it says more and counts as full. Else prove '..UptoSaid'. A law counts once. -/
mutual
def uptoBulk {H : Type} : DataW H → Nat
  | .lit (.string bytes) => bytes.length + 1
  | .lit _ => 1
  | .nil => 1
  | .ptr d => uptoBulk d + 1
  | .slice elems spare => uptoBulkAll elems + uptoBulkAll spare + 1
  | .agg parts => uptoBulkAll parts + 1
  | .iface _ d => uptoBulk d + 1
  | .map entries => uptoBulkEntries entries + 1
  | .held _ => 1
def uptoBulkAll {H : Type} : List (DataW H) → Nat
  | [] => 0
  | d :: r => uptoBulk d + uptoBulkAll r
def uptoBulkEntries {H : Type} : List (Lit × DataW H) → Nat
  | [] => 0
  | x :: r => uptoBulkEntry x + uptoBulkEntries r
def uptoBulkEntry {H : Type} : Lit × DataW H → Nat
  | (.string bytes, d) => bytes.length + uptoBulk d + 1
  | (_, d) => uptoBulk d + 1
 end
def uptoSmall : (H : Type) → List (DataW H) → Bool := fun _ ds => decide (uptoBulkAll ds ≤ 1048576)
def OpenSpec.upto (s : _root_.Go.ChangeSpec) : _root_.Go.OpenSpec := { _root_.Go.OpenSpec.ofChange s with cond := some uptoSmall }

/-- 'tillerlaw02.CodecFrames', WHERE WHAT IT READS IS OF BULK AT MOST 1048576: true; the input reads as it did. -/
def codecFramesUptoRow : OpenClaim := { program := "ytceocmhgbcimoab", sum := "2b193b60bc228d073d9d5a033d40376e4be15081d9fc2ea7a94ee224f1ff258b", func := "tiller/tillerlaw02.CodecFrames", spec := "codecFrames", unfollowed := true, recurses := true, apart := false, narrowed := true }
def CodecFramesUptoSaid : Prop := codecFramesUptoRow.holds Try.pinned (OpenSpec.upto codecFramesSpec)

/-- 'tillerlaw02.CodecSplit', WHERE WHAT IT READS IS OF BULK AT MOST 1048576: true; the input reads as it did. -/
def codecSplitUptoRow : OpenClaim := { program := "ytceocmhgbcimoab", sum := "2b193b60bc228d073d9d5a033d40376e4be15081d9fc2ea7a94ee224f1ff258b", func := "tiller/tillerlaw02.CodecSplit", spec := "codecSplit", unfollowed := true, recurses := true, apart := false, narrowed := true }
def CodecSplitUptoSaid : Prop := codecSplitUptoRow.holds Try.pinned (OpenSpec.upto codecSplitSpec)

/-- 'tillerlaw03.WalKeeps', WHERE WHAT IT READS IS OF BULK AT MOST 1048576: true; the input reads as it did. -/
def walKeepsUptoRow : OpenClaim := { program := "ytceocmhgbcimoab", sum := "2b193b60bc228d073d9d5a033d40376e4be15081d9fc2ea7a94ee224f1ff258b", func := "tiller/tillerlaw03.WalKeeps", spec := "walKeeps", unfollowed := true, recurses := true, apart := false, narrowed := true }
def WalKeepsUptoSaid : Prop := walKeepsUptoRow.holds Try.pinned (OpenSpec.upto walKeepsSpec)

/-- 'tillerlaw03.WalResumes', WHERE WHAT IT READS IS OF BULK AT MOST 1048576: true; the input reads as it did. -/
def walResumesUptoRow : OpenClaim := { program := "ytceocmhgbcimoab", sum := "2b193b60bc228d073d9d5a033d40376e4be15081d9fc2ea7a94ee224f1ff258b", func := "tiller/tillerlaw03.WalResumes", spec := "walResumes", unfollowed := true, recurses := true, apart := false, narrowed := true }
def WalResumesUptoSaid : Prop := walResumesUptoRow.holds Try.pinned (OpenSpec.upto walResumesSpec)

/-- 'tillerlaw03.WalBeside', WHERE WHAT IT READS IS OF BULK AT MOST 1048576: true; the input reads as it did. -/
def walBesideUptoRow : OpenClaim := { program := "ytceocmhgbcimoab", sum := "2b193b60bc228d073d9d5a033d40376e4be15081d9fc2ea7a94ee224f1ff258b", func := "tiller/tillerlaw03.WalBeside", spec := "walBeside", unfollowed := true, recurses := true, apart := false, narrowed := true }
def WalBesideUptoSaid : Prop := walBesideUptoRow.holds Try.pinned (OpenSpec.upto walBesideSpec)

/-- 'tillerlaw03.WalReads', WHERE WHAT IT READS IS OF BULK AT MOST 1048576: true; the input reads as it did. -/
def walReadsUptoRow : OpenClaim := { program := "ytceocmhgbcimoab", sum := "2b193b60bc228d073d9d5a033d40376e4be15081d9fc2ea7a94ee224f1ff258b", func := "tiller/tillerlaw03.WalReads", spec := "walReads", unfollowed := true, recurses := true, apart := false, narrowed := true }
def WalReadsUptoSaid : Prop := walReadsUptoRow.holds Try.pinned (OpenSpec.upto walReadsSpec)

end Rows
end Go.Proofs.Ytceocmhgbcimoab
