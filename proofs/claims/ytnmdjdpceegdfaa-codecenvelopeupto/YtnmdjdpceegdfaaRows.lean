/-
  No cell of these rows narrows 'for every input' (looked for: loops, veiled, ifaces, maps, wideKeys, modest, calm, conditions, laid).
  DERIVED. THE GIVEN ROWS OF THIS SEAT. 5 by the template 'for every input the law returns true; each argument reads behind the call as it read before'; 0 by the template 'total and deterministic' (their statements: YtnmdjdpceegdfaaTotals.lean).
  GIVEN WITH THE SEED: the statements are not yours to turn. If you find one false, say at which input.
  Laid BY PROGRAM, IN A SANDBOX (cutbox-rows.mjs): the forced cells as the released guide's own fill.sh prints them over the translation 08db2d23d1b45fc1… (all of the seat's roots in one cut). By AI agents, Wed Nov 11 2026. No macro, syntax, notation, axiom, sorry.
-/
import Derived.Test.YtnmdjdpceegdfaaChecked
import GoSem.Claim
import GoSem.ClaimJoined
import GoSem.ClaimMapViews
import Derived.JoinedTies
import Derived.KernelRfl
namespace Go.Proofs.Ytnmdjdpceegdfaa
/- THE CELL 'sum', in the pinned program and in every row, IS THE sha256 OF THE DUMP (.gsa) THAT YtnmdjdpceegdfaaProg.lean LOADS. Nothing in Lean hashes anything: it is a label: what it is worth is what the hold of that sum in a sandbox is worth. -/
noncomputable def Try.pinned : Pinned := { name := "ytnmdjdpceegdfaa", sum := "08db2d23d1b45fc1171aa6ad18804eb9f3d616018f3eacdcddcf2197905cd7ea", checked := Try.checked }
namespace Rows
def none {H : Type} : Left H := { results := [], args := [] }

/-- 'tillerlaw02.CodecEvent': WHATEVER THE INPUT: true; the input reads as it did. -/
def codecEventSpec : ChangeSpec := { name := "codecEvent", fn := fun _ => fun
  | [d1, d2] => { results := [.lit (.bool true)], args := [d1, d2] }
  | _ => none }
def codecEventRow : OpenClaim := { program := "ytnmdjdpceegdfaa", sum := "08db2d23d1b45fc1171aa6ad18804eb9f3d616018f3eacdcddcf2197905cd7ea", func := "tiller/tillerlaw02.CodecEvent", spec := "codecEvent", apart := false }
def CodecEventSaid : Prop := codecEventRow.holds Try.pinned (OpenSpec.ofChange codecEventSpec)

/-- ITS FALSE NEIGHBOUR: 'it returns false'. Refute it at one input. -/
def codecEventWrong : ChangeSpec := { name := "codecEvent", fn := fun _ => fun
  | [d1, d2] => { results := [.lit (.bool false)], args := [d1, d2] }
  | _ => none }
def CodecEventWrongFalsely : Prop := codecEventRow.holds Try.pinned (OpenSpec.ofChange codecEventWrong)

/-- 'tillerlaw02.CodecEnvelope': WHATEVER THE INPUT: true; the input reads as it did. -/
def codecEnvelopeSpec : ChangeSpec := { name := "codecEnvelope", fn := fun _ => fun
  | [d1, d2] => { results := [.lit (.bool true)], args := [d1, d2] }
  | _ => none }
def codecEnvelopeRow : OpenClaim := { program := "ytnmdjdpceegdfaa", sum := "08db2d23d1b45fc1171aa6ad18804eb9f3d616018f3eacdcddcf2197905cd7ea", func := "tiller/tillerlaw02.CodecEnvelope", spec := "codecEnvelope", apart := false }
def CodecEnvelopeSaid : Prop := codecEnvelopeRow.holds Try.pinned (OpenSpec.ofChange codecEnvelopeSpec)

/-- ITS FALSE NEIGHBOUR: 'it returns false'. Refute it at one input. -/
def codecEnvelopeWrong : ChangeSpec := { name := "codecEnvelope", fn := fun _ => fun
  | [d1, d2] => { results := [.lit (.bool false)], args := [d1, d2] }
  | _ => none }
def CodecEnvelopeWrongFalsely : Prop := codecEnvelopeRow.holds Try.pinned (OpenSpec.ofChange codecEnvelopeWrong)

/-- 'tillerlaw02.CodecLease': WHATEVER THE INPUT: true; the input reads as it did. -/
def codecLeaseSpec : ChangeSpec := { name := "codecLease", fn := fun _ => fun
  | [d1, d2] => { results := [.lit (.bool true)], args := [d1, d2] }
  | _ => none }
def codecLeaseRow : OpenClaim := { program := "ytnmdjdpceegdfaa", sum := "08db2d23d1b45fc1171aa6ad18804eb9f3d616018f3eacdcddcf2197905cd7ea", func := "tiller/tillerlaw02.CodecLease", spec := "codecLease", apart := false }
def CodecLeaseSaid : Prop := codecLeaseRow.holds Try.pinned (OpenSpec.ofChange codecLeaseSpec)

/-- ITS FALSE NEIGHBOUR: 'it returns false'. Refute it at one input. -/
def codecLeaseWrong : ChangeSpec := { name := "codecLease", fn := fun _ => fun
  | [d1, d2] => { results := [.lit (.bool false)], args := [d1, d2] }
  | _ => none }
def CodecLeaseWrongFalsely : Prop := codecLeaseRow.holds Try.pinned (OpenSpec.ofChange codecLeaseWrong)

/-- 'tillerlaw02.CodecState': WHATEVER THE INPUT: true; the input reads as it did. -/
def codecStateSpec : ChangeSpec := { name := "codecState", fn := fun _ => fun
  | [d1, d2] => { results := [.lit (.bool true)], args := [d1, d2] }
  | _ => none }
def codecStateRow : OpenClaim := { program := "ytnmdjdpceegdfaa", sum := "08db2d23d1b45fc1171aa6ad18804eb9f3d616018f3eacdcddcf2197905cd7ea", func := "tiller/tillerlaw02.CodecState", spec := "codecState", unfollowed := true, recurses := true, apart := false }
def CodecStateSaid : Prop := codecStateRow.holds Try.pinned (OpenSpec.ofChange codecStateSpec)

/-- ITS FALSE NEIGHBOUR: 'it returns false'. Refute it at one input. -/
def codecStateWrong : ChangeSpec := { name := "codecState", fn := fun _ => fun
  | [d1, d2] => { results := [.lit (.bool false)], args := [d1, d2] }
  | _ => none }
def CodecStateWrongFalsely : Prop := codecStateRow.holds Try.pinned (OpenSpec.ofChange codecStateWrong)

/-- 'tillerlaw02.CodecOps': WHATEVER THE INPUT: true; the input reads as it did. -/
def codecOpsSpec : ChangeSpec := { name := "codecOps", fn := fun _ => fun
  | [d1, d2] => { results := [.lit (.bool true)], args := [d1, d2] }
  | _ => none }
def codecOpsRow : OpenClaim := { program := "ytnmdjdpceegdfaa", sum := "08db2d23d1b45fc1171aa6ad18804eb9f3d616018f3eacdcddcf2197905cd7ea", func := "tiller/tillerlaw02.CodecOps", spec := "codecOps", unfollowed := true, recurses := true, apart := false }
def CodecOpsSaid : Prop := codecOpsRow.holds Try.pinned (OpenSpec.ofChange codecOpsSpec)

/-- ITS FALSE NEIGHBOUR: 'it returns false'. Refute it at one input. -/
def codecOpsWrong : ChangeSpec := { name := "codecOps", fn := fun _ => fun
  | [d1, d2] => { results := [.lit (.bool false)], args := [d1, d2] }
  | _ => none }
def CodecOpsWrongFalsely : Prop := codecOpsRow.holds Try.pinned (OpenSpec.ofChange codecOpsWrong)

/- THE SECOND FORM. 'bulk': how many values and letters a reading holds, each counted each time it is reached (what is shared counts as often as it is met; a slice's spare places count too). A statement '..UptoSaid' is the law's where the arguments, and the package variables that the reading takes, are together of bulk at most 1048576: NARROWER than '..Said'. Prove '..Said' where nothing that the law and all that it calls make is longer than what came in: it says more and counts as full. Else prove '..UptoSaid'. A law counts once. -/
mutual
def uptoBulk {H : Type} : DataW H → Nat
  | .lit (.string bytes) => bytes.length + 1
  | .lit _ => 1
  | .nil => 1
  | .ptr d => uptoBulk d + 1
  | .slice elems spare => uptoBulkAll elems + uptoBulkAll spare + 1
  | .agg parts => uptoBulkAll parts + 1
  | .iface _ d => uptoBulk d + 1
  | .map entries => uptoBulkEntries entries + 1
  | .held _ => 1
def uptoBulkAll {H : Type} : List (DataW H) → Nat
  | [] => 0
  | d :: r => uptoBulk d + uptoBulkAll r
def uptoBulkEntries {H : Type} : List (Lit × DataW H) → Nat
  | [] => 0
  | x :: r => uptoBulkEntry x + uptoBulkEntries r
def uptoBulkEntry {H : Type} : Lit × DataW H → Nat
  | (.string bytes, d) => bytes.length + uptoBulk d + 1
  | (_, d) => uptoBulk d + 1
 end
def uptoSmall : (H : Type) → List (DataW H) → Bool := fun _ ds => decide (uptoBulkAll ds ≤ 1048576)
def OpenSpec.upto (s : _root_.Go.ChangeSpec) : _root_.Go.OpenSpec := { _root_.Go.OpenSpec.ofChange s with cond := some uptoSmall }

/-- 'tillerlaw02.CodecEvent', WHERE WHAT IT READS IS OF BULK AT MOST 1048576: true; the input reads as it did. -/
def codecEventUptoRow : OpenClaim := { program := "ytnmdjdpceegdfaa", sum := "08db2d23d1b45fc1171aa6ad18804eb9f3d616018f3eacdcddcf2197905cd7ea", func := "tiller/tillerlaw02.CodecEvent", spec := "codecEvent", apart := false, narrowed := true }
def CodecEventUptoSaid : Prop := codecEventUptoRow.holds Try.pinned (OpenSpec.upto codecEventSpec)

/-- 'tillerlaw02.CodecEnvelope', WHERE WHAT IT READS IS OF BULK AT MOST 1048576: true; the input reads as it did. -/
def codecEnvelopeUptoRow : OpenClaim := { program := "ytnmdjdpceegdfaa", sum := "08db2d23d1b45fc1171aa6ad18804eb9f3d616018f3eacdcddcf2197905cd7ea", func := "tiller/tillerlaw02.CodecEnvelope", spec := "codecEnvelope", apart := false, narrowed := true }
def CodecEnvelopeUptoSaid : Prop := codecEnvelopeUptoRow.holds Try.pinned (OpenSpec.upto codecEnvelopeSpec)

/-- 'tillerlaw02.CodecLease', WHERE WHAT IT READS IS OF BULK AT MOST 1048576: true; the input reads as it did. -/
def codecLeaseUptoRow : OpenClaim := { program := "ytnmdjdpceegdfaa", sum := "08db2d23d1b45fc1171aa6ad18804eb9f3d616018f3eacdcddcf2197905cd7ea", func := "tiller/tillerlaw02.CodecLease", spec := "codecLease", apart := false, narrowed := true }
def CodecLeaseUptoSaid : Prop := codecLeaseUptoRow.holds Try.pinned (OpenSpec.upto codecLeaseSpec)

/-- 'tillerlaw02.CodecState', WHERE WHAT IT READS IS OF BULK AT MOST 1048576: true; the input reads as it did. -/
def codecStateUptoRow : OpenClaim := { program := "ytnmdjdpceegdfaa", sum := "08db2d23d1b45fc1171aa6ad18804eb9f3d616018f3eacdcddcf2197905cd7ea", func := "tiller/tillerlaw02.CodecState", spec := "codecState", unfollowed := true, recurses := true, apart := false, narrowed := true }
def CodecStateUptoSaid : Prop := codecStateUptoRow.holds Try.pinned (OpenSpec.upto codecStateSpec)

/-- 'tillerlaw02.CodecOps', WHERE WHAT IT READS IS OF BULK AT MOST 1048576: true; the input reads as it did. -/
def codecOpsUptoRow : OpenClaim := { program := "ytnmdjdpceegdfaa", sum := "08db2d23d1b45fc1171aa6ad18804eb9f3d616018f3eacdcddcf2197905cd7ea", func := "tiller/tillerlaw02.CodecOps", spec := "codecOps", unfollowed := true, recurses := true, apart := false, narrowed := true }
def CodecOpsUptoSaid : Prop := codecOpsUptoRow.holds Try.pinned (OpenSpec.upto codecOpsSpec)

end Rows
end Go.Proofs.Ytnmdjdpceegdfaa
