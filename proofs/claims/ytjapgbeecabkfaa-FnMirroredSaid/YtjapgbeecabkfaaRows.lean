/-
  No cell of these rows narrows 'for every input' (looked for: loops, veiled, ifaces, maps, wideKeys, modest, calm, conditions, laid).
  DERIVED. THE GIVEN ROWS OF THIS SEAT. 13 by the template 'for every input the law returns true; each argument reads behind the call as it read before'; 0 by the template 'total and deterministic' (their statements: YtjapgbeecabkfaaTotals.lean).
  GIVEN WITH THE SEED: the statements are not yours to turn. If you find one false, say at which input.
  Laid BY PROGRAM, IN A SANDBOX (cutbox-rows.mjs): the forced cells as the released guide's own fill.sh prints them over the translation 9d96f8afeb3775b5… (all of the seat's roots in one cut). By AI agents, Wed Nov 11 2026. No macro, syntax, notation, axiom, sorry.
-/
import Derived.Test.YtjapgbeecabkfaaChecked
import GoSem.Claim
import GoSem.ClaimJoined
import GoSem.ClaimMapViews
import Derived.JoinedTies
import Derived.KernelRfl
namespace Go.Proofs.Ytjapgbeecabkfaa
/- THE CELL 'sum', in the pinned program and in every row, IS THE sha256 OF THE DUMP (.gsa) THAT YtjapgbeecabkfaaProg.lean LOADS. Nothing in Lean hashes anything: it is a label: what it is worth is what the hold of that sum in a sandbox is worth. -/
noncomputable def Try.pinned : Pinned := { name := "ytjapgbeecabkfaa", sum := "9d96f8afeb3775b521fadab163ebd3964341c96cb95c554462f530b2ee69d9de", checked := Try.checked }
namespace Rows
def none {H : Type} : Left H := { results := [], args := [] }

/-- 'laws.FnExactValidMachine': WHATEVER THE INPUT: true; the input reads as it did. -/
def fnExactValidMachineSpec : ChangeSpec := { name := "fnExactValidMachine", fn := fun _ => fun
  | [d] => { results := [.lit (.bool true)], args := [d] }
  | _ => none }
def fnExactValidMachineRow : OpenClaim := { program := "ytjapgbeecabkfaa", sum := "9d96f8afeb3775b521fadab163ebd3964341c96cb95c554462f530b2ee69d9de", func := "loop.example/g01099/laws.FnExactValidMachine", spec := "fnExactValidMachine", apart := false }
def FnExactValidMachineSaid : Prop := fnExactValidMachineRow.holds Try.pinned (OpenSpec.ofChange fnExactValidMachineSpec)

/-- ITS FALSE NEIGHBOUR: 'it returns false'. Refute it at one input. -/
def fnExactValidMachineWrong : ChangeSpec := { name := "fnExactValidMachine", fn := fun _ => fun
  | [d] => { results := [.lit (.bool false)], args := [d] }
  | _ => none }
def FnExactValidMachineWrongFalsely : Prop := fnExactValidMachineRow.holds Try.pinned (OpenSpec.ofChange fnExactValidMachineWrong)

/-- 'laws.FnExactGapsOf': WHATEVER THE INPUT: true; the input reads as it did. -/
def fnExactGapsOfSpec : ChangeSpec := { name := "fnExactGapsOf", fn := fun _ => fun
  | [d] => { results := [.lit (.bool true)], args := [d] }
  | _ => none }
def fnExactGapsOfRow : OpenClaim := { program := "ytjapgbeecabkfaa", sum := "9d96f8afeb3775b521fadab163ebd3964341c96cb95c554462f530b2ee69d9de", func := "loop.example/g01099/laws.FnExactGapsOf", spec := "fnExactGapsOf", apart := false }
def FnExactGapsOfSaid : Prop := fnExactGapsOfRow.holds Try.pinned (OpenSpec.ofChange fnExactGapsOfSpec)

/-- ITS FALSE NEIGHBOUR: 'it returns false'. Refute it at one input. -/
def fnExactGapsOfWrong : ChangeSpec := { name := "fnExactGapsOf", fn := fun _ => fun
  | [d] => { results := [.lit (.bool false)], args := [d] }
  | _ => none }
def FnExactGapsOfWrongFalsely : Prop := fnExactGapsOfRow.holds Try.pinned (OpenSpec.ofChange fnExactGapsOfWrong)

/-- 'laws.FnExactStrokesOf': WHATEVER THE INPUT: true; the input reads as it did. -/
def fnExactStrokesOfSpec : ChangeSpec := { name := "fnExactStrokesOf", fn := fun _ => fun
  | [d] => { results := [.lit (.bool true)], args := [d] }
  | _ => none }
def fnExactStrokesOfRow : OpenClaim := { program := "ytjapgbeecabkfaa", sum := "9d96f8afeb3775b521fadab163ebd3964341c96cb95c554462f530b2ee69d9de", func := "loop.example/g01099/laws.FnExactStrokesOf", spec := "fnExactStrokesOf", apart := false }
def FnExactStrokesOfSaid : Prop := fnExactStrokesOfRow.holds Try.pinned (OpenSpec.ofChange fnExactStrokesOfSpec)

/-- ITS FALSE NEIGHBOUR: 'it returns false'. Refute it at one input. -/
def fnExactStrokesOfWrong : ChangeSpec := { name := "fnExactStrokesOf", fn := fun _ => fun
  | [d] => { results := [.lit (.bool false)], args := [d] }
  | _ => none }
def FnExactStrokesOfWrongFalsely : Prop := fnExactStrokesOfRow.holds Try.pinned (OpenSpec.ofChange fnExactStrokesOfWrong)

/-- 'laws.FnExactMachineFrom': WHATEVER THE INPUT: true; the input reads as it did. -/
def fnExactMachineFromSpec : ChangeSpec := { name := "fnExactMachineFrom", fn := fun _ => fun
  | [d1, d2, d3] => { results := [.lit (.bool true)], args := [d1, d2, d3] }
  | _ => none }
def fnExactMachineFromRow : OpenClaim := { program := "ytjapgbeecabkfaa", sum := "9d96f8afeb3775b521fadab163ebd3964341c96cb95c554462f530b2ee69d9de", func := "loop.example/g01099/laws.FnExactMachineFrom", spec := "fnExactMachineFrom", apart := false }
def FnExactMachineFromSaid : Prop := fnExactMachineFromRow.holds Try.pinned (OpenSpec.ofChange fnExactMachineFromSpec)

/-- ITS FALSE NEIGHBOUR: 'it returns false'. Refute it at one input. -/
def fnExactMachineFromWrong : ChangeSpec := { name := "fnExactMachineFrom", fn := fun _ => fun
  | [d1, d2, d3] => { results := [.lit (.bool false)], args := [d1, d2, d3] }
  | _ => none }
def FnExactMachineFromWrongFalsely : Prop := fnExactMachineFromRow.holds Try.pinned (OpenSpec.ofChange fnExactMachineFromWrong)

/-- 'laws.FnExactLeastGap': WHATEVER THE INPUT: true; the input reads as it did. -/
def fnExactLeastGapSpec : ChangeSpec := { name := "fnExactLeastGap", fn := fun _ => fun
  | [d] => { results := [.lit (.bool true)], args := [d] }
  | _ => none }
def fnExactLeastGapRow : OpenClaim := { program := "ytjapgbeecabkfaa", sum := "9d96f8afeb3775b521fadab163ebd3964341c96cb95c554462f530b2ee69d9de", func := "loop.example/g01099/laws.FnExactLeastGap", spec := "fnExactLeastGap", apart := false }
def FnExactLeastGapSaid : Prop := fnExactLeastGapRow.holds Try.pinned (OpenSpec.ofChange fnExactLeastGapSpec)

/-- ITS FALSE NEIGHBOUR: 'it returns false'. Refute it at one input. -/
def fnExactLeastGapWrong : ChangeSpec := { name := "fnExactLeastGap", fn := fun _ => fun
  | [d] => { results := [.lit (.bool false)], args := [d] }
  | _ => none }
def FnExactLeastGapWrongFalsely : Prop := fnExactLeastGapRow.holds Try.pinned (OpenSpec.ofChange fnExactLeastGapWrong)

/-- 'laws.FnExactPushMachine': WHATEVER THE INPUT: true; the input reads as it did. -/
def fnExactPushMachineSpec : ChangeSpec := { name := "fnExactPushMachine", fn := fun _ => fun
  | [d1, d2, d3] => { results := [.lit (.bool true)], args := [d1, d2, d3] }
  | _ => none }
def fnExactPushMachineRow : OpenClaim := { program := "ytjapgbeecabkfaa", sum := "9d96f8afeb3775b521fadab163ebd3964341c96cb95c554462f530b2ee69d9de", func := "loop.example/g01099/laws.FnExactPushMachine", spec := "fnExactPushMachine", apart := false }
def FnExactPushMachineSaid : Prop := fnExactPushMachineRow.holds Try.pinned (OpenSpec.ofChange fnExactPushMachineSpec)

/-- ITS FALSE NEIGHBOUR: 'it returns false'. Refute it at one input. -/
def fnExactPushMachineWrong : ChangeSpec := { name := "fnExactPushMachine", fn := fun _ => fun
  | [d1, d2, d3] => { results := [.lit (.bool false)], args := [d1, d2, d3] }
  | _ => none }
def FnExactPushMachineWrongFalsely : Prop := fnExactPushMachineRow.holds Try.pinned (OpenSpec.ofChange fnExactPushMachineWrong)

/-- 'laws.FnExactMirrorMachine': WHATEVER THE INPUT: true; the input reads as it did. -/
def fnExactMirrorMachineSpec : ChangeSpec := { name := "fnExactMirrorMachine", fn := fun _ => fun
  | [d] => { results := [.lit (.bool true)], args := [d] }
  | _ => none }
def fnExactMirrorMachineRow : OpenClaim := { program := "ytjapgbeecabkfaa", sum := "9d96f8afeb3775b521fadab163ebd3964341c96cb95c554462f530b2ee69d9de", func := "loop.example/g01099/laws.FnExactMirrorMachine", spec := "fnExactMirrorMachine", apart := false }
def FnExactMirrorMachineSaid : Prop := fnExactMirrorMachineRow.holds Try.pinned (OpenSpec.ofChange fnExactMirrorMachineSpec)

/-- ITS FALSE NEIGHBOUR: 'it returns false'. Refute it at one input. -/
def fnExactMirrorMachineWrong : ChangeSpec := { name := "fnExactMirrorMachine", fn := fun _ => fun
  | [d] => { results := [.lit (.bool false)], args := [d] }
  | _ => none }
def FnExactMirrorMachineWrongFalsely : Prop := fnExactMirrorMachineRow.holds Try.pinned (OpenSpec.ofChange fnExactMirrorMachineWrong)

/-- 'laws.FnExactPushRange': WHATEVER THE INPUT: true; the input reads as it did. -/
def fnExactPushRangeSpec : ChangeSpec := { name := "fnExactPushRange", fn := fun _ => fun
  | [d] => { results := [.lit (.bool true)], args := [d] }
  | _ => none }
def fnExactPushRangeRow : OpenClaim := { program := "ytjapgbeecabkfaa", sum := "9d96f8afeb3775b521fadab163ebd3964341c96cb95c554462f530b2ee69d9de", func := "loop.example/g01099/laws.FnExactPushRange", spec := "fnExactPushRange", unfollowed := true, recurses := true, apart := false }
def FnExactPushRangeSaid : Prop := fnExactPushRangeRow.holds Try.pinned (OpenSpec.ofChange fnExactPushRangeSpec)

/-- ITS FALSE NEIGHBOUR: 'it returns false'. Refute it at one input. -/
def fnExactPushRangeWrong : ChangeSpec := { name := "fnExactPushRange", fn := fun _ => fun
  | [d] => { results := [.lit (.bool false)], args := [d] }
  | _ => none }
def FnExactPushRangeWrongFalsely : Prop := fnExactPushRangeRow.holds Try.pinned (OpenSpec.ofChange fnExactPushRangeWrong)

/-- 'laws.FnGaps': WHATEVER THE INPUT: true; the input reads as it did. -/
def fnGapsSpec : ChangeSpec := { name := "fnGaps", fn := fun _ => fun
  | [d1, d2] => { results := [.lit (.bool true)], args := [d1, d2] }
  | _ => none }
def fnGapsRow : OpenClaim := { program := "ytjapgbeecabkfaa", sum := "9d96f8afeb3775b521fadab163ebd3964341c96cb95c554462f530b2ee69d9de", func := "loop.example/g01099/laws.FnGaps", spec := "fnGaps", apart := false }
def FnGapsSaid : Prop := fnGapsRow.holds Try.pinned (OpenSpec.ofChange fnGapsSpec)

/-- ITS FALSE NEIGHBOUR: 'it returns false'. Refute it at one input. -/
def fnGapsWrong : ChangeSpec := { name := "fnGaps", fn := fun _ => fun
  | [d1, d2] => { results := [.lit (.bool false)], args := [d1, d2] }
  | _ => none }
def FnGapsWrongFalsely : Prop := fnGapsRow.holds Try.pinned (OpenSpec.ofChange fnGapsWrong)

/-- 'laws.FnMirrored': WHATEVER THE INPUT: true; the input reads as it did. -/
def fnMirroredSpec : ChangeSpec := { name := "fnMirrored", fn := fun _ => fun
  | [d1, d2] => { results := [.lit (.bool true)], args := [d1, d2] }
  | _ => none }
def fnMirroredRow : OpenClaim := { program := "ytjapgbeecabkfaa", sum := "9d96f8afeb3775b521fadab163ebd3964341c96cb95c554462f530b2ee69d9de", func := "loop.example/g01099/laws.FnMirrored", spec := "fnMirrored", apart := false }
def FnMirroredSaid : Prop := fnMirroredRow.holds Try.pinned (OpenSpec.ofChange fnMirroredSpec)

/-- ITS FALSE NEIGHBOUR: 'it returns false'. Refute it at one input. -/
def fnMirroredWrong : ChangeSpec := { name := "fnMirrored", fn := fun _ => fun
  | [d1, d2] => { results := [.lit (.bool false)], args := [d1, d2] }
  | _ => none }
def FnMirroredWrongFalsely : Prop := fnMirroredRow.holds Try.pinned (OpenSpec.ofChange fnMirroredWrong)

/-- 'laws.FnExactReverseAxis': WHATEVER THE INPUT: true; the input reads as it did. -/
def fnExactReverseAxisSpec : ChangeSpec := { name := "fnExactReverseAxis", fn := fun _ => fun
  | [d] => { results := [.lit (.bool true)], args := [d] }
  | _ => none }
def fnExactReverseAxisRow : OpenClaim := { program := "ytjapgbeecabkfaa", sum := "9d96f8afeb3775b521fadab163ebd3964341c96cb95c554462f530b2ee69d9de", func := "loop.example/g01099/laws.FnExactReverseAxis", spec := "fnExactReverseAxis", unfollowed := true, recurses := true, apart := false }
def FnExactReverseAxisSaid : Prop := fnExactReverseAxisRow.holds Try.pinned (OpenSpec.ofChange fnExactReverseAxisSpec)

/-- ITS FALSE NEIGHBOUR: 'it returns false'. Refute it at one input. -/
def fnExactReverseAxisWrong : ChangeSpec := { name := "fnExactReverseAxis", fn := fun _ => fun
  | [d] => { results := [.lit (.bool false)], args := [d] }
  | _ => none }
def FnExactReverseAxisWrongFalsely : Prop := fnExactReverseAxisRow.holds Try.pinned (OpenSpec.ofChange fnExactReverseAxisWrong)

/-- 'laws.FnExactClearanceOf': WHATEVER THE INPUT: true; the input reads as it did. -/
def fnExactClearanceOfSpec : ChangeSpec := { name := "fnExactClearanceOf", fn := fun _ => fun
  | [d1, d2] => { results := [.lit (.bool true)], args := [d1, d2] }
  | _ => none }
def fnExactClearanceOfRow : OpenClaim := { program := "ytjapgbeecabkfaa", sum := "9d96f8afeb3775b521fadab163ebd3964341c96cb95c554462f530b2ee69d9de", func := "loop.example/g01099/laws.FnExactClearanceOf", spec := "fnExactClearanceOf", unfollowed := true, recurses := true, apart := false }
def FnExactClearanceOfSaid : Prop := fnExactClearanceOfRow.holds Try.pinned (OpenSpec.ofChange fnExactClearanceOfSpec)

/-- ITS FALSE NEIGHBOUR: 'it returns false'. Refute it at one input. -/
def fnExactClearanceOfWrong : ChangeSpec := { name := "fnExactClearanceOf", fn := fun _ => fun
  | [d1, d2] => { results := [.lit (.bool false)], args := [d1, d2] }
  | _ => none }
def FnExactClearanceOfWrongFalsely : Prop := fnExactClearanceOfRow.holds Try.pinned (OpenSpec.ofChange fnExactClearanceOfWrong)

/-- 'laws.FnExactSplitAxis': WHATEVER THE INPUT: true; the input reads as it did. -/
def fnExactSplitAxisSpec : ChangeSpec := { name := "fnExactSplitAxis", fn := fun _ => fun
  | [d1, d2] => { results := [.lit (.bool true)], args := [d1, d2] }
  | _ => none }
def fnExactSplitAxisRow : OpenClaim := { program := "ytjapgbeecabkfaa", sum := "9d96f8afeb3775b521fadab163ebd3964341c96cb95c554462f530b2ee69d9de", func := "loop.example/g01099/laws.FnExactSplitAxis", spec := "fnExactSplitAxis", unfollowed := true, recurses := true, apart := false }
def FnExactSplitAxisSaid : Prop := fnExactSplitAxisRow.holds Try.pinned (OpenSpec.ofChange fnExactSplitAxisSpec)

/-- ITS FALSE NEIGHBOUR: 'it returns false'. Refute it at one input. -/
def fnExactSplitAxisWrong : ChangeSpec := { name := "fnExactSplitAxis", fn := fun _ => fun
  | [d1, d2] => { results := [.lit (.bool false)], args := [d1, d2] }
  | _ => none }
def FnExactSplitAxisWrongFalsely : Prop := fnExactSplitAxisRow.holds Try.pinned (OpenSpec.ofChange fnExactSplitAxisWrong)

/- THE SECOND FORM. 'bulk': how many values and letters a reading holds, each counted each time it is reached (what is shared counts as often as it is met; a slice's spare places count too). A statement '..UptoSaid' is the law's where the arguments, and the package variables that the reading takes, are together of bulk at most 1048576: NARROWER than '..Said'. Prove '..Said' where nothing that the law and all that it calls make is longer than what came in: it says more and counts as full. Else prove '..UptoSaid'. A law counts once. -/
mutual
def uptoBulk {H : Type} : DataW H → Nat
  | .lit (.string bytes) => bytes.length + 1
  | .lit _ => 1
  | .nil => 1
  | .ptr d => uptoBulk d + 1
  | .slice elems spare => uptoBulkAll elems + uptoBulkAll spare + 1
  | .agg parts => uptoBulkAll parts + 1
  | .iface _ d => uptoBulk d + 1
  | .map entries => uptoBulkEntries entries + 1
  | .held _ => 1
def uptoBulkAll {H : Type} : List (DataW H) → Nat
  | [] => 0
  | d :: r => uptoBulk d + uptoBulkAll r
def uptoBulkEntries {H : Type} : List (Lit × DataW H) → Nat
  | [] => 0
  | x :: r => uptoBulkEntry x + uptoBulkEntries r
def uptoBulkEntry {H : Type} : Lit × DataW H → Nat
  | (.string bytes, d) => bytes.length + uptoBulk d + 1
  | (_, d) => uptoBulk d + 1
 end
def uptoSmall : (H : Type) → List (DataW H) → Bool := fun _ ds => decide (uptoBulkAll ds ≤ 1048576)
def OpenSpec.upto (s : _root_.Go.ChangeSpec) : _root_.Go.OpenSpec := { _root_.Go.OpenSpec.ofChange s with cond := some uptoSmall }

/-- 'laws.FnExactValidMachine', WHERE WHAT IT READS IS OF BULK AT MOST 1048576: true; the input reads as it did. -/
def fnExactValidMachineUptoRow : OpenClaim := { program := "ytjapgbeecabkfaa", sum := "9d96f8afeb3775b521fadab163ebd3964341c96cb95c554462f530b2ee69d9de", func := "loop.example/g01099/laws.FnExactValidMachine", spec := "fnExactValidMachine", apart := false, narrowed := true }
def FnExactValidMachineUptoSaid : Prop := fnExactValidMachineUptoRow.holds Try.pinned (OpenSpec.upto fnExactValidMachineSpec)

/-- 'laws.FnExactGapsOf', WHERE WHAT IT READS IS OF BULK AT MOST 1048576: true; the input reads as it did. -/
def fnExactGapsOfUptoRow : OpenClaim := { program := "ytjapgbeecabkfaa", sum := "9d96f8afeb3775b521fadab163ebd3964341c96cb95c554462f530b2ee69d9de", func := "loop.example/g01099/laws.FnExactGapsOf", spec := "fnExactGapsOf", apart := false, narrowed := true }
def FnExactGapsOfUptoSaid : Prop := fnExactGapsOfUptoRow.holds Try.pinned (OpenSpec.upto fnExactGapsOfSpec)

/-- 'laws.FnExactStrokesOf', WHERE WHAT IT READS IS OF BULK AT MOST 1048576: true; the input reads as it did. -/
def fnExactStrokesOfUptoRow : OpenClaim := { program := "ytjapgbeecabkfaa", sum := "9d96f8afeb3775b521fadab163ebd3964341c96cb95c554462f530b2ee69d9de", func := "loop.example/g01099/laws.FnExactStrokesOf", spec := "fnExactStrokesOf", apart := false, narrowed := true }
def FnExactStrokesOfUptoSaid : Prop := fnExactStrokesOfUptoRow.holds Try.pinned (OpenSpec.upto fnExactStrokesOfSpec)

/-- 'laws.FnExactMachineFrom', WHERE WHAT IT READS IS OF BULK AT MOST 1048576: true; the input reads as it did. -/
def fnExactMachineFromUptoRow : OpenClaim := { program := "ytjapgbeecabkfaa", sum := "9d96f8afeb3775b521fadab163ebd3964341c96cb95c554462f530b2ee69d9de", func := "loop.example/g01099/laws.FnExactMachineFrom", spec := "fnExactMachineFrom", apart := false, narrowed := true }
def FnExactMachineFromUptoSaid : Prop := fnExactMachineFromUptoRow.holds Try.pinned (OpenSpec.upto fnExactMachineFromSpec)

/-- 'laws.FnExactLeastGap', WHERE WHAT IT READS IS OF BULK AT MOST 1048576: true; the input reads as it did. -/
def fnExactLeastGapUptoRow : OpenClaim := { program := "ytjapgbeecabkfaa", sum := "9d96f8afeb3775b521fadab163ebd3964341c96cb95c554462f530b2ee69d9de", func := "loop.example/g01099/laws.FnExactLeastGap", spec := "fnExactLeastGap", apart := false, narrowed := true }
def FnExactLeastGapUptoSaid : Prop := fnExactLeastGapUptoRow.holds Try.pinned (OpenSpec.upto fnExactLeastGapSpec)

/-- 'laws.FnExactPushMachine', WHERE WHAT IT READS IS OF BULK AT MOST 1048576: true; the input reads as it did. -/
def fnExactPushMachineUptoRow : OpenClaim := { program := "ytjapgbeecabkfaa", sum := "9d96f8afeb3775b521fadab163ebd3964341c96cb95c554462f530b2ee69d9de", func := "loop.example/g01099/laws.FnExactPushMachine", spec := "fnExactPushMachine", apart := false, narrowed := true }
def FnExactPushMachineUptoSaid : Prop := fnExactPushMachineUptoRow.holds Try.pinned (OpenSpec.upto fnExactPushMachineSpec)

/-- 'laws.FnExactMirrorMachine', WHERE WHAT IT READS IS OF BULK AT MOST 1048576: true; the input reads as it did. -/
def fnExactMirrorMachineUptoRow : OpenClaim := { program := "ytjapgbeecabkfaa", sum := "9d96f8afeb3775b521fadab163ebd3964341c96cb95c554462f530b2ee69d9de", func := "loop.example/g01099/laws.FnExactMirrorMachine", spec := "fnExactMirrorMachine", apart := false, narrowed := true }
def FnExactMirrorMachineUptoSaid : Prop := fnExactMirrorMachineUptoRow.holds Try.pinned (OpenSpec.upto fnExactMirrorMachineSpec)

/-- 'laws.FnExactPushRange', WHERE WHAT IT READS IS OF BULK AT MOST 1048576: true; the input reads as it did. -/
def fnExactPushRangeUptoRow : OpenClaim := { program := "ytjapgbeecabkfaa", sum := "9d96f8afeb3775b521fadab163ebd3964341c96cb95c554462f530b2ee69d9de", func := "loop.example/g01099/laws.FnExactPushRange", spec := "fnExactPushRange", unfollowed := true, recurses := true, apart := false, narrowed := true }
def FnExactPushRangeUptoSaid : Prop := fnExactPushRangeUptoRow.holds Try.pinned (OpenSpec.upto fnExactPushRangeSpec)

/-- 'laws.FnGaps', WHERE WHAT IT READS IS OF BULK AT MOST 1048576: true; the input reads as it did. -/
def fnGapsUptoRow : OpenClaim := { program := "ytjapgbeecabkfaa", sum := "9d96f8afeb3775b521fadab163ebd3964341c96cb95c554462f530b2ee69d9de", func := "loop.example/g01099/laws.FnGaps", spec := "fnGaps", apart := false, narrowed := true }
def FnGapsUptoSaid : Prop := fnGapsUptoRow.holds Try.pinned (OpenSpec.upto fnGapsSpec)

/-- 'laws.FnMirrored', WHERE WHAT IT READS IS OF BULK AT MOST 1048576: true; the input reads as it did. -/
def fnMirroredUptoRow : OpenClaim := { program := "ytjapgbeecabkfaa", sum := "9d96f8afeb3775b521fadab163ebd3964341c96cb95c554462f530b2ee69d9de", func := "loop.example/g01099/laws.FnMirrored", spec := "fnMirrored", apart := false, narrowed := true }
def FnMirroredUptoSaid : Prop := fnMirroredUptoRow.holds Try.pinned (OpenSpec.upto fnMirroredSpec)

/-- 'laws.FnExactReverseAxis', WHERE WHAT IT READS IS OF BULK AT MOST 1048576: true; the input reads as it did. -/
def fnExactReverseAxisUptoRow : OpenClaim := { program := "ytjapgbeecabkfaa", sum := "9d96f8afeb3775b521fadab163ebd3964341c96cb95c554462f530b2ee69d9de", func := "loop.example/g01099/laws.FnExactReverseAxis", spec := "fnExactReverseAxis", unfollowed := true, recurses := true, apart := false, narrowed := true }
def FnExactReverseAxisUptoSaid : Prop := fnExactReverseAxisUptoRow.holds Try.pinned (OpenSpec.upto fnExactReverseAxisSpec)

/-- 'laws.FnExactClearanceOf', WHERE WHAT IT READS IS OF BULK AT MOST 1048576: true; the input reads as it did. -/
def fnExactClearanceOfUptoRow : OpenClaim := { program := "ytjapgbeecabkfaa", sum := "9d96f8afeb3775b521fadab163ebd3964341c96cb95c554462f530b2ee69d9de", func := "loop.example/g01099/laws.FnExactClearanceOf", spec := "fnExactClearanceOf", unfollowed := true, recurses := true, apart := false, narrowed := true }
def FnExactClearanceOfUptoSaid : Prop := fnExactClearanceOfUptoRow.holds Try.pinned (OpenSpec.upto fnExactClearanceOfSpec)

/-- 'laws.FnExactSplitAxis', WHERE WHAT IT READS IS OF BULK AT MOST 1048576: true; the input reads as it did. -/
def fnExactSplitAxisUptoRow : OpenClaim := { program := "ytjapgbeecabkfaa", sum := "9d96f8afeb3775b521fadab163ebd3964341c96cb95c554462f530b2ee69d9de", func := "loop.example/g01099/laws.FnExactSplitAxis", spec := "fnExactSplitAxis", unfollowed := true, recurses := true, apart := false, narrowed := true }
def FnExactSplitAxisUptoSaid : Prop := fnExactSplitAxisUptoRow.holds Try.pinned (OpenSpec.upto fnExactSplitAxisSpec)

end Rows
end Go.Proofs.Ytjapgbeecabkfaa
