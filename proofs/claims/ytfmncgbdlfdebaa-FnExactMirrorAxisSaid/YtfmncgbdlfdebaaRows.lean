/-
  No cell of these rows narrows 'for every input' (looked for: loops, veiled, ifaces, maps, wideKeys, modest, calm, conditions, laid).
  DERIVED. THE GIVEN ROWS OF THIS SEAT. 12 by the template 'for every input the law returns true; each argument reads behind the call as it read before'; 0 by the template 'total and deterministic' (their statements: YtfmncgbdlfdebaaTotals.lean).
  GIVEN WITH THE SEED: the statements are not yours to turn. If you find one false, say at which input.
  Laid BY PROGRAM, IN A SANDBOX (cutbox-rows.mjs): the forced cells as the released guide's own fill.sh prints them over the translation dff441b44898eee9… (all of the seat's roots in one cut). By AI agents, Wed Nov 11 2026. No macro, syntax, notation, axiom, sorry.
-/
import Derived.Test.YtfmncgbdlfdebaaChecked
import GoSem.Claim
import GoSem.ClaimJoined
import GoSem.ClaimMapViews
import Derived.JoinedTies
import Derived.KernelRfl
namespace Go.Proofs.Ytfmncgbdlfdebaa
/- THE CELL 'sum', in the pinned program and in every row, IS THE sha256 OF THE DUMP (.gsa) THAT YtfmncgbdlfdebaaProg.lean LOADS. Nothing in Lean hashes anything: it is a label: what it is worth is what the hold of that sum in a sandbox is worth. -/
noncomputable def Try.pinned : Pinned := { name := "ytfmncgbdlfdebaa", sum := "dff441b44898eee9ced2c7ad1b0521849cd5685e3e312734fe7a99265713d692", checked := Try.checked }
namespace Rows
def none {H : Type} : Left H := { results := [], args := [] }

/-- 'laws.FnExactValidPose': WHATEVER THE INPUT: true; the input reads as it did. -/
def fnExactValidPoseSpec : ChangeSpec := { name := "fnExactValidPose", fn := fun _ => fun
  | [d] => { results := [.lit (.bool true)], args := [d] }
  | _ => none }
def fnExactValidPoseRow : OpenClaim := { program := "ytfmncgbdlfdebaa", sum := "dff441b44898eee9ced2c7ad1b0521849cd5685e3e312734fe7a99265713d692", func := "loop.example/g01099/laws.FnExactValidPose", spec := "fnExactValidPose", apart := false }
def FnExactValidPoseSaid : Prop := fnExactValidPoseRow.holds Try.pinned (OpenSpec.ofChange fnExactValidPoseSpec)

/-- ITS FALSE NEIGHBOUR: 'it returns false'. Refute it at one input. -/
def fnExactValidPoseWrong : ChangeSpec := { name := "fnExactValidPose", fn := fun _ => fun
  | [d] => { results := [.lit (.bool false)], args := [d] }
  | _ => none }
def FnExactValidPoseWrongFalsely : Prop := fnExactValidPoseRow.holds Try.pinned (OpenSpec.ofChange fnExactValidPoseWrong)

/-- 'laws.FnExactNextPose': WHATEVER THE INPUT: true; the input reads as it did. -/
def fnExactNextPoseSpec : ChangeSpec := { name := "fnExactNextPose", fn := fun _ => fun
  | [d1, d2, d3] => { results := [.lit (.bool true)], args := [d1, d2, d3] }
  | _ => none }
def fnExactNextPoseRow : OpenClaim := { program := "ytfmncgbdlfdebaa", sum := "dff441b44898eee9ced2c7ad1b0521849cd5685e3e312734fe7a99265713d692", func := "loop.example/g01099/laws.FnExactNextPose", spec := "fnExactNextPose", apart := false }
def FnExactNextPoseSaid : Prop := fnExactNextPoseRow.holds Try.pinned (OpenSpec.ofChange fnExactNextPoseSpec)

/-- ITS FALSE NEIGHBOUR: 'it returns false'. Refute it at one input. -/
def fnExactNextPoseWrong : ChangeSpec := { name := "fnExactNextPose", fn := fun _ => fun
  | [d1, d2, d3] => { results := [.lit (.bool false)], args := [d1, d2, d3] }
  | _ => none }
def FnExactNextPoseWrongFalsely : Prop := fnExactNextPoseRow.holds Try.pinned (OpenSpec.ofChange fnExactNextPoseWrong)

/-- 'laws.FnExactValidAxis': WHATEVER THE INPUT: true; the input reads as it did. -/
def fnExactValidAxisSpec : ChangeSpec := { name := "fnExactValidAxis", fn := fun _ => fun
  | [d] => { results := [.lit (.bool true)], args := [d] }
  | _ => none }
def fnExactValidAxisRow : OpenClaim := { program := "ytfmncgbdlfdebaa", sum := "dff441b44898eee9ced2c7ad1b0521849cd5685e3e312734fe7a99265713d692", func := "loop.example/g01099/laws.FnExactValidAxis", spec := "fnExactValidAxis", unfollowed := true, recurses := true, apart := false }
def FnExactValidAxisSaid : Prop := fnExactValidAxisRow.holds Try.pinned (OpenSpec.ofChange fnExactValidAxisSpec)

/-- ITS FALSE NEIGHBOUR: 'it returns false'. Refute it at one input. -/
def fnExactValidAxisWrong : ChangeSpec := { name := "fnExactValidAxis", fn := fun _ => fun
  | [d] => { results := [.lit (.bool false)], args := [d] }
  | _ => none }
def FnExactValidAxisWrongFalsely : Prop := fnExactValidAxisRow.holds Try.pinned (OpenSpec.ofChange fnExactValidAxisWrong)

/-- 'laws.FnExactRingsOf': WHATEVER THE INPUT: true; the input reads as it did. -/
def fnExactRingsOfSpec : ChangeSpec := { name := "fnExactRingsOf", fn := fun _ => fun
  | [d] => { results := [.lit (.bool true)], args := [d] }
  | _ => none }
def fnExactRingsOfRow : OpenClaim := { program := "ytfmncgbdlfdebaa", sum := "dff441b44898eee9ced2c7ad1b0521849cd5685e3e312734fe7a99265713d692", func := "loop.example/g01099/laws.FnExactRingsOf", spec := "fnExactRingsOf", unfollowed := true, recurses := true, apart := false }
def FnExactRingsOfSaid : Prop := fnExactRingsOfRow.holds Try.pinned (OpenSpec.ofChange fnExactRingsOfSpec)

/-- ITS FALSE NEIGHBOUR: 'it returns false'. Refute it at one input. -/
def fnExactRingsOfWrong : ChangeSpec := { name := "fnExactRingsOf", fn := fun _ => fun
  | [d] => { results := [.lit (.bool false)], args := [d] }
  | _ => none }
def FnExactRingsOfWrongFalsely : Prop := fnExactRingsOfRow.holds Try.pinned (OpenSpec.ofChange fnExactRingsOfWrong)

/-- 'laws.FnExactCurveAt': WHATEVER THE INPUT: true; the input reads as it did. -/
def fnExactCurveAtSpec : ChangeSpec := { name := "fnExactCurveAt", fn := fun _ => fun
  | [d1, d2] => { results := [.lit (.bool true)], args := [d1, d2] }
  | _ => none }
def fnExactCurveAtRow : OpenClaim := { program := "ytfmncgbdlfdebaa", sum := "dff441b44898eee9ced2c7ad1b0521849cd5685e3e312734fe7a99265713d692", func := "loop.example/g01099/laws.FnExactCurveAt", spec := "fnExactCurveAt", unfollowed := true, recurses := true, apart := false }
def FnExactCurveAtSaid : Prop := fnExactCurveAtRow.holds Try.pinned (OpenSpec.ofChange fnExactCurveAtSpec)

/-- ITS FALSE NEIGHBOUR: 'it returns false'. Refute it at one input. -/
def fnExactCurveAtWrong : ChangeSpec := { name := "fnExactCurveAt", fn := fun _ => fun
  | [d1, d2] => { results := [.lit (.bool false)], args := [d1, d2] }
  | _ => none }
def FnExactCurveAtWrongFalsely : Prop := fnExactCurveAtRow.holds Try.pinned (OpenSpec.ofChange fnExactCurveAtWrong)

/-- 'laws.FnExactPoseAt': WHATEVER THE INPUT: true; the input reads as it did. -/
def fnExactPoseAtSpec : ChangeSpec := { name := "fnExactPoseAt", fn := fun _ => fun
  | [d1, d2] => { results := [.lit (.bool true)], args := [d1, d2] }
  | _ => none }
def fnExactPoseAtRow : OpenClaim := { program := "ytfmncgbdlfdebaa", sum := "dff441b44898eee9ced2c7ad1b0521849cd5685e3e312734fe7a99265713d692", func := "loop.example/g01099/laws.FnExactPoseAt", spec := "fnExactPoseAt", unfollowed := true, recurses := true, apart := false }
def FnExactPoseAtSaid : Prop := fnExactPoseAtRow.holds Try.pinned (OpenSpec.ofChange fnExactPoseAtSpec)

/-- ITS FALSE NEIGHBOUR: 'it returns false'. Refute it at one input. -/
def fnExactPoseAtWrong : ChangeSpec := { name := "fnExactPoseAt", fn := fun _ => fun
  | [d1, d2] => { results := [.lit (.bool false)], args := [d1, d2] }
  | _ => none }
def FnExactPoseAtWrongFalsely : Prop := fnExactPoseAtRow.holds Try.pinned (OpenSpec.ofChange fnExactPoseAtWrong)

/-- 'laws.FnExactPosesOf': WHATEVER THE INPUT: true; the input reads as it did. -/
def fnExactPosesOfSpec : ChangeSpec := { name := "fnExactPosesOf", fn := fun _ => fun
  | [d] => { results := [.lit (.bool true)], args := [d] }
  | _ => none }
def fnExactPosesOfRow : OpenClaim := { program := "ytfmncgbdlfdebaa", sum := "dff441b44898eee9ced2c7ad1b0521849cd5685e3e312734fe7a99265713d692", func := "loop.example/g01099/laws.FnExactPosesOf", spec := "fnExactPosesOf", unfollowed := true, recurses := true, apart := false }
def FnExactPosesOfSaid : Prop := fnExactPosesOfRow.holds Try.pinned (OpenSpec.ofChange fnExactPosesOfSpec)

/-- ITS FALSE NEIGHBOUR: 'it returns false'. Refute it at one input. -/
def fnExactPosesOfWrong : ChangeSpec := { name := "fnExactPosesOf", fn := fun _ => fun
  | [d] => { results := [.lit (.bool false)], args := [d] }
  | _ => none }
def FnExactPosesOfWrongFalsely : Prop := fnExactPosesOfRow.holds Try.pinned (OpenSpec.ofChange fnExactPosesOfWrong)

/-- 'laws.FnExactNormalAxis': WHATEVER THE INPUT: true; the input reads as it did. -/
def fnExactNormalAxisSpec : ChangeSpec := { name := "fnExactNormalAxis", fn := fun _ => fun
  | [d] => { results := [.lit (.bool true)], args := [d] }
  | _ => none }
def fnExactNormalAxisRow : OpenClaim := { program := "ytfmncgbdlfdebaa", sum := "dff441b44898eee9ced2c7ad1b0521849cd5685e3e312734fe7a99265713d692", func := "loop.example/g01099/laws.FnExactNormalAxis", spec := "fnExactNormalAxis", unfollowed := true, recurses := true, apart := false }
def FnExactNormalAxisSaid : Prop := fnExactNormalAxisRow.holds Try.pinned (OpenSpec.ofChange fnExactNormalAxisSpec)

/-- ITS FALSE NEIGHBOUR: 'it returns false'. Refute it at one input. -/
def fnExactNormalAxisWrong : ChangeSpec := { name := "fnExactNormalAxis", fn := fun _ => fun
  | [d] => { results := [.lit (.bool false)], args := [d] }
  | _ => none }
def FnExactNormalAxisWrongFalsely : Prop := fnExactNormalAxisRow.holds Try.pinned (OpenSpec.ofChange fnExactNormalAxisWrong)

/-- 'laws.FnExactSplitAxis': WHATEVER THE INPUT: true; the input reads as it did. -/
def fnExactSplitAxisSpec : ChangeSpec := { name := "fnExactSplitAxis", fn := fun _ => fun
  | [d1, d2] => { results := [.lit (.bool true)], args := [d1, d2] }
  | _ => none }
def fnExactSplitAxisRow : OpenClaim := { program := "ytfmncgbdlfdebaa", sum := "dff441b44898eee9ced2c7ad1b0521849cd5685e3e312734fe7a99265713d692", func := "loop.example/g01099/laws.FnExactSplitAxis", spec := "fnExactSplitAxis", unfollowed := true, recurses := true, apart := false }
def FnExactSplitAxisSaid : Prop := fnExactSplitAxisRow.holds Try.pinned (OpenSpec.ofChange fnExactSplitAxisSpec)

/-- ITS FALSE NEIGHBOUR: 'it returns false'. Refute it at one input. -/
def fnExactSplitAxisWrong : ChangeSpec := { name := "fnExactSplitAxis", fn := fun _ => fun
  | [d1, d2] => { results := [.lit (.bool false)], args := [d1, d2] }
  | _ => none }
def FnExactSplitAxisWrongFalsely : Prop := fnExactSplitAxisRow.holds Try.pinned (OpenSpec.ofChange fnExactSplitAxisWrong)

/-- 'laws.FnExactJoinAxes': WHATEVER THE INPUT: true; the input reads as it did. -/
def fnExactJoinAxesSpec : ChangeSpec := { name := "fnExactJoinAxes", fn := fun _ => fun
  | [d1, d2] => { results := [.lit (.bool true)], args := [d1, d2] }
  | _ => none }
def fnExactJoinAxesRow : OpenClaim := { program := "ytfmncgbdlfdebaa", sum := "dff441b44898eee9ced2c7ad1b0521849cd5685e3e312734fe7a99265713d692", func := "loop.example/g01099/laws.FnExactJoinAxes", spec := "fnExactJoinAxes", unfollowed := true, recurses := true, apart := false }
def FnExactJoinAxesSaid : Prop := fnExactJoinAxesRow.holds Try.pinned (OpenSpec.ofChange fnExactJoinAxesSpec)

/-- ITS FALSE NEIGHBOUR: 'it returns false'. Refute it at one input. -/
def fnExactJoinAxesWrong : ChangeSpec := { name := "fnExactJoinAxes", fn := fun _ => fun
  | [d1, d2] => { results := [.lit (.bool false)], args := [d1, d2] }
  | _ => none }
def FnExactJoinAxesWrongFalsely : Prop := fnExactJoinAxesRow.holds Try.pinned (OpenSpec.ofChange fnExactJoinAxesWrong)

/-- 'laws.FnExactAxisOf': WHATEVER THE INPUT: true; the input reads as it did. -/
def fnExactAxisOfSpec : ChangeSpec := { name := "fnExactAxisOf", fn := fun _ => fun
  | [d] => { results := [.lit (.bool true)], args := [d] }
  | _ => none }
def fnExactAxisOfRow : OpenClaim := { program := "ytfmncgbdlfdebaa", sum := "dff441b44898eee9ced2c7ad1b0521849cd5685e3e312734fe7a99265713d692", func := "loop.example/g01099/laws.FnExactAxisOf", spec := "fnExactAxisOf", unfollowed := true, recurses := true, apart := false }
def FnExactAxisOfSaid : Prop := fnExactAxisOfRow.holds Try.pinned (OpenSpec.ofChange fnExactAxisOfSpec)

/-- ITS FALSE NEIGHBOUR: 'it returns false'. Refute it at one input. -/
def fnExactAxisOfWrong : ChangeSpec := { name := "fnExactAxisOf", fn := fun _ => fun
  | [d] => { results := [.lit (.bool false)], args := [d] }
  | _ => none }
def FnExactAxisOfWrongFalsely : Prop := fnExactAxisOfRow.holds Try.pinned (OpenSpec.ofChange fnExactAxisOfWrong)

/-- 'laws.FnExactMirrorAxis': WHATEVER THE INPUT: true; the input reads as it did. -/
def fnExactMirrorAxisSpec : ChangeSpec := { name := "fnExactMirrorAxis", fn := fun _ => fun
  | [d] => { results := [.lit (.bool true)], args := [d] }
  | _ => none }
def fnExactMirrorAxisRow : OpenClaim := { program := "ytfmncgbdlfdebaa", sum := "dff441b44898eee9ced2c7ad1b0521849cd5685e3e312734fe7a99265713d692", func := "loop.example/g01099/laws.FnExactMirrorAxis", spec := "fnExactMirrorAxis", unfollowed := true, recurses := true, apart := false }
def FnExactMirrorAxisSaid : Prop := fnExactMirrorAxisRow.holds Try.pinned (OpenSpec.ofChange fnExactMirrorAxisSpec)

/-- ITS FALSE NEIGHBOUR: 'it returns false'. Refute it at one input. -/
def fnExactMirrorAxisWrong : ChangeSpec := { name := "fnExactMirrorAxis", fn := fun _ => fun
  | [d] => { results := [.lit (.bool false)], args := [d] }
  | _ => none }
def FnExactMirrorAxisWrongFalsely : Prop := fnExactMirrorAxisRow.holds Try.pinned (OpenSpec.ofChange fnExactMirrorAxisWrong)

/- THE SECOND FORM. 'bulk': how many values and letters a reading holds, each counted each time it is reached (what is shared counts as often as it is met; a slice's spare places count too). A statement '..UptoSaid' is the law's where the arguments, and the package variables that the reading takes, are together of bulk at most 1048576: NARROWER than '..Said'. Prove '..Said' where nothing that the law and all that it calls make is longer than what came in: it says more and counts as full. Else prove '..UptoSaid'. A law counts once. -/
mutual
def uptoBulk {H : Type} : DataW H → Nat
  | .lit (.string bytes) => bytes.length + 1
  | .lit _ => 1
  | .nil => 1
  | .ptr d => uptoBulk d + 1
  | .slice elems spare => uptoBulkAll elems + uptoBulkAll spare + 1
  | .agg parts => uptoBulkAll parts + 1
  | .iface _ d => uptoBulk d + 1
  | .map entries => uptoBulkEntries entries + 1
  | .held _ => 1
def uptoBulkAll {H : Type} : List (DataW H) → Nat
  | [] => 0
  | d :: r => uptoBulk d + uptoBulkAll r
def uptoBulkEntries {H : Type} : List (Lit × DataW H) → Nat
  | [] => 0
  | x :: r => uptoBulkEntry x + uptoBulkEntries r
def uptoBulkEntry {H : Type} : Lit × DataW H → Nat
  | (.string bytes, d) => bytes.length + uptoBulk d + 1
  | (_, d) => uptoBulk d + 1
 end
def uptoSmall : (H : Type) → List (DataW H) → Bool := fun _ ds => decide (uptoBulkAll ds ≤ 1048576)
def OpenSpec.upto (s : _root_.Go.ChangeSpec) : _root_.Go.OpenSpec := { _root_.Go.OpenSpec.ofChange s with cond := some uptoSmall }

/-- 'laws.FnExactValidPose', WHERE WHAT IT READS IS OF BULK AT MOST 1048576: true; the input reads as it did. -/
def fnExactValidPoseUptoRow : OpenClaim := { program := "ytfmncgbdlfdebaa", sum := "dff441b44898eee9ced2c7ad1b0521849cd5685e3e312734fe7a99265713d692", func := "loop.example/g01099/laws.FnExactValidPose", spec := "fnExactValidPose", apart := false, narrowed := true }
def FnExactValidPoseUptoSaid : Prop := fnExactValidPoseUptoRow.holds Try.pinned (OpenSpec.upto fnExactValidPoseSpec)

/-- 'laws.FnExactNextPose', WHERE WHAT IT READS IS OF BULK AT MOST 1048576: true; the input reads as it did. -/
def fnExactNextPoseUptoRow : OpenClaim := { program := "ytfmncgbdlfdebaa", sum := "dff441b44898eee9ced2c7ad1b0521849cd5685e3e312734fe7a99265713d692", func := "loop.example/g01099/laws.FnExactNextPose", spec := "fnExactNextPose", apart := false, narrowed := true }
def FnExactNextPoseUptoSaid : Prop := fnExactNextPoseUptoRow.holds Try.pinned (OpenSpec.upto fnExactNextPoseSpec)

/-- 'laws.FnExactValidAxis', WHERE WHAT IT READS IS OF BULK AT MOST 1048576: true; the input reads as it did. -/
def fnExactValidAxisUptoRow : OpenClaim := { program := "ytfmncgbdlfdebaa", sum := "dff441b44898eee9ced2c7ad1b0521849cd5685e3e312734fe7a99265713d692", func := "loop.example/g01099/laws.FnExactValidAxis", spec := "fnExactValidAxis", unfollowed := true, recurses := true, apart := false, narrowed := true }
def FnExactValidAxisUptoSaid : Prop := fnExactValidAxisUptoRow.holds Try.pinned (OpenSpec.upto fnExactValidAxisSpec)

/-- 'laws.FnExactRingsOf', WHERE WHAT IT READS IS OF BULK AT MOST 1048576: true; the input reads as it did. -/
def fnExactRingsOfUptoRow : OpenClaim := { program := "ytfmncgbdlfdebaa", sum := "dff441b44898eee9ced2c7ad1b0521849cd5685e3e312734fe7a99265713d692", func := "loop.example/g01099/laws.FnExactRingsOf", spec := "fnExactRingsOf", unfollowed := true, recurses := true, apart := false, narrowed := true }
def FnExactRingsOfUptoSaid : Prop := fnExactRingsOfUptoRow.holds Try.pinned (OpenSpec.upto fnExactRingsOfSpec)

/-- 'laws.FnExactCurveAt', WHERE WHAT IT READS IS OF BULK AT MOST 1048576: true; the input reads as it did. -/
def fnExactCurveAtUptoRow : OpenClaim := { program := "ytfmncgbdlfdebaa", sum := "dff441b44898eee9ced2c7ad1b0521849cd5685e3e312734fe7a99265713d692", func := "loop.example/g01099/laws.FnExactCurveAt", spec := "fnExactCurveAt", unfollowed := true, recurses := true, apart := false, narrowed := true }
def FnExactCurveAtUptoSaid : Prop := fnExactCurveAtUptoRow.holds Try.pinned (OpenSpec.upto fnExactCurveAtSpec)

/-- 'laws.FnExactPoseAt', WHERE WHAT IT READS IS OF BULK AT MOST 1048576: true; the input reads as it did. -/
def fnExactPoseAtUptoRow : OpenClaim := { program := "ytfmncgbdlfdebaa", sum := "dff441b44898eee9ced2c7ad1b0521849cd5685e3e312734fe7a99265713d692", func := "loop.example/g01099/laws.FnExactPoseAt", spec := "fnExactPoseAt", unfollowed := true, recurses := true, apart := false, narrowed := true }
def FnExactPoseAtUptoSaid : Prop := fnExactPoseAtUptoRow.holds Try.pinned (OpenSpec.upto fnExactPoseAtSpec)

/-- 'laws.FnExactPosesOf', WHERE WHAT IT READS IS OF BULK AT MOST 1048576: true; the input reads as it did. -/
def fnExactPosesOfUptoRow : OpenClaim := { program := "ytfmncgbdlfdebaa", sum := "dff441b44898eee9ced2c7ad1b0521849cd5685e3e312734fe7a99265713d692", func := "loop.example/g01099/laws.FnExactPosesOf", spec := "fnExactPosesOf", unfollowed := true, recurses := true, apart := false, narrowed := true }
def FnExactPosesOfUptoSaid : Prop := fnExactPosesOfUptoRow.holds Try.pinned (OpenSpec.upto fnExactPosesOfSpec)

/-- 'laws.FnExactNormalAxis', WHERE WHAT IT READS IS OF BULK AT MOST 1048576: true; the input reads as it did. -/
def fnExactNormalAxisUptoRow : OpenClaim := { program := "ytfmncgbdlfdebaa", sum := "dff441b44898eee9ced2c7ad1b0521849cd5685e3e312734fe7a99265713d692", func := "loop.example/g01099/laws.FnExactNormalAxis", spec := "fnExactNormalAxis", unfollowed := true, recurses := true, apart := false, narrowed := true }
def FnExactNormalAxisUptoSaid : Prop := fnExactNormalAxisUptoRow.holds Try.pinned (OpenSpec.upto fnExactNormalAxisSpec)

/-- 'laws.FnExactSplitAxis', WHERE WHAT IT READS IS OF BULK AT MOST 1048576: true; the input reads as it did. -/
def fnExactSplitAxisUptoRow : OpenClaim := { program := "ytfmncgbdlfdebaa", sum := "dff441b44898eee9ced2c7ad1b0521849cd5685e3e312734fe7a99265713d692", func := "loop.example/g01099/laws.FnExactSplitAxis", spec := "fnExactSplitAxis", unfollowed := true, recurses := true, apart := false, narrowed := true }
def FnExactSplitAxisUptoSaid : Prop := fnExactSplitAxisUptoRow.holds Try.pinned (OpenSpec.upto fnExactSplitAxisSpec)

/-- 'laws.FnExactJoinAxes', WHERE WHAT IT READS IS OF BULK AT MOST 1048576: true; the input reads as it did. -/
def fnExactJoinAxesUptoRow : OpenClaim := { program := "ytfmncgbdlfdebaa", sum := "dff441b44898eee9ced2c7ad1b0521849cd5685e3e312734fe7a99265713d692", func := "loop.example/g01099/laws.FnExactJoinAxes", spec := "fnExactJoinAxes", unfollowed := true, recurses := true, apart := false, narrowed := true }
def FnExactJoinAxesUptoSaid : Prop := fnExactJoinAxesUptoRow.holds Try.pinned (OpenSpec.upto fnExactJoinAxesSpec)

/-- 'laws.FnExactAxisOf', WHERE WHAT IT READS IS OF BULK AT MOST 1048576: true; the input reads as it did. -/
def fnExactAxisOfUptoRow : OpenClaim := { program := "ytfmncgbdlfdebaa", sum := "dff441b44898eee9ced2c7ad1b0521849cd5685e3e312734fe7a99265713d692", func := "loop.example/g01099/laws.FnExactAxisOf", spec := "fnExactAxisOf", unfollowed := true, recurses := true, apart := false, narrowed := true }
def FnExactAxisOfUptoSaid : Prop := fnExactAxisOfUptoRow.holds Try.pinned (OpenSpec.upto fnExactAxisOfSpec)

/-- 'laws.FnExactMirrorAxis', WHERE WHAT IT READS IS OF BULK AT MOST 1048576: true; the input reads as it did. -/
def fnExactMirrorAxisUptoRow : OpenClaim := { program := "ytfmncgbdlfdebaa", sum := "dff441b44898eee9ced2c7ad1b0521849cd5685e3e312734fe7a99265713d692", func := "loop.example/g01099/laws.FnExactMirrorAxis", spec := "fnExactMirrorAxis", unfollowed := true, recurses := true, apart := false, narrowed := true }
def FnExactMirrorAxisUptoSaid : Prop := fnExactMirrorAxisUptoRow.holds Try.pinned (OpenSpec.upto fnExactMirrorAxisSpec)

end Rows
end Go.Proofs.Ytfmncgbdlfdebaa
