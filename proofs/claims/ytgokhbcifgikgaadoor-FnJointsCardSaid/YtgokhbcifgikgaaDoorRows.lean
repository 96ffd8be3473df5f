/-
  NARROWER THAN 'FOR EVERY INPUT', by the rows' own cells (each row's printed sentence says how): FnExactTurnOf: laid · FnExactJointsOf: laid · FnExactMeetingJoints: laid · FnExactNextKeys: laid · FnJoints: laid · FnExactTotalTurn: laid · FnExactTubePoses: laid · FnExactOffsetsBehind: laid · FnExactSquaresOf: laid.
  DERIVED. THE GIVEN ROWS OF THIS SEAT. 9 by the template 'for every input the law returns true; each argument reads behind the call as it read before'; 0 by the template 'total and deterministic' (their statements: YtgokhbcifgikgaaDoorTotals.lean).
  GIVEN WITH THE SEED: the statements are not yours to turn. If you find one false, say at which input.
  Laid BY PROGRAM, IN A SANDBOX (cutbox-rows.mjs): the forced cells as the released guide's own fill.sh prints them over the translation b7dfa478652f8d62… (all of the seat's roots in one cut). By AI agents, Wed Nov 11 2026. No macro, syntax, notation, axiom, sorry.
-/
import Derived.Test.YtgokhbcifgikgaaDoorChecked
import GoSem.Claim
import GoSem.ClaimJoined
import GoSem.ClaimMapViews
import Derived.JoinedTies
import Derived.KernelRfl
namespace Go.Proofs.YtgokhbcifgikgaaDoor
/- THE CELL 'sum', in the pinned program and in every row, IS THE sha256 OF THE DUMP (.gsa) THAT YtgokhbcifgikgaaDoorProg.lean LOADS. Nothing in Lean hashes anything: it is a label: what it is worth is what the hold of that sum in a sandbox is worth. -/
noncomputable def Tryd.pinned : Pinned := { name := "ytgokhbcifgikgaadoor", sum := "b7dfa478652f8d627ebbb3e90019641843a6fce2b2266af479b06dbbf5b1f735", checked := Tryd.checked }
namespace Rows
def none {H : Type} : Left H := { results := [], args := [] }

/- WHAT THE LISTED PACKAGE-LEVEL VARIABLES READ AS WHEN THE CALL BEGINS. Each datum BY PROGRAM (the guide's laid-datum.mjs) off the statement by which the dump's own 'gosem.cut.vars' lays the variable. In a bare row this is a premise. The card (YtgokhbcifgikgaaDoorCards.lean) ties it to the program's text. -/
def laid_loop_example_g01099_impl_turnsOfKeys {H : Type} : DataW H := .agg [.agg [.lit (.int .i64 10), .lit (.int .i64 0)], .agg [.lit (.int .i64 9), .lit (.int .i64 4)], .agg [.lit (.int .i64 7), .lit (.int .i64 7)], .agg [.lit (.int .i64 4), .lit (.int .i64 9)], .agg [.lit (.int .i64 0), .lit (.int .i64 10)], .agg [.lit (.int .i64 (-4)), .lit (.int .i64 9)], .agg [.lit (.int .i64 (-7)), .lit (.int .i64 7)], .agg [.lit (.int .i64 (-9)), .lit (.int .i64 4)], .agg [.lit (.int .i64 (-10)), .lit (.int .i64 0)], .agg [.lit (.int .i64 (-9)), .lit (.int .i64 (-4))], .agg [.lit (.int .i64 (-7)), .lit (.int .i64 (-7))], .agg [.lit (.int .i64 (-4)), .lit (.int .i64 (-9))], .agg [.lit (.int .i64 0), .lit (.int .i64 (-10))], .agg [.lit (.int .i64 4), .lit (.int .i64 (-9))], .agg [.lit (.int .i64 7), .lit (.int .i64 (-7))], .agg [.lit (.int .i64 9), .lit (.int .i64 (-4))]]
def laid_math_bits_deBruijn32tab {H : Type} : DataW H := .agg [.lit (.int .u8 0), .lit (.int .u8 1), .lit (.int .u8 28), .lit (.int .u8 2), .lit (.int .u8 29), .lit (.int .u8 14), .lit (.int .u8 24), .lit (.int .u8 3), .lit (.int .u8 30), .lit (.int .u8 22), .lit (.int .u8 20), .lit (.int .u8 15), .lit (.int .u8 25), .lit (.int .u8 17), .lit (.int .u8 4), .lit (.int .u8 8), .lit (.int .u8 31), .lit (.int .u8 27), .lit (.int .u8 13), .lit (.int .u8 23), .lit (.int .u8 21), .lit (.int .u8 19), .lit (.int .u8 16), .lit (.int .u8 7), .lit (.int .u8 26), .lit (.int .u8 12), .lit (.int .u8 18), .lit (.int .u8 6), .lit (.int .u8 11), .lit (.int .u8 5), .lit (.int .u8 10), .lit (.int .u8 9)]

/-- 'laws.FnExactTurnOf': WHATEVER THE INPUT: true; the input reads as it did. -/
def fnExactTurnOfSpec : ChangeSpec := { name := "fnExactTurnOf", vars := ["loop.example/g01099/impl.turnsOfKeys"], fn := fun _ => fun
  | [d, g1] => { results := [.lit (.bool true)], args := [d], vars := [g1] }
  | _ => none }
def fnExactTurnOfRow : OpenClaim := { program := "ytgokhbcifgikgaadoor", sum := "b7dfa478652f8d627ebbb3e90019641843a6fce2b2266af479b06dbbf5b1f735", func := "loop.example/g01099/laws.FnExactTurnOf", spec := "fnExactTurnOf", named := ["loop.example/g01099/impl.turnsOfKeys"], apart := false, laid := [("loop.example/g01099/impl.turnsOfKeys", laid_loop_example_g01099_impl_turnsOfKeys)] }
def FnExactTurnOfSaid : Prop := fnExactTurnOfRow.holds Tryd.pinned (OpenSpec.ofChange fnExactTurnOfSpec)

/-- ITS FALSE NEIGHBOUR: 'it returns false'. Refute it at one input. -/
def fnExactTurnOfWrong : ChangeSpec := { name := "fnExactTurnOf", vars := ["loop.example/g01099/impl.turnsOfKeys"], fn := fun _ => fun
  | [d, g1] => { results := [.lit (.bool false)], args := [d], vars := [g1] }
  | _ => none }
def FnExactTurnOfWrongFalsely : Prop := fnExactTurnOfRow.holds Tryd.pinned (OpenSpec.ofChange fnExactTurnOfWrong)

/-- 'laws.FnExactJointsOf': WHATEVER THE INPUT: true; the input reads as it did. -/
def fnExactJointsOfSpec : ChangeSpec := { name := "fnExactJointsOf", fn := fun _ => fun
  | [d] => { results := [.lit (.bool true)], args := [d] }
  | _ => none }
def fnExactJointsOfRow : OpenClaim := { program := "ytgokhbcifgikgaadoor", sum := "b7dfa478652f8d627ebbb3e90019641843a6fce2b2266af479b06dbbf5b1f735", func := "loop.example/g01099/laws.FnExactJointsOf", spec := "fnExactJointsOf", named := ["math/bits.deBruijn32tab"], apart := false, laid := [("math/bits.deBruijn32tab", laid_math_bits_deBruijn32tab)] }
def FnExactJointsOfSaid : Prop := fnExactJointsOfRow.holds Tryd.pinned (OpenSpec.ofChange fnExactJointsOfSpec)

/-- ITS FALSE NEIGHBOUR: 'it returns false'. Refute it at one input. -/
def fnExactJointsOfWrong : ChangeSpec := { name := "fnExactJointsOf", fn := fun _ => fun
  | [d] => { results := [.lit (.bool false)], args := [d] }
  | _ => none }
def FnExactJointsOfWrongFalsely : Prop := fnExactJointsOfRow.holds Tryd.pinned (OpenSpec.ofChange fnExactJointsOfWrong)

/-- 'laws.FnExactMeetingJoints': WHATEVER THE INPUT: true; the input reads as it did. -/
def fnExactMeetingJointsSpec : ChangeSpec := { name := "fnExactMeetingJoints", fn := fun _ => fun
  | [d1, d2] => { results := [.lit (.bool true)], args := [d1, d2] }
  | _ => none }
def fnExactMeetingJointsRow : OpenClaim := { program := "ytgokhbcifgikgaadoor", sum := "b7dfa478652f8d627ebbb3e90019641843a6fce2b2266af479b06dbbf5b1f735", func := "loop.example/g01099/laws.FnExactMeetingJoints", spec := "fnExactMeetingJoints", named := ["math/bits.deBruijn32tab"], apart := false, laid := [("math/bits.deBruijn32tab", laid_math_bits_deBruijn32tab)] }
def FnExactMeetingJointsSaid : Prop := fnExactMeetingJointsRow.holds Tryd.pinned (OpenSpec.ofChange fnExactMeetingJointsSpec)

/-- ITS FALSE NEIGHBOUR: 'it returns false'. Refute it at one input. -/
def fnExactMeetingJointsWrong : ChangeSpec := { name := "fnExactMeetingJoints", fn := fun _ => fun
  | [d1, d2] => { results := [.lit (.bool false)], args := [d1, d2] }
  | _ => none }
def FnExactMeetingJointsWrongFalsely : Prop := fnExactMeetingJointsRow.holds Tryd.pinned (OpenSpec.ofChange fnExactMeetingJointsWrong)

/-- 'laws.FnExactNextKeys': WHATEVER THE INPUT: true; the input reads as it did. -/
def fnExactNextKeysSpec : ChangeSpec := { name := "fnExactNextKeys", fn := fun _ => fun
  | [d] => { results := [.lit (.bool true)], args := [d] }
  | _ => none }
def fnExactNextKeysRow : OpenClaim := { program := "ytgokhbcifgikgaadoor", sum := "b7dfa478652f8d627ebbb3e90019641843a6fce2b2266af479b06dbbf5b1f735", func := "loop.example/g01099/laws.FnExactNextKeys", spec := "fnExactNextKeys", named := ["math/bits.deBruijn32tab"], apart := false, laid := [("math/bits.deBruijn32tab", laid_math_bits_deBruijn32tab)] }
def FnExactNextKeysSaid : Prop := fnExactNextKeysRow.holds Tryd.pinned (OpenSpec.ofChange fnExactNextKeysSpec)

/-- ITS FALSE NEIGHBOUR: 'it returns false'. Refute it at one input. -/
def fnExactNextKeysWrong : ChangeSpec := { name := "fnExactNextKeys", fn := fun _ => fun
  | [d] => { results := [.lit (.bool false)], args := [d] }
  | _ => none }
def FnExactNextKeysWrongFalsely : Prop := fnExactNextKeysRow.holds Tryd.pinned (OpenSpec.ofChange fnExactNextKeysWrong)

/-- 'laws.FnJoints': WHATEVER THE INPUT: true; the input reads as it did. -/
def fnJointsSpec : ChangeSpec := { name := "fnJoints", fn := fun _ => fun
  | [d1, d2] => { results := [.lit (.bool true)], args := [d1, d2] }
  | _ => none }
def fnJointsRow : OpenClaim := { program := "ytgokhbcifgikgaadoor", sum := "b7dfa478652f8d627ebbb3e90019641843a6fce2b2266af479b06dbbf5b1f735", func := "loop.example/g01099/laws.FnJoints", spec := "fnJoints", unfollowed := true, recurses := true, named := ["math/bits.deBruijn32tab"], apart := false, laid := [("math/bits.deBruijn32tab", laid_math_bits_deBruijn32tab)] }
def FnJointsSaid : Prop := fnJointsRow.holds Tryd.pinned (OpenSpec.ofChange fnJointsSpec)

/-- ITS FALSE NEIGHBOUR: 'it returns false'. Refute it at one input. -/
def fnJointsWrong : ChangeSpec := { name := "fnJoints", fn := fun _ => fun
  | [d1, d2] => { results := [.lit (.bool false)], args := [d1, d2] }
  | _ => none }
def FnJointsWrongFalsely : Prop := fnJointsRow.holds Tryd.pinned (OpenSpec.ofChange fnJointsWrong)

/-- 'laws.FnExactTotalTurn': WHATEVER THE INPUT: true; the input reads as it did. -/
def fnExactTotalTurnSpec : ChangeSpec := { name := "fnExactTotalTurn", vars := ["loop.example/g01099/impl.turnsOfKeys"], fn := fun _ => fun
  | [d, g1] => { results := [.lit (.bool true)], args := [d], vars := [g1] }
  | _ => none }
def fnExactTotalTurnRow : OpenClaim := { program := "ytgokhbcifgikgaadoor", sum := "b7dfa478652f8d627ebbb3e90019641843a6fce2b2266af479b06dbbf5b1f735", func := "loop.example/g01099/laws.FnExactTotalTurn", spec := "fnExactTotalTurn", unfollowed := true, recurses := true, named := ["loop.example/g01099/impl.turnsOfKeys"], apart := false, laid := [("loop.example/g01099/impl.turnsOfKeys", laid_loop_example_g01099_impl_turnsOfKeys)] }
def FnExactTotalTurnSaid : Prop := fnExactTotalTurnRow.holds Tryd.pinned (OpenSpec.ofChange fnExactTotalTurnSpec)

/-- ITS FALSE NEIGHBOUR: 'it returns false'. Refute it at one input. -/
def fnExactTotalTurnWrong : ChangeSpec := { name := "fnExactTotalTurn", vars := ["loop.example/g01099/impl.turnsOfKeys"], fn := fun _ => fun
  | [d, g1] => { results := [.lit (.bool false)], args := [d], vars := [g1] }
  | _ => none }
def FnExactTotalTurnWrongFalsely : Prop := fnExactTotalTurnRow.holds Tryd.pinned (OpenSpec.ofChange fnExactTotalTurnWrong)

/-- 'laws.FnExactTubePoses': WHATEVER THE INPUT: true; the input reads as it did. -/
def fnExactTubePosesSpec : ChangeSpec := { name := "fnExactTubePoses", vars := ["loop.example/g01099/impl.turnsOfKeys"], fn := fun _ => fun
  | [d1, d2, g1] => { results := [.lit (.bool true)], args := [d1, d2], vars := [g1] }
  | _ => none }
def fnExactTubePosesRow : OpenClaim := { program := "ytgokhbcifgikgaadoor", sum := "b7dfa478652f8d627ebbb3e90019641843a6fce2b2266af479b06dbbf5b1f735", func := "loop.example/g01099/laws.FnExactTubePoses", spec := "fnExactTubePoses", unfollowed := true, recurses := true, named := ["loop.example/g01099/impl.turnsOfKeys"], apart := false, laid := [("loop.example/g01099/impl.turnsOfKeys", laid_loop_example_g01099_impl_turnsOfKeys)] }
def FnExactTubePosesSaid : Prop := fnExactTubePosesRow.holds Tryd.pinned (OpenSpec.ofChange fnExactTubePosesSpec)

/-- ITS FALSE NEIGHBOUR: 'it returns false'. Refute it at one input. -/
def fnExactTubePosesWrong : ChangeSpec := { name := "fnExactTubePoses", vars := ["loop.example/g01099/impl.turnsOfKeys"], fn := fun _ => fun
  | [d1, d2, g1] => { results := [.lit (.bool false)], args := [d1, d2], vars := [g1] }
  | _ => none }
def FnExactTubePosesWrongFalsely : Prop := fnExactTubePosesRow.holds Tryd.pinned (OpenSpec.ofChange fnExactTubePosesWrong)

/-- 'laws.FnExactOffsetsBehind': WHATEVER THE INPUT: true; the input reads as it did. -/
def fnExactOffsetsBehindSpec : ChangeSpec := { name := "fnExactOffsetsBehind", vars := ["loop.example/g01099/impl.turnsOfKeys"], fn := fun _ => fun
  | [d1, d2, d3, d4, g1] => { results := [.lit (.bool true)], args := [d1, d2, d3, d4], vars := [g1] }
  | _ => none }
def fnExactOffsetsBehindRow : OpenClaim := { program := "ytgokhbcifgikgaadoor", sum := "b7dfa478652f8d627ebbb3e90019641843a6fce2b2266af479b06dbbf5b1f735", func := "loop.example/g01099/laws.FnExactOffsetsBehind", spec := "fnExactOffsetsBehind", unfollowed := true, recurses := true, named := ["loop.example/g01099/impl.turnsOfKeys"], apart := false, laid := [("loop.example/g01099/impl.turnsOfKeys", laid_loop_example_g01099_impl_turnsOfKeys)] }
def FnExactOffsetsBehindSaid : Prop := fnExactOffsetsBehindRow.holds Tryd.pinned (OpenSpec.ofChange fnExactOffsetsBehindSpec)

/-- ITS FALSE NEIGHBOUR: 'it returns false'. Refute it at one input. -/
def fnExactOffsetsBehindWrong : ChangeSpec := { name := "fnExactOffsetsBehind", vars := ["loop.example/g01099/impl.turnsOfKeys"], fn := fun _ => fun
  | [d1, d2, d3, d4, g1] => { results := [.lit (.bool false)], args := [d1, d2, d3, d4], vars := [g1] }
  | _ => none }
def FnExactOffsetsBehindWrongFalsely : Prop := fnExactOffsetsBehindRow.holds Tryd.pinned (OpenSpec.ofChange fnExactOffsetsBehindWrong)

/-- 'laws.FnExactSquaresOf': WHATEVER THE INPUT: true; the input reads as it did. -/
def fnExactSquaresOfSpec : ChangeSpec := { name := "fnExactSquaresOf", vars := ["loop.example/g01099/impl.turnsOfKeys"], fn := fun _ => fun
  | [d1, d2, d3, d4, g1] => { results := [.lit (.bool true)], args := [d1, d2, d3, d4], vars := [g1] }
  | _ => none }
def fnExactSquaresOfRow : OpenClaim := { program := "ytgokhbcifgikgaadoor", sum := "b7dfa478652f8d627ebbb3e90019641843a6fce2b2266af479b06dbbf5b1f735", func := "loop.example/g01099/laws.FnExactSquaresOf", spec := "fnExactSquaresOf", unfollowed := true, recurses := true, named := ["loop.example/g01099/impl.turnsOfKeys"], apart := false, laid := [("loop.example/g01099/impl.turnsOfKeys", laid_loop_example_g01099_impl_turnsOfKeys)] }
def FnExactSquaresOfSaid : Prop := fnExactSquaresOfRow.holds Tryd.pinned (OpenSpec.ofChange fnExactSquaresOfSpec)

/-- ITS FALSE NEIGHBOUR: 'it returns false'. Refute it at one input. -/
def fnExactSquaresOfWrong : ChangeSpec := { name := "fnExactSquaresOf", vars := ["loop.example/g01099/impl.turnsOfKeys"], fn := fun _ => fun
  | [d1, d2, d3, d4, g1] => { results := [.lit (.bool false)], args := [d1, d2, d3, d4], vars := [g1] }
  | _ => none }
def FnExactSquaresOfWrongFalsely : Prop := fnExactSquaresOfRow.holds Tryd.pinned (OpenSpec.ofChange fnExactSquaresOfWrong)

/- THE SECOND FORM. 'bulk': how many values and letters a reading holds, each counted each time it is reached (what is shared counts as often as it is met; a slice's spare places count too). A statement '..UptoSaid' is the law's where the arguments, and the package variables that the reading takes, are together of bulk at most 1048576: NARROWER than '..Said'. Prove '..Said' where nothing that the law and all that it calls make is longer than what came in: it says more and counts as full. Else prove '..UptoSaid'. A law counts once. -/
mutual
def uptoBulk {H : Type} : DataW H → Nat
  | .lit (.string bytes) => bytes.length + 1
  | .lit _ => 1
  | .nil => 1
  | .ptr d => uptoBulk d + 1
  | .slice elems spare => uptoBulkAll elems + uptoBulkAll spare + 1
  | .agg parts => uptoBulkAll parts + 1
  | .iface _ d => uptoBulk d + 1
  | .map entries => uptoBulkEntries entries + 1
  | .held _ => 1
def uptoBulkAll {H : Type} : List (DataW H) → Nat
  | [] => 0
  | d :: r => uptoBulk d + uptoBulkAll r
def uptoBulkEntries {H : Type} : List (Lit × DataW H) → Nat
  | [] => 0
  | x :: r => uptoBulkEntry x + uptoBulkEntries r
def uptoBulkEntry {H : Type} : Lit × DataW H → Nat
  | (.string bytes, d) => bytes.length + uptoBulk d + 1
  | (_, d) => uptoBulk d + 1
 end
def uptoSmall : (H : Type) → List (DataW H) → Bool := fun _ ds => decide (uptoBulkAll ds ≤ 1048576)
def OpenSpec.upto (s : _root_.Go.ChangeSpec) : _root_.Go.OpenSpec := { _root_.Go.OpenSpec.ofChange s with cond := some uptoSmall }

/-- 'laws.FnExactTurnOf', WHERE WHAT IT READS IS OF BULK AT MOST 1048576: true; the input reads as it did. -/
def fnExactTurnOfUptoRow : OpenClaim := { program := "ytgokhbcifgikgaadoor", sum := "b7dfa478652f8d627ebbb3e90019641843a6fce2b2266af479b06dbbf5b1f735", func := "loop.example/g01099/laws.FnExactTurnOf", spec := "fnExactTurnOf", named := ["loop.example/g01099/impl.turnsOfKeys"], apart := false, laid := [("loop.example/g01099/impl.turnsOfKeys", laid_loop_example_g01099_impl_turnsOfKeys)], narrowed := true }
def FnExactTurnOfUptoSaid : Prop := fnExactTurnOfUptoRow.holds Tryd.pinned (OpenSpec.upto fnExactTurnOfSpec)

/-- 'laws.FnExactJointsOf', WHERE WHAT IT READS IS OF BULK AT MOST 1048576: true; the input reads as it did. -/
def fnExactJointsOfUptoRow : OpenClaim := { program := "ytgokhbcifgikgaadoor", sum := "b7dfa478652f8d627ebbb3e90019641843a6fce2b2266af479b06dbbf5b1f735", func := "loop.example/g01099/laws.FnExactJointsOf", spec := "fnExactJointsOf", named := ["math/bits.deBruijn32tab"], apart := false, laid := [("math/bits.deBruijn32tab", laid_math_bits_deBruijn32tab)], narrowed := true }
def FnExactJointsOfUptoSaid : Prop := fnExactJointsOfUptoRow.holds Tryd.pinned (OpenSpec.upto fnExactJointsOfSpec)

/-- 'laws.FnExactMeetingJoints', WHERE WHAT IT READS IS OF BULK AT MOST 1048576: true; the input reads as it did. -/
def fnExactMeetingJointsUptoRow : OpenClaim := { program := "ytgokhbcifgikgaadoor", sum := "b7dfa478652f8d627ebbb3e90019641843a6fce2b2266af479b06dbbf5b1f735", func := "loop.example/g01099/laws.FnExactMeetingJoints", spec := "fnExactMeetingJoints", named := ["math/bits.deBruijn32tab"], apart := false, laid := [("math/bits.deBruijn32tab", laid_math_bits_deBruijn32tab)], narrowed := true }
def FnExactMeetingJointsUptoSaid : Prop := fnExactMeetingJointsUptoRow.holds Tryd.pinned (OpenSpec.upto fnExactMeetingJointsSpec)

/-- 'laws.FnExactNextKeys', WHERE WHAT IT READS IS OF BULK AT MOST 1048576: true; the input reads as it did. -/
def fnExactNextKeysUptoRow : OpenClaim := { program := "ytgokhbcifgikgaadoor", sum := "b7dfa478652f8d627ebbb3e90019641843a6fce2b2266af479b06dbbf5b1f735", func := "loop.example/g01099/laws.FnExactNextKeys", spec := "fnExactNextKeys", named := ["math/bits.deBruijn32tab"], apart := false, laid := [("math/bits.deBruijn32tab", laid_math_bits_deBruijn32tab)], narrowed := true }
def FnExactNextKeysUptoSaid : Prop := fnExactNextKeysUptoRow.holds Tryd.pinned (OpenSpec.upto fnExactNextKeysSpec)

/-- 'laws.FnJoints', WHERE WHAT IT READS IS OF BULK AT MOST 1048576: true; the input reads as it did. -/
def fnJointsUptoRow : OpenClaim := { program := "ytgokhbcifgikgaadoor", sum := "b7dfa478652f8d627ebbb3e90019641843a6fce2b2266af479b06dbbf5b1f735", func := "loop.example/g01099/laws.FnJoints", spec := "fnJoints", unfollowed := true, recurses := true, named := ["math/bits.deBruijn32tab"], apart := false, laid := [("math/bits.deBruijn32tab", laid_math_bits_deBruijn32tab)], narrowed := true }
def FnJointsUptoSaid : Prop := fnJointsUptoRow.holds Tryd.pinned (OpenSpec.upto fnJointsSpec)

/-- 'laws.FnExactTotalTurn', WHERE WHAT IT READS IS OF BULK AT MOST 1048576: true; the input reads as it did. -/
def fnExactTotalTurnUptoRow : OpenClaim := { program := "ytgokhbcifgikgaadoor", sum := "b7dfa478652f8d627ebbb3e90019641843a6fce2b2266af479b06dbbf5b1f735", func := "loop.example/g01099/laws.FnExactTotalTurn", spec := "fnExactTotalTurn", unfollowed := true, recurses := true, named := ["loop.example/g01099/impl.turnsOfKeys"], apart := false, laid := [("loop.example/g01099/impl.turnsOfKeys", laid_loop_example_g01099_impl_turnsOfKeys)], narrowed := true }
def FnExactTotalTurnUptoSaid : Prop := fnExactTotalTurnUptoRow.holds Tryd.pinned (OpenSpec.upto fnExactTotalTurnSpec)

/-- 'laws.FnExactTubePoses', WHERE WHAT IT READS IS OF BULK AT MOST 1048576: true; the input reads as it did. -/
def fnExactTubePosesUptoRow : OpenClaim := { program := "ytgokhbcifgikgaadoor", sum := "b7dfa478652f8d627ebbb3e90019641843a6fce2b2266af479b06dbbf5b1f735", func := "loop.example/g01099/laws.FnExactTubePoses", spec := "fnExactTubePoses", unfollowed := true, recurses := true, named := ["loop.example/g01099/impl.turnsOfKeys"], apart := false, laid := [("loop.example/g01099/impl.turnsOfKeys", laid_loop_example_g01099_impl_turnsOfKeys)], narrowed := true }
def FnExactTubePosesUptoSaid : Prop := fnExactTubePosesUptoRow.holds Tryd.pinned (OpenSpec.upto fnExactTubePosesSpec)

/-- 'laws.FnExactOffsetsBehind', WHERE WHAT IT READS IS OF BULK AT MOST 1048576: true; the input reads as it did. -/
def fnExactOffsetsBehindUptoRow : OpenClaim := { program := "ytgokhbcifgikgaadoor", sum := "b7dfa478652f8d627ebbb3e90019641843a6fce2b2266af479b06dbbf5b1f735", func := "loop.example/g01099/laws.FnExactOffsetsBehind", spec := "fnExactOffsetsBehind", unfollowed := true, recurses := true, named := ["loop.example/g01099/impl.turnsOfKeys"], apart := false, laid := [("loop.example/g01099/impl.turnsOfKeys", laid_loop_example_g01099_impl_turnsOfKeys)], narrowed := true }
def FnExactOffsetsBehindUptoSaid : Prop := fnExactOffsetsBehindUptoRow.holds Tryd.pinned (OpenSpec.upto fnExactOffsetsBehindSpec)

/-- 'laws.FnExactSquaresOf', WHERE WHAT IT READS IS OF BULK AT MOST 1048576: true; the input reads as it did. -/
def fnExactSquaresOfUptoRow : OpenClaim := { program := "ytgokhbcifgikgaadoor", sum := "b7dfa478652f8d627ebbb3e90019641843a6fce2b2266af479b06dbbf5b1f735", func := "loop.example/g01099/laws.FnExactSquaresOf", spec := "fnExactSquaresOf", unfollowed := true, recurses := true, named := ["loop.example/g01099/impl.turnsOfKeys"], apart := false, laid := [("loop.example/g01099/impl.turnsOfKeys", laid_loop_example_g01099_impl_turnsOfKeys)], narrowed := true }
def FnExactSquaresOfUptoSaid : Prop := fnExactSquaresOfUptoRow.holds Tryd.pinned (OpenSpec.upto fnExactSquaresOfSpec)

end Rows
end Go.Proofs.YtgokhbcifgikgaaDoor
