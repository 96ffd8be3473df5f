/-
  NARROWER THAN 'FOR EVERY INPUT', by the rows' own cells (each row's printed sentence says how): FnNormalEquations: ifaces, laid · FnLoops: ifaces, laid · FnExactAdjustSurvey: ifaces, laid · FnExactResidualsOf: ifaces, laid · FnExactSquareSumOf: ifaces, laid · FnExactRiseBetween: ifaces, laid · FnExactCofactorOf: ifaces, laid · FnExactRedundanciesOf: ifaces, laid · FnExactSuspectOf: ifaces, laid · FnExactBlunderIn: ifaces, laid.
  DERIVED. THE GIVEN ROWS OF THIS SEAT. 10 by the template 'for every input the law returns true; each argument reads behind the call as it read before'; 0 by the template 'total and deterministic' (their statements: YtcmocilojloolaaDoorTotals.lean).
  GIVEN WITH THE SEED: the statements are not yours to turn. If you find one false, say at which input.
  Laid BY PROGRAM, IN A SANDBOX (cutbox-rows.mjs): the forced cells as the released guide's own fill.sh prints them over the translation daa38b0eab0245e1… (all of the seat's roots in one cut). By AI agents, Wed Nov 11 2026. No macro, syntax, notation, axiom, sorry.
-/
import Derived.Test.YtcmocilojloolaaDoorChecked
import GoSem.Claim
import GoSem.ClaimJoined
import GoSem.ClaimMapViews
import Derived.JoinedTies
import Derived.KernelRfl
namespace Go.Proofs.YtcmocilojloolaaDoor
/- THE CELL 'sum', in the pinned program and in every row, IS THE sha256 OF THE DUMP (.gsa) THAT YtcmocilojloolaaDoorProg.lean LOADS. Nothing in Lean hashes anything: it is a label: what it is worth is what the hold of that sum in a sandbox is worth. -/
noncomputable def Tryd.pinned : Pinned := { name := "ytcmocilojloolaadoor", sum := "daa38b0eab0245e17050295b80b597abafd611422c7654a8dd413f60e56ffde9", checked := Tryd.checked }
namespace Rows
def none {H : Type} : Left H := { results := [], args := [] }

/- WHAT THE LISTED PACKAGE-LEVEL VARIABLES READ AS WHEN THE CALL BEGINS. Each datum BY PROGRAM (the guide's laid-datum.mjs) off the statement by which the dump's own 'gosem.cut.vars' lays the variable. In a bare row this is a premise. The card (YtcmocilojloolaaDoorCards.lean) ties it to the program's text. -/
def laid_loop_example_g01099_impl_errNotValid {H : Type} : DataW H := .iface "*errors.errorString" (.ptr (.agg [.lit (.string [116, 104, 101, 32, 115, 117, 114, 118, 101, 121, 32, 105, 115, 32, 110, 111, 116, 32, 118, 97, 108, 105, 100])]))
def laid_loop_example_g01099_impl_errNotConnected {H : Type} : DataW H := .iface "*errors.errorString" (.ptr (.agg [.lit (.string [116, 104, 101, 32, 112, 111, 105, 110, 116, 115, 32, 97, 114, 101, 32, 110, 111, 116, 32, 99, 111, 110, 110, 101, 99, 116, 101, 100])]))

/-- 'laws.FnNormalEquations': WHATEVER THE INPUT: true; the input reads as it did. -/
def fnNormalEquationsSpec : ChangeSpec := { name := "fnNormalEquations", vars := ["loop.example/g01099/impl.errNotValid", "loop.example/g01099/impl.errNotConnected"], fn := fun _ => fun
  | [d1, d2, g1, g2] => { results := [.lit (.bool true)], args := [d1, d2], vars := [g1, g2] }
  | _ => none }
def fnNormalEquationsRow : OpenClaim := { program := "ytcmocilojloolaadoor", sum := "daa38b0eab0245e17050295b80b597abafd611422c7654a8dd413f60e56ffde9", func := "loop.example/g01099/laws.FnNormalEquations", spec := "fnNormalEquations", unfollowed := true, recurses := true, named := ["loop.example/g01099/impl.errNotValid", "loop.example/g01099/impl.errNotConnected"], ifaces := true, apart := false, laid := [("loop.example/g01099/impl.errNotValid", laid_loop_example_g01099_impl_errNotValid), ("loop.example/g01099/impl.errNotConnected", laid_loop_example_g01099_impl_errNotConnected)] }
def FnNormalEquationsSaid : Prop := fnNormalEquationsRow.holds Tryd.pinned (OpenSpec.ofChange fnNormalEquationsSpec)

/-- ITS FALSE NEIGHBOUR: 'it returns false'. Refute it at one input. -/
def fnNormalEquationsWrong : ChangeSpec := { name := "fnNormalEquations", vars := ["loop.example/g01099/impl.errNotValid", "loop.example/g01099/impl.errNotConnected"], fn := fun _ => fun
  | [d1, d2, g1, g2] => { results := [.lit (.bool false)], args := [d1, d2], vars := [g1, g2] }
  | _ => none }
def FnNormalEquationsWrongFalsely : Prop := fnNormalEquationsRow.holds Tryd.pinned (OpenSpec.ofChange fnNormalEquationsWrong)

/-- 'laws.FnLoops': WHATEVER THE INPUT: true; the input reads as it did. -/
def fnLoopsSpec : ChangeSpec := { name := "fnLoops", vars := ["loop.example/g01099/impl.errNotValid", "loop.example/g01099/impl.errNotConnected"], fn := fun _ => fun
  | [d1, d2, g1, g2] => { results := [.lit (.bool true)], args := [d1, d2], vars := [g1, g2] }
  | _ => none }
def fnLoopsRow : OpenClaim := { program := "ytcmocilojloolaadoor", sum := "daa38b0eab0245e17050295b80b597abafd611422c7654a8dd413f60e56ffde9", func := "loop.example/g01099/laws.FnLoops", spec := "fnLoops", unfollowed := true, recurses := true, named := ["loop.example/g01099/impl.errNotValid", "loop.example/g01099/impl.errNotConnected"], ifaces := true, apart := false, laid := [("loop.example/g01099/impl.errNotValid", laid_loop_example_g01099_impl_errNotValid), ("loop.example/g01099/impl.errNotConnected", laid_loop_example_g01099_impl_errNotConnected)] }
def FnLoopsSaid : Prop := fnLoopsRow.holds Tryd.pinned (OpenSpec.ofChange fnLoopsSpec)

/-- ITS FALSE NEIGHBOUR: 'it returns false'. Refute it at one input. -/
def fnLoopsWrong : ChangeSpec := { name := "fnLoops", vars := ["loop.example/g01099/impl.errNotValid", "loop.example/g01099/impl.errNotConnected"], fn := fun _ => fun
  | [d1, d2, g1, g2] => { results := [.lit (.bool false)], args := [d1, d2], vars := [g1, g2] }
  | _ => none }
def FnLoopsWrongFalsely : Prop := fnLoopsRow.holds Tryd.pinned (OpenSpec.ofChange fnLoopsWrong)

/-- 'laws.FnExactAdjustSurvey': WHATEVER THE INPUT: true; the input reads as it did. -/
def fnExactAdjustSurveySpec : ChangeSpec := { name := "fnExactAdjustSurvey", vars := ["loop.example/g01099/impl.errNotValid", "loop.example/g01099/impl.errNotConnected"], fn := fun _ => fun
  | [d, g1, g2] => { results := [.lit (.bool true)], args := [d], vars := [g1, g2] }
  | _ => none }
def fnExactAdjustSurveyRow : OpenClaim := { program := "ytcmocilojloolaadoor", sum := "daa38b0eab0245e17050295b80b597abafd611422c7654a8dd413f60e56ffde9", func := "loop.example/g01099/laws.FnExactAdjustSurvey", spec := "fnExactAdjustSurvey", unfollowed := true, recurses := true, named := ["loop.example/g01099/impl.errNotValid", "loop.example/g01099/impl.errNotConnected"], ifaces := true, apart := false, laid := [("loop.example/g01099/impl.errNotValid", laid_loop_example_g01099_impl_errNotValid), ("loop.example/g01099/impl.errNotConnected", laid_loop_example_g01099_impl_errNotConnected)] }
def FnExactAdjustSurveySaid : Prop := fnExactAdjustSurveyRow.holds Tryd.pinned (OpenSpec.ofChange fnExactAdjustSurveySpec)

/-- ITS FALSE NEIGHBOUR: 'it returns false'. Refute it at one input. -/
def fnExactAdjustSurveyWrong : ChangeSpec := { name := "fnExactAdjustSurvey", vars := ["loop.example/g01099/impl.errNotValid", "loop.example/g01099/impl.errNotConnected"], fn := fun _ => fun
  | [d, g1, g2] => { results := [.lit (.bool false)], args := [d], vars := [g1, g2] }
  | _ => none }
def FnExactAdjustSurveyWrongFalsely : Prop := fnExactAdjustSurveyRow.holds Tryd.pinned (OpenSpec.ofChange fnExactAdjustSurveyWrong)

/-- 'laws.FnExactResidualsOf': WHATEVER THE INPUT: true; the input reads as it did. -/
def fnExactResidualsOfSpec : ChangeSpec := { name := "fnExactResidualsOf", vars := ["loop.example/g01099/impl.errNotValid", "loop.example/g01099/impl.errNotConnected"], fn := fun _ => fun
  | [d, g1, g2] => { results := [.lit (.bool true)], args := [d], vars := [g1, g2] }
  | _ => none }
def fnExactResidualsOfRow : OpenClaim := { program := "ytcmocilojloolaadoor", sum := "daa38b0eab0245e17050295b80b597abafd611422c7654a8dd413f60e56ffde9", func := "loop.example/g01099/laws.FnExactResidualsOf", spec := "fnExactResidualsOf", unfollowed := true, recurses := true, named := ["loop.example/g01099/impl.errNotValid", "loop.example/g01099/impl.errNotConnected"], ifaces := true, apart := false, laid := [("loop.example/g01099/impl.errNotValid", laid_loop_example_g01099_impl_errNotValid), ("loop.example/g01099/impl.errNotConnected", laid_loop_example_g01099_impl_errNotConnected)] }
def FnExactResidualsOfSaid : Prop := fnExactResidualsOfRow.holds Tryd.pinned (OpenSpec.ofChange fnExactResidualsOfSpec)

/-- ITS FALSE NEIGHBOUR: 'it returns false'. Refute it at one input. -/
def fnExactResidualsOfWrong : ChangeSpec := { name := "fnExactResidualsOf", vars := ["loop.example/g01099/impl.errNotValid", "loop.example/g01099/impl.errNotConnected"], fn := fun _ => fun
  | [d, g1, g2] => { results := [.lit (.bool false)], args := [d], vars := [g1, g2] }
  | _ => none }
def FnExactResidualsOfWrongFalsely : Prop := fnExactResidualsOfRow.holds Tryd.pinned (OpenSpec.ofChange fnExactResidualsOfWrong)

/-- 'laws.FnExactSquareSumOf': WHATEVER THE INPUT: true; the input reads as it did. -/
def fnExactSquareSumOfSpec : ChangeSpec := { name := "fnExactSquareSumOf", vars := ["loop.example/g01099/impl.errNotValid", "loop.example/g01099/impl.errNotConnected"], fn := fun _ => fun
  | [d, g1, g2] => { results := [.lit (.bool true)], args := [d], vars := [g1, g2] }
  | _ => none }
def fnExactSquareSumOfRow : OpenClaim := { program := "ytcmocilojloolaadoor", sum := "daa38b0eab0245e17050295b80b597abafd611422c7654a8dd413f60e56ffde9", func := "loop.example/g01099/laws.FnExactSquareSumOf", spec := "fnExactSquareSumOf", unfollowed := true, recurses := true, named := ["loop.example/g01099/impl.errNotValid", "loop.example/g01099/impl.errNotConnected"], ifaces := true, apart := false, laid := [("loop.example/g01099/impl.errNotValid", laid_loop_example_g01099_impl_errNotValid), ("loop.example/g01099/impl.errNotConnected", laid_loop_example_g01099_impl_errNotConnected)] }
def FnExactSquareSumOfSaid : Prop := fnExactSquareSumOfRow.holds Tryd.pinned (OpenSpec.ofChange fnExactSquareSumOfSpec)

/-- ITS FALSE NEIGHBOUR: 'it returns false'. Refute it at one input. -/
def fnExactSquareSumOfWrong : ChangeSpec := { name := "fnExactSquareSumOf", vars := ["loop.example/g01099/impl.errNotValid", "loop.example/g01099/impl.errNotConnected"], fn := fun _ => fun
  | [d, g1, g2] => { results := [.lit (.bool false)], args := [d], vars := [g1, g2] }
  | _ => none }
def FnExactSquareSumOfWrongFalsely : Prop := fnExactSquareSumOfRow.holds Tryd.pinned (OpenSpec.ofChange fnExactSquareSumOfWrong)

/-- 'laws.FnExactRiseBetween': WHATEVER THE INPUT: true; the input reads as it did. -/
def fnExactRiseBetweenSpec : ChangeSpec := { name := "fnExactRiseBetween", vars := ["loop.example/g01099/impl.errNotValid", "loop.example/g01099/impl.errNotConnected"], fn := fun _ => fun
  | [d1, d2, d3, g1, g2] => { results := [.lit (.bool true)], args := [d1, d2, d3], vars := [g1, g2] }
  | _ => none }
def fnExactRiseBetweenRow : OpenClaim := { program := "ytcmocilojloolaadoor", sum := "daa38b0eab0245e17050295b80b597abafd611422c7654a8dd413f60e56ffde9", func := "loop.example/g01099/laws.FnExactRiseBetween", spec := "fnExactRiseBetween", unfollowed := true, recurses := true, named := ["loop.example/g01099/impl.errNotValid", "loop.example/g01099/impl.errNotConnected"], ifaces := true, apart := false, laid := [("loop.example/g01099/impl.errNotValid", laid_loop_example_g01099_impl_errNotValid), ("loop.example/g01099/impl.errNotConnected", laid_loop_example_g01099_impl_errNotConnected)] }
def FnExactRiseBetweenSaid : Prop := fnExactRiseBetweenRow.holds Tryd.pinned (OpenSpec.ofChange fnExactRiseBetweenSpec)

/-- ITS FALSE NEIGHBOUR: 'it returns false'. Refute it at one input. -/
def fnExactRiseBetweenWrong : ChangeSpec := { name := "fnExactRiseBetween", vars := ["loop.example/g01099/impl.errNotValid", "loop.example/g01099/impl.errNotConnected"], fn := fun _ => fun
  | [d1, d2, d3, g1, g2] => { results := [.lit (.bool false)], args := [d1, d2, d3], vars := [g1, g2] }
  | _ => none }
def FnExactRiseBetweenWrongFalsely : Prop := fnExactRiseBetweenRow.holds Tryd.pinned (OpenSpec.ofChange fnExactRiseBetweenWrong)

/-- 'laws.FnExactCofactorOf': WHATEVER THE INPUT: true; the input reads as it did. -/
def fnExactCofactorOfSpec : ChangeSpec := { name := "fnExactCofactorOf", vars := ["loop.example/g01099/impl.errNotValid", "loop.example/g01099/impl.errNotConnected"], fn := fun _ => fun
  | [d1, d2, d3, g1, g2] => { results := [.lit (.bool true)], args := [d1, d2, d3], vars := [g1, g2] }
  | _ => none }
def fnExactCofactorOfRow : OpenClaim := { program := "ytcmocilojloolaadoor", sum := "daa38b0eab0245e17050295b80b597abafd611422c7654a8dd413f60e56ffde9", func := "loop.example/g01099/laws.FnExactCofactorOf", spec := "fnExactCofactorOf", unfollowed := true, recurses := true, named := ["loop.example/g01099/impl.errNotValid", "loop.example/g01099/impl.errNotConnected"], ifaces := true, apart := false, laid := [("loop.example/g01099/impl.errNotValid", laid_loop_example_g01099_impl_errNotValid), ("loop.example/g01099/impl.errNotConnected", laid_loop_example_g01099_impl_errNotConnected)] }
def FnExactCofactorOfSaid : Prop := fnExactCofactorOfRow.holds Tryd.pinned (OpenSpec.ofChange fnExactCofactorOfSpec)

/-- ITS FALSE NEIGHBOUR: 'it returns false'. Refute it at one input. -/
def fnExactCofactorOfWrong : ChangeSpec := { name := "fnExactCofactorOf", vars := ["loop.example/g01099/impl.errNotValid", "loop.example/g01099/impl.errNotConnected"], fn := fun _ => fun
  | [d1, d2, d3, g1, g2] => { results := [.lit (.bool false)], args := [d1, d2, d3], vars := [g1, g2] }
  | _ => none }
def FnExactCofactorOfWrongFalsely : Prop := fnExactCofactorOfRow.holds Tryd.pinned (OpenSpec.ofChange fnExactCofactorOfWrong)

/-- 'laws.FnExactRedundanciesOf': WHATEVER THE INPUT: true; the input reads as it did. -/
def fnExactRedundanciesOfSpec : ChangeSpec := { name := "fnExactRedundanciesOf", vars := ["loop.example/g01099/impl.errNotValid", "loop.example/g01099/impl.errNotConnected"], fn := fun _ => fun
  | [d, g1, g2] => { results := [.lit (.bool true)], args := [d], vars := [g1, g2] }
  | _ => none }
def fnExactRedundanciesOfRow : OpenClaim := { program := "ytcmocilojloolaadoor", sum := "daa38b0eab0245e17050295b80b597abafd611422c7654a8dd413f60e56ffde9", func := "loop.example/g01099/laws.FnExactRedundanciesOf", spec := "fnExactRedundanciesOf", unfollowed := true, recurses := true, named := ["loop.example/g01099/impl.errNotValid", "loop.example/g01099/impl.errNotConnected"], ifaces := true, apart := false, laid := [("loop.example/g01099/impl.errNotValid", laid_loop_example_g01099_impl_errNotValid), ("loop.example/g01099/impl.errNotConnected", laid_loop_example_g01099_impl_errNotConnected)] }
def FnExactRedundanciesOfSaid : Prop := fnExactRedundanciesOfRow.holds Tryd.pinned (OpenSpec.ofChange fnExactRedundanciesOfSpec)

/-- ITS FALSE NEIGHBOUR: 'it returns false'. Refute it at one input. -/
def fnExactRedundanciesOfWrong : ChangeSpec := { name := "fnExactRedundanciesOf", vars := ["loop.example/g01099/impl.errNotValid", "loop.example/g01099/impl.errNotConnected"], fn := fun _ => fun
  | [d, g1, g2] => { results := [.lit (.bool false)], args := [d], vars := [g1, g2] }
  | _ => none }
def FnExactRedundanciesOfWrongFalsely : Prop := fnExactRedundanciesOfRow.holds Tryd.pinned (OpenSpec.ofChange fnExactRedundanciesOfWrong)

/-- 'laws.FnExactSuspectOf': WHATEVER THE INPUT: true; the input reads as it did. -/
def fnExactSuspectOfSpec : ChangeSpec := { name := "fnExactSuspectOf", vars := ["loop.example/g01099/impl.errNotValid", "loop.example/g01099/impl.errNotConnected"], fn := fun _ => fun
  | [d, g1, g2] => { results := [.lit (.bool true)], args := [d], vars := [g1, g2] }
  | _ => none }
def fnExactSuspectOfRow : OpenClaim := { program := "ytcmocilojloolaadoor", sum := "daa38b0eab0245e17050295b80b597abafd611422c7654a8dd413f60e56ffde9", func := "loop.example/g01099/laws.FnExactSuspectOf", spec := "fnExactSuspectOf", unfollowed := true, recurses := true, named := ["loop.example/g01099/impl.errNotValid", "loop.example/g01099/impl.errNotConnected"], ifaces := true, apart := false, laid := [("loop.example/g01099/impl.errNotValid", laid_loop_example_g01099_impl_errNotValid), ("loop.example/g01099/impl.errNotConnected", laid_loop_example_g01099_impl_errNotConnected)] }
def FnExactSuspectOfSaid : Prop := fnExactSuspectOfRow.holds Tryd.pinned (OpenSpec.ofChange fnExactSuspectOfSpec)

/-- ITS FALSE NEIGHBOUR: 'it returns false'. Refute it at one input. -/
def fnExactSuspectOfWrong : ChangeSpec := { name := "fnExactSuspectOf", vars := ["loop.example/g01099/impl.errNotValid", "loop.example/g01099/impl.errNotConnected"], fn := fun _ => fun
  | [d, g1, g2] => { results := [.lit (.bool false)], args := [d], vars := [g1, g2] }
  | _ => none }
def FnExactSuspectOfWrongFalsely : Prop := fnExactSuspectOfRow.holds Tryd.pinned (OpenSpec.ofChange fnExactSuspectOfWrong)

/-- 'laws.FnExactBlunderIn': WHATEVER THE INPUT: true; the input reads as it did. -/
def fnExactBlunderInSpec : ChangeSpec := { name := "fnExactBlunderIn", vars := ["loop.example/g01099/impl.errNotValid", "loop.example/g01099/impl.errNotConnected"], fn := fun _ => fun
  | [d, g1, g2] => { results := [.lit (.bool true)], args := [d], vars := [g1, g2] }
  | _ => none }
def fnExactBlunderInRow : OpenClaim := { program := "ytcmocilojloolaadoor", sum := "daa38b0eab0245e17050295b80b597abafd611422c7654a8dd413f60e56ffde9", func := "loop.example/g01099/laws.FnExactBlunderIn", spec := "fnExactBlunderIn", unfollowed := true, recurses := true, named := ["loop.example/g01099/impl.errNotValid", "loop.example/g01099/impl.errNotConnected"], ifaces := true, apart := false, laid := [("loop.example/g01099/impl.errNotValid", laid_loop_example_g01099_impl_errNotValid), ("loop.example/g01099/impl.errNotConnected", laid_loop_example_g01099_impl_errNotConnected)] }
def FnExactBlunderInSaid : Prop := fnExactBlunderInRow.holds Tryd.pinned (OpenSpec.ofChange fnExactBlunderInSpec)

/-- ITS FALSE NEIGHBOUR: 'it returns false'. Refute it at one input. -/
def fnExactBlunderInWrong : ChangeSpec := { name := "fnExactBlunderIn", vars := ["loop.example/g01099/impl.errNotValid", "loop.example/g01099/impl.errNotConnected"], fn := fun _ => fun
  | [d, g1, g2] => { results := [.lit (.bool false)], args := [d], vars := [g1, g2] }
  | _ => none }
def FnExactBlunderInWrongFalsely : Prop := fnExactBlunderInRow.holds Tryd.pinned (OpenSpec.ofChange fnExactBlunderInWrong)

/- THE SECOND FORM. 'bulk': how many values and letters a reading holds, each counted each time it is reached (what is shared counts as often as it is met; a slice's spare places count too). A statement '..UptoSaid' is the law's where the arguments, and the package variables that the reading takes, are together of bulk at most 1048576: NARROWER than '..Said'. Prove '..Said' where nothing that the law and all that it calls make is longer than what came in: it says more and counts as full. Else prove '..UptoSaid'. A law counts once. -/
mutual
def uptoBulk {H : Type} : DataW H → Nat
  | .lit (.string bytes) => bytes.length + 1
  | .lit _ => 1
  | .nil => 1
  | .ptr d => uptoBulk d + 1
  | .slice elems spare => uptoBulkAll elems + uptoBulkAll spare + 1
  | .agg parts => uptoBulkAll parts + 1
  | .iface _ d => uptoBulk d + 1
  | .map entries => uptoBulkEntries entries + 1
  | .held _ => 1
def uptoBulkAll {H : Type} : List (DataW H) → Nat
  | [] => 0
  | d :: r => uptoBulk d + uptoBulkAll r
def uptoBulkEntries {H : Type} : List (Lit × DataW H) → Nat
  | [] => 0
  | x :: r => uptoBulkEntry x + uptoBulkEntries r
def uptoBulkEntry {H : Type} : Lit × DataW H → Nat
  | (.string bytes, d) => bytes.length + uptoBulk d + 1
  | (_, d) => uptoBulk d + 1
 end
def uptoSmall : (H : Type) → List (DataW H) → Bool := fun _ ds => decide (uptoBulkAll ds ≤ 1048576)
def OpenSpec.upto (s : _root_.Go.ChangeSpec) : _root_.Go.OpenSpec := { _root_.Go.OpenSpec.ofChange s with cond := some uptoSmall }

/-- 'laws.FnNormalEquations', WHERE WHAT IT READS IS OF BULK AT MOST 1048576: true; the input reads as it did. -/
def fnNormalEquationsUptoRow : OpenClaim := { program := "ytcmocilojloolaadoor", sum := "daa38b0eab0245e17050295b80b597abafd611422c7654a8dd413f60e56ffde9", func := "loop.example/g01099/laws.FnNormalEquations", spec := "fnNormalEquations", unfollowed := true, recurses := true, named := ["loop.example/g01099/impl.errNotValid", "loop.example/g01099/impl.errNotConnected"], ifaces := true, apart := false, laid := [("loop.example/g01099/impl.errNotValid", laid_loop_example_g01099_impl_errNotValid), ("loop.example/g01099/impl.errNotConnected", laid_loop_example_g01099_impl_errNotConnected)], narrowed := true }
def FnNormalEquationsUptoSaid : Prop := fnNormalEquationsUptoRow.holds Tryd.pinned (OpenSpec.upto fnNormalEquationsSpec)

/-- 'laws.FnLoops', WHERE WHAT IT READS IS OF BULK AT MOST 1048576: true; the input reads as it did. -/
def fnLoopsUptoRow : OpenClaim := { program := "ytcmocilojloolaadoor", sum := "daa38b0eab0245e17050295b80b597abafd611422c7654a8dd413f60e56ffde9", func := "loop.example/g01099/laws.FnLoops", spec := "fnLoops", unfollowed := true, recurses := true, named := ["loop.example/g01099/impl.errNotValid", "loop.example/g01099/impl.errNotConnected"], ifaces := true, apart := false, laid := [("loop.example/g01099/impl.errNotValid", laid_loop_example_g01099_impl_errNotValid), ("loop.example/g01099/impl.errNotConnected", laid_loop_example_g01099_impl_errNotConnected)], narrowed := true }
def FnLoopsUptoSaid : Prop := fnLoopsUptoRow.holds Tryd.pinned (OpenSpec.upto fnLoopsSpec)

/-- 'laws.FnExactAdjustSurvey', WHERE WHAT IT READS IS OF BULK AT MOST 1048576: true; the input reads as it did. -/
def fnExactAdjustSurveyUptoRow : OpenClaim := { program := "ytcmocilojloolaadoor", sum := "daa38b0eab0245e17050295b80b597abafd611422c7654a8dd413f60e56ffde9", func := "loop.example/g01099/laws.FnExactAdjustSurvey", spec := "fnExactAdjustSurvey", unfollowed := true, recurses := true, named := ["loop.example/g01099/impl.errNotValid", "loop.example/g01099/impl.errNotConnected"], ifaces := true, apart := false, laid := [("loop.example/g01099/impl.errNotValid", laid_loop_example_g01099_impl_errNotValid), ("loop.example/g01099/impl.errNotConnected", laid_loop_example_g01099_impl_errNotConnected)], narrowed := true }
def FnExactAdjustSurveyUptoSaid : Prop := fnExactAdjustSurveyUptoRow.holds Tryd.pinned (OpenSpec.upto fnExactAdjustSurveySpec)

/-- 'laws.FnExactResidualsOf', WHERE WHAT IT READS IS OF BULK AT MOST 1048576: true; the input reads as it did. -/
def fnExactResidualsOfUptoRow : OpenClaim := { program := "ytcmocilojloolaadoor", sum := "daa38b0eab0245e17050295b80b597abafd611422c7654a8dd413f60e56ffde9", func := "loop.example/g01099/laws.FnExactResidualsOf", spec := "fnExactResidualsOf", unfollowed := true, recurses := true, named := ["loop.example/g01099/impl.errNotValid", "loop.example/g01099/impl.errNotConnected"], ifaces := true, apart := false, laid := [("loop.example/g01099/impl.errNotValid", laid_loop_example_g01099_impl_errNotValid), ("loop.example/g01099/impl.errNotConnected", laid_loop_example_g01099_impl_errNotConnected)], narrowed := true }
def FnExactResidualsOfUptoSaid : Prop := fnExactResidualsOfUptoRow.holds Tryd.pinned (OpenSpec.upto fnExactResidualsOfSpec)

/-- 'laws.FnExactSquareSumOf', WHERE WHAT IT READS IS OF BULK AT MOST 1048576: true; the input reads as it did. -/
def fnExactSquareSumOfUptoRow : OpenClaim := { program := "ytcmocilojloolaadoor", sum := "daa38b0eab0245e17050295b80b597abafd611422c7654a8dd413f60e56ffde9", func := "loop.example/g01099/laws.FnExactSquareSumOf", spec := "fnExactSquareSumOf", unfollowed := true, recurses := true, named := ["loop.example/g01099/impl.errNotValid", "loop.example/g01099/impl.errNotConnected"], ifaces := true, apart := false, laid := [("loop.example/g01099/impl.errNotValid", laid_loop_example_g01099_impl_errNotValid), ("loop.example/g01099/impl.errNotConnected", laid_loop_example_g01099_impl_errNotConnected)], narrowed := true }
def FnExactSquareSumOfUptoSaid : Prop := fnExactSquareSumOfUptoRow.holds Tryd.pinned (OpenSpec.upto fnExactSquareSumOfSpec)

/-- 'laws.FnExactRiseBetween', WHERE WHAT IT READS IS OF BULK AT MOST 1048576: true; the input reads as it did. -/
def fnExactRiseBetweenUptoRow : OpenClaim := { program := "ytcmocilojloolaadoor", sum := "daa38b0eab0245e17050295b80b597abafd611422c7654a8dd413f60e56ffde9", func := "loop.example/g01099/laws.FnExactRiseBetween", spec := "fnExactRiseBetween", unfollowed := true, recurses := true, named := ["loop.example/g01099/impl.errNotValid", "loop.example/g01099/impl.errNotConnected"], ifaces := true, apart := false, laid := [("loop.example/g01099/impl.errNotValid", laid_loop_example_g01099_impl_errNotValid), ("loop.example/g01099/impl.errNotConnected", laid_loop_example_g01099_impl_errNotConnected)], narrowed := true }
def FnExactRiseBetweenUptoSaid : Prop := fnExactRiseBetweenUptoRow.holds Tryd.pinned (OpenSpec.upto fnExactRiseBetweenSpec)

/-- 'laws.FnExactCofactorOf', WHERE WHAT IT READS IS OF BULK AT MOST 1048576: true; the input reads as it did. -/
def fnExactCofactorOfUptoRow : OpenClaim := { program := "ytcmocilojloolaadoor", sum := "daa38b0eab0245e17050295b80b597abafd611422c7654a8dd413f60e56ffde9", func := "loop.example/g01099/laws.FnExactCofactorOf", spec := "fnExactCofactorOf", unfollowed := true, recurses := true, named := ["loop.example/g01099/impl.errNotValid", "loop.example/g01099/impl.errNotConnected"], ifaces := true, apart := false, laid := [("loop.example/g01099/impl.errNotValid", laid_loop_example_g01099_impl_errNotValid), ("loop.example/g01099/impl.errNotConnected", laid_loop_example_g01099_impl_errNotConnected)], narrowed := true }
def FnExactCofactorOfUptoSaid : Prop := fnExactCofactorOfUptoRow.holds Tryd.pinned (OpenSpec.upto fnExactCofactorOfSpec)

/-- 'laws.FnExactRedundanciesOf', WHERE WHAT IT READS IS OF BULK AT MOST 1048576: true; the input reads as it did. -/
def fnExactRedundanciesOfUptoRow : OpenClaim := { program := "ytcmocilojloolaadoor", sum := "daa38b0eab0245e17050295b80b597abafd611422c7654a8dd413f60e56ffde9", func := "loop.example/g01099/laws.FnExactRedundanciesOf", spec := "fnExactRedundanciesOf", unfollowed := true, recurses := true, named := ["loop.example/g01099/impl.errNotValid", "loop.example/g01099/impl.errNotConnected"], ifaces := true, apart := false, laid := [("loop.example/g01099/impl.errNotValid", laid_loop_example_g01099_impl_errNotValid), ("loop.example/g01099/impl.errNotConnected", laid_loop_example_g01099_impl_errNotConnected)], narrowed := true }
def FnExactRedundanciesOfUptoSaid : Prop := fnExactRedundanciesOfUptoRow.holds Tryd.pinned (OpenSpec.upto fnExactRedundanciesOfSpec)

/-- 'laws.FnExactSuspectOf', WHERE WHAT IT READS IS OF BULK AT MOST 1048576: true; the input reads as it did. -/
def fnExactSuspectOfUptoRow : OpenClaim := { program := "ytcmocilojloolaadoor", sum := "daa38b0eab0245e17050295b80b597abafd611422c7654a8dd413f60e56ffde9", func := "loop.example/g01099/laws.FnExactSuspectOf", spec := "fnExactSuspectOf", unfollowed := true, recurses := true, named := ["loop.example/g01099/impl.errNotValid", "loop.example/g01099/impl.errNotConnected"], ifaces := true, apart := false, laid := [("loop.example/g01099/impl.errNotValid", laid_loop_example_g01099_impl_errNotValid), ("loop.example/g01099/impl.errNotConnected", laid_loop_example_g01099_impl_errNotConnected)], narrowed := true }
def FnExactSuspectOfUptoSaid : Prop := fnExactSuspectOfUptoRow.holds Tryd.pinned (OpenSpec.upto fnExactSuspectOfSpec)

/-- 'laws.FnExactBlunderIn', WHERE WHAT IT READS IS OF BULK AT MOST 1048576: true; the input reads as it did. -/
def fnExactBlunderInUptoRow : OpenClaim := { program := "ytcmocilojloolaadoor", sum := "daa38b0eab0245e17050295b80b597abafd611422c7654a8dd413f60e56ffde9", func := "loop.example/g01099/laws.FnExactBlunderIn", spec := "fnExactBlunderIn", unfollowed := true, recurses := true, named := ["loop.example/g01099/impl.errNotValid", "loop.example/g01099/impl.errNotConnected"], ifaces := true, apart := false, laid := [("loop.example/g01099/impl.errNotValid", laid_loop_example_g01099_impl_errNotValid), ("loop.example/g01099/impl.errNotConnected", laid_loop_example_g01099_impl_errNotConnected)], narrowed := true }
def FnExactBlunderInUptoSaid : Prop := fnExactBlunderInUptoRow.holds Tryd.pinned (OpenSpec.upto fnExactBlunderInSpec)

end Rows
end Go.Proofs.YtcmocilojloolaaDoor
