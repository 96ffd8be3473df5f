/-
  NARROWER THAN 'FOR EVERY INPUT', by the rows' own cells (each row's printed sentence says how): FnExactIsConnected: ifaces, laid · FnExactTreeSights: ifaces, laid · FnExactTreeHeights: ifaces, laid · FnExactLoopErrors: ifaces, laid · FnExactUncheckedSights: ifaces, laid · FnLoops: ifaces, laid.
  DERIVED. THE GIVEN ROWS OF THIS SEAT. 6 by the template 'for every input the law returns true; each argument reads behind the call as it read before'; 0 by the template 'total and deterministic' (their statements: YthfmmlpbflfpaaaDoorTotals.lean).
  GIVEN WITH THE SEED: the statements are not yours to turn. If you find one false, say at which input.
  Laid BY PROGRAM, IN A SANDBOX (cutbox-rows.mjs): the forced cells as the released guide's own fill.sh prints them over the translation 92179d6d06ce2922… (all of the seat's roots in one cut). By AI agents, Wed Nov 11 2026. No macro, syntax, notation, axiom, sorry.
-/
import Derived.Test.YthfmmlpbflfpaaaDoorChecked
import GoSem.Claim
import GoSem.ClaimJoined
import GoSem.ClaimMapViews
import Derived.JoinedTies
import Derived.KernelRfl
namespace Go.Proofs.YthfmmlpbflfpaaaDoor
/- THE CELL 'sum', in the pinned program and in every row, IS THE sha256 OF THE DUMP (.gsa) THAT YthfmmlpbflfpaaaDoorProg.lean LOADS. Nothing in Lean hashes anything: it is a label: what it is worth is what the hold of that sum in a sandbox is worth. -/
noncomputable def Tryd.pinned : Pinned := { name := "ythfmmlpbflfpaaadoor", sum := "92179d6d06ce29227cf270707dfc63e3d3600542450cdfc8a0527587a7a11066", checked := Tryd.checked }
namespace Rows
def none {H : Type} : Left H := { results := [], args := [] }

/- WHAT THE LISTED PACKAGE-LEVEL VARIABLES READ AS WHEN THE CALL BEGINS. Each datum BY PROGRAM (the guide's laid-datum.mjs) off the statement by which the dump's own 'gosem.cut.vars' lays the variable. In a bare row this is a premise. The card (YthfmmlpbflfpaaaDoorCards.lean) ties it to the program's text. -/
def laid_loop_example_g01099_impl_errNotValid {H : Type} : DataW H := .iface "*errors.errorString" (.ptr (.agg [.lit (.string [116, 104, 101, 32, 115, 117, 114, 118, 101, 121, 32, 105, 115, 32, 110, 111, 116, 32, 118, 97, 108, 105, 100])]))
def laid_loop_example_g01099_impl_errNotConnected {H : Type} : DataW H := .iface "*errors.errorString" (.ptr (.agg [.lit (.string [116, 104, 101, 32, 112, 111, 105, 110, 116, 115, 32, 97, 114, 101, 32, 110, 111, 116, 32, 99, 111, 110, 110, 101, 99, 116, 101, 100])]))

/-- 'laws.FnExactIsConnected': WHATEVER THE INPUT: true; the input reads as it did. -/
def fnExactIsConnectedSpec : ChangeSpec := { name := "fnExactIsConnected", vars := ["loop.example/g01099/impl.errNotValid", "loop.example/g01099/impl.errNotConnected"], fn := fun _ => fun
  | [d, g1, g2] => { results := [.lit (.bool true)], args := [d], vars := [g1, g2] }
  | _ => none }
def fnExactIsConnectedRow : OpenClaim := { program := "ythfmmlpbflfpaaadoor", sum := "92179d6d06ce29227cf270707dfc63e3d3600542450cdfc8a0527587a7a11066", func := "loop.example/g01099/laws.FnExactIsConnected", spec := "fnExactIsConnected", unfollowed := true, recurses := true, named := ["loop.example/g01099/impl.errNotValid", "loop.example/g01099/impl.errNotConnected"], ifaces := true, apart := false, laid := [("loop.example/g01099/impl.errNotValid", laid_loop_example_g01099_impl_errNotValid), ("loop.example/g01099/impl.errNotConnected", laid_loop_example_g01099_impl_errNotConnected)] }
def FnExactIsConnectedSaid : Prop := fnExactIsConnectedRow.holds Tryd.pinned (OpenSpec.ofChange fnExactIsConnectedSpec)

/-- ITS FALSE NEIGHBOUR: 'it returns false'. Refute it at one input. -/
def fnExactIsConnectedWrong : ChangeSpec := { name := "fnExactIsConnected", vars := ["loop.example/g01099/impl.errNotValid", "loop.example/g01099/impl.errNotConnected"], fn := fun _ => fun
  | [d, g1, g2] => { results := [.lit (.bool false)], args := [d], vars := [g1, g2] }
  | _ => none }
def FnExactIsConnectedWrongFalsely : Prop := fnExactIsConnectedRow.holds Tryd.pinned (OpenSpec.ofChange fnExactIsConnectedWrong)

/-- 'laws.FnExactTreeSights': WHATEVER THE INPUT: true; the input reads as it did. -/
def fnExactTreeSightsSpec : ChangeSpec := { name := "fnExactTreeSights", vars := ["loop.example/g01099/impl.errNotValid", "loop.example/g01099/impl.errNotConnected"], fn := fun _ => fun
  | [d, g1, g2] => { results := [.lit (.bool true)], args := [d], vars := [g1, g2] }
  | _ => none }
def fnExactTreeSightsRow : OpenClaim := { program := "ythfmmlpbflfpaaadoor", sum := "92179d6d06ce29227cf270707dfc63e3d3600542450cdfc8a0527587a7a11066", func := "loop.example/g01099/laws.FnExactTreeSights", spec := "fnExactTreeSights", unfollowed := true, recurses := true, named := ["loop.example/g01099/impl.errNotValid", "loop.example/g01099/impl.errNotConnected"], ifaces := true, apart := false, laid := [("loop.example/g01099/impl.errNotValid", laid_loop_example_g01099_impl_errNotValid), ("loop.example/g01099/impl.errNotConnected", laid_loop_example_g01099_impl_errNotConnected)] }
def FnExactTreeSightsSaid : Prop := fnExactTreeSightsRow.holds Tryd.pinned (OpenSpec.ofChange fnExactTreeSightsSpec)

/-- ITS FALSE NEIGHBOUR: 'it returns false'. Refute it at one input. -/
def fnExactTreeSightsWrong : ChangeSpec := { name := "fnExactTreeSights", vars := ["loop.example/g01099/impl.errNotValid", "loop.example/g01099/impl.errNotConnected"], fn := fun _ => fun
  | [d, g1, g2] => { results := [.lit (.bool false)], args := [d], vars := [g1, g2] }
  | _ => none }
def FnExactTreeSightsWrongFalsely : Prop := fnExactTreeSightsRow.holds Tryd.pinned (OpenSpec.ofChange fnExactTreeSightsWrong)

/-- 'laws.FnExactTreeHeights': WHATEVER THE INPUT: true; the input reads as it did. -/
def fnExactTreeHeightsSpec : ChangeSpec := { name := "fnExactTreeHeights", vars := ["loop.example/g01099/impl.errNotValid", "loop.example/g01099/impl.errNotConnected"], fn := fun _ => fun
  | [d, g1, g2] => { results := [.lit (.bool true)], args := [d], vars := [g1, g2] }
  | _ => none }
def fnExactTreeHeightsRow : OpenClaim := { program := "ythfmmlpbflfpaaadoor", sum := "92179d6d06ce29227cf270707dfc63e3d3600542450cdfc8a0527587a7a11066", func := "loop.example/g01099/laws.FnExactTreeHeights", spec := "fnExactTreeHeights", unfollowed := true, recurses := true, named := ["loop.example/g01099/impl.errNotValid", "loop.example/g01099/impl.errNotConnected"], ifaces := true, apart := false, laid := [("loop.example/g01099/impl.errNotValid", laid_loop_example_g01099_impl_errNotValid), ("loop.example/g01099/impl.errNotConnected", laid_loop_example_g01099_impl_errNotConnected)] }
def FnExactTreeHeightsSaid : Prop := fnExactTreeHeightsRow.holds Tryd.pinned (OpenSpec.ofChange fnExactTreeHeightsSpec)

/-- ITS FALSE NEIGHBOUR: 'it returns false'. Refute it at one input. -/
def fnExactTreeHeightsWrong : ChangeSpec := { name := "fnExactTreeHeights", vars := ["loop.example/g01099/impl.errNotValid", "loop.example/g01099/impl.errNotConnected"], fn := fun _ => fun
  | [d, g1, g2] => { results := [.lit (.bool false)], args := [d], vars := [g1, g2] }
  | _ => none }
def FnExactTreeHeightsWrongFalsely : Prop := fnExactTreeHeightsRow.holds Tryd.pinned (OpenSpec.ofChange fnExactTreeHeightsWrong)

/-- 'laws.FnExactLoopErrors': WHATEVER THE INPUT: true; the input reads as it did. -/
def fnExactLoopErrorsSpec : ChangeSpec := { name := "fnExactLoopErrors", vars := ["loop.example/g01099/impl.errNotValid", "loop.example/g01099/impl.errNotConnected"], fn := fun _ => fun
  | [d, g1, g2] => { results := [.lit (.bool true)], args := [d], vars := [g1, g2] }
  | _ => none }
def fnExactLoopErrorsRow : OpenClaim := { program := "ythfmmlpbflfpaaadoor", sum := "92179d6d06ce29227cf270707dfc63e3d3600542450cdfc8a0527587a7a11066", func := "loop.example/g01099/laws.FnExactLoopErrors", spec := "fnExactLoopErrors", unfollowed := true, recurses := true, named := ["loop.example/g01099/impl.errNotValid", "loop.example/g01099/impl.errNotConnected"], ifaces := true, apart := false, laid := [("loop.example/g01099/impl.errNotValid", laid_loop_example_g01099_impl_errNotValid), ("loop.example/g01099/impl.errNotConnected", laid_loop_example_g01099_impl_errNotConnected)] }
def FnExactLoopErrorsSaid : Prop := fnExactLoopErrorsRow.holds Tryd.pinned (OpenSpec.ofChange fnExactLoopErrorsSpec)

/-- ITS FALSE NEIGHBOUR: 'it returns false'. Refute it at one input. -/
def fnExactLoopErrorsWrong : ChangeSpec := { name := "fnExactLoopErrors", vars := ["loop.example/g01099/impl.errNotValid", "loop.example/g01099/impl.errNotConnected"], fn := fun _ => fun
  | [d, g1, g2] => { results := [.lit (.bool false)], args := [d], vars := [g1, g2] }
  | _ => none }
def FnExactLoopErrorsWrongFalsely : Prop := fnExactLoopErrorsRow.holds Tryd.pinned (OpenSpec.ofChange fnExactLoopErrorsWrong)

/-- 'laws.FnExactUncheckedSights': WHATEVER THE INPUT: true; the input reads as it did. -/
def fnExactUncheckedSightsSpec : ChangeSpec := { name := "fnExactUncheckedSights", vars := ["loop.example/g01099/impl.errNotValid", "loop.example/g01099/impl.errNotConnected"], fn := fun _ => fun
  | [d, g1, g2] => { results := [.lit (.bool true)], args := [d], vars := [g1, g2] }
  | _ => none }
def fnExactUncheckedSightsRow : OpenClaim := { program := "ythfmmlpbflfpaaadoor", sum := "92179d6d06ce29227cf270707dfc63e3d3600542450cdfc8a0527587a7a11066", func := "loop.example/g01099/laws.FnExactUncheckedSights", spec := "fnExactUncheckedSights", inPlace := ["internal/reflectlite.TypeOf"], unfollowed := true, recurses := true, named := ["loop.example/g01099/impl.errNotValid", "loop.example/g01099/impl.errNotConnected"], ifaces := true, apart := false, laid := [("loop.example/g01099/impl.errNotValid", laid_loop_example_g01099_impl_errNotValid), ("loop.example/g01099/impl.errNotConnected", laid_loop_example_g01099_impl_errNotConnected)] }
def FnExactUncheckedSightsSaid : Prop := fnExactUncheckedSightsRow.holds Tryd.pinned (OpenSpec.ofChange fnExactUncheckedSightsSpec)

/-- ITS FALSE NEIGHBOUR: 'it returns false'. Refute it at one input. -/
def fnExactUncheckedSightsWrong : ChangeSpec := { name := "fnExactUncheckedSights", vars := ["loop.example/g01099/impl.errNotValid", "loop.example/g01099/impl.errNotConnected"], fn := fun _ => fun
  | [d, g1, g2] => { results := [.lit (.bool false)], args := [d], vars := [g1, g2] }
  | _ => none }
def FnExactUncheckedSightsWrongFalsely : Prop := fnExactUncheckedSightsRow.holds Tryd.pinned (OpenSpec.ofChange fnExactUncheckedSightsWrong)

/-- 'laws.FnLoops': WHATEVER THE INPUT: true; the input reads as it did. -/
def fnLoopsSpec : ChangeSpec := { name := "fnLoops", vars := ["loop.example/g01099/impl.errNotValid", "loop.example/g01099/impl.errNotConnected"], fn := fun _ => fun
  | [d1, d2, g1, g2] => { results := [.lit (.bool true)], args := [d1, d2], vars := [g1, g2] }
  | _ => none }
def fnLoopsRow : OpenClaim := { program := "ythfmmlpbflfpaaadoor", sum := "92179d6d06ce29227cf270707dfc63e3d3600542450cdfc8a0527587a7a11066", func := "loop.example/g01099/laws.FnLoops", spec := "fnLoops", unfollowed := true, recurses := true, named := ["loop.example/g01099/impl.errNotValid", "loop.example/g01099/impl.errNotConnected"], ifaces := true, apart := false, laid := [("loop.example/g01099/impl.errNotValid", laid_loop_example_g01099_impl_errNotValid), ("loop.example/g01099/impl.errNotConnected", laid_loop_example_g01099_impl_errNotConnected)] }
def FnLoopsSaid : Prop := fnLoopsRow.holds Tryd.pinned (OpenSpec.ofChange fnLoopsSpec)

/-- ITS FALSE NEIGHBOUR: 'it returns false'. Refute it at one input. -/
def fnLoopsWrong : ChangeSpec := { name := "fnLoops", vars := ["loop.example/g01099/impl.errNotValid", "loop.example/g01099/impl.errNotConnected"], fn := fun _ => fun
  | [d1, d2, g1, g2] => { results := [.lit (.bool false)], args := [d1, d2], vars := [g1, g2] }
  | _ => none }
def FnLoopsWrongFalsely : Prop := fnLoopsRow.holds Tryd.pinned (OpenSpec.ofChange fnLoopsWrong)

/- THE SECOND FORM. 'bulk': how many values and letters a reading holds, each counted each time it is reached (what is shared counts as often as it is met; a slice's spare places count too). A statement '..UptoSaid' is the law's where the arguments, and the package variables that the reading takes, are together of bulk at most 1048576: NARROWER than '..Said'. Prove '..Said' where nothing that the law and all that it calls make is longer than what came in: it says more and counts as full. Else prove '..UptoSaid'. A law counts once. -/
mutual
def uptoBulk {H : Type} : DataW H → Nat
  | .lit (.string bytes) => bytes.length + 1
  | .lit _ => 1
  | .nil => 1
  | .ptr d => uptoBulk d + 1
  | .slice elems spare => uptoBulkAll elems + uptoBulkAll spare + 1
  | .agg parts => uptoBulkAll parts + 1
  | .iface _ d => uptoBulk d + 1
  | .map entries => uptoBulkEntries entries + 1
  | .held _ => 1
def uptoBulkAll {H : Type} : List (DataW H) → Nat
  | [] => 0
  | d :: r => uptoBulk d + uptoBulkAll r
def uptoBulkEntries {H : Type} : List (Lit × DataW H) → Nat
  | [] => 0
  | x :: r => uptoBulkEntry x + uptoBulkEntries r
def uptoBulkEntry {H : Type} : Lit × DataW H → Nat
  | (.string bytes, d) => bytes.length + uptoBulk d + 1
  | (_, d) => uptoBulk d + 1
 end
def uptoSmall : (H : Type) → List (DataW H) → Bool := fun _ ds => decide (uptoBulkAll ds ≤ 1048576)
def OpenSpec.upto (s : _root_.Go.ChangeSpec) : _root_.Go.OpenSpec := { _root_.Go.OpenSpec.ofChange s with cond := some uptoSmall }

/-- 'laws.FnExactIsConnected', WHERE WHAT IT READS IS OF BULK AT MOST 1048576: true; the input reads as it did. -/
def fnExactIsConnectedUptoRow : OpenClaim := { program := "ythfmmlpbflfpaaadoor", sum := "92179d6d06ce29227cf270707dfc63e3d3600542450cdfc8a0527587a7a11066", func := "loop.example/g01099/laws.FnExactIsConnected", spec := "fnExactIsConnected", unfollowed := true, recurses := true, named := ["loop.example/g01099/impl.errNotValid", "loop.example/g01099/impl.errNotConnected"], ifaces := true, apart := false, laid := [("loop.example/g01099/impl.errNotValid", laid_loop_example_g01099_impl_errNotValid), ("loop.example/g01099/impl.errNotConnected", laid_loop_example_g01099_impl_errNotConnected)], narrowed := true }
def FnExactIsConnectedUptoSaid : Prop := fnExactIsConnectedUptoRow.holds Tryd.pinned (OpenSpec.upto fnExactIsConnectedSpec)

/-- 'laws.FnExactTreeSights', WHERE WHAT IT READS IS OF BULK AT MOST 1048576: true; the input reads as it did. -/
def fnExactTreeSightsUptoRow : OpenClaim := { program := "ythfmmlpbflfpaaadoor", sum := "92179d6d06ce29227cf270707dfc63e3d3600542450cdfc8a0527587a7a11066", func := "loop.example/g01099/laws.FnExactTreeSights", spec := "fnExactTreeSights", unfollowed := true, recurses := true, named := ["loop.example/g01099/impl.errNotValid", "loop.example/g01099/impl.errNotConnected"], ifaces := true, apart := false, laid := [("loop.example/g01099/impl.errNotValid", laid_loop_example_g01099_impl_errNotValid), ("loop.example/g01099/impl.errNotConnected", laid_loop_example_g01099_impl_errNotConnected)], narrowed := true }
def FnExactTreeSightsUptoSaid : Prop := fnExactTreeSightsUptoRow.holds Tryd.pinned (OpenSpec.upto fnExactTreeSightsSpec)

/-- 'laws.FnExactTreeHeights', WHERE WHAT IT READS IS OF BULK AT MOST 1048576: true; the input reads as it did. -/
def fnExactTreeHeightsUptoRow : OpenClaim := { program := "ythfmmlpbflfpaaadoor", sum := "92179d6d06ce29227cf270707dfc63e3d3600542450cdfc8a0527587a7a11066", func := "loop.example/g01099/laws.FnExactTreeHeights", spec := "fnExactTreeHeights", unfollowed := true, recurses := true, named := ["loop.example/g01099/impl.errNotValid", "loop.example/g01099/impl.errNotConnected"], ifaces := true, apart := false, laid := [("loop.example/g01099/impl.errNotValid", laid_loop_example_g01099_impl_errNotValid), ("loop.example/g01099/impl.errNotConnected", laid_loop_example_g01099_impl_errNotConnected)], narrowed := true }
def FnExactTreeHeightsUptoSaid : Prop := fnExactTreeHeightsUptoRow.holds Tryd.pinned (OpenSpec.upto fnExactTreeHeightsSpec)

/-- 'laws.FnExactLoopErrors', WHERE WHAT IT READS IS OF BULK AT MOST 1048576: true; the input reads as it did. -/
def fnExactLoopErrorsUptoRow : OpenClaim := { program := "ythfmmlpbflfpaaadoor", sum := "92179d6d06ce29227cf270707dfc63e3d3600542450cdfc8a0527587a7a11066", func := "loop.example/g01099/laws.FnExactLoopErrors", spec := "fnExactLoopErrors", unfollowed := true, recurses := true, named := ["loop.example/g01099/impl.errNotValid", "loop.example/g01099/impl.errNotConnected"], ifaces := true, apart := false, laid := [("loop.example/g01099/impl.errNotValid", laid_loop_example_g01099_impl_errNotValid), ("loop.example/g01099/impl.errNotConnected", laid_loop_example_g01099_impl_errNotConnected)], narrowed := true }
def FnExactLoopErrorsUptoSaid : Prop := fnExactLoopErrorsUptoRow.holds Tryd.pinned (OpenSpec.upto fnExactLoopErrorsSpec)

/-- 'laws.FnExactUncheckedSights', WHERE WHAT IT READS IS OF BULK AT MOST 1048576: true; the input reads as it did. -/
def fnExactUncheckedSightsUptoRow : OpenClaim := { program := "ythfmmlpbflfpaaadoor", sum := "92179d6d06ce29227cf270707dfc63e3d3600542450cdfc8a0527587a7a11066", func := "loop.example/g01099/laws.FnExactUncheckedSights", spec := "fnExactUncheckedSights", inPlace := ["internal/reflectlite.TypeOf"], unfollowed := true, recurses := true, named := ["loop.example/g01099/impl.errNotValid", "loop.example/g01099/impl.errNotConnected"], ifaces := true, apart := false, laid := [("loop.example/g01099/impl.errNotValid", laid_loop_example_g01099_impl_errNotValid), ("loop.example/g01099/impl.errNotConnected", laid_loop_example_g01099_impl_errNotConnected)], narrowed := true }
def FnExactUncheckedSightsUptoSaid : Prop := fnExactUncheckedSightsUptoRow.holds Tryd.pinned (OpenSpec.upto fnExactUncheckedSightsSpec)

/-- 'laws.FnLoops', WHERE WHAT IT READS IS OF BULK AT MOST 1048576: true; the input reads as it did. -/
def fnLoopsUptoRow : OpenClaim := { program := "ythfmmlpbflfpaaadoor", sum := "92179d6d06ce29227cf270707dfc63e3d3600542450cdfc8a0527587a7a11066", func := "loop.example/g01099/laws.FnLoops", spec := "fnLoops", unfollowed := true, recurses := true, named := ["loop.example/g01099/impl.errNotValid", "loop.example/g01099/impl.errNotConnected"], ifaces := true, apart := false, laid := [("loop.example/g01099/impl.errNotValid", laid_loop_example_g01099_impl_errNotValid), ("loop.example/g01099/impl.errNotConnected", laid_loop_example_g01099_impl_errNotConnected)], narrowed := true }
def FnLoopsUptoSaid : Prop := fnLoopsUptoRow.holds Tryd.pinned (OpenSpec.upto fnLoopsSpec)

end Rows
end Go.Proofs.YthfmmlpbflfpaaaDoor
