/-
  No cell of these rows narrows 'for every input' (looked for: loops, veiled, ifaces, maps, wideKeys, modest, calm, conditions, laid).
  DERIVED. THE GIVEN ROWS OF THIS SEAT. 4 by the template 'for every input the law returns true; each argument reads behind the call as it read before'; 0 by the template 'total and deterministic' (their statements: YtmdddjhlfpmgdacTotals.lean).
  GIVEN WITH THE SEED: the statements are not yours to turn. If you find one false, say at which input.
  Laid BY PROGRAM, IN A SANDBOX (cutbox-rows.mjs): the forced cells as the released guide's own fill.sh prints them over the translation b685126b32960368… (all of the seat's roots in one cut). By AI agents, Wed Nov 11 2026. No macro, syntax, notation, axiom, sorry.
-/
import Derived.Test.YtmdddjhlfpmgdacChecked
import GoSem.Claim
import GoSem.ClaimJoined
import GoSem.ClaimMapViews
import Derived.JoinedTies
import Derived.KernelRfl
namespace Go.Proofs.Ytmdddjhlfpmgdac
/- THE CELL 'sum', in the pinned program and in every row, IS THE sha256 OF THE DUMP (.gsa) THAT YtmdddjhlfpmgdacProg.lean LOADS. Nothing in Lean hashes anything: it is a label: what it is worth is what the hold of that sum in a sandbox is worth. -/
noncomputable def Try.pinned : Pinned := { name := "ytmdddjhlfpmgdac", sum := "b685126b329603682b08c4c47cd0fb7ae2edd961fff1d7f913ce7f3b7cf1f9c4", checked := Try.checked }
namespace Rows
def none {H : Type} : Left H := { results := [], args := [] }

/-- 'laws.FnExactCostOf': WHATEVER THE INPUT: true; the input reads as it did. -/
def fnExactCostOfSpec : ChangeSpec := { name := "fnExactCostOf", fn := fun _ => fun
  | [d1, d2] => { results := [.lit (.bool true)], args := [d1, d2] }
  | _ => none }
def fnExactCostOfRow : OpenClaim := { program := "ytmdddjhlfpmgdac", sum := "b685126b329603682b08c4c47cd0fb7ae2edd961fff1d7f913ce7f3b7cf1f9c4", func := "loop.example/g01099/laws.FnExactCostOf", spec := "fnExactCostOf", unfollowed := true, recurses := true, apart := false }
def FnExactCostOfSaid : Prop := fnExactCostOfRow.holds Try.pinned (OpenSpec.ofChange fnExactCostOfSpec)

/-- ITS FALSE NEIGHBOUR: 'it returns false'. Refute it at one input. -/
def fnExactCostOfWrong : ChangeSpec := { name := "fnExactCostOf", fn := fun _ => fun
  | [d1, d2] => { results := [.lit (.bool false)], args := [d1, d2] }
  | _ => none }
def FnExactCostOfWrongFalsely : Prop := fnExactCostOfRow.holds Try.pinned (OpenSpec.ofChange fnExactCostOfWrong)

/-- 'laws.FnExactSplitAxis': WHATEVER THE INPUT: true; the input reads as it did. -/
def fnExactSplitAxisSpec : ChangeSpec := { name := "fnExactSplitAxis", fn := fun _ => fun
  | [d1, d2] => { results := [.lit (.bool true)], args := [d1, d2] }
  | _ => none }
def fnExactSplitAxisRow : OpenClaim := { program := "ytmdddjhlfpmgdac", sum := "b685126b329603682b08c4c47cd0fb7ae2edd961fff1d7f913ce7f3b7cf1f9c4", func := "loop.example/g01099/laws.FnExactSplitAxis", spec := "fnExactSplitAxis", unfollowed := true, recurses := true, apart := false }
def FnExactSplitAxisSaid : Prop := fnExactSplitAxisRow.holds Try.pinned (OpenSpec.ofChange fnExactSplitAxisSpec)

/-- ITS FALSE NEIGHBOUR: 'it returns false'. Refute it at one input. -/
def fnExactSplitAxisWrong : ChangeSpec := { name := "fnExactSplitAxis", fn := fun _ => fun
  | [d1, d2] => { results := [.lit (.bool false)], args := [d1, d2] }
  | _ => none }
def FnExactSplitAxisWrongFalsely : Prop := fnExactSplitAxisRow.holds Try.pinned (OpenSpec.ofChange fnExactSplitAxisWrong)

/-- 'laws.FnExactJoinAxes': WHATEVER THE INPUT: true; the input reads as it did. -/
def fnExactJoinAxesSpec : ChangeSpec := { name := "fnExactJoinAxes", fn := fun _ => fun
  | [d1, d2] => { results := [.lit (.bool true)], args := [d1, d2] }
  | _ => none }
def fnExactJoinAxesRow : OpenClaim := { program := "ytmdddjhlfpmgdac", sum := "b685126b329603682b08c4c47cd0fb7ae2edd961fff1d7f913ce7f3b7cf1f9c4", func := "loop.example/g01099/laws.FnExactJoinAxes", spec := "fnExactJoinAxes", unfollowed := true, recurses := true, apart := false }
def FnExactJoinAxesSaid : Prop := fnExactJoinAxesRow.holds Try.pinned (OpenSpec.ofChange fnExactJoinAxesSpec)

/-- ITS FALSE NEIGHBOUR: 'it returns false'. Refute it at one input. -/
def fnExactJoinAxesWrong : ChangeSpec := { name := "fnExactJoinAxes", fn := fun _ => fun
  | [d1, d2] => { results := [.lit (.bool false)], args := [d1, d2] }
  | _ => none }
def FnExactJoinAxesWrongFalsely : Prop := fnExactJoinAxesRow.holds Try.pinned (OpenSpec.ofChange fnExactJoinAxesWrong)

/-- 'laws.FnSplit': WHATEVER THE INPUT: true; the input reads as it did. -/
def fnSplitSpec : ChangeSpec := { name := "fnSplit", fn := fun _ => fun
  | [d1, d2] => { results := [.lit (.bool true)], args := [d1, d2] }
  | _ => none }
def fnSplitRow : OpenClaim := { program := "ytmdddjhlfpmgdac", sum := "b685126b329603682b08c4c47cd0fb7ae2edd961fff1d7f913ce7f3b7cf1f9c4", func := "loop.example/g01099/laws.FnSplit", spec := "fnSplit", unfollowed := true, recurses := true, apart := false }
def FnSplitSaid : Prop := fnSplitRow.holds Try.pinned (OpenSpec.ofChange fnSplitSpec)

/-- ITS FALSE NEIGHBOUR: 'it returns false'. Refute it at one input. -/
def fnSplitWrong : ChangeSpec := { name := "fnSplit", fn := fun _ => fun
  | [d1, d2] => { results := [.lit (.bool false)], args := [d1, d2] }
  | _ => none }
def FnSplitWrongFalsely : Prop := fnSplitRow.holds Try.pinned (OpenSpec.ofChange fnSplitWrong)

/- THE SECOND FORM. 'bulk': how many values and letters a reading holds, each counted each time it is reached (what is shared counts as often as it is met; a slice's spare places count too). A statement '..UptoSaid' is the law's where the arguments, and the package variables that the reading takes, are together of bulk at most 1048576: NARROWER than '..Said'. Prove '..Said' where nothing that the law and all that it calls make is longer than what came in: it says more and counts as full. Else prove '..UptoSaid'. A law counts once. -/
mutual
def uptoBulk {H : Type} : DataW H → Nat
  | .lit (.string bytes) => bytes.length + 1
  | .lit _ => 1
  | .nil => 1
  | .ptr d => uptoBulk d + 1
  | .slice elems spare => uptoBulkAll elems + uptoBulkAll spare + 1
  | .agg parts => uptoBulkAll parts + 1
  | .iface _ d => uptoBulk d + 1
  | .map entries => uptoBulkEntries entries + 1
  | .held _ => 1
def uptoBulkAll {H : Type} : List (DataW H) → Nat
  | [] => 0
  | d :: r => uptoBulk d + uptoBulkAll r
def uptoBulkEntries {H : Type} : List (Lit × DataW H) → Nat
  | [] => 0
  | x :: r => uptoBulkEntry x + uptoBulkEntries r
def uptoBulkEntry {H : Type} : Lit × DataW H → Nat
  | (.string bytes, d) => bytes.length + uptoBulk d + 1
  | (_, d) => uptoBulk d + 1
 end
def uptoSmall : (H : Type) → List (DataW H) → Bool := fun _ ds => decide (uptoBulkAll ds ≤ 1048576)
def OpenSpec.upto (s : _root_.Go.ChangeSpec) : _root_.Go.OpenSpec := { _root_.Go.OpenSpec.ofChange s with cond := some uptoSmall }

/-- 'laws.FnExactCostOf', WHERE WHAT IT READS IS OF BULK AT MOST 1048576: true; the input reads as it did. -/
def fnExactCostOfUptoRow : OpenClaim := { program := "ytmdddjhlfpmgdac", sum := "b685126b329603682b08c4c47cd0fb7ae2edd961fff1d7f913ce7f3b7cf1f9c4", func := "loop.example/g01099/laws.FnExactCostOf", spec := "fnExactCostOf", unfollowed := true, recurses := true, apart := false, narrowed := true }
def FnExactCostOfUptoSaid : Prop := fnExactCostOfUptoRow.holds Try.pinned (OpenSpec.upto fnExactCostOfSpec)

/-- 'laws.FnExactSplitAxis', WHERE WHAT IT READS IS OF BULK AT MOST 1048576: true; the input reads as it did. -/
def fnExactSplitAxisUptoRow : OpenClaim := { program := "ytmdddjhlfpmgdac", sum := "b685126b329603682b08c4c47cd0fb7ae2edd961fff1d7f913ce7f3b7cf1f9c4", func := "loop.example/g01099/laws.FnExactSplitAxis", spec := "fnExactSplitAxis", unfollowed := true, recurses := true, apart := false, narrowed := true }
def FnExactSplitAxisUptoSaid : Prop := fnExactSplitAxisUptoRow.holds Try.pinned (OpenSpec.upto fnExactSplitAxisSpec)

/-- 'laws.FnExactJoinAxes', WHERE WHAT IT READS IS OF BULK AT MOST 1048576: true; the input reads as it did. -/
def fnExactJoinAxesUptoRow : OpenClaim := { program := "ytmdddjhlfpmgdac", sum := "b685126b329603682b08c4c47cd0fb7ae2edd961fff1d7f913ce7f3b7cf1f9c4", func := "loop.example/g01099/laws.FnExactJoinAxes", spec := "fnExactJoinAxes", unfollowed := true, recurses := true, apart := false, narrowed := true }
def FnExactJoinAxesUptoSaid : Prop := fnExactJoinAxesUptoRow.holds Try.pinned (OpenSpec.upto fnExactJoinAxesSpec)

/-- 'laws.FnSplit', WHERE WHAT IT READS IS OF BULK AT MOST 1048576: true; the input reads as it did. -/
def fnSplitUptoRow : OpenClaim := { program := "ytmdddjhlfpmgdac", sum := "b685126b329603682b08c4c47cd0fb7ae2edd961fff1d7f913ce7f3b7cf1f9c4", func := "loop.example/g01099/laws.FnSplit", spec := "fnSplit", unfollowed := true, recurses := true, apart := false, narrowed := true }
def FnSplitUptoSaid : Prop := fnSplitUptoRow.holds Try.pinned (OpenSpec.upto fnSplitSpec)

end Rows
end Go.Proofs.Ytmdddjhlfpmgdac
