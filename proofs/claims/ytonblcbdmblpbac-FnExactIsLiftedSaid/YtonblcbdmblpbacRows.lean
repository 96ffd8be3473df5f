/-
  No cell of these rows narrows 'for every input' (looked for: loops, veiled, ifaces, maps, wideKeys, modest, calm, conditions, laid).
  DERIVED. THE GIVEN ROWS OF THIS SEAT. 4 by the template 'for every input the law returns true; each argument reads behind the call as it read before'; 0 by the template 'total and deterministic' (their statements: YtonblcbdmblpbacTotals.lean).
  GIVEN WITH THE SEED: the statements are not yours to turn. If you find one false, say at which input.
  Laid BY PROGRAM, IN A SANDBOX (cutbox-rows.mjs): the forced cells as the released guide's own fill.sh prints them over the translation 704aaf70abf1433a… (all of the seat's roots in one cut). By AI agents, Wed Nov 11 2026. No macro, syntax, notation, axiom, sorry.
-/
import Derived.Test.YtonblcbdmblpbacChecked
import GoSem.Claim
import GoSem.ClaimJoined
import GoSem.ClaimMapViews
import Derived.JoinedTies
import Derived.KernelRfl
namespace Go.Proofs.Ytonblcbdmblpbac
/- THE CELL 'sum', in the pinned program and in every row, IS THE sha256 OF THE DUMP (.gsa) THAT YtonblcbdmblpbacProg.lean LOADS. Nothing in Lean hashes anything: it is a label: what it is worth is what the hold of that sum in a sandbox is worth. -/
noncomputable def Try.pinned : Pinned := { name := "ytonblcbdmblpbac", sum := "704aaf70abf1433a7d35135b8db0310aff73deb17daf0601dfd54b13b7587922", checked := Try.checked }
namespace Rows
def none {H : Type} : Left H := { results := [], args := [] }

/-- 'laws.FnExactLiftsOf': WHATEVER THE INPUT: true; the input reads as it did. -/
def fnExactLiftsOfSpec : ChangeSpec := { name := "fnExactLiftsOf", fn := fun _ => fun
  | [d] => { results := [.lit (.bool true)], args := [d] }
  | _ => none }
def fnExactLiftsOfRow : OpenClaim := { program := "ytonblcbdmblpbac", sum := "704aaf70abf1433a7d35135b8db0310aff73deb17daf0601dfd54b13b7587922", func := "loop.example/g01099/laws.FnExactLiftsOf", spec := "fnExactLiftsOf", unfollowed := true, recurses := true, plainKeys := false, apart := false }
def FnExactLiftsOfSaid : Prop := fnExactLiftsOfRow.holds Try.pinned (OpenSpec.ofChange fnExactLiftsOfSpec)

/-- ITS FALSE NEIGHBOUR: 'it returns false'. Refute it at one input. -/
def fnExactLiftsOfWrong : ChangeSpec := { name := "fnExactLiftsOf", fn := fun _ => fun
  | [d] => { results := [.lit (.bool false)], args := [d] }
  | _ => none }
def FnExactLiftsOfWrongFalsely : Prop := fnExactLiftsOfRow.holds Try.pinned (OpenSpec.ofChange fnExactLiftsOfWrong)

/-- 'laws.FnExactIsLifted': WHATEVER THE INPUT: true; the input reads as it did. -/
def fnExactIsLiftedSpec : ChangeSpec := { name := "fnExactIsLifted", fn := fun _ => fun
  | [d1, d2] => { results := [.lit (.bool true)], args := [d1, d2] }
  | _ => none }
def fnExactIsLiftedRow : OpenClaim := { program := "ytonblcbdmblpbac", sum := "704aaf70abf1433a7d35135b8db0310aff73deb17daf0601dfd54b13b7587922", func := "loop.example/g01099/laws.FnExactIsLifted", spec := "fnExactIsLifted", unfollowed := true, recurses := true, plainKeys := false, apart := false }
def FnExactIsLiftedSaid : Prop := fnExactIsLiftedRow.holds Try.pinned (OpenSpec.ofChange fnExactIsLiftedSpec)

/-- ITS FALSE NEIGHBOUR: 'it returns false'. Refute it at one input. -/
def fnExactIsLiftedWrong : ChangeSpec := { name := "fnExactIsLifted", fn := fun _ => fun
  | [d1, d2] => { results := [.lit (.bool false)], args := [d1, d2] }
  | _ => none }
def FnExactIsLiftedWrongFalsely : Prop := fnExactIsLiftedRow.holds Try.pinned (OpenSpec.ofChange fnExactIsLiftedWrong)

/-- 'laws.FnExactLeastUnits': WHATEVER THE INPUT: true; the input reads as it did. -/
def fnExactLeastUnitsSpec : ChangeSpec := { name := "fnExactLeastUnits", fn := fun _ => fun
  | [d] => { results := [.lit (.bool true)], args := [d] }
  | _ => none }
def fnExactLeastUnitsRow : OpenClaim := { program := "ytonblcbdmblpbac", sum := "704aaf70abf1433a7d35135b8db0310aff73deb17daf0601dfd54b13b7587922", func := "loop.example/g01099/laws.FnExactLeastUnits", spec := "fnExactLeastUnits", unfollowed := true, recurses := true, plainKeys := false, apart := false }
def FnExactLeastUnitsSaid : Prop := fnExactLeastUnitsRow.holds Try.pinned (OpenSpec.ofChange fnExactLeastUnitsSpec)

/-- ITS FALSE NEIGHBOUR: 'it returns false'. Refute it at one input. -/
def fnExactLeastUnitsWrong : ChangeSpec := { name := "fnExactLeastUnits", fn := fun _ => fun
  | [d] => { results := [.lit (.bool false)], args := [d] }
  | _ => none }
def FnExactLeastUnitsWrongFalsely : Prop := fnExactLeastUnitsRow.holds Try.pinned (OpenSpec.ofChange fnExactLeastUnitsWrong)

/-- 'laws.FnExactLiftNeeds': WHATEVER THE INPUT: true; the input reads as it did. -/
def fnExactLiftNeedsSpec : ChangeSpec := { name := "fnExactLiftNeeds", fn := fun _ => fun
  | [d1, d2, d3, d4] => { results := [.lit (.bool true)], args := [d1, d2, d3, d4] }
  | _ => none }
def fnExactLiftNeedsRow : OpenClaim := { program := "ytonblcbdmblpbac", sum := "704aaf70abf1433a7d35135b8db0310aff73deb17daf0601dfd54b13b7587922", func := "loop.example/g01099/laws.FnExactLiftNeeds", spec := "fnExactLiftNeeds", unfollowed := true, recurses := true, plainKeys := false, apart := false }
def FnExactLiftNeedsSaid : Prop := fnExactLiftNeedsRow.holds Try.pinned (OpenSpec.ofChange fnExactLiftNeedsSpec)

/-- ITS FALSE NEIGHBOUR: 'it returns false'. Refute it at one input. -/
def fnExactLiftNeedsWrong : ChangeSpec := { name := "fnExactLiftNeeds", fn := fun _ => fun
  | [d1, d2, d3, d4] => { results := [.lit (.bool false)], args := [d1, d2, d3, d4] }
  | _ => none }
def FnExactLiftNeedsWrongFalsely : Prop := fnExactLiftNeedsRow.holds Try.pinned (OpenSpec.ofChange fnExactLiftNeedsWrong)

/- THE SECOND FORM. 'bulk': how many values and letters a reading holds, each counted each time it is reached (what is shared counts as often as it is met; a slice's spare places count too). A statement '..UptoSaid' is the law's where the arguments, and the package variables that the reading takes, are together of bulk at most 1048576: NARROWER than '..Said'. Prove '..Said' where nothing that the law and all that it calls make is longer than what came in: it says more and counts as full. Else prove '..UptoSaid'. A law counts once. -/
mutual
def uptoBulk {H : Type} : DataW H → Nat
  | .lit (.string bytes) => bytes.length + 1
  | .lit _ => 1
  | .nil => 1
  | .ptr d => uptoBulk d + 1
  | .slice elems spare => uptoBulkAll elems + uptoBulkAll spare + 1
  | .agg parts => uptoBulkAll parts + 1
  | .iface _ d => uptoBulk d + 1
  | .map entries => uptoBulkEntries entries + 1
  | .held _ => 1
def uptoBulkAll {H : Type} : List (DataW H) → Nat
  | [] => 0
  | d :: r => uptoBulk d + uptoBulkAll r
def uptoBulkEntries {H : Type} : List (Lit × DataW H) → Nat
  | [] => 0
  | x :: r => uptoBulkEntry x + uptoBulkEntries r
def uptoBulkEntry {H : Type} : Lit × DataW H → Nat
  | (.string bytes, d) => bytes.length + uptoBulk d + 1
  | (_, d) => uptoBulk d + 1
 end
def uptoSmall : (H : Type) → List (DataW H) → Bool := fun _ ds => decide (uptoBulkAll ds ≤ 1048576)
def OpenSpec.upto (s : _root_.Go.ChangeSpec) : _root_.Go.OpenSpec := { _root_.Go.OpenSpec.ofChange s with cond := some uptoSmall }

/-- 'laws.FnExactLiftsOf', WHERE WHAT IT READS IS OF BULK AT MOST 1048576: true; the input reads as it did. -/
def fnExactLiftsOfUptoRow : OpenClaim := { program := "ytonblcbdmblpbac", sum := "704aaf70abf1433a7d35135b8db0310aff73deb17daf0601dfd54b13b7587922", func := "loop.example/g01099/laws.FnExactLiftsOf", spec := "fnExactLiftsOf", unfollowed := true, recurses := true, plainKeys := false, apart := false, narrowed := true }
def FnExactLiftsOfUptoSaid : Prop := fnExactLiftsOfUptoRow.holds Try.pinned (OpenSpec.upto fnExactLiftsOfSpec)

/-- 'laws.FnExactIsLifted', WHERE WHAT IT READS IS OF BULK AT MOST 1048576: true; the input reads as it did. -/
def fnExactIsLiftedUptoRow : OpenClaim := { program := "ytonblcbdmblpbac", sum := "704aaf70abf1433a7d35135b8db0310aff73deb17daf0601dfd54b13b7587922", func := "loop.example/g01099/laws.FnExactIsLifted", spec := "fnExactIsLifted", unfollowed := true, recurses := true, plainKeys := false, apart := false, narrowed := true }
def FnExactIsLiftedUptoSaid : Prop := fnExactIsLiftedUptoRow.holds Try.pinned (OpenSpec.upto fnExactIsLiftedSpec)

/-- 'laws.FnExactLeastUnits', WHERE WHAT IT READS IS OF BULK AT MOST 1048576: true; the input reads as it did. -/
def fnExactLeastUnitsUptoRow : OpenClaim := { program := "ytonblcbdmblpbac", sum := "704aaf70abf1433a7d35135b8db0310aff73deb17daf0601dfd54b13b7587922", func := "loop.example/g01099/laws.FnExactLeastUnits", spec := "fnExactLeastUnits", unfollowed := true, recurses := true, plainKeys := false, apart := false, narrowed := true }
def FnExactLeastUnitsUptoSaid : Prop := fnExactLeastUnitsUptoRow.holds Try.pinned (OpenSpec.upto fnExactLeastUnitsSpec)

/-- 'laws.FnExactLiftNeeds', WHERE WHAT IT READS IS OF BULK AT MOST 1048576: true; the input reads as it did. -/
def fnExactLiftNeedsUptoRow : OpenClaim := { program := "ytonblcbdmblpbac", sum := "704aaf70abf1433a7d35135b8db0310aff73deb17daf0601dfd54b13b7587922", func := "loop.example/g01099/laws.FnExactLiftNeeds", spec := "fnExactLiftNeeds", unfollowed := true, recurses := true, plainKeys := false, apart := false, narrowed := true }
def FnExactLiftNeedsUptoSaid : Prop := fnExactLiftNeedsUptoRow.holds Try.pinned (OpenSpec.upto fnExactLiftNeedsSpec)

end Rows
end Go.Proofs.Ytonblcbdmblpbac
