/-
  No cell of these rows narrows 'for every input' (looked for: loops, veiled, ifaces, maps, wideKeys, modest, calm, conditions, laid).
  DERIVED. THE GIVEN ROWS OF THIS SEAT. 4 by the template 'for every input the law returns true; each argument reads behind the call as it read before'; 0 by the template 'total and deterministic' (their statements: YtgokhbcifgikgabTotals.lean).
  GIVEN WITH THE SEED: the statements are not yours to turn. If you find one false, say at which input.
  Laid BY PROGRAM, IN A SANDBOX (cutbox-rows.mjs): the forced cells as the released guide's own fill.sh prints them over the translation 9f82a32f4e62f9b8… (all of the seat's roots in one cut). By AI agents, Wed Nov 11 2026. No macro, syntax, notation, axiom, sorry.
-/
import Derived.Test.YtgokhbcifgikgabChecked
import GoSem.Claim
import GoSem.ClaimJoined
import GoSem.ClaimMapViews
import Derived.JoinedTies
import Derived.KernelRfl
namespace Go.Proofs.Ytgokhbcifgikgab
/- THE CELL 'sum', in the pinned program and in every row, IS THE sha256 OF THE DUMP (.gsa) THAT YtgokhbcifgikgabProg.lean LOADS. Nothing in Lean hashes anything: it is a label: what it is worth is what the hold of that sum in a sandbox is worth. -/
noncomputable def Try.pinned : Pinned := { name := "ytgokhbcifgikgab", sum := "9f82a32f4e62f9b85b41140c09cba053d1146ce26a53baf19c12d5d739717d95", checked := Try.checked }
namespace Rows
def none {H : Type} : Left H := { results := [], args := [] }

/-- 'laws.FnExactNormalAxis': WHATEVER THE INPUT: true; the input reads as it did. -/
def fnExactNormalAxisSpec : ChangeSpec := { name := "fnExactNormalAxis", fn := fun _ => fun
  | [d] => { results := [.lit (.bool true)], args := [d] }
  | _ => none }
def fnExactNormalAxisRow : OpenClaim := { program := "ytgokhbcifgikgab", sum := "9f82a32f4e62f9b85b41140c09cba053d1146ce26a53baf19c12d5d739717d95", func := "loop.example/g01099/laws.FnExactNormalAxis", spec := "fnExactNormalAxis", unfollowed := true, recurses := true, apart := false }
def FnExactNormalAxisSaid : Prop := fnExactNormalAxisRow.holds Try.pinned (OpenSpec.ofChange fnExactNormalAxisSpec)

/-- ITS FALSE NEIGHBOUR: 'it returns false'. Refute it at one input. -/
def fnExactNormalAxisWrong : ChangeSpec := { name := "fnExactNormalAxis", fn := fun _ => fun
  | [d] => { results := [.lit (.bool false)], args := [d] }
  | _ => none }
def FnExactNormalAxisWrongFalsely : Prop := fnExactNormalAxisRow.holds Try.pinned (OpenSpec.ofChange fnExactNormalAxisWrong)

/-- 'laws.FnExactDeviationsOf': WHATEVER THE INPUT: true; the input reads as it did. -/
def fnExactDeviationsOfSpec : ChangeSpec := { name := "fnExactDeviationsOf", fn := fun _ => fun
  | [d1, d2] => { results := [.lit (.bool true)], args := [d1, d2] }
  | _ => none }
def fnExactDeviationsOfRow : OpenClaim := { program := "ytgokhbcifgikgab", sum := "9f82a32f4e62f9b85b41140c09cba053d1146ce26a53baf19c12d5d739717d95", func := "loop.example/g01099/laws.FnExactDeviationsOf", spec := "fnExactDeviationsOf", unfollowed := true, recurses := true, apart := false }
def FnExactDeviationsOfSaid : Prop := fnExactDeviationsOfRow.holds Try.pinned (OpenSpec.ofChange fnExactDeviationsOfSpec)

/-- ITS FALSE NEIGHBOUR: 'it returns false'. Refute it at one input. -/
def fnExactDeviationsOfWrong : ChangeSpec := { name := "fnExactDeviationsOf", fn := fun _ => fun
  | [d1, d2] => { results := [.lit (.bool false)], args := [d1, d2] }
  | _ => none }
def FnExactDeviationsOfWrongFalsely : Prop := fnExactDeviationsOfRow.holds Try.pinned (OpenSpec.ofChange fnExactDeviationsOfWrong)

/-- 'laws.FnExactClearanceOf': WHATEVER THE INPUT: true; the input reads as it did. -/
def fnExactClearanceOfSpec : ChangeSpec := { name := "fnExactClearanceOf", fn := fun _ => fun
  | [d1, d2] => { results := [.lit (.bool true)], args := [d1, d2] }
  | _ => none }
def fnExactClearanceOfRow : OpenClaim := { program := "ytgokhbcifgikgab", sum := "9f82a32f4e62f9b85b41140c09cba053d1146ce26a53baf19c12d5d739717d95", func := "loop.example/g01099/laws.FnExactClearanceOf", spec := "fnExactClearanceOf", unfollowed := true, recurses := true, apart := false }
def FnExactClearanceOfSaid : Prop := fnExactClearanceOfRow.holds Try.pinned (OpenSpec.ofChange fnExactClearanceOfSpec)

/-- ITS FALSE NEIGHBOUR: 'it returns false'. Refute it at one input. -/
def fnExactClearanceOfWrong : ChangeSpec := { name := "fnExactClearanceOf", fn := fun _ => fun
  | [d1, d2] => { results := [.lit (.bool false)], args := [d1, d2] }
  | _ => none }
def FnExactClearanceOfWrongFalsely : Prop := fnExactClearanceOfRow.holds Try.pinned (OpenSpec.ofChange fnExactClearanceOfWrong)

/-- 'laws.FnExactLowPoints': WHATEVER THE INPUT: true; the input reads as it did. -/
def fnExactLowPointsSpec : ChangeSpec := { name := "fnExactLowPoints", fn := fun _ => fun
  | [d] => { results := [.lit (.bool true)], args := [d] }
  | _ => none }
def fnExactLowPointsRow : OpenClaim := { program := "ytgokhbcifgikgab", sum := "9f82a32f4e62f9b85b41140c09cba053d1146ce26a53baf19c12d5d739717d95", func := "loop.example/g01099/laws.FnExactLowPoints", spec := "fnExactLowPoints", unfollowed := true, recurses := true, apart := false }
def FnExactLowPointsSaid : Prop := fnExactLowPointsRow.holds Try.pinned (OpenSpec.ofChange fnExactLowPointsSpec)

/-- ITS FALSE NEIGHBOUR: 'it returns false'. Refute it at one input. -/
def fnExactLowPointsWrong : ChangeSpec := { name := "fnExactLowPoints", fn := fun _ => fun
  | [d] => { results := [.lit (.bool false)], args := [d] }
  | _ => none }
def FnExactLowPointsWrongFalsely : Prop := fnExactLowPointsRow.holds Try.pinned (OpenSpec.ofChange fnExactLowPointsWrong)

/- THE SECOND FORM. 'bulk': how many values and letters a reading holds, each counted each time it is reached (what is shared counts as often as it is met; a slice's spare places count too). A statement '..UptoSaid' is the law's where the arguments, and the package variables that the reading takes, are together of bulk at most 1048576: NARROWER than '..Said'. Prove '..Said' where nothing that the law and all that it calls make is longer than what came in: it says more and counts as full. Else prove '..UptoSaid'. A law counts once. -/
mutual
def uptoBulk {H : Type} : DataW H → Nat
  | .lit (.string bytes) => bytes.length + 1
  | .lit _ => 1
  | .nil => 1
  | .ptr d => uptoBulk d + 1
  | .slice elems spare => uptoBulkAll elems + uptoBulkAll spare + 1
  | .agg parts => uptoBulkAll parts + 1
  | .iface _ d => uptoBulk d + 1
  | .map entries => uptoBulkEntries entries + 1
  | .held _ => 1
def uptoBulkAll {H : Type} : List (DataW H) → Nat
  | [] => 0
  | d :: r => uptoBulk d + uptoBulkAll r
def uptoBulkEntries {H : Type} : List (Lit × DataW H) → Nat
  | [] => 0
  | x :: r => uptoBulkEntry x + uptoBulkEntries r
def uptoBulkEntry {H : Type} : Lit × DataW H → Nat
  | (.string bytes, d) => bytes.length + uptoBulk d + 1
  | (_, d) => uptoBulk d + 1
 end
def uptoSmall : (H : Type) → List (DataW H) → Bool := fun _ ds => decide (uptoBulkAll ds ≤ 1048576)
def OpenSpec.upto (s : _root_.Go.ChangeSpec) : _root_.Go.OpenSpec := { _root_.Go.OpenSpec.ofChange s with cond := some uptoSmall }

/-- 'laws.FnExactNormalAxis', WHERE WHAT IT READS IS OF BULK AT MOST 1048576: true; the input reads as it did. -/
def fnExactNormalAxisUptoRow : OpenClaim := { program := "ytgokhbcifgikgab", sum := "9f82a32f4e62f9b85b41140c09cba053d1146ce26a53baf19c12d5d739717d95", func := "loop.example/g01099/laws.FnExactNormalAxis", spec := "fnExactNormalAxis", unfollowed := true, recurses := true, apart := false, narrowed := true }
def FnExactNormalAxisUptoSaid : Prop := fnExactNormalAxisUptoRow.holds Try.pinned (OpenSpec.upto fnExactNormalAxisSpec)

/-- 'laws.FnExactDeviationsOf', WHERE WHAT IT READS IS OF BULK AT MOST 1048576: true; the input reads as it did. -/
def fnExactDeviationsOfUptoRow : OpenClaim := { program := "ytgokhbcifgikgab", sum := "9f82a32f4e62f9b85b41140c09cba053d1146ce26a53baf19c12d5d739717d95", func := "loop.example/g01099/laws.FnExactDeviationsOf", spec := "fnExactDeviationsOf", unfollowed := true, recurses := true, apart := false, narrowed := true }
def FnExactDeviationsOfUptoSaid : Prop := fnExactDeviationsOfUptoRow.holds Try.pinned (OpenSpec.upto fnExactDeviationsOfSpec)

/-- 'laws.FnExactClearanceOf', WHERE WHAT IT READS IS OF BULK AT MOST 1048576: true; the input reads as it did. -/
def fnExactClearanceOfUptoRow : OpenClaim := { program := "ytgokhbcifgikgab", sum := "9f82a32f4e62f9b85b41140c09cba053d1146ce26a53baf19c12d5d739717d95", func := "loop.example/g01099/laws.FnExactClearanceOf", spec := "fnExactClearanceOf", unfollowed := true, recurses := true, apart := false, narrowed := true }
def FnExactClearanceOfUptoSaid : Prop := fnExactClearanceOfUptoRow.holds Try.pinned (OpenSpec.upto fnExactClearanceOfSpec)

/-- 'laws.FnExactLowPoints', WHERE WHAT IT READS IS OF BULK AT MOST 1048576: true; the input reads as it did. -/
def fnExactLowPointsUptoRow : OpenClaim := { program := "ytgokhbcifgikgab", sum := "9f82a32f4e62f9b85b41140c09cba053d1146ce26a53baf19c12d5d739717d95", func := "loop.example/g01099/laws.FnExactLowPoints", spec := "fnExactLowPoints", unfollowed := true, recurses := true, apart := false, narrowed := true }
def FnExactLowPointsUptoSaid : Prop := fnExactLowPointsUptoRow.holds Try.pinned (OpenSpec.upto fnExactLowPointsSpec)

end Rows
end Go.Proofs.Ytgokhbcifgikgab
