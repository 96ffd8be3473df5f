/-
  No cell of these rows narrows 'for every input' (looked for: loops, veiled, ifaces, maps, wideKeys, modest, calm, conditions, laid).
  DERIVED. THE GIVEN ROWS OF THIS SEAT. 8 by the template 'for every input the law returns true; each argument reads behind the call as it read before'; 0 by the template 'total and deterministic' (their statements: YtonblcbdmblpbabTotals.lean).
  GIVEN WITH THE SEED: the statements are not yours to turn. If you find one false, say at which input.
  Laid BY PROGRAM, IN A SANDBOX (cutbox-rows.mjs): the forced cells as the released guide's own fill.sh prints them over the translation fdd1262d7292baa8… (all of the seat's roots in one cut). By AI agents, Wed Nov 11 2026. No macro, syntax, notation, axiom, sorry.
-/
import Derived.Test.YtonblcbdmblpbabChecked
import GoSem.Claim
import GoSem.ClaimJoined
import GoSem.ClaimMapViews
import Derived.JoinedTies
import Derived.KernelRfl
namespace Go.Proofs.Ytonblcbdmblpbab
/- THE CELL 'sum', in the pinned program and in every row, IS THE sha256 OF THE DUMP (.gsa) THAT YtonblcbdmblpbabProg.lean LOADS. Nothing in Lean hashes anything: it is a label: what it is worth is what the hold of that sum in a sandbox is worth. -/
noncomputable def Try.pinned : Pinned := { name := "ytonblcbdmblpbab", sum := "fdd1262d7292baa8a56e0a1c64ca052120ab70cfcea701f794e0c2d0e212a9bd", checked := Try.checked }
namespace Rows
def none {H : Type} : Left H := { results := [], args := [] }

/-- 'laws.FnExactValidLosses': WHATEVER THE INPUT: true; the input reads as it did. -/
def fnExactValidLossesSpec : ChangeSpec := { name := "fnExactValidLosses", fn := fun _ => fun
  | [d] => { results := [.lit (.bool true)], args := [d] }
  | _ => none }
def fnExactValidLossesRow : OpenClaim := { program := "ytonblcbdmblpbab", sum := "fdd1262d7292baa8a56e0a1c64ca052120ab70cfcea701f794e0c2d0e212a9bd", func := "loop.example/g01099/laws.FnExactValidLosses", spec := "fnExactValidLosses", unfollowed := true, recurses := true, leaving := true, apart := false }
def FnExactValidLossesSaid : Prop := fnExactValidLossesRow.holds Try.pinned (OpenSpec.ofChange fnExactValidLossesSpec)

/-- ITS FALSE NEIGHBOUR: 'it returns false'. Refute it at one input. -/
def fnExactValidLossesWrong : ChangeSpec := { name := "fnExactValidLosses", fn := fun _ => fun
  | [d] => { results := [.lit (.bool false)], args := [d] }
  | _ => none }
def FnExactValidLossesWrongFalsely : Prop := fnExactValidLossesRow.holds Try.pinned (OpenSpec.ofChange fnExactValidLossesWrong)

/-- 'laws.FnExactLossesOf': WHATEVER THE INPUT: true; the input reads as it did. -/
def fnExactLossesOfSpec : ChangeSpec := { name := "fnExactLossesOf", fn := fun _ => fun
  | [d1, d2] => { results := [.lit (.bool true)], args := [d1, d2] }
  | _ => none }
def fnExactLossesOfRow : OpenClaim := { program := "ytonblcbdmblpbab", sum := "fdd1262d7292baa8a56e0a1c64ca052120ab70cfcea701f794e0c2d0e212a9bd", func := "loop.example/g01099/laws.FnExactLossesOf", spec := "fnExactLossesOf", unfollowed := true, recurses := true, leaving := true, apart := false }
def FnExactLossesOfSaid : Prop := fnExactLossesOfRow.holds Try.pinned (OpenSpec.ofChange fnExactLossesOfSpec)

/-- ITS FALSE NEIGHBOUR: 'it returns false'. Refute it at one input. -/
def fnExactLossesOfWrong : ChangeSpec := { name := "fnExactLossesOf", fn := fun _ => fun
  | [d1, d2] => { results := [.lit (.bool false)], args := [d1, d2] }
  | _ => none }
def FnExactLossesOfWrongFalsely : Prop := fnExactLossesOfRow.holds Try.pinned (OpenSpec.ofChange fnExactLossesOfWrong)

/-- 'laws.FnExactTroughOf': WHATEVER THE INPUT: true; the input reads as it did. -/
def fnExactTroughOfSpec : ChangeSpec := { name := "fnExactTroughOf", fn := fun _ => fun
  | [d1, d2] => { results := [.lit (.bool true)], args := [d1, d2] }
  | _ => none }
def fnExactTroughOfRow : OpenClaim := { program := "ytonblcbdmblpbab", sum := "fdd1262d7292baa8a56e0a1c64ca052120ab70cfcea701f794e0c2d0e212a9bd", func := "loop.example/g01099/laws.FnExactTroughOf", spec := "fnExactTroughOf", unfollowed := true, recurses := true, leaving := true, apart := false }
def FnExactTroughOfSaid : Prop := fnExactTroughOfRow.holds Try.pinned (OpenSpec.ofChange fnExactTroughOfSpec)

/-- ITS FALSE NEIGHBOUR: 'it returns false'. Refute it at one input. -/
def fnExactTroughOfWrong : ChangeSpec := { name := "fnExactTroughOf", fn := fun _ => fun
  | [d1, d2] => { results := [.lit (.bool false)], args := [d1, d2] }
  | _ => none }
def FnExactTroughOfWrongFalsely : Prop := fnExactTroughOfRow.holds Try.pinned (OpenSpec.ofChange fnExactTroughOfWrong)

/-- 'laws.FnExactSettlementsOf': WHATEVER THE INPUT: true; the input reads as it did. -/
def fnExactSettlementsOfSpec : ChangeSpec := { name := "fnExactSettlementsOf", fn := fun _ => fun
  | [d] => { results := [.lit (.bool true)], args := [d] }
  | _ => none }
def fnExactSettlementsOfRow : OpenClaim := { program := "ytonblcbdmblpbab", sum := "fdd1262d7292baa8a56e0a1c64ca052120ab70cfcea701f794e0c2d0e212a9bd", func := "loop.example/g01099/laws.FnExactSettlementsOf", spec := "fnExactSettlementsOf", unfollowed := true, recurses := true, leaving := true, apart := false }
def FnExactSettlementsOfSaid : Prop := fnExactSettlementsOfRow.holds Try.pinned (OpenSpec.ofChange fnExactSettlementsOfSpec)

/-- ITS FALSE NEIGHBOUR: 'it returns false'. Refute it at one input. -/
def fnExactSettlementsOfWrong : ChangeSpec := { name := "fnExactSettlementsOf", fn := fun _ => fun
  | [d] => { results := [.lit (.bool false)], args := [d] }
  | _ => none }
def FnExactSettlementsOfWrongFalsely : Prop := fnExactSettlementsOfRow.holds Try.pinned (OpenSpec.ofChange fnExactSettlementsOfWrong)

/-- 'laws.FnExactVolumeOf': WHATEVER THE INPUT: true; the input reads as it did. -/
def fnExactVolumeOfSpec : ChangeSpec := { name := "fnExactVolumeOf", fn := fun _ => fun
  | [d] => { results := [.lit (.bool true)], args := [d] }
  | _ => none }
def fnExactVolumeOfRow : OpenClaim := { program := "ytonblcbdmblpbab", sum := "fdd1262d7292baa8a56e0a1c64ca052120ab70cfcea701f794e0c2d0e212a9bd", func := "loop.example/g01099/laws.FnExactVolumeOf", spec := "fnExactVolumeOf", unfollowed := true, recurses := true, leaving := true, apart := false }
def FnExactVolumeOfSaid : Prop := fnExactVolumeOfRow.holds Try.pinned (OpenSpec.ofChange fnExactVolumeOfSpec)

/-- ITS FALSE NEIGHBOUR: 'it returns false'. Refute it at one input. -/
def fnExactVolumeOfWrong : ChangeSpec := { name := "fnExactVolumeOf", fn := fun _ => fun
  | [d] => { results := [.lit (.bool false)], args := [d] }
  | _ => none }
def FnExactVolumeOfWrongFalsely : Prop := fnExactVolumeOfRow.holds Try.pinned (OpenSpec.ofChange fnExactVolumeOfWrong)

/-- 'laws.FnExactLevelsOf': WHATEVER THE INPUT: true; the input reads as it did. -/
def fnExactLevelsOfSpec : ChangeSpec := { name := "fnExactLevelsOf", fn := fun _ => fun
  | [d1, d2, d3] => { results := [.lit (.bool true)], args := [d1, d2, d3] }
  | _ => none }
def fnExactLevelsOfRow : OpenClaim := { program := "ytonblcbdmblpbab", sum := "fdd1262d7292baa8a56e0a1c64ca052120ab70cfcea701f794e0c2d0e212a9bd", func := "loop.example/g01099/laws.FnExactLevelsOf", spec := "fnExactLevelsOf", unfollowed := true, recurses := true, leaving := true, apart := false }
def FnExactLevelsOfSaid : Prop := fnExactLevelsOfRow.holds Try.pinned (OpenSpec.ofChange fnExactLevelsOfSpec)

/-- ITS FALSE NEIGHBOUR: 'it returns false'. Refute it at one input. -/
def fnExactLevelsOfWrong : ChangeSpec := { name := "fnExactLevelsOf", fn := fun _ => fun
  | [d1, d2, d3] => { results := [.lit (.bool false)], args := [d1, d2, d3] }
  | _ => none }
def FnExactLevelsOfWrongFalsely : Prop := fnExactLevelsOfRow.holds Try.pinned (OpenSpec.ofChange fnExactLevelsOfWrong)

/-- 'laws.FnExactStretchesAt': WHATEVER THE INPUT: true; the input reads as it did. -/
def fnExactStretchesAtSpec : ChangeSpec := { name := "fnExactStretchesAt", fn := fun _ => fun
  | [d1, d2] => { results := [.lit (.bool true)], args := [d1, d2] }
  | _ => none }
def fnExactStretchesAtRow : OpenClaim := { program := "ytonblcbdmblpbab", sum := "fdd1262d7292baa8a56e0a1c64ca052120ab70cfcea701f794e0c2d0e212a9bd", func := "loop.example/g01099/laws.FnExactStretchesAt", spec := "fnExactStretchesAt", unfollowed := true, recurses := true, leaving := true, apart := false }
def FnExactStretchesAtSaid : Prop := fnExactStretchesAtRow.holds Try.pinned (OpenSpec.ofChange fnExactStretchesAtSpec)

/-- ITS FALSE NEIGHBOUR: 'it returns false'. Refute it at one input. -/
def fnExactStretchesAtWrong : ChangeSpec := { name := "fnExactStretchesAt", fn := fun _ => fun
  | [d1, d2] => { results := [.lit (.bool false)], args := [d1, d2] }
  | _ => none }
def FnExactStretchesAtWrongFalsely : Prop := fnExactStretchesAtRow.holds Try.pinned (OpenSpec.ofChange fnExactStretchesAtWrong)

/-- 'laws.FnExactSteepestOf': WHATEVER THE INPUT: true; the input reads as it did. -/
def fnExactSteepestOfSpec : ChangeSpec := { name := "fnExactSteepestOf", fn := fun _ => fun
  | [d] => { results := [.lit (.bool true)], args := [d] }
  | _ => none }
def fnExactSteepestOfRow : OpenClaim := { program := "ytonblcbdmblpbab", sum := "fdd1262d7292baa8a56e0a1c64ca052120ab70cfcea701f794e0c2d0e212a9bd", func := "loop.example/g01099/laws.FnExactSteepestOf", spec := "fnExactSteepestOf", unfollowed := true, recurses := true, leaving := true, apart := false }
def FnExactSteepestOfSaid : Prop := fnExactSteepestOfRow.holds Try.pinned (OpenSpec.ofChange fnExactSteepestOfSpec)

/-- ITS FALSE NEIGHBOUR: 'it returns false'. Refute it at one input. -/
def fnExactSteepestOfWrong : ChangeSpec := { name := "fnExactSteepestOf", fn := fun _ => fun
  | [d] => { results := [.lit (.bool false)], args := [d] }
  | _ => none }
def FnExactSteepestOfWrongFalsely : Prop := fnExactSteepestOfRow.holds Try.pinned (OpenSpec.ofChange fnExactSteepestOfWrong)

/- THE SECOND FORM. 'bulk': how many values and letters a reading holds, each counted each time it is reached (what is shared counts as often as it is met; a slice's spare places count too). A statement '..UptoSaid' is the law's where the arguments, and the package variables that the reading takes, are together of bulk at most 1048576: NARROWER than '..Said'. Prove '..Said' where nothing that the law and all that it calls make is longer than what came in: it says more and counts as full. Else prove '..UptoSaid'. A law counts once. -/
mutual
def uptoBulk {H : Type} : DataW H → Nat
  | .lit (.string bytes) => bytes.length + 1
  | .lit _ => 1
  | .nil => 1
  | .ptr d => uptoBulk d + 1
  | .slice elems spare => uptoBulkAll elems + uptoBulkAll spare + 1
  | .agg parts => uptoBulkAll parts + 1
  | .iface _ d => uptoBulk d + 1
  | .map entries => uptoBulkEntries entries + 1
  | .held _ => 1
def uptoBulkAll {H : Type} : List (DataW H) → Nat
  | [] => 0
  | d :: r => uptoBulk d + uptoBulkAll r
def uptoBulkEntries {H : Type} : List (Lit × DataW H) → Nat
  | [] => 0
  | x :: r => uptoBulkEntry x + uptoBulkEntries r
def uptoBulkEntry {H : Type} : Lit × DataW H → Nat
  | (.string bytes, d) => bytes.length + uptoBulk d + 1
  | (_, d) => uptoBulk d + 1
 end
def uptoSmall : (H : Type) → List (DataW H) → Bool := fun _ ds => decide (uptoBulkAll ds ≤ 1048576)
def OpenSpec.upto (s : _root_.Go.ChangeSpec) : _root_.Go.OpenSpec := { _root_.Go.OpenSpec.ofChange s with cond := some uptoSmall }

/-- 'laws.FnExactValidLosses', WHERE WHAT IT READS IS OF BULK AT MOST 1048576: true; the input reads as it did. -/
def fnExactValidLossesUptoRow : OpenClaim := { program := "ytonblcbdmblpbab", sum := "fdd1262d7292baa8a56e0a1c64ca052120ab70cfcea701f794e0c2d0e212a9bd", func := "loop.example/g01099/laws.FnExactValidLosses", spec := "fnExactValidLosses", unfollowed := true, recurses := true, leaving := true, apart := false, narrowed := true }
def FnExactValidLossesUptoSaid : Prop := fnExactValidLossesUptoRow.holds Try.pinned (OpenSpec.upto fnExactValidLossesSpec)

/-- 'laws.FnExactLossesOf', WHERE WHAT IT READS IS OF BULK AT MOST 1048576: true; the input reads as it did. -/
def fnExactLossesOfUptoRow : OpenClaim := { program := "ytonblcbdmblpbab", sum := "fdd1262d7292baa8a56e0a1c64ca052120ab70cfcea701f794e0c2d0e212a9bd", func := "loop.example/g01099/laws.FnExactLossesOf", spec := "fnExactLossesOf", unfollowed := true, recurses := true, leaving := true, apart := false, narrowed := true }
def FnExactLossesOfUptoSaid : Prop := fnExactLossesOfUptoRow.holds Try.pinned (OpenSpec.upto fnExactLossesOfSpec)

/-- 'laws.FnExactTroughOf', WHERE WHAT IT READS IS OF BULK AT MOST 1048576: true; the input reads as it did. -/
def fnExactTroughOfUptoRow : OpenClaim := { program := "ytonblcbdmblpbab", sum := "fdd1262d7292baa8a56e0a1c64ca052120ab70cfcea701f794e0c2d0e212a9bd", func := "loop.example/g01099/laws.FnExactTroughOf", spec := "fnExactTroughOf", unfollowed := true, recurses := true, leaving := true, apart := false, narrowed := true }
def FnExactTroughOfUptoSaid : Prop := fnExactTroughOfUptoRow.holds Try.pinned (OpenSpec.upto fnExactTroughOfSpec)

/-- 'laws.FnExactSettlementsOf', WHERE WHAT IT READS IS OF BULK AT MOST 1048576: true; the input reads as it did. -/
def fnExactSettlementsOfUptoRow : OpenClaim := { program := "ytonblcbdmblpbab", sum := "fdd1262d7292baa8a56e0a1c64ca052120ab70cfcea701f794e0c2d0e212a9bd", func := "loop.example/g01099/laws.FnExactSettlementsOf", spec := "fnExactSettlementsOf", unfollowed := true, recurses := true, leaving := true, apart := false, narrowed := true }
def FnExactSettlementsOfUptoSaid : Prop := fnExactSettlementsOfUptoRow.holds Try.pinned (OpenSpec.upto fnExactSettlementsOfSpec)

/-- 'laws.FnExactVolumeOf', WHERE WHAT IT READS IS OF BULK AT MOST 1048576: true; the input reads as it did. -/
def fnExactVolumeOfUptoRow : OpenClaim := { program := "ytonblcbdmblpbab", sum := "fdd1262d7292baa8a56e0a1c64ca052120ab70cfcea701f794e0c2d0e212a9bd", func := "loop.example/g01099/laws.FnExactVolumeOf", spec := "fnExactVolumeOf", unfollowed := true, recurses := true, leaving := true, apart := false, narrowed := true }
def FnExactVolumeOfUptoSaid : Prop := fnExactVolumeOfUptoRow.holds Try.pinned (OpenSpec.upto fnExactVolumeOfSpec)

/-- 'laws.FnExactLevelsOf', WHERE WHAT IT READS IS OF BULK AT MOST 1048576: true; the input reads as it did. -/
def fnExactLevelsOfUptoRow : OpenClaim := { program := "ytonblcbdmblpbab", sum := "fdd1262d7292baa8a56e0a1c64ca052120ab70cfcea701f794e0c2d0e212a9bd", func := "loop.example/g01099/laws.FnExactLevelsOf", spec := "fnExactLevelsOf", unfollowed := true, recurses := true, leaving := true, apart := false, narrowed := true }
def FnExactLevelsOfUptoSaid : Prop := fnExactLevelsOfUptoRow.holds Try.pinned (OpenSpec.upto fnExactLevelsOfSpec)

/-- 'laws.FnExactStretchesAt', WHERE WHAT IT READS IS OF BULK AT MOST 1048576: true; the input reads as it did. -/
def fnExactStretchesAtUptoRow : OpenClaim := { program := "ytonblcbdmblpbab", sum := "fdd1262d7292baa8a56e0a1c64ca052120ab70cfcea701f794e0c2d0e212a9bd", func := "loop.example/g01099/laws.FnExactStretchesAt", spec := "fnExactStretchesAt", unfollowed := true, recurses := true, leaving := true, apart := false, narrowed := true }
def FnExactStretchesAtUptoSaid : Prop := fnExactStretchesAtUptoRow.holds Try.pinned (OpenSpec.upto fnExactStretchesAtSpec)

/-- 'laws.FnExactSteepestOf', WHERE WHAT IT READS IS OF BULK AT MOST 1048576: true; the input reads as it did. -/
def fnExactSteepestOfUptoRow : OpenClaim := { program := "ytonblcbdmblpbab", sum := "fdd1262d7292baa8a56e0a1c64ca052120ab70cfcea701f794e0c2d0e212a9bd", func := "loop.example/g01099/laws.FnExactSteepestOf", spec := "fnExactSteepestOf", unfollowed := true, recurses := true, leaving := true, apart := false, narrowed := true }
def FnExactSteepestOfUptoSaid : Prop := fnExactSteepestOfUptoRow.holds Try.pinned (OpenSpec.upto fnExactSteepestOfSpec)

end Rows
end Go.Proofs.Ytonblcbdmblpbab
