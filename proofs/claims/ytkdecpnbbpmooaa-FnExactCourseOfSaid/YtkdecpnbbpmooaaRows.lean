/-
  No cell of these rows narrows 'for every input' (looked for: loops, veiled, ifaces, maps, wideKeys, modest, calm, conditions, laid).
  DERIVED. THE GIVEN ROWS OF THIS SEAT. 9 by the template 'for every input the law returns true; each argument reads behind the call as it read before'; 0 by the template 'total and deterministic' (their statements: YtkdecpnbbpmooaaTotals.lean).
  GIVEN WITH THE SEED: the statements are not yours to turn. If you find one false, say at which input.
  Laid BY PROGRAM, IN A SANDBOX (cutbox-rows.mjs): the forced cells as the released guide's own fill.sh prints them over the translation 6be798abbf04d3d0… (all of the seat's roots in one cut). By AI agents, Wed Nov 11 2026. No macro, syntax, notation, axiom, sorry.
-/
import Derived.Test.YtkdecpnbbpmooaaChecked
import GoSem.Claim
import GoSem.ClaimJoined
import GoSem.ClaimMapViews
import Derived.JoinedTies
import Derived.KernelRfl
namespace Go.Proofs.Ytkdecpnbbpmooaa
/- THE CELL 'sum', in the pinned program and in every row, IS THE sha256 OF THE DUMP (.gsa) THAT YtkdecpnbbpmooaaProg.lean LOADS. Nothing in Lean hashes anything: it is a label: what it is worth is what the hold of that sum in a sandbox is worth. -/
noncomputable def Try.pinned : Pinned := { name := "ytkdecpnbbpmooaa", sum := "6be798abbf04d3d0b259fa603cf293056e34bdddcc0aadf423c472d6e079a70d", checked := Try.checked }
namespace Rows
def none {H : Type} : Left H := { results := [], args := [] }

/-- 'laws.FnExactValidLimits': WHATEVER THE INPUT: true; the input reads as it did. -/
def fnExactValidLimitsSpec : ChangeSpec := { name := "fnExactValidLimits", fn := fun _ => fun
  | [d] => { results := [.lit (.bool true)], args := [d] }
  | _ => none }
def fnExactValidLimitsRow : OpenClaim := { program := "ytkdecpnbbpmooaa", sum := "6be798abbf04d3d0b259fa603cf293056e34bdddcc0aadf423c472d6e079a70d", func := "loop.example/g01099/laws.FnExactValidLimits", spec := "fnExactValidLimits", apart := false }
def FnExactValidLimitsSaid : Prop := fnExactValidLimitsRow.holds Try.pinned (OpenSpec.ofChange fnExactValidLimitsSpec)

/-- ITS FALSE NEIGHBOUR: 'it returns false'. Refute it at one input. -/
def fnExactValidLimitsWrong : ChangeSpec := { name := "fnExactValidLimits", fn := fun _ => fun
  | [d] => { results := [.lit (.bool false)], args := [d] }
  | _ => none }
def FnExactValidLimitsWrongFalsely : Prop := fnExactValidLimitsRow.holds Try.pinned (OpenSpec.ofChange fnExactValidLimitsWrong)

/-- 'laws.FnExactValidCourse': WHATEVER THE INPUT: true; the input reads as it did. -/
def fnExactValidCourseSpec : ChangeSpec := { name := "fnExactValidCourse", fn := fun _ => fun
  | [d1, d2] => { results := [.lit (.bool true)], args := [d1, d2] }
  | _ => none }
def fnExactValidCourseRow : OpenClaim := { program := "ytkdecpnbbpmooaa", sum := "6be798abbf04d3d0b259fa603cf293056e34bdddcc0aadf423c472d6e079a70d", func := "loop.example/g01099/laws.FnExactValidCourse", spec := "fnExactValidCourse", apart := false }
def FnExactValidCourseSaid : Prop := fnExactValidCourseRow.holds Try.pinned (OpenSpec.ofChange fnExactValidCourseSpec)

/-- ITS FALSE NEIGHBOUR: 'it returns false'. Refute it at one input. -/
def fnExactValidCourseWrong : ChangeSpec := { name := "fnExactValidCourse", fn := fun _ => fun
  | [d1, d2] => { results := [.lit (.bool false)], args := [d1, d2] }
  | _ => none }
def FnExactValidCourseWrongFalsely : Prop := fnExactValidCourseRow.holds Try.pinned (OpenSpec.ofChange fnExactValidCourseWrong)

/-- 'laws.FnExactNextCourse': WHATEVER THE INPUT: true; the input reads as it did. -/
def fnExactNextCourseSpec : ChangeSpec := { name := "fnExactNextCourse", fn := fun _ => fun
  | [d1, d2, d3] => { results := [.lit (.bool true)], args := [d1, d2, d3] }
  | _ => none }
def fnExactNextCourseRow : OpenClaim := { program := "ytkdecpnbbpmooaa", sum := "6be798abbf04d3d0b259fa603cf293056e34bdddcc0aadf423c472d6e079a70d", func := "loop.example/g01099/laws.FnExactNextCourse", spec := "fnExactNextCourse", apart := false }
def FnExactNextCourseSaid : Prop := fnExactNextCourseRow.holds Try.pinned (OpenSpec.ofChange fnExactNextCourseSpec)

/-- ITS FALSE NEIGHBOUR: 'it returns false'. Refute it at one input. -/
def fnExactNextCourseWrong : ChangeSpec := { name := "fnExactNextCourse", fn := fun _ => fun
  | [d1, d2, d3] => { results := [.lit (.bool false)], args := [d1, d2, d3] }
  | _ => none }
def FnExactNextCourseWrongFalsely : Prop := fnExactNextCourseRow.holds Try.pinned (OpenSpec.ofChange fnExactNextCourseWrong)

/-- 'laws.FnExactTurnsFrom': WHATEVER THE INPUT: true; the input reads as it did. -/
def fnExactTurnsFromSpec : ChangeSpec := { name := "fnExactTurnsFrom", fn := fun _ => fun
  | [d1, d2] => { results := [.lit (.bool true)], args := [d1, d2] }
  | _ => none }
def fnExactTurnsFromRow : OpenClaim := { program := "ytkdecpnbbpmooaa", sum := "6be798abbf04d3d0b259fa603cf293056e34bdddcc0aadf423c472d6e079a70d", func := "loop.example/g01099/laws.FnExactTurnsFrom", spec := "fnExactTurnsFrom", apart := false }
def FnExactTurnsFromSaid : Prop := fnExactTurnsFromRow.holds Try.pinned (OpenSpec.ofChange fnExactTurnsFromSpec)

/-- ITS FALSE NEIGHBOUR: 'it returns false'. Refute it at one input. -/
def fnExactTurnsFromWrong : ChangeSpec := { name := "fnExactTurnsFrom", fn := fun _ => fun
  | [d1, d2] => { results := [.lit (.bool false)], args := [d1, d2] }
  | _ => none }
def FnExactTurnsFromWrongFalsely : Prop := fnExactTurnsFromRow.holds Try.pinned (OpenSpec.ofChange fnExactTurnsFromWrong)

/-- 'laws.FnExactRunCourse': WHATEVER THE INPUT: true; the input reads as it did. -/
def fnExactRunCourseSpec : ChangeSpec := { name := "fnExactRunCourse", fn := fun _ => fun
  | [d1, d2, d3] => { results := [.lit (.bool true)], args := [d1, d2, d3] }
  | _ => none }
def fnExactRunCourseRow : OpenClaim := { program := "ytkdecpnbbpmooaa", sum := "6be798abbf04d3d0b259fa603cf293056e34bdddcc0aadf423c472d6e079a70d", func := "loop.example/g01099/laws.FnExactRunCourse", spec := "fnExactRunCourse", apart := false }
def FnExactRunCourseSaid : Prop := fnExactRunCourseRow.holds Try.pinned (OpenSpec.ofChange fnExactRunCourseSpec)

/-- ITS FALSE NEIGHBOUR: 'it returns false'. Refute it at one input. -/
def fnExactRunCourseWrong : ChangeSpec := { name := "fnExactRunCourse", fn := fun _ => fun
  | [d1, d2, d3] => { results := [.lit (.bool false)], args := [d1, d2, d3] }
  | _ => none }
def FnExactRunCourseWrongFalsely : Prop := fnExactRunCourseRow.holds Try.pinned (OpenSpec.ofChange fnExactRunCourseWrong)

/-- 'laws.FnExactMirrorCourse': WHATEVER THE INPUT: true; the input reads as it did. -/
def fnExactMirrorCourseSpec : ChangeSpec := { name := "fnExactMirrorCourse", fn := fun _ => fun
  | [d] => { results := [.lit (.bool true)], args := [d] }
  | _ => none }
def fnExactMirrorCourseRow : OpenClaim := { program := "ytkdecpnbbpmooaa", sum := "6be798abbf04d3d0b259fa603cf293056e34bdddcc0aadf423c472d6e079a70d", func := "loop.example/g01099/laws.FnExactMirrorCourse", spec := "fnExactMirrorCourse", unfollowed := true, recurses := true, apart := false }
def FnExactMirrorCourseSaid : Prop := fnExactMirrorCourseRow.holds Try.pinned (OpenSpec.ofChange fnExactMirrorCourseSpec)

/-- ITS FALSE NEIGHBOUR: 'it returns false'. Refute it at one input. -/
def fnExactMirrorCourseWrong : ChangeSpec := { name := "fnExactMirrorCourse", fn := fun _ => fun
  | [d] => { results := [.lit (.bool false)], args := [d] }
  | _ => none }
def FnExactMirrorCourseWrongFalsely : Prop := fnExactMirrorCourseRow.holds Try.pinned (OpenSpec.ofChange fnExactMirrorCourseWrong)

/-- 'laws.FnExactCourseOf': WHATEVER THE INPUT: true; the input reads as it did. -/
def fnExactCourseOfSpec : ChangeSpec := { name := "fnExactCourseOf", fn := fun _ => fun
  | [d1, d2] => { results := [.lit (.bool true)], args := [d1, d2] }
  | _ => none }
def fnExactCourseOfRow : OpenClaim := { program := "ytkdecpnbbpmooaa", sum := "6be798abbf04d3d0b259fa603cf293056e34bdddcc0aadf423c472d6e079a70d", func := "loop.example/g01099/laws.FnExactCourseOf", spec := "fnExactCourseOf", apart := false }
def FnExactCourseOfSaid : Prop := fnExactCourseOfRow.holds Try.pinned (OpenSpec.ofChange fnExactCourseOfSpec)

/-- ITS FALSE NEIGHBOUR: 'it returns false'. Refute it at one input. -/
def fnExactCourseOfWrong : ChangeSpec := { name := "fnExactCourseOf", fn := fun _ => fun
  | [d1, d2] => { results := [.lit (.bool false)], args := [d1, d2] }
  | _ => none }
def FnExactCourseOfWrongFalsely : Prop := fnExactCourseOfRow.holds Try.pinned (OpenSpec.ofChange fnExactCourseOfWrong)

/-- 'laws.FnGaps': WHATEVER THE INPUT: true; the input reads as it did. -/
def fnGapsSpec : ChangeSpec := { name := "fnGaps", fn := fun _ => fun
  | [d1, d2] => { results := [.lit (.bool true)], args := [d1, d2] }
  | _ => none }
def fnGapsRow : OpenClaim := { program := "ytkdecpnbbpmooaa", sum := "6be798abbf04d3d0b259fa603cf293056e34bdddcc0aadf423c472d6e079a70d", func := "loop.example/g01099/laws.FnGaps", spec := "fnGaps", apart := false }
def FnGapsSaid : Prop := fnGapsRow.holds Try.pinned (OpenSpec.ofChange fnGapsSpec)

/-- ITS FALSE NEIGHBOUR: 'it returns false'. Refute it at one input. -/
def fnGapsWrong : ChangeSpec := { name := "fnGaps", fn := fun _ => fun
  | [d1, d2] => { results := [.lit (.bool false)], args := [d1, d2] }
  | _ => none }
def FnGapsWrongFalsely : Prop := fnGapsRow.holds Try.pinned (OpenSpec.ofChange fnGapsWrong)

/-- 'laws.FnExactMachineFrom': WHATEVER THE INPUT: true; the input reads as it did. -/
def fnExactMachineFromSpec : ChangeSpec := { name := "fnExactMachineFrom", fn := fun _ => fun
  | [d1, d2, d3] => { results := [.lit (.bool true)], args := [d1, d2, d3] }
  | _ => none }
def fnExactMachineFromRow : OpenClaim := { program := "ytkdecpnbbpmooaa", sum := "6be798abbf04d3d0b259fa603cf293056e34bdddcc0aadf423c472d6e079a70d", func := "loop.example/g01099/laws.FnExactMachineFrom", spec := "fnExactMachineFrom", apart := false }
def FnExactMachineFromSaid : Prop := fnExactMachineFromRow.holds Try.pinned (OpenSpec.ofChange fnExactMachineFromSpec)

/-- ITS FALSE NEIGHBOUR: 'it returns false'. Refute it at one input. -/
def fnExactMachineFromWrong : ChangeSpec := { name := "fnExactMachineFrom", fn := fun _ => fun
  | [d1, d2, d3] => { results := [.lit (.bool false)], args := [d1, d2, d3] }
  | _ => none }
def FnExactMachineFromWrongFalsely : Prop := fnExactMachineFromRow.holds Try.pinned (OpenSpec.ofChange fnExactMachineFromWrong)

/- THE SECOND FORM. 'bulk': how many values and letters a reading holds, each counted each time it is reached (what is shared counts as often as it is met; a slice's spare places count too). A statement '..UptoSaid' is the law's where the arguments, and the package variables that the reading takes, are together of bulk at most 1048576: NARROWER than '..Said'. Prove '..Said' where nothing that the law and all that it calls make is longer than what came in: it says more and counts as full. Else prove '..UptoSaid'. A law counts once. -/
mutual
def uptoBulk {H : Type} : DataW H → Nat
  | .lit (.string bytes) => bytes.length + 1
  | .lit _ => 1
  | .nil => 1
  | .ptr d => uptoBulk d + 1
  | .slice elems spare => uptoBulkAll elems + uptoBulkAll spare + 1
  | .agg parts => uptoBulkAll parts + 1
  | .iface _ d => uptoBulk d + 1
  | .map entries => uptoBulkEntries entries + 1
  | .held _ => 1
def uptoBulkAll {H : Type} : List (DataW H) → Nat
  | [] => 0
  | d :: r => uptoBulk d + uptoBulkAll r
def uptoBulkEntries {H : Type} : List (Lit × DataW H) → Nat
  | [] => 0
  | x :: r => uptoBulkEntry x + uptoBulkEntries r
def uptoBulkEntry {H : Type} : Lit × DataW H → Nat
  | (.string bytes, d) => bytes.length + uptoBulk d + 1
  | (_, d) => uptoBulk d + 1
 end
def uptoSmall : (H : Type) → List (DataW H) → Bool := fun _ ds => decide (uptoBulkAll ds ≤ 1048576)
def OpenSpec.upto (s : _root_.Go.ChangeSpec) : _root_.Go.OpenSpec := { _root_.Go.OpenSpec.ofChange s with cond := some uptoSmall }

/-- 'laws.FnExactValidLimits', WHERE WHAT IT READS IS OF BULK AT MOST 1048576: true; the input reads as it did. -/
def fnExactValidLimitsUptoRow : OpenClaim := { program := "ytkdecpnbbpmooaa", sum := "6be798abbf04d3d0b259fa603cf293056e34bdddcc0aadf423c472d6e079a70d", func := "loop.example/g01099/laws.FnExactValidLimits", spec := "fnExactValidLimits", apart := false, narrowed := true }
def FnExactValidLimitsUptoSaid : Prop := fnExactValidLimitsUptoRow.holds Try.pinned (OpenSpec.upto fnExactValidLimitsSpec)

/-- 'laws.FnExactValidCourse', WHERE WHAT IT READS IS OF BULK AT MOST 1048576: true; the input reads as it did. -/
def fnExactValidCourseUptoRow : OpenClaim := { program := "ytkdecpnbbpmooaa", sum := "6be798abbf04d3d0b259fa603cf293056e34bdddcc0aadf423c472d6e079a70d", func := "loop.example/g01099/laws.FnExactValidCourse", spec := "fnExactValidCourse", apart := false, narrowed := true }
def FnExactValidCourseUptoSaid : Prop := fnExactValidCourseUptoRow.holds Try.pinned (OpenSpec.upto fnExactValidCourseSpec)

/-- 'laws.FnExactNextCourse', WHERE WHAT IT READS IS OF BULK AT MOST 1048576: true; the input reads as it did. -/
def fnExactNextCourseUptoRow : OpenClaim := { program := "ytkdecpnbbpmooaa", sum := "6be798abbf04d3d0b259fa603cf293056e34bdddcc0aadf423c472d6e079a70d", func := "loop.example/g01099/laws.FnExactNextCourse", spec := "fnExactNextCourse", apart := false, narrowed := true }
def FnExactNextCourseUptoSaid : Prop := fnExactNextCourseUptoRow.holds Try.pinned (OpenSpec.upto fnExactNextCourseSpec)

/-- 'laws.FnExactTurnsFrom', WHERE WHAT IT READS IS OF BULK AT MOST 1048576: true; the input reads as it did. -/
def fnExactTurnsFromUptoRow : OpenClaim := { program := "ytkdecpnbbpmooaa", sum := "6be798abbf04d3d0b259fa603cf293056e34bdddcc0aadf423c472d6e079a70d", func := "loop.example/g01099/laws.FnExactTurnsFrom", spec := "fnExactTurnsFrom", apart := false, narrowed := true }
def FnExactTurnsFromUptoSaid : Prop := fnExactTurnsFromUptoRow.holds Try.pinned (OpenSpec.upto fnExactTurnsFromSpec)

/-- 'laws.FnExactRunCourse', WHERE WHAT IT READS IS OF BULK AT MOST 1048576: true; the input reads as it did. -/
def fnExactRunCourseUptoRow : OpenClaim := { program := "ytkdecpnbbpmooaa", sum := "6be798abbf04d3d0b259fa603cf293056e34bdddcc0aadf423c472d6e079a70d", func := "loop.example/g01099/laws.FnExactRunCourse", spec := "fnExactRunCourse", apart := false, narrowed := true }
def FnExactRunCourseUptoSaid : Prop := fnExactRunCourseUptoRow.holds Try.pinned (OpenSpec.upto fnExactRunCourseSpec)

/-- 'laws.FnExactMirrorCourse', WHERE WHAT IT READS IS OF BULK AT MOST 1048576: true; the input reads as it did. -/
def fnExactMirrorCourseUptoRow : OpenClaim := { program := "ytkdecpnbbpmooaa", sum := "6be798abbf04d3d0b259fa603cf293056e34bdddcc0aadf423c472d6e079a70d", func := "loop.example/g01099/laws.FnExactMirrorCourse", spec := "fnExactMirrorCourse", unfollowed := true, recurses := true, apart := false, narrowed := true }
def FnExactMirrorCourseUptoSaid : Prop := fnExactMirrorCourseUptoRow.holds Try.pinned (OpenSpec.upto fnExactMirrorCourseSpec)

/-- 'laws.FnExactCourseOf', WHERE WHAT IT READS IS OF BULK AT MOST 1048576: true; the input reads as it did. -/
def fnExactCourseOfUptoRow : OpenClaim := { program := "ytkdecpnbbpmooaa", sum := "6be798abbf04d3d0b259fa603cf293056e34bdddcc0aadf423c472d6e079a70d", func := "loop.example/g01099/laws.FnExactCourseOf", spec := "fnExactCourseOf", apart := false, narrowed := true }
def FnExactCourseOfUptoSaid : Prop := fnExactCourseOfUptoRow.holds Try.pinned (OpenSpec.upto fnExactCourseOfSpec)

/-- 'laws.FnGaps', WHERE WHAT IT READS IS OF BULK AT MOST 1048576: true; the input reads as it did. -/
def fnGapsUptoRow : OpenClaim := { program := "ytkdecpnbbpmooaa", sum := "6be798abbf04d3d0b259fa603cf293056e34bdddcc0aadf423c472d6e079a70d", func := "loop.example/g01099/laws.FnGaps", spec := "fnGaps", apart := false, narrowed := true }
def FnGapsUptoSaid : Prop := fnGapsUptoRow.holds Try.pinned (OpenSpec.upto fnGapsSpec)

/-- 'laws.FnExactMachineFrom', WHERE WHAT IT READS IS OF BULK AT MOST 1048576: true; the input reads as it did. -/
def fnExactMachineFromUptoRow : OpenClaim := { program := "ytkdecpnbbpmooaa", sum := "6be798abbf04d3d0b259fa603cf293056e34bdddcc0aadf423c472d6e079a70d", func := "loop.example/g01099/laws.FnExactMachineFrom", spec := "fnExactMachineFrom", apart := false, narrowed := true }
def FnExactMachineFromUptoSaid : Prop := fnExactMachineFromUptoRow.holds Try.pinned (OpenSpec.upto fnExactMachineFromSpec)

end Rows
end Go.Proofs.Ytkdecpnbbpmooaa
