/-
  No cell of these rows narrows 'for every input' (looked for: loops, veiled, ifaces, maps, wideKeys, modest, calm, conditions, laid).
  DERIVED. THE GIVEN ROWS OF THIS SEAT. 7 by the template 'for every input the law returns true; each argument reads behind the call as it read before'; 0 by the template 'total and deterministic' (their statements: YtonblcbdmblpbaaTotals.lean).
  GIVEN WITH THE SEED: the statements are not yours to turn. If you find one false, say at which input.
  Laid BY PROGRAM, IN A SANDBOX (cutbox-rows.mjs): the forced cells as the released guide's own fill.sh prints them over the translation d6b5898cf1132ae6… (all of the seat's roots in one cut). By AI agents, Wed Nov 11 2026. No macro, syntax, notation, axiom, sorry.
-/
import Derived.Test.YtonblcbdmblpbaaChecked
import GoSem.Claim
import GoSem.ClaimJoined
import GoSem.ClaimMapViews
import Derived.JoinedTies
import Derived.KernelRfl
namespace Go.Proofs.Ytonblcbdmblpbaa
/- THE CELL 'sum', in the pinned program and in every row, IS THE sha256 OF THE DUMP (.gsa) THAT YtonblcbdmblpbaaProg.lean LOADS. Nothing in Lean hashes anything: it is a label: what it is worth is what the hold of that sum in a sandbox is worth. -/
noncomputable def Try.pinned : Pinned := { name := "ytonblcbdmblpbaa", sum := "d6b5898cf1132ae69bff8252c859aed05e7d679dd20c836033a05f85a85adb0a", checked := Try.checked }
namespace Rows
def none {H : Type} : Left H := { results := [], args := [] }

/-- 'laws.FnTrough': WHATEVER THE INPUT: true; the input reads as it did. -/
def fnTroughSpec : ChangeSpec := { name := "fnTrough", fn := fun _ => fun
  | [d1, d2] => { results := [.lit (.bool true)], args := [d1, d2] }
  | _ => none }
def fnTroughRow : OpenClaim := { program := "ytonblcbdmblpbaa", sum := "d6b5898cf1132ae69bff8252c859aed05e7d679dd20c836033a05f85a85adb0a", func := "loop.example/g01099/laws.FnTrough", spec := "fnTrough", unfollowed := true, recurses := true, plainKeys := false, leaving := true, apart := false }
def FnTroughSaid : Prop := fnTroughRow.holds Try.pinned (OpenSpec.ofChange fnTroughSpec)

/-- ITS FALSE NEIGHBOUR: 'it returns false'. Refute it at one input. -/
def fnTroughWrong : ChangeSpec := { name := "fnTrough", fn := fun _ => fun
  | [d1, d2] => { results := [.lit (.bool false)], args := [d1, d2] }
  | _ => none }
def FnTroughWrongFalsely : Prop := fnTroughRow.holds Try.pinned (OpenSpec.ofChange fnTroughWrong)

/-- 'laws.FnWatched': WHATEVER THE INPUT: true; the input reads as it did. -/
def fnWatchedSpec : ChangeSpec := { name := "fnWatched", fn := fun _ => fun
  | [d1, d2] => { results := [.lit (.bool true)], args := [d1, d2] }
  | _ => none }
def fnWatchedRow : OpenClaim := { program := "ytonblcbdmblpbaa", sum := "d6b5898cf1132ae69bff8252c859aed05e7d679dd20c836033a05f85a85adb0a", func := "loop.example/g01099/laws.FnWatched", spec := "fnWatched", unfollowed := true, recurses := true, plainKeys := false, leaving := true, apart := false }
def FnWatchedSaid : Prop := fnWatchedRow.holds Try.pinned (OpenSpec.ofChange fnWatchedSpec)

/-- ITS FALSE NEIGHBOUR: 'it returns false'. Refute it at one input. -/
def fnWatchedWrong : ChangeSpec := { name := "fnWatched", fn := fun _ => fun
  | [d1, d2] => { results := [.lit (.bool false)], args := [d1, d2] }
  | _ => none }
def FnWatchedWrongFalsely : Prop := fnWatchedRow.holds Try.pinned (OpenSpec.ofChange fnWatchedWrong)

/-- 'laws.FnLifted': WHATEVER THE INPUT: true; the input reads as it did. -/
def fnLiftedSpec : ChangeSpec := { name := "fnLifted", fn := fun _ => fun
  | [d1, d2] => { results := [.lit (.bool true)], args := [d1, d2] }
  | _ => none }
def fnLiftedRow : OpenClaim := { program := "ytonblcbdmblpbaa", sum := "d6b5898cf1132ae69bff8252c859aed05e7d679dd20c836033a05f85a85adb0a", func := "loop.example/g01099/laws.FnLifted", spec := "fnLifted", unfollowed := true, recurses := true, plainKeys := false, leaving := true, apart := false }
def FnLiftedSaid : Prop := fnLiftedRow.holds Try.pinned (OpenSpec.ofChange fnLiftedSpec)

/-- ITS FALSE NEIGHBOUR: 'it returns false'. Refute it at one input. -/
def fnLiftedWrong : ChangeSpec := { name := "fnLifted", fn := fun _ => fun
  | [d1, d2] => { results := [.lit (.bool false)], args := [d1, d2] }
  | _ => none }
def FnLiftedWrongFalsely : Prop := fnLiftedRow.holds Try.pinned (OpenSpec.ofChange fnLiftedWrong)

/-- 'laws.FnGrouted': WHATEVER THE INPUT: true; the input reads as it did. -/
def fnGroutedSpec : ChangeSpec := { name := "fnGrouted", fn := fun _ => fun
  | [d1, d2] => { results := [.lit (.bool true)], args := [d1, d2] }
  | _ => none }
def fnGroutedRow : OpenClaim := { program := "ytonblcbdmblpbaa", sum := "d6b5898cf1132ae69bff8252c859aed05e7d679dd20c836033a05f85a85adb0a", func := "loop.example/g01099/laws.FnGrouted", spec := "fnGrouted", unfollowed := true, recurses := true, plainKeys := false, leaving := true, apart := false }
def FnGroutedSaid : Prop := fnGroutedRow.holds Try.pinned (OpenSpec.ofChange fnGroutedSpec)

/-- ITS FALSE NEIGHBOUR: 'it returns false'. Refute it at one input. -/
def fnGroutedWrong : ChangeSpec := { name := "fnGrouted", fn := fun _ => fun
  | [d1, d2] => { results := [.lit (.bool false)], args := [d1, d2] }
  | _ => none }
def FnGroutedWrongFalsely : Prop := fnGroutedRow.holds Try.pinned (OpenSpec.ofChange fnGroutedWrong)

/-- 'laws.FnExactValidGrouts': WHATEVER THE INPUT: true; the input reads as it did. -/
def fnExactValidGroutsSpec : ChangeSpec := { name := "fnExactValidGrouts", fn := fun _ => fun
  | [d] => { results := [.lit (.bool true)], args := [d] }
  | _ => none }
def fnExactValidGroutsRow : OpenClaim := { program := "ytonblcbdmblpbaa", sum := "d6b5898cf1132ae69bff8252c859aed05e7d679dd20c836033a05f85a85adb0a", func := "loop.example/g01099/laws.FnExactValidGrouts", spec := "fnExactValidGrouts", unfollowed := true, recurses := true, plainKeys := false, leaving := true, apart := false }
def FnExactValidGroutsSaid : Prop := fnExactValidGroutsRow.holds Try.pinned (OpenSpec.ofChange fnExactValidGroutsSpec)

/-- ITS FALSE NEIGHBOUR: 'it returns false'. Refute it at one input. -/
def fnExactValidGroutsWrong : ChangeSpec := { name := "fnExactValidGrouts", fn := fun _ => fun
  | [d] => { results := [.lit (.bool false)], args := [d] }
  | _ => none }
def FnExactValidGroutsWrongFalsely : Prop := fnExactValidGroutsRow.holds Try.pinned (OpenSpec.ofChange fnExactValidGroutsWrong)

/-- 'laws.FnExactLossOf': WHATEVER THE INPUT: true; the input reads as it did. -/
def fnExactLossOfSpec : ChangeSpec := { name := "fnExactLossOf", fn := fun _ => fun
  | [d] => { results := [.lit (.bool true)], args := [d] }
  | _ => none }
def fnExactLossOfRow : OpenClaim := { program := "ytonblcbdmblpbaa", sum := "d6b5898cf1132ae69bff8252c859aed05e7d679dd20c836033a05f85a85adb0a", func := "loop.example/g01099/laws.FnExactLossOf", spec := "fnExactLossOf", plainKeys := false, apart := false }
def FnExactLossOfSaid : Prop := fnExactLossOfRow.holds Try.pinned (OpenSpec.ofChange fnExactLossOfSpec)

/-- ITS FALSE NEIGHBOUR: 'it returns false'. Refute it at one input. -/
def fnExactLossOfWrong : ChangeSpec := { name := "fnExactLossOf", fn := fun _ => fun
  | [d] => { results := [.lit (.bool false)], args := [d] }
  | _ => none }
def FnExactLossOfWrongFalsely : Prop := fnExactLossOfRow.holds Try.pinned (OpenSpec.ofChange fnExactLossOfWrong)

/-- 'laws.FnExactSpareOf': WHATEVER THE INPUT: true; the input reads as it did. -/
def fnExactSpareOfSpec : ChangeSpec := { name := "fnExactSpareOf", fn := fun _ => fun
  | [d] => { results := [.lit (.bool true)], args := [d] }
  | _ => none }
def fnExactSpareOfRow : OpenClaim := { program := "ytonblcbdmblpbaa", sum := "d6b5898cf1132ae69bff8252c859aed05e7d679dd20c836033a05f85a85adb0a", func := "loop.example/g01099/laws.FnExactSpareOf", spec := "fnExactSpareOf", unfollowed := true, recurses := true, plainKeys := false, leaving := true, apart := false }
def FnExactSpareOfSaid : Prop := fnExactSpareOfRow.holds Try.pinned (OpenSpec.ofChange fnExactSpareOfSpec)

/-- ITS FALSE NEIGHBOUR: 'it returns false'. Refute it at one input. -/
def fnExactSpareOfWrong : ChangeSpec := { name := "fnExactSpareOf", fn := fun _ => fun
  | [d] => { results := [.lit (.bool false)], args := [d] }
  | _ => none }
def FnExactSpareOfWrongFalsely : Prop := fnExactSpareOfRow.holds Try.pinned (OpenSpec.ofChange fnExactSpareOfWrong)

/- THE SECOND FORM. 'bulk': how many values and letters a reading holds, each counted each time it is reached (what is shared counts as often as it is met; a slice's spare places count too). A statement '..UptoSaid' is the law's where the arguments, and the package variables that the reading takes, are together of bulk at most 1048576: NARROWER than '..Said'. Prove '..Said' where nothing that the law and all that it calls make is longer than what came in: it says more and counts as full. Else prove '..UptoSaid'. A law counts once. -/
mutual
def uptoBulk {H : Type} : DataW H → Nat
  | .lit (.string bytes) => bytes.length + 1
  | .lit _ => 1
  | .nil => 1
  | .ptr d => uptoBulk d + 1
  | .slice elems spare => uptoBulkAll elems + uptoBulkAll spare + 1
  | .agg parts => uptoBulkAll parts + 1
  | .iface _ d => uptoBulk d + 1
  | .map entries => uptoBulkEntries entries + 1
  | .held _ => 1
def uptoBulkAll {H : Type} : List (DataW H) → Nat
  | [] => 0
  | d :: r => uptoBulk d + uptoBulkAll r
def uptoBulkEntries {H : Type} : List (Lit × DataW H) → Nat
  | [] => 0
  | x :: r => uptoBulkEntry x + uptoBulkEntries r
def uptoBulkEntry {H : Type} : Lit × DataW H → Nat
  | (.string bytes, d) => bytes.length + uptoBulk d + 1
  | (_, d) => uptoBulk d + 1
 end
def uptoSmall : (H : Type) → List (DataW H) → Bool := fun _ ds => decide (uptoBulkAll ds ≤ 1048576)
def OpenSpec.upto (s : _root_.Go.ChangeSpec) : _root_.Go.OpenSpec := { _root_.Go.OpenSpec.ofChange s with cond := some uptoSmall }

/-- 'laws.FnTrough', WHERE WHAT IT READS IS OF BULK AT MOST 1048576: true; the input reads as it did. -/
def fnTroughUptoRow : OpenClaim := { program := "ytonblcbdmblpbaa", sum := "d6b5898cf1132ae69bff8252c859aed05e7d679dd20c836033a05f85a85adb0a", func := "loop.example/g01099/laws.FnTrough", spec := "fnTrough", unfollowed := true, recurses := true, plainKeys := false, leaving := true, apart := false, narrowed := true }
def FnTroughUptoSaid : Prop := fnTroughUptoRow.holds Try.pinned (OpenSpec.upto fnTroughSpec)

/-- 'laws.FnWatched', WHERE WHAT IT READS IS OF BULK AT MOST 1048576: true; the input reads as it did. -/
def fnWatchedUptoRow : OpenClaim := { program := "ytonblcbdmblpbaa", sum := "d6b5898cf1132ae69bff8252c859aed05e7d679dd20c836033a05f85a85adb0a", func := "loop.example/g01099/laws.FnWatched", spec := "fnWatched", unfollowed := true, recurses := true, plainKeys := false, leaving := true, apart := false, narrowed := true }
def FnWatchedUptoSaid : Prop := fnWatchedUptoRow.holds Try.pinned (OpenSpec.upto fnWatchedSpec)

/-- 'laws.FnLifted', WHERE WHAT IT READS IS OF BULK AT MOST 1048576: true; the input reads as it did. -/
def fnLiftedUptoRow : OpenClaim := { program := "ytonblcbdmblpbaa", sum := "d6b5898cf1132ae69bff8252c859aed05e7d679dd20c836033a05f85a85adb0a", func := "loop.example/g01099/laws.FnLifted", spec := "fnLifted", unfollowed := true, recurses := true, plainKeys := false, leaving := true, apart := false, narrowed := true }
def FnLiftedUptoSaid : Prop := fnLiftedUptoRow.holds Try.pinned (OpenSpec.upto fnLiftedSpec)

/-- 'laws.FnGrouted', WHERE WHAT IT READS IS OF BULK AT MOST 1048576: true; the input reads as it did. -/
def fnGroutedUptoRow : OpenClaim := { program := "ytonblcbdmblpbaa", sum := "d6b5898cf1132ae69bff8252c859aed05e7d679dd20c836033a05f85a85adb0a", func := "loop.example/g01099/laws.FnGrouted", spec := "fnGrouted", unfollowed := true, recurses := true, plainKeys := false, leaving := true, apart := false, narrowed := true }
def FnGroutedUptoSaid : Prop := fnGroutedUptoRow.holds Try.pinned (OpenSpec.upto fnGroutedSpec)

/-- 'laws.FnExactValidGrouts', WHERE WHAT IT READS IS OF BULK AT MOST 1048576: true; the input reads as it did. -/
def fnExactValidGroutsUptoRow : OpenClaim := { program := "ytonblcbdmblpbaa", sum := "d6b5898cf1132ae69bff8252c859aed05e7d679dd20c836033a05f85a85adb0a", func := "loop.example/g01099/laws.FnExactValidGrouts", spec := "fnExactValidGrouts", unfollowed := true, recurses := true, plainKeys := false, leaving := true, apart := false, narrowed := true }
def FnExactValidGroutsUptoSaid : Prop := fnExactValidGroutsUptoRow.holds Try.pinned (OpenSpec.upto fnExactValidGroutsSpec)

/-- 'laws.FnExactLossOf', WHERE WHAT IT READS IS OF BULK AT MOST 1048576: true; the input reads as it did. -/
def fnExactLossOfUptoRow : OpenClaim := { program := "ytonblcbdmblpbaa", sum := "d6b5898cf1132ae69bff8252c859aed05e7d679dd20c836033a05f85a85adb0a", func := "loop.example/g01099/laws.FnExactLossOf", spec := "fnExactLossOf", plainKeys := false, apart := false, narrowed := true }
def FnExactLossOfUptoSaid : Prop := fnExactLossOfUptoRow.holds Try.pinned (OpenSpec.upto fnExactLossOfSpec)

/-- 'laws.FnExactSpareOf', WHERE WHAT IT READS IS OF BULK AT MOST 1048576: true; the input reads as it did. -/
def fnExactSpareOfUptoRow : OpenClaim := { program := "ytonblcbdmblpbaa", sum := "d6b5898cf1132ae69bff8252c859aed05e7d679dd20c836033a05f85a85adb0a", func := "loop.example/g01099/laws.FnExactSpareOf", spec := "fnExactSpareOf", unfollowed := true, recurses := true, plainKeys := false, leaving := true, apart := false, narrowed := true }
def FnExactSpareOfUptoSaid : Prop := fnExactSpareOfUptoRow.holds Try.pinned (OpenSpec.upto fnExactSpareOfSpec)

end Rows
end Go.Proofs.Ytonblcbdmblpbaa
