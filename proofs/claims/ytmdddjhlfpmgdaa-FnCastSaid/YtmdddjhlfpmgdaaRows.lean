/-
  No cell of these rows narrows 'for every input' (looked for: loops, veiled, ifaces, maps, wideKeys, modest, calm, conditions, laid).
  DERIVED. THE GIVEN ROWS OF THIS SEAT. 8 by the template 'for every input the law returns true; each argument reads behind the call as it read before'; 0 by the template 'total and deterministic' (their statements: YtmdddjhlfpmgdaaTotals.lean).
  GIVEN WITH THE SEED: the statements are not yours to turn. If you find one false, say at which input.
  Laid BY PROGRAM, IN A SANDBOX (cutbox-rows.mjs): the forced cells as the released guide's own fill.sh prints them over the translation 33ded262765e9ed0… (all of the seat's roots in one cut). By AI agents, Wed Nov 11 2026. No macro, syntax, notation, axiom, sorry.
-/
import Derived.Test.YtmdddjhlfpmgdaaChecked
import GoSem.Claim
import GoSem.ClaimJoined
import GoSem.ClaimMapViews
import Derived.JoinedTies
import Derived.KernelRfl
namespace Go.Proofs.Ytmdddjhlfpmgdaa
/- THE CELL 'sum', in the pinned program and in every row, IS THE sha256 OF THE DUMP (.gsa) THAT YtmdddjhlfpmgdaaProg.lean LOADS. Nothing in Lean hashes anything: it is a label: what it is worth is what the hold of that sum in a sandbox is worth. -/
noncomputable def Try.pinned : Pinned := { name := "ytmdddjhlfpmgdaa", sum := "33ded262765e9ed03065e8c8734ae76d8fbce73e0301a3de1ddab205ce0e7909", checked := Try.checked }
namespace Rows
def none {H : Type} : Left H := { results := [], args := [] }

/-- 'laws.FnExactValidOrders': WHATEVER THE INPUT: true; the input reads as it did. -/
def fnExactValidOrdersSpec : ChangeSpec := { name := "fnExactValidOrders", fn := fun _ => fun
  | [d] => { results := [.lit (.bool true)], args := [d] }
  | _ => none }
def fnExactValidOrdersRow : OpenClaim := { program := "ytmdddjhlfpmgdaa", sum := "33ded262765e9ed03065e8c8734ae76d8fbce73e0301a3de1ddab205ce0e7909", func := "loop.example/g01099/laws.FnExactValidOrders", spec := "fnExactValidOrders", unfollowed := true, recurses := true, apart := false }
def FnExactValidOrdersSaid : Prop := fnExactValidOrdersRow.holds Try.pinned (OpenSpec.ofChange fnExactValidOrdersSpec)

/-- ITS FALSE NEIGHBOUR: 'it returns false'. Refute it at one input. -/
def fnExactValidOrdersWrong : ChangeSpec := { name := "fnExactValidOrders", fn := fun _ => fun
  | [d] => { results := [.lit (.bool false)], args := [d] }
  | _ => none }
def FnExactValidOrdersWrongFalsely : Prop := fnExactValidOrdersRow.holds Try.pinned (OpenSpec.ofChange fnExactValidOrdersWrong)

/-- 'laws.FnExactValidWorks': WHATEVER THE INPUT: true; the input reads as it did. -/
def fnExactValidWorksSpec : ChangeSpec := { name := "fnExactValidWorks", fn := fun _ => fun
  | [d] => { results := [.lit (.bool true)], args := [d] }
  | _ => none }
def fnExactValidWorksRow : OpenClaim := { program := "ytmdddjhlfpmgdaa", sum := "33ded262765e9ed03065e8c8734ae76d8fbce73e0301a3de1ddab205ce0e7909", func := "loop.example/g01099/laws.FnExactValidWorks", spec := "fnExactValidWorks", apart := false }
def FnExactValidWorksSaid : Prop := fnExactValidWorksRow.holds Try.pinned (OpenSpec.ofChange fnExactValidWorksSpec)

/-- ITS FALSE NEIGHBOUR: 'it returns false'. Refute it at one input. -/
def fnExactValidWorksWrong : ChangeSpec := { name := "fnExactValidWorks", fn := fun _ => fun
  | [d] => { results := [.lit (.bool false)], args := [d] }
  | _ => none }
def FnExactValidWorksWrongFalsely : Prop := fnExactValidWorksRow.holds Try.pinned (OpenSpec.ofChange fnExactValidWorksWrong)

/-- 'laws.FnExactReadyBy': WHATEVER THE INPUT: true; the input reads as it did. -/
def fnExactReadyBySpec : ChangeSpec := { name := "fnExactReadyBy", fn := fun _ => fun
  | [d1, d2] => { results := [.lit (.bool true)], args := [d1, d2] }
  | _ => none }
def fnExactReadyByRow : OpenClaim := { program := "ytmdddjhlfpmgdaa", sum := "33ded262765e9ed03065e8c8734ae76d8fbce73e0301a3de1ddab205ce0e7909", func := "loop.example/g01099/laws.FnExactReadyBy", spec := "fnExactReadyBy", apart := false }
def FnExactReadyBySaid : Prop := fnExactReadyByRow.holds Try.pinned (OpenSpec.ofChange fnExactReadyBySpec)

/-- ITS FALSE NEIGHBOUR: 'it returns false'. Refute it at one input. -/
def fnExactReadyByWrong : ChangeSpec := { name := "fnExactReadyBy", fn := fun _ => fun
  | [d1, d2] => { results := [.lit (.bool false)], args := [d1, d2] }
  | _ => none }
def FnExactReadyByWrongFalsely : Prop := fnExactReadyByRow.holds Try.pinned (OpenSpec.ofChange fnExactReadyByWrong)

/-- 'laws.FnExactShortDays': WHATEVER THE INPUT: true; the input reads as it did. -/
def fnExactShortDaysSpec : ChangeSpec := { name := "fnExactShortDays", fn := fun _ => fun
  | [d1, d2] => { results := [.lit (.bool true)], args := [d1, d2] }
  | _ => none }
def fnExactShortDaysRow : OpenClaim := { program := "ytmdddjhlfpmgdaa", sum := "33ded262765e9ed03065e8c8734ae76d8fbce73e0301a3de1ddab205ce0e7909", func := "loop.example/g01099/laws.FnExactShortDays", spec := "fnExactShortDays", unfollowed := true, recurses := true, apart := false }
def FnExactShortDaysSaid : Prop := fnExactShortDaysRow.holds Try.pinned (OpenSpec.ofChange fnExactShortDaysSpec)

/-- ITS FALSE NEIGHBOUR: 'it returns false'. Refute it at one input. -/
def fnExactShortDaysWrong : ChangeSpec := { name := "fnExactShortDays", fn := fun _ => fun
  | [d1, d2] => { results := [.lit (.bool false)], args := [d1, d2] }
  | _ => none }
def FnExactShortDaysWrongFalsely : Prop := fnExactShortDaysRow.holds Try.pinned (OpenSpec.ofChange fnExactShortDaysWrong)

/-- 'laws.FnExactFewestMoulds': WHATEVER THE INPUT: true; the input reads as it did. -/
def fnExactFewestMouldsSpec : ChangeSpec := { name := "fnExactFewestMoulds", fn := fun _ => fun
  | [d1, d2, d3] => { results := [.lit (.bool true)], args := [d1, d2, d3] }
  | _ => none }
def fnExactFewestMouldsRow : OpenClaim := { program := "ytmdddjhlfpmgdaa", sum := "33ded262765e9ed03065e8c8734ae76d8fbce73e0301a3de1ddab205ce0e7909", func := "loop.example/g01099/laws.FnExactFewestMoulds", spec := "fnExactFewestMoulds", unfollowed := true, recurses := true, apart := false }
def FnExactFewestMouldsSaid : Prop := fnExactFewestMouldsRow.holds Try.pinned (OpenSpec.ofChange fnExactFewestMouldsSpec)

/-- ITS FALSE NEIGHBOUR: 'it returns false'. Refute it at one input. -/
def fnExactFewestMouldsWrong : ChangeSpec := { name := "fnExactFewestMoulds", fn := fun _ => fun
  | [d1, d2, d3] => { results := [.lit (.bool false)], args := [d1, d2, d3] }
  | _ => none }
def FnExactFewestMouldsWrongFalsely : Prop := fnExactFewestMouldsRow.holds Try.pinned (OpenSpec.ofChange fnExactFewestMouldsWrong)

/-- 'laws.FnExactLatestStart': WHATEVER THE INPUT: true; the input reads as it did. -/
def fnExactLatestStartSpec : ChangeSpec := { name := "fnExactLatestStart", fn := fun _ => fun
  | [d1, d2] => { results := [.lit (.bool true)], args := [d1, d2] }
  | _ => none }
def fnExactLatestStartRow : OpenClaim := { program := "ytmdddjhlfpmgdaa", sum := "33ded262765e9ed03065e8c8734ae76d8fbce73e0301a3de1ddab205ce0e7909", func := "loop.example/g01099/laws.FnExactLatestStart", spec := "fnExactLatestStart", unfollowed := true, recurses := true, apart := false }
def FnExactLatestStartSaid : Prop := fnExactLatestStartRow.holds Try.pinned (OpenSpec.ofChange fnExactLatestStartSpec)

/-- ITS FALSE NEIGHBOUR: 'it returns false'. Refute it at one input. -/
def fnExactLatestStartWrong : ChangeSpec := { name := "fnExactLatestStart", fn := fun _ => fun
  | [d1, d2] => { results := [.lit (.bool false)], args := [d1, d2] }
  | _ => none }
def FnExactLatestStartWrongFalsely : Prop := fnExactLatestStartRow.holds Try.pinned (OpenSpec.ofChange fnExactLatestStartWrong)

/-- 'laws.FnExactStockOn': WHATEVER THE INPUT: true; the input reads as it did. -/
def fnExactStockOnSpec : ChangeSpec := { name := "fnExactStockOn", fn := fun _ => fun
  | [d1, d2, d3] => { results := [.lit (.bool true)], args := [d1, d2, d3] }
  | _ => none }
def fnExactStockOnRow : OpenClaim := { program := "ytmdddjhlfpmgdaa", sum := "33ded262765e9ed03065e8c8734ae76d8fbce73e0301a3de1ddab205ce0e7909", func := "loop.example/g01099/laws.FnExactStockOn", spec := "fnExactStockOn", unfollowed := true, recurses := true, apart := false }
def FnExactStockOnSaid : Prop := fnExactStockOnRow.holds Try.pinned (OpenSpec.ofChange fnExactStockOnSpec)

/-- ITS FALSE NEIGHBOUR: 'it returns false'. Refute it at one input. -/
def fnExactStockOnWrong : ChangeSpec := { name := "fnExactStockOn", fn := fun _ => fun
  | [d1, d2, d3] => { results := [.lit (.bool false)], args := [d1, d2, d3] }
  | _ => none }
def FnExactStockOnWrongFalsely : Prop := fnExactStockOnRow.holds Try.pinned (OpenSpec.ofChange fnExactStockOnWrong)

/-- 'laws.FnCast': WHATEVER THE INPUT: true; the input reads as it did. -/
def fnCastSpec : ChangeSpec := { name := "fnCast", fn := fun _ => fun
  | [d1, d2] => { results := [.lit (.bool true)], args := [d1, d2] }
  | _ => none }
def fnCastRow : OpenClaim := { program := "ytmdddjhlfpmgdaa", sum := "33ded262765e9ed03065e8c8734ae76d8fbce73e0301a3de1ddab205ce0e7909", func := "loop.example/g01099/laws.FnCast", spec := "fnCast", unfollowed := true, recurses := true, apart := false }
def FnCastSaid : Prop := fnCastRow.holds Try.pinned (OpenSpec.ofChange fnCastSpec)

/-- ITS FALSE NEIGHBOUR: 'it returns false'. Refute it at one input. -/
def fnCastWrong : ChangeSpec := { name := "fnCast", fn := fun _ => fun
  | [d1, d2] => { results := [.lit (.bool false)], args := [d1, d2] }
  | _ => none }
def FnCastWrongFalsely : Prop := fnCastRow.holds Try.pinned (OpenSpec.ofChange fnCastWrong)

/- THE SECOND FORM. 'bulk': how many values and letters a reading holds, each counted each time it is reached (what is shared counts as often as it is met; a slice's spare places count too). A statement '..UptoSaid' is the law's where the arguments, and the package variables that the reading takes, are together of bulk at most 1048576: NARROWER than '..Said'. Prove '..Said' where nothing that the law and all that it calls make is longer than what came in: it says more and counts as full. Else prove '..UptoSaid'. A law counts once. -/
mutual
def uptoBulk {H : Type} : DataW H → Nat
  | .lit (.string bytes) => bytes.length + 1
  | .lit _ => 1
  | .nil => 1
  | .ptr d => uptoBulk d + 1
  | .slice elems spare => uptoBulkAll elems + uptoBulkAll spare + 1
  | .agg parts => uptoBulkAll parts + 1
  | .iface _ d => uptoBulk d + 1
  | .map entries => uptoBulkEntries entries + 1
  | .held _ => 1
def uptoBulkAll {H : Type} : List (DataW H) → Nat
  | [] => 0
  | d :: r => uptoBulk d + uptoBulkAll r
def uptoBulkEntries {H : Type} : List (Lit × DataW H) → Nat
  | [] => 0
  | x :: r => uptoBulkEntry x + uptoBulkEntries r
def uptoBulkEntry {H : Type} : Lit × DataW H → Nat
  | (.string bytes, d) => bytes.length + uptoBulk d + 1
  | (_, d) => uptoBulk d + 1
 end
def uptoSmall : (H : Type) → List (DataW H) → Bool := fun _ ds => decide (uptoBulkAll ds ≤ 1048576)
def OpenSpec.upto (s : _root_.Go.ChangeSpec) : _root_.Go.OpenSpec := { _root_.Go.OpenSpec.ofChange s with cond := some uptoSmall }

/-- 'laws.FnExactValidOrders', WHERE WHAT IT READS IS OF BULK AT MOST 1048576: true; the input reads as it did. -/
def fnExactValidOrdersUptoRow : OpenClaim := { program := "ytmdddjhlfpmgdaa", sum := "33ded262765e9ed03065e8c8734ae76d8fbce73e0301a3de1ddab205ce0e7909", func := "loop.example/g01099/laws.FnExactValidOrders", spec := "fnExactValidOrders", unfollowed := true, recurses := true, apart := false, narrowed := true }
def FnExactValidOrdersUptoSaid : Prop := fnExactValidOrdersUptoRow.holds Try.pinned (OpenSpec.upto fnExactValidOrdersSpec)

/-- 'laws.FnExactValidWorks', WHERE WHAT IT READS IS OF BULK AT MOST 1048576: true; the input reads as it did. -/
def fnExactValidWorksUptoRow : OpenClaim := { program := "ytmdddjhlfpmgdaa", sum := "33ded262765e9ed03065e8c8734ae76d8fbce73e0301a3de1ddab205ce0e7909", func := "loop.example/g01099/laws.FnExactValidWorks", spec := "fnExactValidWorks", apart := false, narrowed := true }
def FnExactValidWorksUptoSaid : Prop := fnExactValidWorksUptoRow.holds Try.pinned (OpenSpec.upto fnExactValidWorksSpec)

/-- 'laws.FnExactReadyBy', WHERE WHAT IT READS IS OF BULK AT MOST 1048576: true; the input reads as it did. -/
def fnExactReadyByUptoRow : OpenClaim := { program := "ytmdddjhlfpmgdaa", sum := "33ded262765e9ed03065e8c8734ae76d8fbce73e0301a3de1ddab205ce0e7909", func := "loop.example/g01099/laws.FnExactReadyBy", spec := "fnExactReadyBy", apart := false, narrowed := true }
def FnExactReadyByUptoSaid : Prop := fnExactReadyByUptoRow.holds Try.pinned (OpenSpec.upto fnExactReadyBySpec)

/-- 'laws.FnExactShortDays', WHERE WHAT IT READS IS OF BULK AT MOST 1048576: true; the input reads as it did. -/
def fnExactShortDaysUptoRow : OpenClaim := { program := "ytmdddjhlfpmgdaa", sum := "33ded262765e9ed03065e8c8734ae76d8fbce73e0301a3de1ddab205ce0e7909", func := "loop.example/g01099/laws.FnExactShortDays", spec := "fnExactShortDays", unfollowed := true, recurses := true, apart := false, narrowed := true }
def FnExactShortDaysUptoSaid : Prop := fnExactShortDaysUptoRow.holds Try.pinned (OpenSpec.upto fnExactShortDaysSpec)

/-- 'laws.FnExactFewestMoulds', WHERE WHAT IT READS IS OF BULK AT MOST 1048576: true; the input reads as it did. -/
def fnExactFewestMouldsUptoRow : OpenClaim := { program := "ytmdddjhlfpmgdaa", sum := "33ded262765e9ed03065e8c8734ae76d8fbce73e0301a3de1ddab205ce0e7909", func := "loop.example/g01099/laws.FnExactFewestMoulds", spec := "fnExactFewestMoulds", unfollowed := true, recurses := true, apart := false, narrowed := true }
def FnExactFewestMouldsUptoSaid : Prop := fnExactFewestMouldsUptoRow.holds Try.pinned (OpenSpec.upto fnExactFewestMouldsSpec)

/-- 'laws.FnExactLatestStart', WHERE WHAT IT READS IS OF BULK AT MOST 1048576: true; the input reads as it did. -/
def fnExactLatestStartUptoRow : OpenClaim := { program := "ytmdddjhlfpmgdaa", sum := "33ded262765e9ed03065e8c8734ae76d8fbce73e0301a3de1ddab205ce0e7909", func := "loop.example/g01099/laws.FnExactLatestStart", spec := "fnExactLatestStart", unfollowed := true, recurses := true, apart := false, narrowed := true }
def FnExactLatestStartUptoSaid : Prop := fnExactLatestStartUptoRow.holds Try.pinned (OpenSpec.upto fnExactLatestStartSpec)

/-- 'laws.FnExactStockOn', WHERE WHAT IT READS IS OF BULK AT MOST 1048576: true; the input reads as it did. -/
def fnExactStockOnUptoRow : OpenClaim := { program := "ytmdddjhlfpmgdaa", sum := "33ded262765e9ed03065e8c8734ae76d8fbce73e0301a3de1ddab205ce0e7909", func := "loop.example/g01099/laws.FnExactStockOn", spec := "fnExactStockOn", unfollowed := true, recurses := true, apart := false, narrowed := true }
def FnExactStockOnUptoSaid : Prop := fnExactStockOnUptoRow.holds Try.pinned (OpenSpec.upto fnExactStockOnSpec)

/-- 'laws.FnCast', WHERE WHAT IT READS IS OF BULK AT MOST 1048576: true; the input reads as it did. -/
def fnCastUptoRow : OpenClaim := { program := "ytmdddjhlfpmgdaa", sum := "33ded262765e9ed03065e8c8734ae76d8fbce73e0301a3de1ddab205ce0e7909", func := "loop.example/g01099/laws.FnCast", spec := "fnCast", unfollowed := true, recurses := true, apart := false, narrowed := true }
def FnCastUptoSaid : Prop := fnCastUptoRow.holds Try.pinned (OpenSpec.upto fnCastSpec)

end Rows
end Go.Proofs.Ytmdddjhlfpmgdaa
