/- ValidMachine, GapsOf, StrokesOf on both sides. -/
import Derived.Test.YthhnnkgfnhggbabDoorImplV
import Derived.Test.YthhnnkgfnhggbabDoorSpecM2
namespace Go.Proofs.YthhnnkgfnhggbabDoor
open Go.ChangeShapes Go.WideShapes Go.ChangeAt Go.RowKit
set_option linter.unusedVariables false
set_option linter.unusedSimpArgs false

theorem okM_dec (m : Mc) : ∃ b : Bool, b = true ↔ OkM m := by
  by_cases h : OkM m
  · exact ⟨true, by simp [h]⟩
  · exact ⟨false, by simp [h]⟩













end Go.Proofs.YthhnnkgfnhggbabDoor
