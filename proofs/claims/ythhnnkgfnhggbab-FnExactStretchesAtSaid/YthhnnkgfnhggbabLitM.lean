/- Numbers of litres; bools. (Out of GroutM.) -/
import Derived.Test.YthhnnkgfnhggbabWithin
import Derived.Handy
import Derived.IntWalk
import Derived.Deep.RegionHeld3
import Derived.BigQuiet
import Derived.WalkSmall
namespace Go.Proofs.Ythhnnkgfnhggbab
open Go.ChangeShapes Go.WideShapes Go.ChangeAt Go.RowKit
set_option linter.unusedVariables false
set_option linter.unusedSimpArgs false

theorem bool_of (P : Prop) : ∃ b : Bool, b = true ↔ P := by
  by_cases h : P
  · exact ⟨true, by simp [h]⟩
  · exact ⟨false, by simp [h]⟩
theorem band_of {b b1 b2 : Bool} {P Q R : Prop} (h : b = true ↔ R) (h1 : b1 = true ↔ P) (h2 : b2 = true ↔ Q) (hr : R ↔ P ∧ Q) : b = (b1 && b2) := by
  rw [Bool.eq_iff_iff, Bool.and_eq_true, h, h1, h2, hr]

def Litres (n : Int) : Prop := 0 ≤ n ∧ n ≤ 100000


end Go.Proofs.Ythhnnkgfnhggbab
