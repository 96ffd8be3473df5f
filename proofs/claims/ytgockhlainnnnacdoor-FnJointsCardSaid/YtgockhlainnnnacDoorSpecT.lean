/- The specification's tubes. -/
import Derived.Test.YtgockhlainnnnacDoorSpecJ
namespace Go.Proofs.YtgockhlainnnnacDoor
open Go.ChangeShapes Go.WideShapes Go.ChangeAt Go.RowKit
set_option linter.unusedVariables false
set_option linter.unusedSimpArgs false

theorem FreeTo.zero (xs : List Rg) : FreeTo xs 0 := by intro i r s hi; omega

end Go.Proofs.YtgockhlainnnnacDoor
