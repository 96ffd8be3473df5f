/- Walks of NextPose. -/
import Derived.Test.YtkdecpnbbpmooaaPose
namespace Go.Proofs.Ytkdecpnbbpmooaa
open Go.ChangeShapes Go.WideShapes Go.ChangeAt Go.RowKit
set_option linter.unusedVariables false
set_option linter.unusedSimpArgs false

def CanP (q : Ps) (b r : Int) : Prop := OkP q ∧ OkTurn b ∧ OkTurn r ∧ OkP (stepP q b r)
def noP : Ps := ⟨0, 0, 0, 0⟩


end Go.Proofs.Ytkdecpnbbpmooaa
