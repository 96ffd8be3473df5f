/- TurnOf and TotalTurn on both sides. -/
import Derived.Test.YtpphbjgaldidaaaDoorRingK
namespace Go.Proofs.YtpphbjgaldidaaaDoor
open Go.ChangeShapes Go.WideShapes Go.ChangeAt Go.RowKit
set_option linter.unusedVariables false
set_option linter.unusedSimpArgs false

end Go.Proofs.YtpphbjgaldidaaaDoor
