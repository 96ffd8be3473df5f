/- The specification's helper that puts a number in. -/
import Derived.Test.YthfmmlpbflfpaacPutM
import Derived.Deep.AppendLies
namespace Go.Proofs.Ythfmmlpbflfpaac
open Go.ChangeShapes Go.WideShapes Go.ChangeAt Go.RowKit
set_option linter.unusedVariables false
set_option linter.unusedSimpArgs false

end Go.Proofs.Ythfmmlpbflfpaac
