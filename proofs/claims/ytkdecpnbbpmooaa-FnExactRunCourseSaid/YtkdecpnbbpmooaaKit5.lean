/- Small facts that the later walks share. -/
import Derived.Test.YtkdecpnbbpmooaaBase
import Derived.Below
namespace Go.Proofs.Ytkdecpnbbpmooaa
open Go.ChangeShapes Go.WideShapes Go.ChangeAt Go.RowKit
theorem box_lt {w : World} {p : Nat} {o : Obj} (h : w.heap[p]? = some o) : p < w.heap.size := (Array.getElem?_eq_some_iff.1 h).1
end Go.Proofs.Ytkdecpnbbpmooaa
