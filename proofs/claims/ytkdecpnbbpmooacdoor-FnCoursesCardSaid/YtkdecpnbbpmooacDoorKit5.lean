/- Small facts that the later walks share. -/
import Derived.Test.YtkdecpnbbpmooacDoorBase
import Derived.Below
namespace Go.Proofs.YtkdecpnbbpmooacDoor
open Go.ChangeShapes Go.WideShapes Go.ChangeAt Go.RowKit
theorem box_lt {w : World} {p : Nat} {o : Obj} (h : w.heap[p]? = some o) : p < w.heap.size := (Array.getElem?_eq_some_iff.1 h).1
theorem ea {α : Type} (l : List α) (i : Nat) : l.toArray[i]? = l[i]? := by simp
theorem eb {α : Type} (a : α) (l : List α) (i : Nat) : (a :: l)[i + 1]? = l[i]? := rfl
theorem ec {α : Type} (a : α) (l : List α) : (a :: l)[0]? = some a := rfl
theorem sa {α : Type} (l : List α) (i : Nat) (x : α) : l.toArray.setIfInBounds i x = (l.set i x).toArray := by simp
theorem sb {α : Type} (a : α) (l : List α) (x : α) : (a :: l).set 0 x = x :: l := rfl
theorem sc {α : Type} (a : α) (l : List α) (i : Nat) (x : α) : (a :: l).set (i + 1) x = a :: l.set i x := rfl
end Go.Proofs.YtkdecpnbbpmooacDoor
