/- The course one ring further, on both sides. -/
import Derived.Test.YtkdecpnbbpmooacDoorSteer
import Derived.Deep.RegionHeld3
import Derived.StillTailTactics
namespace Go.Proofs.YtkdecpnbbpmooacDoor
open Go.ChangeShapes Go.WideShapes Go.ChangeAt Go.RowKit
set_option linter.unusedVariables false
set_option linter.unusedSimpArgs false

theorem boxN_0 (w : World) (o : Obj) : (w.alloc o).heap[w.heap.size]? = some o := heap_alloc_new w o
theorem boxN2_0 (w : World) (o p : Obj) : ((w.alloc o).alloc p).heap[w.heap.size]? = some o := (Below.heap_alloc _ _ _ (by simp)).trans (heap_alloc_new w o)
theorem boxN2_1 (w : World) (o p : Obj) : ((w.alloc o).alloc p).heap[w.heap.size + 1]? = some p := by
  have := heap_alloc_new (w.alloc o) p
  rwa [World.size_alloc] at this

theorem nextRes_yes {P : Prop} {c : Co} {t : Int} {o : Co} {v : Bool} (h : NextRes P c t o v) (g : P) : o = nextC c t ∧ v = true := by
  rcases h with h | h
  · exact h.2
  · exact absurd g h.1
theorem nextRes_no {P : Prop} {c : Co} {t : Int} {o : Co} {v : Bool} (h : NextRes P c t o v) (g : ¬ P) : o = noC ∧ v = false := by
  rcases h with h | h
  · exact absurd h.1 g
  · exact h.2





end Go.Proofs.YtkdecpnbbpmooacDoor
