/- Rows of numbers that grow by append: the first k numbers of a known list. -/
import Derived.Test.YtcmocilojloolaaDoorInts
import Derived.Deep.AppendLies
namespace Go.Proofs.YtcmocilojloolaaDoor
open Go.ChangeShapes Go.WideShapes Go.ChangeAt Go.RowKit
set_option linter.unusedVariables false
set_option linter.unusedSimpArgs false

theorem own_take {w : World} {B n k c : Nat} {ad : Option Addr} {L : List Int} (LN : L.length = n) (hk : k ≤ n) (o : OwnI w B (.slice ad k c) (L.take k)) :
    w.ownsRow B 2 1 (.slice ad k c) k ((L.take k).map (Value.int .i64)) := by
  have e : (L.take k).length = k := by rw [List.length_take]; omega
  unfold OwnI at o
  rw [e] at o
  exact o

theorem own_next {w : World} {B k c : Nat} {ad : Option Addr} {L : List Int} {t : Int} (ht : L[k]? = some t) (o : w.ownsRow B 2 1 (.slice ad (k + 1) c) (k + 1) ((L.map (Value.int .i64)).take k ++ [.int .i64 t])) :
    OwnI w B (.slice ad (k + 1) c) (L.take (k + 1)) := by
  have hk : k < L.length := (List.getElem?_eq_some_iff.1 ht).1
  unfold OwnI
  rw [List.take_add_one, ht, List.length_append, List.length_take, Nat.min_eq_left (by omega), List.map_append, List.map_take]
  exact o

theorem own_next2 {w : World} {B k c : Nat} {ad : Option Addr} {L : List Int} {t : Int} (ht : L[k]? = some t) (o : w.ownsRow B 2 1 (.slice ad (k + 1) c) (k + 1) ((L.take k).map (Value.int .i64) ++ [.int .i64 t])) :
    OwnI w B (.slice ad (k + 1) c) (L.take (k + 1)) := own_next ht (by rw [List.map_take] at o; exact o)

theorem own_all {w : World} {B n c : Nat} {ad : Option Addr} {L : List Int} (LN : L.length = n) (o : OwnI w B (.slice ad n c) (L.take n)) : OwnI w B (.slice ad n c) L := by
  rwa [List.take_of_length_le (by omega)] at o

/-- An empty row that was just built. -/
theorem own_built (w : World) (N : Nat) (L : List Int) (hN : N = w.heap.size) : OwnI (w.alloc (.cells #[] 2)) N (.slice (some ⟨N, 0, none⟩) 0 0) (L.take 0) := by
  subst hN
  exact World.ownsRow_lit (e := 2) (size := 1) w #[] 0 (Nat.le_refl _) (by decide) rfl
end Go.Proofs.YtcmocilojloolaaDoor
