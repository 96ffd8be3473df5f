/- Rows that are filled number by number. (Out of Muck.) -/
import Derived.Test.YtcmocilojloolaaDoorMuckM
import Derived.Test.YtcmocilojloolaaDoorWithin
namespace Go.Proofs.YtcmocilojloolaaDoor
open Go.ChangeShapes Go.WideShapes Go.ChangeAt Go.RowKit
set_option linter.unusedVariables false
set_option linter.unusedSimpArgs false

/-- A row of n numbers, the first k of which are those of zs; the other ones are 0. -/
def part (zs : List Int) (n k : Nat) : List Int := zs.take k ++ List.replicate (n - k) 0

theorem part_zero (zs : List Int) (n : Nat) : part zs n 0 = List.replicate n 0 := by simp [part]
theorem part_all {zs : List Int} {n : Nat} (h : zs.length = n) : part zs n n = zs := by simp [part, ← h]
theorem part_len {zs : List Int} {n k : Nat} (h : zs.length = n) (hk : k ≤ n) : (part zs n k).length = n := by simp [part]; omega
theorem part_get {zs : List Int} {n k : Nat} (h : zs.length = n) (hk : k < n) : (part zs n k)[k]? = some 0 := by
  have e0 : (zs.take k).length = k := by rw [List.length_take]; omega
  unfold part
  rw [List.getElem?_append_right (by omega), e0, Nat.sub_self, List.getElem?_replicate, if_pos (by omega)]
theorem part_set {zs : List Int} {n k : Nat} {x : Int} (h : zs.length = n) (hx : zs[k]? = some x) : (part zs n k).set k x = part zs n (k + 1) := by
  have hk : k < n := by have := (List.getElem?_eq_some_iff.1 hx).1; omega
  have e0 : (zs.take k).length = k := by rw [List.length_take]; omega
  unfold part
  rw [List.set_append_right _ _ (by omega), e0, Nat.sub_self, show n - k = (n - (k + 1)) + 1 by omega, List.replicate_succ, List.set_cons_zero, List.take_add_one, hx]
  simp

theorem part_cell {zs : List Int} {n k cap g B : Nat} {w : World} (h : zs.length = n) (hk : k < n) (o : OwnI w B (.slice (some ⟨g, 0, none⟩) n cap) (part zs n k)) :
    w.cell? ⟨g, k, none⟩ = some (.int .i64 0) ∧ w.frozen? ⟨g, k, none⟩ = false := by
  have own := o
  unfold OwnI at own
  rw [part_len h (by omega)] at own
  have c := own.cellAt k (by omega)
  rw [List.getElem?_map, part_get h hk] at c
  exact ⟨c, own.frozenAt k⟩

theorem part_store {zs : List Int} {n k cap g B : Nat} {w : World} {x : Int} (h : zs.length = n) (hx : zs[k]? = some x) (o : OwnI w B (.slice (some ⟨g, 0, none⟩) n cap) (part zs n k)) :
    OwnI (w.setCell ⟨g, k, none⟩ (.int .i64 x)) B (.slice (some ⟨g, 0, none⟩) n cap) (part zs n (k + 1)) := by
  have hk : k < n := by have := (List.getElem?_eq_some_iff.1 hx).1; omega
  have := o.stored (part_len h (by omega)).symm k x (by rw [part_len h (by omega)]; exact hk)
  rwa [part_set h hx] at this

/-- A row that was just made, of n numbers. -/
theorem part_made {zs : List Int} {n cap g B : Nat} {w : World} (hown : w.ownsRow B 2 1 (.slice (some ⟨g, 0, none⟩) n cap) n (List.replicate n (.int .i64 0))) : OwnI w B (.slice (some ⟨g, 0, none⟩) n cap) (part zs n 0) := by
  rw [part_zero]
  unfold OwnI
  rw [List.length_replicate, List.map_replicate]
  exact hown

end Go.Proofs.YtcmocilojloolaaDoor
