/- Sorted rows of integers: slices.Sort. -/
import Derived.Test.YthfmmlpbflfpaacInts
import Derived.Test.YthfmmlpbflfpaacShelf
import Derived.Sort.OwnSorted
import Derived.Lib.OwnBridge
namespace Go.Proofs.Ythfmmlpbflfpaac
open Go.ChangeShapes Go.WideShapes Go.ChangeAt Go.RowKit
set_option linter.unusedVariables false
set_option linter.unusedSimpArgs false

/-- The list in ascending order. -/
def asc (zs : List Int) : List Int := zs.mergeSort fun x y => decide (x ≤ y)

theorem asc_length (zs : List Int) : (asc zs).length = zs.length := List.length_mergeSort zs
theorem asc_perm (zs : List Int) : (asc zs).Perm zs := List.mergeSort_perm zs _
theorem asc_sorted (zs : List Int) : (asc zs).Pairwise (· ≤ ·) := by
  have := List.pairwise_mergeSort (le := fun (x y : Int) => decide (x ≤ y)) (fun a b c h1 h2 => by simp at *; omega) (fun a b => by simp; omega) zs
  exact this.imp (fun h => by simpa using h)

theorem sort_own (g cap : Nat) (zs : List Int) (w : World) (B : Nat) (h : OwnI w B (.slice (some ⟨g, 0, none⟩) zs.length cap) zs) (lz : zs.length ≤ 1099511627776) :
    Calls Try.prog 41 #[.slice (some ⟨g, 0, none⟩) zs.length cap] w fun e w' => e = .returned (.tuple #[]) ∧ OwnI w' B (.slice (some ⟨g, 0, none⟩) zs.length cap) (asc zs) ∧ w.grownBy w' (some g) := by
  obtain ⟨g', cap', hv, hB, hg, hle, hm, hl, hH⟩ := Lib.holds_of_ownsRow (enc := Value.int .i64) h (by simp)
  cases hv
  refine (Try.slices_Sort_int g 0 cap zs w hH hg (by omega)).mono ?_
  rintro e w' ⟨rfl, n, os, rfl⟩
  have ho := Lib.ownsRow_putRow (enc := Value.int .i64) (q := n) (k := zs.length) (ys := asc zs) h (asc_length zs) (Nat.le_refl _)
  rw [List.take_of_length_le (by rw [asc_length]; exact Nat.le_refl _)] at ho
  have hsz : (Sort.putRow (Value.int .i64) (Sort.ahead w n) g 0 (asc zs).toArray).heap.size = w.heap.size := by simp [Sort.putRow, Sort.mapBlock, Sort.ahead]
  have G : w.grownBy (Sort.grow (Sort.putRow (Value.int .i64) (Sort.ahead w n) g 0 (asc zs).toArray) os) (some g) := by
    refine ⟨rfl, rfl, rfl, by simp [Sort.grow, Sort.putRow, Sort.mapBlock, Sort.ahead], fun k hk hne => ?_⟩
    have hk' : g ≠ k := fun e => hne (by rw [e])
    rw [Sort.heap_grow_old _ _ (by rw [hsz]; exact hk)]
    simp [Sort.putRow, Sort.mapBlock, Sort.ahead, Array.getElem?_modify, hk']
  refine ⟨rfl, ?_, G⟩
  unfold OwnI
  rw [asc_length]
  obtain ⟨h1, h2⟩ := ho
  refine ⟨h1, ?_⟩
  rcases h2 with h2 | ⟨g', cap', cur, hv, hb, hh, hr⟩
  · exact .inl h2
  · have hlt : g' < (Sort.putRow (Value.int .i64) (Sort.ahead w n) g 0 (asc zs).toArray).heap.size := (Array.getElem?_eq_some_iff.1 hh).1
    exact .inr ⟨g', cap', cur, hv, hb, (Sort.heap_grow_old _ _ hlt).trans hh, hr⟩

end Go.Proofs.Ythfmmlpbflfpaac
