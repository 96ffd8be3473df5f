/- slices.Min, Max, Index and Clone of integers. -/
import Derived.Test.YthhnnkgfnhggbaaInts
import Derived.Lib.LazyBuf
import Derived.Deep.AppendLies
namespace Go.Proofs.Ythhnnkgfnhggbaa
open Go.ChangeShapes Go.WideShapes Go.ChangeAt Go.RowKit
set_option linter.unusedVariables false
set_option linter.unusedSimpArgs false

theorem info_int : (Try.prog.info? 2).map (fun i => (i.zero, i.size, i.bytes)) = some (some (.int .i64 0), 1, 8) := by kernel_rfl
theorem infoI_parts : ∃ i : TypeInfo, Try.prog.info? 2 = some i ∧ i.zero = some (.int .i64 0) ∧ i.size = 1 ∧ i.bytes = 8 := by
  have h := info_int
  match e : Try.prog.info? 2 with
  | none => rw [e] at h; cases h
  | some i => rw [e] at h; simp at h; exact ⟨i, rfl, h.1, h.2.1, h.2.2⟩

/-- A slice literal of integers. -/
theorem ownI_lit (w : World) (zs : List Int) (hz : zs.length ≤ 100) : OwnI (w.alloc (.cells (zs.map (Value.int .i64)).toArray 2)) w.heap.size (.slice (some ⟨w.heap.size, 0, none⟩) zs.length zs.length) zs := by
  refine ⟨by simp, .inr ⟨w.heap.size, zs.length, _, rfl, Nat.le_refl _, heap_alloc_new w _, Nat.le_refl _, by unfold maxLen; omega, by simp, by rw [Nat.mul_one]; exact List.take_of_length_le (by simp)⟩⟩

def LeastOf (zs : List Int) (x : Int) : Prop := x ∈ zs ∧ ∀ y ∈ zs, x ≤ y
def GreatestOf (zs : List Int) (x : Int) : Prop := x ∈ zs ∧ ∀ y ∈ zs, y ≤ x

theorem take_mem {zs : List Int} {k : Nat} {y : Int} (hy : zs[k]? = some y) (x : Int) : x ∈ zs.take (k + 1) ↔ x ∈ zs.take k ∨ x = y := by
  rw [List.take_add_one, hy]; simp



end Go.Proofs.Ythhnnkgfnhggbaa
