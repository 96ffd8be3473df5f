/- clear of a row of numbers. -/
import Derived.Test.YthfmmlpbflfpaacDepO
namespace Go.Proofs.Ythfmmlpbflfpaac
open Go.ChangeShapes Go.WideShapes Go.ChangeAt Go.RowKit
set_option linter.unusedVariables false
set_option linter.unusedSimpArgs false

/-- Block D alone may have changed, and blocks may be new. -/
def ChgD (D : Nat) (w w' : World) : Prop := ∀ B, B ≤ D → D < w.heap.size → Below B w w' ∧ ∀ k, k < w.heap.size → k ≠ D → w'.heap[k]? = w.heap[k]?
theorem clear_run (w : World) (b o k c : Nat) (hk : 1 ≤ k ∧ k ≤ 4) (hc : ∀ j, j < k → (w.cell? ⟨b, o + j, none⟩).isSome = true) (hf : ∀ j, j < k → w.frozen? ⟨b, o + j, none⟩ = false) :
    (Builtin.clear_ #[44] 0 #[.slice (some ⟨b, o, none⟩) k c]).run Try.prog w = .ok (.tuple #[]) (w.setCells b o (List.replicate k (.int .i64 0))) := by
  obtain ⟨i0, hi, hz0, hz1, hz2⟩ := info_parts info_i64
  have h := run_storeCells_cells (P := Try.prog) b o (List.replicate k (.int .i64 0)) 0 w (fun j hj => by rw [List.length_replicate] at hj; exact hc j hj) (fun j hj => by rw [List.length_replicate] at hj; exact hf j hj) (fun v hv => by rw [List.eq_of_mem_replicate hv]; rfl)
  obtain ⟨k', rfl⟩ : ∃ k', k = k' + 1 := ⟨k - 1, by omega⟩
  have hz : Builtin.zeroCells (Value.cells (.int .i64 0)) (k' + 1) = (List.replicate (k' + 1) (Value.int .i64 0)).toArray := by
    apply Array.ext
    · simp [Builtin.zeroCells, Value.cells]
    · intro i h1 h2
      simp [Builtin.zeroCells, Value.cells, Nat.mod_one]
  simp only [Nat.add_zero] at h
  simp [Builtin.clear_, run_underlying Try.underlying44, zeroValue, typeInfo, hi, hz0, Result.andThen]
  rw [hz]
  simp only [h]
end Go.Proofs.Ythfmmlpbflfpaac
