/- The numbers from a first one on that are good. -/
import Derived.Test.YthfmmlpbflfpaaaDoorInts
namespace Go.Proofs.YthfmmlpbflfpaaaDoor
open Go.ChangeShapes Go.WideShapes Go.ChangeAt Go.RowKit
set_option linter.unusedVariables false
set_option linter.unusedSimpArgs false

def goodL (lo : Int) (P : Int → Bool) (k : Nat) : List Int := (upFrom lo k).filter P

theorem upFrom_snoc (lo : Int) (k : Nat) : upFrom lo (k + 1) = upFrom lo k ++ [lo + k] := by
  induction k generalizing lo with
  | zero => simp [upFrom]
  | succ k ih =>
    rw [upFrom, ih (lo + 1)]
    simp only [upFrom, List.cons_append]
    congr 3
    push_cast; omega

theorem goodL_succ (lo : Int) (P : Int → Bool) (k : Nat) : goodL lo P (k + 1) = if P (lo + k) then goodL lo P k ++ [lo + k] else goodL lo P k := by
  unfold goodL
  rw [upFrom_snoc, List.filter_append]
  by_cases h : P (lo + k) = true
  · rw [if_pos h]; simp [h]
  · rw [if_neg h]; simp [h]

theorem goodL_len (lo : Int) (P : Int → Bool) (k : Nat) : (goodL lo P k).length ≤ k := by
  unfold goodL
  refine Nat.le_trans (List.length_filter_le _ _) ?_
  rw [upFrom_length]; exact Nat.le_refl _

/-- A good number more. -/
theorem goodL_yes (lo : Int) (P : Int → Bool) (k : Nat) (h : P (lo + k) = true) : goodL lo P (k + 1) = goodL lo P k ++ [lo + k] := by rw [goodL_succ, if_pos h]
theorem goodL_no (lo : Int) (P : Int → Bool) (k : Nat) (h : P (lo + k) = false) : goodL lo P (k + 1) = goodL lo P k := by rw [goodL_succ, if_neg (by rw [h]; decide)]
end Go.Proofs.YthfmmlpbflfpaaaDoor
