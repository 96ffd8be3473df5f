/- A number is put into a list in its place, once: the specification's helper. -/
import Derived.Test.YthfmmlpbflfpaacBlkM
import Derived.Test.YthfmmlpbflfpaacAppI
namespace Go.Proofs.Ythfmmlpbflfpaac
open Go.ChangeShapes Go.WideShapes Go.ChangeAt Go.RowKit
set_option linter.unusedVariables false
set_option linter.unusedSimpArgs false

/-- Where the putting stands. -/
def Puts (t : List Int) (x : Int) (i : Nat) (d : Bool) (ys : List Int) : Prop := ys ++ (if d = true then t.drop i else putL (t.drop i) x) = putL t x
theorem Puts.keep {t : List Int} {x : Int} {i : Nat} {ys : List Int} {y : Int} (h : Puts t x i true ys) (hy : t[i]? = some y) : Puts t x (i + 1) true (ys ++ [y]) := by
  obtain ⟨hi, e⟩ := List.getElem?_eq_some_iff.1 hy
  unfold Puts at *
  rw [if_pos rfl] at *
  rw [← h, List.drop_eq_getElem_cons hi, e]
  simp
theorem Puts.drop {t : List Int} {i : Nat} {y : Int} (hy : t[i]? = some y) : t.drop i = y :: t.drop (i + 1) := by
  obtain ⟨hi, e⟩ := List.getElem?_eq_some_iff.1 hy
  rw [List.drop_eq_getElem_cons hi, e]
theorem Puts.less {t : List Int} {x : Int} {i : Nat} {ys : List Int} {y : Int} (h : Puts t x i false ys) (hy : t[i]? = some y) (hl : y < x) : Puts t x (i + 1) false (ys ++ [y]) := by
  unfold Puts at *
  rw [if_neg (by simp)] at *
  rw [← h, Puts.drop hy, putL_gt hl]
  simp
theorem Puts.same {t : List Int} {x : Int} {i : Nat} {ys : List Int} {y : Int} (h : Puts t x i false ys) (hy : t[i]? = some y) (hl : y = x) : Puts t x (i + 1) true (ys ++ [y]) := by
  subst hl
  unfold Puts at *
  rw [if_neg (by simp)] at h
  rw [if_pos rfl, ← h, Puts.drop hy, putL_eq]
  simp
theorem Puts.more {t : List Int} {x : Int} {i : Nat} {ys : List Int} {y : Int} (h : Puts t x i false ys) (hy : t[i]? = some y) (hl : x < y) : Puts t x (i + 1) true ((ys ++ [x]) ++ [y]) := by
  unfold Puts at *
  rw [if_neg (by simp)] at h
  rw [if_pos rfl, ← h, Puts.drop hy, putL_lt hl]
  simp
theorem Puts.done {t : List Int} {x : Int} {ys : List Int} (h : Puts t x t.length true ys) : ys = putL t x := by
  unfold Puts at h; rw [if_pos rfl] at h; simpa using h
theorem Puts.last {t : List Int} {x : Int} {ys : List Int} (h : Puts t x t.length false ys) : ys ++ [x] = putL t x := by
  unfold Puts at h; rw [if_neg (by simp)] at h; simpa [putL] using h

theorem own_len {w : World} {B m c : Nat} {ad : Option Addr} {ys : List Int} (hm : m = ys.length) (o : OwnI w B (.slice ad m c) ys) : w.ownsRow B 2 1 (.slice ad m c) m (ys.map (Value.int .i64)) := by
  unfold OwnI at o
  rw [← hm] at o
  exact o
theorem own_of {w : World} {B m c : Nat} {ad : Option Addr} {ys : List Int} {x : Int} (hm : m = ys.length) (o : w.ownsRow B 2 1 (.slice ad (m + 1) c) (m + 1) (ys.map (Value.int .i64) ++ [.int .i64 x])) : OwnI w B (.slice ad (m + 1) c) (ys ++ [x]) := by
  unfold OwnI
  rw [List.length_append, ← hm, List.map_append]
  exact o
end Go.Proofs.Ythfmmlpbflfpaac
