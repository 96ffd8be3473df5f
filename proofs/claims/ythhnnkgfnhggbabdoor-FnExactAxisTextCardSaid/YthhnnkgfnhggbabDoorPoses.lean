/- What the laws' own helpers do with slices of poses. -/
import Derived.Test.YthhnnkgfnhggbabDoorRecs
import Derived.Test.YthhnnkgfnhggbabDoorPose
import Derived.StillTailTactics
import Derived.WalkSpells
namespace Go.Proofs.YthhnnkgfnhggbabDoor
open Go.ChangeShapes Go.WideShapes Go.ChangeAt Go.RowKit
set_option linter.unusedVariables false
set_option linter.unusedSimpArgs false

def encPs (q : Ps) : List Value := [.int .i64 q.s, .int .i64 q.h, .int .i64 q.y, .int .i64 q.p]
theorem encPs_len (q : Ps) : (encPs q).length = 4 := rfl

/-- A box of 4 cells is in a later world as it was. -/
theorem boxPs {N : Nat} {w w' : World} {g : Nat} {t : TypeId} {q : Ps} (B : Below N w w') (hN : g < N) (h : w.heap[g]? = some (.cells #[.int .i64 q.s, .int .i64 q.h, .int .i64 q.y, .int .i64 q.p] t (0, 0))) :
    w'.cell? ⟨g, 0, none⟩ = some (.int .i64 q.s) ∧ w'.cell? ⟨g, 1, none⟩ = some (.int .i64 q.h) ∧ w'.cell? ⟨g, 2, none⟩ = some (.int .i64 q.y) ∧ w'.cell? ⟨g, 3, none⟩ = some (.int .i64 q.p) := by
  have h' := (B.block g hN).trans h
  exact ⟨cell_of_row w' g 0 _ t _ h', cell_of_row w' g 1 _ t _ h', cell_of_row w' g 2 _ t _ h', cell_of_row w' g 3 _ t _ h'⟩

/-- What the walk wants of a box. -/
theorem boxPs_at {w : World} {g : Nat} {t : TypeId} {q : Ps} (h : w.heap[g]? = some (.cells #[.int .i64 q.s, .int .i64 q.h, .int .i64 q.y, .int .i64 q.p] t (0, 0))) :
    (w.cell? ⟨g, 0, none⟩ = some (.int .i64 q.s) ∧ w.cell? ⟨g, 1, none⟩ = some (.int .i64 q.h) ∧ w.cell? ⟨g, 2, none⟩ = some (.int .i64 q.y) ∧ w.cell? ⟨g, 3, none⟩ = some (.int .i64 q.p)) ∧ (w.frozen? ⟨g, 0, none⟩ = false ∧ w.frozen? ⟨g, 1, none⟩ = false ∧ w.frozen? ⟨g, 2, none⟩ = false ∧ w.frozen? ⟨g, 3, none⟩ = false) ∧ g < w.heap.size :=
  ⟨⟨cell_of_row w g 0 _ t _ h, cell_of_row w g 1 _ t _ h, cell_of_row w g 2 _ t _ h, cell_of_row w g 3 _ t _ h⟩, ⟨frozen_of_row w g 0 _ t h, frozen_of_row w g 1 _ t h, frozen_of_row w g 2 _ t h, frozen_of_row w g 3 _ t h⟩, (Array.getElem?_eq_some_iff.1 h).1⟩

/-- A box that is written whole. -/
theorem boxPs_put {w : World} {g : Nat} {t : TypeId} {q : Ps} (h : w.heap[g]? = some (.cells #[.int .i64 q.s, .int .i64 q.h, .int .i64 q.y, .int .i64 q.p] t (0, 0))) (q' : Ps) :
    ((((w.setCell ⟨g, 0, none⟩ (.int .i64 q'.s)).setCell ⟨g, 1, none⟩ (.int .i64 q'.h)).setCell ⟨g, 2, none⟩ (.int .i64 q'.y)).setCell ⟨g, 3, none⟩ (.int .i64 q'.p)).heap[g]? = some (.cells #[.int .i64 q'.s, .int .i64 q'.h, .int .i64 q'.y, .int .i64 q'.p] t (0, 0)) := by
  have h1 := (heap_setCell_same _ g 3 _ t (.int .i64 q'.p) (heap_setCell_same _ g 2 _ t (.int .i64 q'.y) (heap_setCell_same _ g 1 _ t (.int .i64 q'.h) (heap_setCell_same _ g 0 _ t (.int .i64 q'.s) h))))
  simpa using h1

theorem boxPs_other {w : World} {g : Nat} (q' : Ps) (j : Nat) (hj : j ≠ g) :
    ((((w.setCell ⟨g, 0, none⟩ (.int .i64 q'.s)).setCell ⟨g, 1, none⟩ (.int .i64 q'.h)).setCell ⟨g, 2, none⟩ (.int .i64 q'.y)).setCell ⟨g, 3, none⟩ (.int .i64 q'.p)).heap[j]? = w.heap[j]? := by
  rw [heap_setCell_other _ _ _ _ hj, heap_setCell_other _ _ _ _ hj, heap_setCell_other _ _ _ _ hj, heap_setCell_other _ _ _ _ hj]

/-- The numbers q, q + 1, .. as poses. -/
def upPs (q : Int) : Nat → List Ps
  | 0 => []
  | n + 1 => ⟨q, q + 1, q + 1 + 1, q + 1 + 1 + 1⟩ :: upPs (q + 4) n

theorem upPs_length (q : Int) (n : Nat) : (upPs q n).length = n := by
  induction n generalizing q with
  | zero => rfl
  | succ n ih => simp [upPs, ih]

theorem upPs_get (q : Int) (n i : Nat) (h : i < n) : (upPs q n)[i]? = some ⟨q + 4 * i, q + 4 * i + 1, q + 4 * i + 1 + 1, q + 4 * i + 1 + 1 + 1⟩ := by
  induction n generalizing q i with
  | zero => omega
  | succ n ih =>
    cases i with
    | zero => simp [upPs]
    | succ i =>
      simp only [upPs, List.getElem?_cons_succ]
      rw [ih (q + 4) i (by omega)]
      congr 1
      apply Ps.eq <;> simp only [] <;> push_cast <;> omega

theorem upPs_succ (q : Int) (i : Nat) : upPs q (i + 1) = upPs q i ++ [⟨q + 4 * i, q + 4 * i + 1, q + 4 * i + 1 + 1, q + 4 * i + 1 + 1 + 1⟩] := by
  induction i generalizing q with
  | zero => simp [upPs]
  | succ i ih =>
    rw [upPs, ih (q + 4), upPs, List.cons_append]
    congr 3
    apply Ps.eq <;> simp only [] <;> push_cast <;> omega

def markedPs (q : Int) (xs : List Ps) (i : Nat) : List Ps := upPs q i ++ xs.drop i

theorem markedPs_length (q : Int) (xs : List Ps) (i : Nat) (h : i ≤ xs.length) : (markedPs q xs i).length = xs.length := by
  simp [markedPs, upPs_length]; omega

theorem markedPs_set (q : Int) (xs : List Ps) (i : Nat) (h : i < xs.length) : (markedPs q xs i).set i ⟨q + 4 * i, q + 4 * i + 1, q + 4 * i + 1 + 1, q + 4 * i + 1 + 1 + 1⟩ = markedPs q xs (i + 1) := by
  unfold markedPs
  rw [List.set_append_right _ _ (by rw [upPs_length]; omega), upPs_length, Nat.sub_self, List.drop_eq_getElem_cons h, List.set_cons_zero, upPs_succ, List.append_assoc]
  rfl





end Go.Proofs.YthhnnkgfnhggbabDoor
