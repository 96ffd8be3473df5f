/- What the laws' own helpers do with slices of pairs. -/
import Derived.Test.YtkdecpnbbpmooacDoorRecs
import Derived.StillTailTactics
import Derived.WalkSpells
namespace Go.Proofs.YtkdecpnbbpmooacDoor
open Go.ChangeShapes Go.WideShapes Go.ChangeAt Go.RowKit
set_option linter.unusedVariables false
set_option linter.unusedSimpArgs false

/-- A pair, field by field. -/
structure Pr where
  x : Int
  y : Int

theorem Pr.eq {a b : Pr} (h0 : a.x = b.x) (h1 : a.y = b.y) : a = b := by
  cases a; cases b; simp_all

def encPr (q : Pr) : List Value := [.int .i64 q.x, .int .i64 q.y]
theorem encPr_len (q : Pr) : (encPr q).length = 2 := rfl

/-- A box of 2 cells is in a later world as it was. -/
theorem boxPr {N : Nat} {w w' : World} {g : Nat} {t : TypeId} {q : Pr} (B : Below N w w') (hN : g < N) (h : w.heap[g]? = some (.cells #[.int .i64 q.x, .int .i64 q.y] t (0, 0))) :
    w'.cell? ⟨g, 0, none⟩ = some (.int .i64 q.x) ∧ w'.cell? ⟨g, 1, none⟩ = some (.int .i64 q.y) := by
  have h' := (B.block g hN).trans h
  exact ⟨cell_of_row w' g 0 _ t _ h', cell_of_row w' g 1 _ t _ h'⟩

/-- What the walk wants of a box. -/
theorem boxPr_at {w : World} {g : Nat} {t : TypeId} {q : Pr} (h : w.heap[g]? = some (.cells #[.int .i64 q.x, .int .i64 q.y] t (0, 0))) :
    (w.cell? ⟨g, 0, none⟩ = some (.int .i64 q.x) ∧ w.cell? ⟨g, 1, none⟩ = some (.int .i64 q.y)) ∧ (w.frozen? ⟨g, 0, none⟩ = false ∧ w.frozen? ⟨g, 1, none⟩ = false) ∧ g < w.heap.size :=
  ⟨⟨cell_of_row w g 0 _ t _ h, cell_of_row w g 1 _ t _ h⟩, ⟨frozen_of_row w g 0 _ t h, frozen_of_row w g 1 _ t h⟩, (Array.getElem?_eq_some_iff.1 h).1⟩

/-- A box that is written whole. -/
theorem boxPr_put {w : World} {g : Nat} {t : TypeId} {q : Pr} (h : w.heap[g]? = some (.cells #[.int .i64 q.x, .int .i64 q.y] t (0, 0))) (q' : Pr) :
    ((w.setCell ⟨g, 0, none⟩ (.int .i64 q'.x)).setCell ⟨g, 1, none⟩ (.int .i64 q'.y)).heap[g]? = some (.cells #[.int .i64 q'.x, .int .i64 q'.y] t (0, 0)) := by
  have h1 := (heap_setCell_same _ g 1 _ t (.int .i64 q'.y) (heap_setCell_same _ g 0 _ t (.int .i64 q'.x) h))
  simpa using h1

theorem boxPr_other {w : World} {g : Nat} (q' : Pr) (j : Nat) (hj : j ≠ g) :
    ((w.setCell ⟨g, 0, none⟩ (.int .i64 q'.x)).setCell ⟨g, 1, none⟩ (.int .i64 q'.y)).heap[j]? = w.heap[j]? := by
  rw [heap_setCell_other _ _ _ _ hj, heap_setCell_other _ _ _ _ hj]

/-- The numbers q, q + 1, .. as pairs. -/
def upPr (q : Int) : Nat → List Pr
  | 0 => []
  | n + 1 => ⟨q, q + 1⟩ :: upPr (q + 2) n

theorem upPr_length (q : Int) (n : Nat) : (upPr q n).length = n := by
  induction n generalizing q with
  | zero => rfl
  | succ n ih => simp [upPr, ih]

theorem upPr_get (q : Int) (n i : Nat) (h : i < n) : (upPr q n)[i]? = some ⟨q + 2 * i, q + 2 * i + 1⟩ := by
  induction n generalizing q i with
  | zero => omega
  | succ n ih =>
    cases i with
    | zero => simp [upPr]
    | succ i =>
      simp only [upPr, List.getElem?_cons_succ]
      rw [ih (q + 2) i (by omega)]
      congr 1
      apply Pr.eq <;> simp only [] <;> push_cast <;> omega

theorem upPr_succ (q : Int) (i : Nat) : upPr q (i + 1) = upPr q i ++ [⟨q + 2 * i, q + 2 * i + 1⟩] := by
  induction i generalizing q with
  | zero => simp [upPr]
  | succ i ih =>
    rw [upPr, ih (q + 2), upPr, List.cons_append]
    congr 3
    apply Pr.eq <;> simp only [] <;> push_cast <;> omega

def markedPr (q : Int) (xs : List Pr) (i : Nat) : List Pr := upPr q i ++ xs.drop i

theorem markedPr_length (q : Int) (xs : List Pr) (i : Nat) (h : i ≤ xs.length) : (markedPr q xs i).length = xs.length := by
  simp [markedPr, upPr_length]; omega

theorem markedPr_set (q : Int) (xs : List Pr) (i : Nat) (h : i < xs.length) : (markedPr q xs i).set i ⟨q + 2 * i, q + 2 * i + 1⟩ = markedPr q xs (i + 1) := by
  unfold markedPr
  rw [List.set_append_right _ _ (by rw [upPr_length]; omega), upPr_length, Nat.sub_self, List.drop_eq_getElem_cons h, List.set_cons_zero, upPr_succ, List.append_assoc]
  rfl






end Go.Proofs.YtkdecpnbbpmooacDoor
