/- What the laws' own helpers do with slices of piles. -/
import Derived.Test.YthfmmlpbflfpaacRecs
import Derived.StillTailTactics
import Derived.WalkSpells
namespace Go.Proofs.Ythfmmlpbflfpaac
open Go.ChangeShapes Go.WideShapes Go.ChangeAt Go.RowKit
set_option linter.unusedVariables false
set_option linter.unusedSimpArgs false

/-- A pile, field by field. -/
structure Pl where
  a : Int
  b : Int
  c : Int
  d : Int
  n : Int

theorem Pl.eq {a b : Pl} (h0 : a.a = b.a) (h1 : a.b = b.b) (h2 : a.c = b.c) (h3 : a.d = b.d) (h4 : a.n = b.n) : a = b := by
  cases a; cases b; simp_all

def encPl (q : Pl) : List Value := [.int .i64 q.a, .int .i64 q.b, .int .i64 q.c, .int .i64 q.d, .int .i64 q.n]
theorem encPl_len (q : Pl) : (encPl q).length = 5 := rfl

/-- A box of 5 cells is in a later world as it was. -/
theorem boxPl {N : Nat} {w w' : World} {g : Nat} {t : TypeId} {q : Pl} (B : Below N w w') (hN : g < N) (h : w.heap[g]? = some (.cells #[.int .i64 q.a, .int .i64 q.b, .int .i64 q.c, .int .i64 q.d, .int .i64 q.n] t (0, 0))) :
    w'.cell? ⟨g, 0, none⟩ = some (.int .i64 q.a) ∧ w'.cell? ⟨g, 1, none⟩ = some (.int .i64 q.b) ∧ w'.cell? ⟨g, 2, none⟩ = some (.int .i64 q.c) ∧ w'.cell? ⟨g, 3, none⟩ = some (.int .i64 q.d) ∧ w'.cell? ⟨g, 4, none⟩ = some (.int .i64 q.n) := by
  have h' := (B.block g hN).trans h
  exact ⟨cell_of_row w' g 0 _ t _ h', cell_of_row w' g 1 _ t _ h', cell_of_row w' g 2 _ t _ h', cell_of_row w' g 3 _ t _ h', cell_of_row w' g 4 _ t _ h'⟩

/-- What the walk wants of a box. -/
theorem boxPl_at {w : World} {g : Nat} {t : TypeId} {q : Pl} (h : w.heap[g]? = some (.cells #[.int .i64 q.a, .int .i64 q.b, .int .i64 q.c, .int .i64 q.d, .int .i64 q.n] t (0, 0))) :
    (w.cell? ⟨g, 0, none⟩ = some (.int .i64 q.a) ∧ w.cell? ⟨g, 1, none⟩ = some (.int .i64 q.b) ∧ w.cell? ⟨g, 2, none⟩ = some (.int .i64 q.c) ∧ w.cell? ⟨g, 3, none⟩ = some (.int .i64 q.d) ∧ w.cell? ⟨g, 4, none⟩ = some (.int .i64 q.n)) ∧ (w.frozen? ⟨g, 0, none⟩ = false ∧ w.frozen? ⟨g, 1, none⟩ = false ∧ w.frozen? ⟨g, 2, none⟩ = false ∧ w.frozen? ⟨g, 3, none⟩ = false ∧ w.frozen? ⟨g, 4, none⟩ = false) ∧ g < w.heap.size :=
  ⟨⟨cell_of_row w g 0 _ t _ h, cell_of_row w g 1 _ t _ h, cell_of_row w g 2 _ t _ h, cell_of_row w g 3 _ t _ h, cell_of_row w g 4 _ t _ h⟩, ⟨frozen_of_row w g 0 _ t h, frozen_of_row w g 1 _ t h, frozen_of_row w g 2 _ t h, frozen_of_row w g 3 _ t h, frozen_of_row w g 4 _ t h⟩, (Array.getElem?_eq_some_iff.1 h).1⟩

/-- A box that is written whole. -/
theorem boxPl_put {w : World} {g : Nat} {t : TypeId} {q : Pl} (h : w.heap[g]? = some (.cells #[.int .i64 q.a, .int .i64 q.b, .int .i64 q.c, .int .i64 q.d, .int .i64 q.n] t (0, 0))) (q' : Pl) :
    (((((w.setCell ⟨g, 0, none⟩ (.int .i64 q'.a)).setCell ⟨g, 1, none⟩ (.int .i64 q'.b)).setCell ⟨g, 2, none⟩ (.int .i64 q'.c)).setCell ⟨g, 3, none⟩ (.int .i64 q'.d)).setCell ⟨g, 4, none⟩ (.int .i64 q'.n)).heap[g]? = some (.cells #[.int .i64 q'.a, .int .i64 q'.b, .int .i64 q'.c, .int .i64 q'.d, .int .i64 q'.n] t (0, 0)) := by
  have h1 := (heap_setCell_same _ g 4 _ t (.int .i64 q'.n) (heap_setCell_same _ g 3 _ t (.int .i64 q'.d) (heap_setCell_same _ g 2 _ t (.int .i64 q'.c) (heap_setCell_same _ g 1 _ t (.int .i64 q'.b) (heap_setCell_same _ g 0 _ t (.int .i64 q'.a) h)))))
  simpa using h1

theorem boxPl_other {w : World} {g : Nat} (q' : Pl) (j : Nat) (hj : j ≠ g) :
    (((((w.setCell ⟨g, 0, none⟩ (.int .i64 q'.a)).setCell ⟨g, 1, none⟩ (.int .i64 q'.b)).setCell ⟨g, 2, none⟩ (.int .i64 q'.c)).setCell ⟨g, 3, none⟩ (.int .i64 q'.d)).setCell ⟨g, 4, none⟩ (.int .i64 q'.n)).heap[j]? = w.heap[j]? := by
  rw [heap_setCell_other _ _ _ _ hj, heap_setCell_other _ _ _ _ hj, heap_setCell_other _ _ _ _ hj, heap_setCell_other _ _ _ _ hj, heap_setCell_other _ _ _ _ hj]

/-- The numbers q, q + 1, .. as piles. -/
def upPl (q : Int) : Nat → List Pl
  | 0 => []
  | n + 1 => ⟨q, q + 1, q + 1 + 1, q + 1 + 1 + 1, q + 1 + 1 + 1 + 1⟩ :: upPl (q + 5) n

theorem upPl_length (q : Int) (n : Nat) : (upPl q n).length = n := by
  induction n generalizing q with
  | zero => rfl
  | succ n ih => simp [upPl, ih]

theorem upPl_get (q : Int) (n i : Nat) (h : i < n) : (upPl q n)[i]? = some ⟨q + 5 * i, q + 5 * i + 1, q + 5 * i + 1 + 1, q + 5 * i + 1 + 1 + 1, q + 5 * i + 1 + 1 + 1 + 1⟩ := by
  induction n generalizing q i with
  | zero => omega
  | succ n ih =>
    cases i with
    | zero => simp [upPl]
    | succ i =>
      simp only [upPl, List.getElem?_cons_succ]
      rw [ih (q + 5) i (by omega)]
      congr 1
      apply Pl.eq <;> simp only [] <;> push_cast <;> omega

theorem upPl_succ (q : Int) (i : Nat) : upPl q (i + 1) = upPl q i ++ [⟨q + 5 * i, q + 5 * i + 1, q + 5 * i + 1 + 1, q + 5 * i + 1 + 1 + 1, q + 5 * i + 1 + 1 + 1 + 1⟩] := by
  induction i generalizing q with
  | zero => simp [upPl]
  | succ i ih =>
    rw [upPl, ih (q + 5), upPl, List.cons_append]
    congr 3
    apply Pl.eq <;> simp only [] <;> push_cast <;> omega

def markedPl (q : Int) (xs : List Pl) (i : Nat) : List Pl := upPl q i ++ xs.drop i

theorem markedPl_length (q : Int) (xs : List Pl) (i : Nat) (h : i ≤ xs.length) : (markedPl q xs i).length = xs.length := by
  simp [markedPl, upPl_length]; omega

theorem markedPl_set (q : Int) (xs : List Pl) (i : Nat) (h : i < xs.length) : (markedPl q xs i).set i ⟨q + 5 * i, q + 5 * i + 1, q + 5 * i + 1 + 1, q + 5 * i + 1 + 1 + 1, q + 5 * i + 1 + 1 + 1 + 1⟩ = markedPl q xs (i + 1) := by
  unfold markedPl
  rw [List.set_append_right _ _ (by rw [upPl_length]; omega), upPl_length, Nat.sub_self, List.drop_eq_getElem_cons h, List.set_cons_zero, upPl_succ, List.append_assoc]
  rfl






end Go.Proofs.Ythfmmlpbflfpaac
