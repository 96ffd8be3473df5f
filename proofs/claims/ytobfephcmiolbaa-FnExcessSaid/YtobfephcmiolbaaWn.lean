/- A window of a list: first, last, sum. -/
import Derived.Test.YtobfephcmiolbaaRecs
import Derived.StillTailTactics
import Derived.WalkSpells
namespace Go.Proofs.Ytobfephcmiolbaa
open Go.ChangeShapes Go.WideShapes Go.ChangeAt Go.RowKit
set_option linter.unusedVariables false
set_option linter.unusedSimpArgs false

/-- A window, field by field. -/
structure Wn where
  f : Int
  l : Int
  s : Int

theorem Wn.eq {a b : Wn} (h0 : a.f = b.f) (h1 : a.l = b.l) (h2 : a.s = b.s) : a = b := by
  cases a; cases b; simp_all

def encWn (q : Wn) : List Value := [.int .i64 q.f, .int .i64 q.l, .int .i64 q.s]
theorem encWn_len (q : Wn) : (encWn q).length = 3 := rfl

/-- A box of 3 cells is in a later world as it was. -/
theorem boxWn {N : Nat} {w w' : World} {g : Nat} {t : TypeId} {q : Wn} (B : Below N w w') (hN : g < N) (h : w.heap[g]? = some (.cells #[.int .i64 q.f, .int .i64 q.l, .int .i64 q.s] t (0, 0))) :
    w'.cell? ⟨g, 0, none⟩ = some (.int .i64 q.f) ∧ w'.cell? ⟨g, 1, none⟩ = some (.int .i64 q.l) ∧ w'.cell? ⟨g, 2, none⟩ = some (.int .i64 q.s) := by
  have h' := (B.block g hN).trans h
  exact ⟨cell_of_row w' g 0 _ t _ h', cell_of_row w' g 1 _ t _ h', cell_of_row w' g 2 _ t _ h'⟩

/-- What the walk wants of a box. -/
theorem boxWn_at {w : World} {g : Nat} {t : TypeId} {q : Wn} (h : w.heap[g]? = some (.cells #[.int .i64 q.f, .int .i64 q.l, .int .i64 q.s] t (0, 0))) :
    (w.cell? ⟨g, 0, none⟩ = some (.int .i64 q.f) ∧ w.cell? ⟨g, 1, none⟩ = some (.int .i64 q.l) ∧ w.cell? ⟨g, 2, none⟩ = some (.int .i64 q.s)) ∧ (w.frozen? ⟨g, 0, none⟩ = false ∧ w.frozen? ⟨g, 1, none⟩ = false ∧ w.frozen? ⟨g, 2, none⟩ = false) ∧ g < w.heap.size :=
  ⟨⟨cell_of_row w g 0 _ t _ h, cell_of_row w g 1 _ t _ h, cell_of_row w g 2 _ t _ h⟩, ⟨frozen_of_row w g 0 _ t h, frozen_of_row w g 1 _ t h, frozen_of_row w g 2 _ t h⟩, (Array.getElem?_eq_some_iff.1 h).1⟩

/-- A box that is written whole. -/
theorem boxWn_put {w : World} {g : Nat} {t : TypeId} {q : Wn} (h : w.heap[g]? = some (.cells #[.int .i64 q.f, .int .i64 q.l, .int .i64 q.s] t (0, 0))) (q' : Wn) :
    (((w.setCell ⟨g, 0, none⟩ (.int .i64 q'.f)).setCell ⟨g, 1, none⟩ (.int .i64 q'.l)).setCell ⟨g, 2, none⟩ (.int .i64 q'.s)).heap[g]? = some (.cells #[.int .i64 q'.f, .int .i64 q'.l, .int .i64 q'.s] t (0, 0)) := by
  have h1 := (heap_setCell_same _ g 2 _ t (.int .i64 q'.s) (heap_setCell_same _ g 1 _ t (.int .i64 q'.l) (heap_setCell_same _ g 0 _ t (.int .i64 q'.f) h)))
  simpa using h1

theorem boxWn_other {w : World} {g : Nat} (q' : Wn) (j : Nat) (hj : j ≠ g) :
    (((w.setCell ⟨g, 0, none⟩ (.int .i64 q'.f)).setCell ⟨g, 1, none⟩ (.int .i64 q'.l)).setCell ⟨g, 2, none⟩ (.int .i64 q'.s)).heap[j]? = w.heap[j]? := by
  rw [heap_setCell_other _ _ _ _ hj, heap_setCell_other _ _ _ _ hj, heap_setCell_other _ _ _ _ hj]

end Go.Proofs.Ytobfephcmiolbaa
