/- What the laws' own helpers do with slices of losss. -/
import Derived.Test.YthhnnkgfnhggbabRecs
import Derived.StillTailTactics
import Derived.WalkSpells
namespace Go.Proofs.Ythhnnkgfnhggbab
open Go.ChangeShapes Go.WideShapes Go.ChangeAt Go.RowKit
set_option linter.unusedVariables false
set_option linter.unusedSimpArgs false

/-- A loss, field by field. -/
structure Lo where
  s : Int
  v : Int
  w : Int

theorem Lo.eq {a b : Lo} (h0 : a.s = b.s) (h1 : a.v = b.v) (h2 : a.w = b.w) : a = b := by
  cases a; cases b; simp_all

def encLo (q : Lo) : List Value := [.int .i64 q.s, .int .i64 q.v, .int .i64 q.w]
theorem encLo_len (q : Lo) : (encLo q).length = 3 := rfl

/-- A box of 3 cells is in a later world as it was. -/
theorem boxLo {N : Nat} {w w' : World} {g : Nat} {t : TypeId} {q : Lo} (B : Below N w w') (hN : g < N) (h : w.heap[g]? = some (.cells #[.int .i64 q.s, .int .i64 q.v, .int .i64 q.w] t (0, 0))) :
    w'.cell? ⟨g, 0, none⟩ = some (.int .i64 q.s) ∧ w'.cell? ⟨g, 1, none⟩ = some (.int .i64 q.v) ∧ w'.cell? ⟨g, 2, none⟩ = some (.int .i64 q.w) := by
  have h' := (B.block g hN).trans h
  exact ⟨cell_of_row w' g 0 _ t _ h', cell_of_row w' g 1 _ t _ h', cell_of_row w' g 2 _ t _ h'⟩

/-- What the walk wants of a box. -/
theorem boxLo_at {w : World} {g : Nat} {t : TypeId} {q : Lo} (h : w.heap[g]? = some (.cells #[.int .i64 q.s, .int .i64 q.v, .int .i64 q.w] t (0, 0))) :
    (w.cell? ⟨g, 0, none⟩ = some (.int .i64 q.s) ∧ w.cell? ⟨g, 1, none⟩ = some (.int .i64 q.v) ∧ w.cell? ⟨g, 2, none⟩ = some (.int .i64 q.w)) ∧ (w.frozen? ⟨g, 0, none⟩ = false ∧ w.frozen? ⟨g, 1, none⟩ = false ∧ w.frozen? ⟨g, 2, none⟩ = false) ∧ g < w.heap.size :=
  ⟨⟨cell_of_row w g 0 _ t _ h, cell_of_row w g 1 _ t _ h, cell_of_row w g 2 _ t _ h⟩, ⟨frozen_of_row w g 0 _ t h, frozen_of_row w g 1 _ t h, frozen_of_row w g 2 _ t h⟩, (Array.getElem?_eq_some_iff.1 h).1⟩

/-- A box that is written whole. -/
theorem boxLo_put {w : World} {g : Nat} {t : TypeId} {q : Lo} (h : w.heap[g]? = some (.cells #[.int .i64 q.s, .int .i64 q.v, .int .i64 q.w] t (0, 0))) (q' : Lo) :
    (((w.setCell ⟨g, 0, none⟩ (.int .i64 q'.s)).setCell ⟨g, 1, none⟩ (.int .i64 q'.v)).setCell ⟨g, 2, none⟩ (.int .i64 q'.w)).heap[g]? = some (.cells #[.int .i64 q'.s, .int .i64 q'.v, .int .i64 q'.w] t (0, 0)) := by
  have h1 := (heap_setCell_same _ g 2 _ t (.int .i64 q'.w) (heap_setCell_same _ g 1 _ t (.int .i64 q'.v) (heap_setCell_same _ g 0 _ t (.int .i64 q'.s) h)))
  simpa using h1

theorem boxLo_other {w : World} {g : Nat} (q' : Lo) (j : Nat) (hj : j ≠ g) :
    (((w.setCell ⟨g, 0, none⟩ (.int .i64 q'.s)).setCell ⟨g, 1, none⟩ (.int .i64 q'.v)).setCell ⟨g, 2, none⟩ (.int .i64 q'.w)).heap[j]? = w.heap[j]? := by
  rw [heap_setCell_other _ _ _ _ hj, heap_setCell_other _ _ _ _ hj, heap_setCell_other _ _ _ _ hj]

/-- The numbers q, q + 1, .. as losss. -/
def upLo (q : Int) : Nat → List Lo
  | 0 => []
  | n + 1 => ⟨q, q + 1, q + 1 + 1⟩ :: upLo (q + 3) n

theorem upLo_length (q : Int) (n : Nat) : (upLo q n).length = n := by
  induction n generalizing q with
  | zero => rfl
  | succ n ih => simp [upLo, ih]

theorem upLo_get (q : Int) (n i : Nat) (h : i < n) : (upLo q n)[i]? = some ⟨q + 3 * i, q + 3 * i + 1, q + 3 * i + 1 + 1⟩ := by
  induction n generalizing q i with
  | zero => omega
  | succ n ih =>
    cases i with
    | zero => simp [upLo]
    | succ i =>
      simp only [upLo, List.getElem?_cons_succ]
      rw [ih (q + 3) i (by omega)]
      congr 1
      apply Lo.eq <;> simp only [] <;> push_cast <;> omega

theorem upLo_succ (q : Int) (i : Nat) : upLo q (i + 1) = upLo q i ++ [⟨q + 3 * i, q + 3 * i + 1, q + 3 * i + 1 + 1⟩] := by
  induction i generalizing q with
  | zero => simp [upLo]
  | succ i ih =>
    rw [upLo, ih (q + 3), upLo, List.cons_append]
    congr 3
    apply Lo.eq <;> simp only [] <;> push_cast <;> omega

def markedLo (q : Int) (xs : List Lo) (i : Nat) : List Lo := upLo q i ++ xs.drop i

theorem markedLo_length (q : Int) (xs : List Lo) (i : Nat) (h : i ≤ xs.length) : (markedLo q xs i).length = xs.length := by
  simp [markedLo, upLo_length]; omega

theorem markedLo_set (q : Int) (xs : List Lo) (i : Nat) (h : i < xs.length) : (markedLo q xs i).set i ⟨q + 3 * i, q + 3 * i + 1, q + 3 * i + 1 + 1⟩ = markedLo q xs (i + 1) := by
  unfold markedLo
  rw [List.set_append_right _ _ (by rw [upLo_length]; omega), upLo_length, Nat.sub_self, List.drop_eq_getElem_cons h, List.set_cons_zero, upLo_succ, List.append_assoc]
  rfl






end Go.Proofs.Ythhnnkgfnhggbab
