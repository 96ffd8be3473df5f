/- What the laws' own helpers do with slices of links. -/
import Derived.Test.YtcmocilojloolaaDoorRecs
import Derived.StillTailTactics
import Derived.WalkSpells
namespace Go.Proofs.YtcmocilojloolaaDoor
open Go.ChangeShapes Go.WideShapes Go.ChangeAt Go.RowKit
set_option linter.unusedVariables false
set_option linter.unusedSimpArgs false

/-- A link, field by field. -/
structure Lk where
  p : Int
  r : Int

theorem Lk.eq {a b : Lk} (h0 : a.p = b.p) (h1 : a.r = b.r) : a = b := by
  cases a; cases b; simp_all

def encLk (q : Lk) : List Value := [.int .i64 q.p, .int .i64 q.r]
theorem encLk_len (q : Lk) : (encLk q).length = 2 := rfl

/-- A box of 2 cells is in a later world as it was. -/
theorem boxLk {N : Nat} {w w' : World} {g : Nat} {t : TypeId} {q : Lk} (B : Below N w w') (hN : g < N) (h : w.heap[g]? = some (.cells #[.int .i64 q.p, .int .i64 q.r] t (0, 0))) :
    w'.cell? ⟨g, 0, none⟩ = some (.int .i64 q.p) ∧ w'.cell? ⟨g, 1, none⟩ = some (.int .i64 q.r) := by
  have h' := (B.block g hN).trans h
  exact ⟨cell_of_row w' g 0 _ t _ h', cell_of_row w' g 1 _ t _ h'⟩

/-- What the walk wants of a box. -/
theorem boxLk_at {w : World} {g : Nat} {t : TypeId} {q : Lk} (h : w.heap[g]? = some (.cells #[.int .i64 q.p, .int .i64 q.r] t (0, 0))) :
    (w.cell? ⟨g, 0, none⟩ = some (.int .i64 q.p) ∧ w.cell? ⟨g, 1, none⟩ = some (.int .i64 q.r)) ∧ (w.frozen? ⟨g, 0, none⟩ = false ∧ w.frozen? ⟨g, 1, none⟩ = false) ∧ g < w.heap.size :=
  ⟨⟨cell_of_row w g 0 _ t _ h, cell_of_row w g 1 _ t _ h⟩, ⟨frozen_of_row w g 0 _ t h, frozen_of_row w g 1 _ t h⟩, (Array.getElem?_eq_some_iff.1 h).1⟩

/-- A box that is written whole. -/
theorem boxLk_put {w : World} {g : Nat} {t : TypeId} {q : Lk} (h : w.heap[g]? = some (.cells #[.int .i64 q.p, .int .i64 q.r] t (0, 0))) (q' : Lk) :
    ((w.setCell ⟨g, 0, none⟩ (.int .i64 q'.p)).setCell ⟨g, 1, none⟩ (.int .i64 q'.r)).heap[g]? = some (.cells #[.int .i64 q'.p, .int .i64 q'.r] t (0, 0)) := by
  have h1 := (heap_setCell_same _ g 1 _ t (.int .i64 q'.r) (heap_setCell_same _ g 0 _ t (.int .i64 q'.p) h))
  simpa using h1

theorem boxLk_other {w : World} {g : Nat} (q' : Lk) (j : Nat) (hj : j ≠ g) :
    ((w.setCell ⟨g, 0, none⟩ (.int .i64 q'.p)).setCell ⟨g, 1, none⟩ (.int .i64 q'.r)).heap[j]? = w.heap[j]? := by
  rw [heap_setCell_other _ _ _ _ hj, heap_setCell_other _ _ _ _ hj]

/-- The numbers q, q + 1, .. as links. -/
def upLk (q : Int) : Nat → List Lk
  | 0 => []
  | n + 1 => ⟨q, q + 1⟩ :: upLk (q + 2) n

theorem upLk_length (q : Int) (n : Nat) : (upLk q n).length = n := by
  induction n generalizing q with
  | zero => rfl
  | succ n ih => simp [upLk, ih]

theorem upLk_get (q : Int) (n i : Nat) (h : i < n) : (upLk q n)[i]? = some ⟨q + 2 * i, q + 2 * i + 1⟩ := by
  induction n generalizing q i with
  | zero => omega
  | succ n ih =>
    cases i with
    | zero => simp [upLk]
    | succ i =>
      simp only [upLk, List.getElem?_cons_succ]
      rw [ih (q + 2) i (by omega)]
      congr 1
      apply Lk.eq <;> simp only [] <;> push_cast <;> omega

theorem upLk_succ (q : Int) (i : Nat) : upLk q (i + 1) = upLk q i ++ [⟨q + 2 * i, q + 2 * i + 1⟩] := by
  induction i generalizing q with
  | zero => simp [upLk]
  | succ i ih =>
    rw [upLk, ih (q + 2), upLk, List.cons_append]
    congr 3
    apply Lk.eq <;> simp only [] <;> push_cast <;> omega

def markedLk (q : Int) (xs : List Lk) (i : Nat) : List Lk := upLk q i ++ xs.drop i

theorem markedLk_length (q : Int) (xs : List Lk) (i : Nat) (h : i ≤ xs.length) : (markedLk q xs i).length = xs.length := by
  simp [markedLk, upLk_length]; omega

theorem markedLk_set (q : Int) (xs : List Lk) (i : Nat) (h : i < xs.length) : (markedLk q xs i).set i ⟨q + 2 * i, q + 2 * i + 1⟩ = markedLk q xs (i + 1) := by
  unfold markedLk
  rw [List.set_append_right _ _ (by rw [upLk_length]; omega), upLk_length, Nat.sub_self, List.drop_eq_getElem_cons h, List.set_cons_zero, upLk_succ, List.append_assoc]
  rfl






end Go.Proofs.YtcmocilojloolaaDoor
