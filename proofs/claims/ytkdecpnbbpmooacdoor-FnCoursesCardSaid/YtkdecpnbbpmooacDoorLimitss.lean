/- What the laws' own helpers do with slices of limitss. -/
import Derived.Test.YtkdecpnbbpmooacDoorRecs
import Derived.StillTailTactics
import Derived.WalkSpells
namespace Go.Proofs.YtkdecpnbbpmooacDoor
open Go.ChangeShapes Go.WideShapes Go.ChangeAt Go.RowKit
set_option linter.unusedVariables false
set_option linter.unusedSimpArgs false

/-- A limits, field by field. -/
structure Lm where
  m : Int
  c : Int

theorem Lm.eq {a b : Lm} (h0 : a.m = b.m) (h1 : a.c = b.c) : a = b := by
  cases a; cases b; simp_all

def encLm (q : Lm) : List Value := [.int .i64 q.m, .int .i64 q.c]
theorem encLm_len (q : Lm) : (encLm q).length = 2 := rfl

/-- A box of 2 cells is in a later world as it was. -/
theorem boxLm {N : Nat} {w w' : World} {g : Nat} {t : TypeId} {q : Lm} (B : Below N w w') (hN : g < N) (h : w.heap[g]? = some (.cells #[.int .i64 q.m, .int .i64 q.c] t (0, 0))) :
    w'.cell? ⟨g, 0, none⟩ = some (.int .i64 q.m) ∧ w'.cell? ⟨g, 1, none⟩ = some (.int .i64 q.c) := by
  have h' := (B.block g hN).trans h
  exact ⟨cell_of_row w' g 0 _ t _ h', cell_of_row w' g 1 _ t _ h'⟩

/-- What the walk wants of a box. -/
theorem boxLm_at {w : World} {g : Nat} {t : TypeId} {q : Lm} (h : w.heap[g]? = some (.cells #[.int .i64 q.m, .int .i64 q.c] t (0, 0))) :
    (w.cell? ⟨g, 0, none⟩ = some (.int .i64 q.m) ∧ w.cell? ⟨g, 1, none⟩ = some (.int .i64 q.c)) ∧ (w.frozen? ⟨g, 0, none⟩ = false ∧ w.frozen? ⟨g, 1, none⟩ = false) ∧ g < w.heap.size :=
  ⟨⟨cell_of_row w g 0 _ t _ h, cell_of_row w g 1 _ t _ h⟩, ⟨frozen_of_row w g 0 _ t h, frozen_of_row w g 1 _ t h⟩, (Array.getElem?_eq_some_iff.1 h).1⟩

/-- A box that is written whole. -/
theorem boxLm_put {w : World} {g : Nat} {t : TypeId} {q : Lm} (h : w.heap[g]? = some (.cells #[.int .i64 q.m, .int .i64 q.c] t (0, 0))) (q' : Lm) :
    ((w.setCell ⟨g, 0, none⟩ (.int .i64 q'.m)).setCell ⟨g, 1, none⟩ (.int .i64 q'.c)).heap[g]? = some (.cells #[.int .i64 q'.m, .int .i64 q'.c] t (0, 0)) := by
  have h1 := (heap_setCell_same _ g 1 _ t (.int .i64 q'.c) (heap_setCell_same _ g 0 _ t (.int .i64 q'.m) h))
  simpa using h1

theorem boxLm_other {w : World} {g : Nat} (q' : Lm) (j : Nat) (hj : j ≠ g) :
    ((w.setCell ⟨g, 0, none⟩ (.int .i64 q'.m)).setCell ⟨g, 1, none⟩ (.int .i64 q'.c)).heap[j]? = w.heap[j]? := by
  rw [heap_setCell_other _ _ _ _ hj, heap_setCell_other _ _ _ _ hj]

/-- The numbers q, q + 1, .. as limitss. -/
def upLm (q : Int) : Nat → List Lm
  | 0 => []
  | n + 1 => ⟨q, q + 1⟩ :: upLm (q + 2) n

theorem upLm_length (q : Int) (n : Nat) : (upLm q n).length = n := by
  induction n generalizing q with
  | zero => rfl
  | succ n ih => simp [upLm, ih]

theorem upLm_get (q : Int) (n i : Nat) (h : i < n) : (upLm q n)[i]? = some ⟨q + 2 * i, q + 2 * i + 1⟩ := by
  induction n generalizing q i with
  | zero => omega
  | succ n ih =>
    cases i with
    | zero => simp [upLm]
    | succ i =>
      simp only [upLm, List.getElem?_cons_succ]
      rw [ih (q + 2) i (by omega)]
      congr 1
      apply Lm.eq <;> simp only [] <;> push_cast <;> omega

theorem upLm_succ (q : Int) (i : Nat) : upLm q (i + 1) = upLm q i ++ [⟨q + 2 * i, q + 2 * i + 1⟩] := by
  induction i generalizing q with
  | zero => simp [upLm]
  | succ i ih =>
    rw [upLm, ih (q + 2), upLm, List.cons_append]
    congr 3
    apply Lm.eq <;> simp only [] <;> push_cast <;> omega

def markedLm (q : Int) (xs : List Lm) (i : Nat) : List Lm := upLm q i ++ xs.drop i

theorem markedLm_length (q : Int) (xs : List Lm) (i : Nat) (h : i ≤ xs.length) : (markedLm q xs i).length = xs.length := by
  simp [markedLm, upLm_length]; omega

theorem markedLm_set (q : Int) (xs : List Lm) (i : Nat) (h : i < xs.length) : (markedLm q xs i).set i ⟨q + 2 * i, q + 2 * i + 1⟩ = markedLm q xs (i + 1) := by
  unfold markedLm
  rw [List.set_append_right _ _ (by rw [upLm_length]; omega), upLm_length, Nat.sub_self, List.drop_eq_getElem_cons h, List.set_cons_zero, upLm_succ, List.append_assoc]
  rfl






end Go.Proofs.YtkdecpnbbpmooacDoor
