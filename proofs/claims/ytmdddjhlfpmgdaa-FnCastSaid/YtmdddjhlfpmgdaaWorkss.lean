/- What the laws' own helpers do with slices of workss. -/
import Derived.Test.YtmdddjhlfpmgdaaRecs
import Derived.StillTailTactics
import Derived.WalkSpells
namespace Go.Proofs.Ytmdddjhlfpmgdaa
open Go.ChangeShapes Go.WideShapes Go.ChangeAt Go.RowKit
set_option linter.unusedVariables false
set_option linter.unusedSimpArgs false

/-- A works, field by field. -/
structure Wk where
  m : Int
  c : Int
  u : Int

theorem Wk.eq {a b : Wk} (h0 : a.m = b.m) (h1 : a.c = b.c) (h2 : a.u = b.u) : a = b := by
  cases a; cases b; simp_all

def encWk (q : Wk) : List Value := [.int .i64 q.m, .int .i64 q.c, .int .i64 q.u]
theorem encWk_len (q : Wk) : (encWk q).length = 3 := rfl

/-- A box of 3 cells is in a later world as it was. -/
theorem boxWk {N : Nat} {w w' : World} {g : Nat} {t : TypeId} {q : Wk} (B : Below N w w') (hN : g < N) (h : w.heap[g]? = some (.cells #[.int .i64 q.m, .int .i64 q.c, .int .i64 q.u] t (0, 0))) :
    w'.cell? ⟨g, 0, none⟩ = some (.int .i64 q.m) ∧ w'.cell? ⟨g, 1, none⟩ = some (.int .i64 q.c) ∧ w'.cell? ⟨g, 2, none⟩ = some (.int .i64 q.u) := by
  have h' := (B.block g hN).trans h
  exact ⟨cell_of_row w' g 0 _ t _ h', cell_of_row w' g 1 _ t _ h', cell_of_row w' g 2 _ t _ h'⟩

/-- What the walk wants of a box. -/
theorem boxWk_at {w : World} {g : Nat} {t : TypeId} {q : Wk} (h : w.heap[g]? = some (.cells #[.int .i64 q.m, .int .i64 q.c, .int .i64 q.u] t (0, 0))) :
    (w.cell? ⟨g, 0, none⟩ = some (.int .i64 q.m) ∧ w.cell? ⟨g, 1, none⟩ = some (.int .i64 q.c) ∧ w.cell? ⟨g, 2, none⟩ = some (.int .i64 q.u)) ∧ (w.frozen? ⟨g, 0, none⟩ = false ∧ w.frozen? ⟨g, 1, none⟩ = false ∧ w.frozen? ⟨g, 2, none⟩ = false) ∧ g < w.heap.size :=
  ⟨⟨cell_of_row w g 0 _ t _ h, cell_of_row w g 1 _ t _ h, cell_of_row w g 2 _ t _ h⟩, ⟨frozen_of_row w g 0 _ t h, frozen_of_row w g 1 _ t h, frozen_of_row w g 2 _ t h⟩, (Array.getElem?_eq_some_iff.1 h).1⟩

/-- A box that is written whole. -/
theorem boxWk_put {w : World} {g : Nat} {t : TypeId} {q : Wk} (h : w.heap[g]? = some (.cells #[.int .i64 q.m, .int .i64 q.c, .int .i64 q.u] t (0, 0))) (q' : Wk) :
    (((w.setCell ⟨g, 0, none⟩ (.int .i64 q'.m)).setCell ⟨g, 1, none⟩ (.int .i64 q'.c)).setCell ⟨g, 2, none⟩ (.int .i64 q'.u)).heap[g]? = some (.cells #[.int .i64 q'.m, .int .i64 q'.c, .int .i64 q'.u] t (0, 0)) := by
  have h1 := (heap_setCell_same _ g 2 _ t (.int .i64 q'.u) (heap_setCell_same _ g 1 _ t (.int .i64 q'.c) (heap_setCell_same _ g 0 _ t (.int .i64 q'.m) h)))
  simpa using h1

theorem boxWk_other {w : World} {g : Nat} (q' : Wk) (j : Nat) (hj : j ≠ g) :
    (((w.setCell ⟨g, 0, none⟩ (.int .i64 q'.m)).setCell ⟨g, 1, none⟩ (.int .i64 q'.c)).setCell ⟨g, 2, none⟩ (.int .i64 q'.u)).heap[j]? = w.heap[j]? := by
  rw [heap_setCell_other _ _ _ _ hj, heap_setCell_other _ _ _ _ hj, heap_setCell_other _ _ _ _ hj]

/-- The numbers q, q + 1, .. as workss. -/
def upWk (q : Int) : Nat → List Wk
  | 0 => []
  | n + 1 => ⟨q, q + 1, q + 1 + 1⟩ :: upWk (q + 3) n

theorem upWk_length (q : Int) (n : Nat) : (upWk q n).length = n := by
  induction n generalizing q with
  | zero => rfl
  | succ n ih => simp [upWk, ih]

theorem upWk_get (q : Int) (n i : Nat) (h : i < n) : (upWk q n)[i]? = some ⟨q + 3 * i, q + 3 * i + 1, q + 3 * i + 1 + 1⟩ := by
  induction n generalizing q i with
  | zero => omega
  | succ n ih =>
    cases i with
    | zero => simp [upWk]
    | succ i =>
      simp only [upWk, List.getElem?_cons_succ]
      rw [ih (q + 3) i (by omega)]
      congr 1
      apply Wk.eq <;> simp only [] <;> push_cast <;> omega

theorem upWk_succ (q : Int) (i : Nat) : upWk q (i + 1) = upWk q i ++ [⟨q + 3 * i, q + 3 * i + 1, q + 3 * i + 1 + 1⟩] := by
  induction i generalizing q with
  | zero => simp [upWk]
  | succ i ih =>
    rw [upWk, ih (q + 3), upWk, List.cons_append]
    congr 3
    apply Wk.eq <;> simp only [] <;> push_cast <;> omega

def markedWk (q : Int) (xs : List Wk) (i : Nat) : List Wk := upWk q i ++ xs.drop i

theorem markedWk_length (q : Int) (xs : List Wk) (i : Nat) (h : i ≤ xs.length) : (markedWk q xs i).length = xs.length := by
  simp [markedWk, upWk_length]; omega

theorem markedWk_set (q : Int) (xs : List Wk) (i : Nat) (h : i < xs.length) : (markedWk q xs i).set i ⟨q + 3 * i, q + 3 * i + 1, q + 3 * i + 1 + 1⟩ = markedWk q xs (i + 1) := by
  unfold markedWk
  rw [List.set_append_right _ _ (by rw [upWk_length]; omega), upWk_length, Nat.sub_self, List.drop_eq_getElem_cons h, List.set_cons_zero, upWk_succ, List.append_assoc]
  rfl

set_option maxHeartbeats 1000000 in
theorem toWorks_any (q : Wk) (w : World) :
    Calls Try.prog 17 #[(.agg #[.int .i64 q.m, .int .i64 q.c, .int .i64 q.u])] w fun e w' => e = .returned (.agg #[.int .i64 q.m, .int .i64 q.c, .int .i64 q.u]) ∧ w' = ((w.alloc (.cells #[.int .i64 q.m, .int .i64 q.c, .int .i64 q.u] 30)).alloc (.cells #[.int .i64 q.m, .int .i64 q.c, .int .i64 q.u] 32)).alloc (.cells #[.int .i64 q.m, .int .i64 q.c, .int .i64 q.u] 32) := by
  go_enter Try.func17, Try.ntmps17
  go_wp2
  go_returns
  exact ⟨rfl, rfl⟩





end Go.Proofs.Ytmdddjhlfpmgdaa
