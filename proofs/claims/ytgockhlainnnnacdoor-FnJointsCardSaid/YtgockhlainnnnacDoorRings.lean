/- What the laws' own helpers do with slices of rings. -/
import Derived.Test.YtgockhlainnnnacDoorRecs
import Derived.StillTailTactics
import Derived.WalkSpells
namespace Go.Proofs.YtgockhlainnnnacDoor
open Go.ChangeShapes Go.WideShapes Go.ChangeAt Go.RowKit
set_option linter.unusedVariables false
set_option linter.unusedSimpArgs false

/-- A ring, field by field. -/
structure Rg where
  k : Int
  y : Int

theorem Rg.eq {a b : Rg} (h0 : a.k = b.k) (h1 : a.y = b.y) : a = b := by
  cases a; cases b; simp_all

def encRg (q : Rg) : List Value := [.int .i64 q.k, .int .i64 q.y]
theorem encRg_len (q : Rg) : (encRg q).length = 2 := rfl

/-- A box of 2 cells is in a later world as it was. -/
theorem boxRg {N : Nat} {w w' : World} {g : Nat} {t : TypeId} {q : Rg} (B : Below N w w') (hN : g < N) (h : w.heap[g]? = some (.cells #[.int .i64 q.k, .int .i64 q.y] t (0, 0))) :
    w'.cell? ⟨g, 0, none⟩ = some (.int .i64 q.k) ∧ w'.cell? ⟨g, 1, none⟩ = some (.int .i64 q.y) := by
  have h' := (B.block g hN).trans h
  exact ⟨cell_of_row w' g 0 _ t _ h', cell_of_row w' g 1 _ t _ h'⟩

/-- What the walk wants of a box. -/
theorem boxRg_at {w : World} {g : Nat} {t : TypeId} {q : Rg} (h : w.heap[g]? = some (.cells #[.int .i64 q.k, .int .i64 q.y] t (0, 0))) :
    (w.cell? ⟨g, 0, none⟩ = some (.int .i64 q.k) ∧ w.cell? ⟨g, 1, none⟩ = some (.int .i64 q.y)) ∧ (w.frozen? ⟨g, 0, none⟩ = false ∧ w.frozen? ⟨g, 1, none⟩ = false) ∧ g < w.heap.size :=
  ⟨⟨cell_of_row w g 0 _ t _ h, cell_of_row w g 1 _ t _ h⟩, ⟨frozen_of_row w g 0 _ t h, frozen_of_row w g 1 _ t h⟩, (Array.getElem?_eq_some_iff.1 h).1⟩

/-- A box that is written whole. -/
theorem boxRg_put {w : World} {g : Nat} {t : TypeId} {q : Rg} (h : w.heap[g]? = some (.cells #[.int .i64 q.k, .int .i64 q.y] t (0, 0))) (q' : Rg) :
    ((w.setCell ⟨g, 0, none⟩ (.int .i64 q'.k)).setCell ⟨g, 1, none⟩ (.int .i64 q'.y)).heap[g]? = some (.cells #[.int .i64 q'.k, .int .i64 q'.y] t (0, 0)) := by
  have h1 := (heap_setCell_same _ g 1 _ t (.int .i64 q'.y) (heap_setCell_same _ g 0 _ t (.int .i64 q'.k) h))
  simpa using h1

theorem boxRg_other {w : World} {g : Nat} (q' : Rg) (j : Nat) (hj : j ≠ g) :
    ((w.setCell ⟨g, 0, none⟩ (.int .i64 q'.k)).setCell ⟨g, 1, none⟩ (.int .i64 q'.y)).heap[j]? = w.heap[j]? := by
  rw [heap_setCell_other _ _ _ _ hj, heap_setCell_other _ _ _ _ hj]

/-- The numbers q, q + 1, .. as rings. -/
def upRg (q : Int) : Nat → List Rg
  | 0 => []
  | n + 1 => ⟨q, q + 1⟩ :: upRg (q + 2) n

theorem upRg_length (q : Int) (n : Nat) : (upRg q n).length = n := by
  induction n generalizing q with
  | zero => rfl
  | succ n ih => simp [upRg, ih]

theorem upRg_get (q : Int) (n i : Nat) (h : i < n) : (upRg q n)[i]? = some ⟨q + 2 * i, q + 2 * i + 1⟩ := by
  induction n generalizing q i with
  | zero => omega
  | succ n ih =>
    cases i with
    | zero => simp [upRg]
    | succ i =>
      simp only [upRg, List.getElem?_cons_succ]
      rw [ih (q + 2) i (by omega)]
      congr 1
      apply Rg.eq <;> simp only [] <;> push_cast <;> omega

theorem upRg_succ (q : Int) (i : Nat) : upRg q (i + 1) = upRg q i ++ [⟨q + 2 * i, q + 2 * i + 1⟩] := by
  induction i generalizing q with
  | zero => simp [upRg]
  | succ i ih =>
    rw [upRg, ih (q + 2), upRg, List.cons_append]
    congr 3
    apply Rg.eq <;> simp only [] <;> push_cast <;> omega

def markedRg (q : Int) (xs : List Rg) (i : Nat) : List Rg := upRg q i ++ xs.drop i

theorem markedRg_length (q : Int) (xs : List Rg) (i : Nat) (h : i ≤ xs.length) : (markedRg q xs i).length = xs.length := by
  simp [markedRg, upRg_length]; omega

theorem markedRg_set (q : Int) (xs : List Rg) (i : Nat) (h : i < xs.length) : (markedRg q xs i).set i ⟨q + 2 * i, q + 2 * i + 1⟩ = markedRg q xs (i + 1) := by
  unfold markedRg
  rw [List.set_append_right _ _ (by rw [upRg_length]; omega), upRg_length, Nat.sub_self, List.drop_eq_getElem_cons h, List.set_cons_zero, upRg_succ, List.append_assoc]
  rfl

set_option maxHeartbeats 1000000 in
theorem toRing_any (q : Rg) (w : World) :
    Calls Tryd.prog 14 #[(.agg #[.int .i64 q.k, .int .i64 q.y])] w fun e w' => e = .returned (.agg #[.int .i64 q.k, .int .i64 q.y]) ∧ w' = ((w.alloc (.cells #[.int .i64 q.k, .int .i64 q.y] 32)).alloc (.cells #[.int .i64 q.k, .int .i64 q.y] 35)).alloc (.cells #[.int .i64 q.k, .int .i64 q.y] 35) := by
  go_enter Tryd.func14, Tryd.ntmps14
  go_wp2
  go_returns
  exact ⟨rfl, rfl⟩





end Go.Proofs.YtgockhlainnnnacDoor
