/- What the laws' own helpers do with slices of courses. -/
import Derived.Test.YtkdecpnbbpmooacDoorRecs
import Derived.StillTailTactics
import Derived.WalkSpells
namespace Go.Proofs.YtkdecpnbbpmooacDoor
open Go.ChangeShapes Go.WideShapes Go.ChangeAt Go.RowKit
set_option linter.unusedVariables false
set_option linter.unusedSimpArgs false

/-- A course, field by field. -/
structure Co where
  o : Int
  h : Int
  t : Int

theorem Co.eq {a b : Co} (h0 : a.o = b.o) (h1 : a.h = b.h) (h2 : a.t = b.t) : a = b := by
  cases a; cases b; simp_all

def encCo (q : Co) : List Value := [.int .i64 q.o, .int .i64 q.h, .int .i64 q.t]
theorem encCo_len (q : Co) : (encCo q).length = 3 := rfl

/-- A box of 3 cells is in a later world as it was. -/
theorem boxCo {N : Nat} {w w' : World} {g : Nat} {t : TypeId} {q : Co} (B : Below N w w') (hN : g < N) (h : w.heap[g]? = some (.cells #[.int .i64 q.o, .int .i64 q.h, .int .i64 q.t] t (0, 0))) :
    w'.cell? ⟨g, 0, none⟩ = some (.int .i64 q.o) ∧ w'.cell? ⟨g, 1, none⟩ = some (.int .i64 q.h) ∧ w'.cell? ⟨g, 2, none⟩ = some (.int .i64 q.t) := by
  have h' := (B.block g hN).trans h
  exact ⟨cell_of_row w' g 0 _ t _ h', cell_of_row w' g 1 _ t _ h', cell_of_row w' g 2 _ t _ h'⟩

/-- What the walk wants of a box. -/
theorem boxCo_at {w : World} {g : Nat} {t : TypeId} {q : Co} (h : w.heap[g]? = some (.cells #[.int .i64 q.o, .int .i64 q.h, .int .i64 q.t] t (0, 0))) :
    (w.cell? ⟨g, 0, none⟩ = some (.int .i64 q.o) ∧ w.cell? ⟨g, 1, none⟩ = some (.int .i64 q.h) ∧ w.cell? ⟨g, 2, none⟩ = some (.int .i64 q.t)) ∧ (w.frozen? ⟨g, 0, none⟩ = false ∧ w.frozen? ⟨g, 1, none⟩ = false ∧ w.frozen? ⟨g, 2, none⟩ = false) ∧ g < w.heap.size :=
  ⟨⟨cell_of_row w g 0 _ t _ h, cell_of_row w g 1 _ t _ h, cell_of_row w g 2 _ t _ h⟩, ⟨frozen_of_row w g 0 _ t h, frozen_of_row w g 1 _ t h, frozen_of_row w g 2 _ t h⟩, (Array.getElem?_eq_some_iff.1 h).1⟩

/-- A box that is written whole. -/
theorem boxCo_put {w : World} {g : Nat} {t : TypeId} {q : Co} (h : w.heap[g]? = some (.cells #[.int .i64 q.o, .int .i64 q.h, .int .i64 q.t] t (0, 0))) (q' : Co) :
    (((w.setCell ⟨g, 0, none⟩ (.int .i64 q'.o)).setCell ⟨g, 1, none⟩ (.int .i64 q'.h)).setCell ⟨g, 2, none⟩ (.int .i64 q'.t)).heap[g]? = some (.cells #[.int .i64 q'.o, .int .i64 q'.h, .int .i64 q'.t] t (0, 0)) := by
  have h1 := (heap_setCell_same _ g 2 _ t (.int .i64 q'.t) (heap_setCell_same _ g 1 _ t (.int .i64 q'.h) (heap_setCell_same _ g 0 _ t (.int .i64 q'.o) h)))
  simpa using h1

theorem boxCo_other {w : World} {g : Nat} (q' : Co) (j : Nat) (hj : j ≠ g) :
    (((w.setCell ⟨g, 0, none⟩ (.int .i64 q'.o)).setCell ⟨g, 1, none⟩ (.int .i64 q'.h)).setCell ⟨g, 2, none⟩ (.int .i64 q'.t)).heap[j]? = w.heap[j]? := by
  rw [heap_setCell_other _ _ _ _ hj, heap_setCell_other _ _ _ _ hj, heap_setCell_other _ _ _ _ hj]

/-- The numbers q, q + 1, .. as courses. -/
def upCo (q : Int) : Nat → List Co
  | 0 => []
  | n + 1 => ⟨q, q + 1, q + 1 + 1⟩ :: upCo (q + 3) n

theorem upCo_length (q : Int) (n : Nat) : (upCo q n).length = n := by
  induction n generalizing q with
  | zero => rfl
  | succ n ih => simp [upCo, ih]

theorem upCo_get (q : Int) (n i : Nat) (h : i < n) : (upCo q n)[i]? = some ⟨q + 3 * i, q + 3 * i + 1, q + 3 * i + 1 + 1⟩ := by
  induction n generalizing q i with
  | zero => omega
  | succ n ih =>
    cases i with
    | zero => simp [upCo]
    | succ i =>
      simp only [upCo, List.getElem?_cons_succ]
      rw [ih (q + 3) i (by omega)]
      congr 1
      apply Co.eq <;> simp only [] <;> push_cast <;> omega

theorem upCo_succ (q : Int) (i : Nat) : upCo q (i + 1) = upCo q i ++ [⟨q + 3 * i, q + 3 * i + 1, q + 3 * i + 1 + 1⟩] := by
  induction i generalizing q with
  | zero => simp [upCo]
  | succ i ih =>
    rw [upCo, ih (q + 3), upCo, List.cons_append]
    congr 3
    apply Co.eq <;> simp only [] <;> push_cast <;> omega

def markedCo (q : Int) (xs : List Co) (i : Nat) : List Co := upCo q i ++ xs.drop i

theorem markedCo_length (q : Int) (xs : List Co) (i : Nat) (h : i ≤ xs.length) : (markedCo q xs i).length = xs.length := by
  simp [markedCo, upCo_length]; omega

theorem markedCo_set (q : Int) (xs : List Co) (i : Nat) (h : i < xs.length) : (markedCo q xs i).set i ⟨q + 3 * i, q + 3 * i + 1, q + 3 * i + 1 + 1⟩ = markedCo q xs (i + 1) := by
  unfold markedCo
  rw [List.set_append_right _ _ (by rw [upCo_length]; omega), upCo_length, Nat.sub_self, List.drop_eq_getElem_cons h, List.set_cons_zero, upCo_succ, List.append_assoc]
  rfl

set_option maxHeartbeats 1000000 in
theorem eqCourse_same (q : Co) (w : World) :
    Calls Tryd.prog 17 #[(.agg #[.int .i64 q.o, .int .i64 q.h, .int .i64 q.t]), (.agg #[.int .i64 q.o, .int .i64 q.h, .int .i64 q.t])] w fun e w' => e = .returned (.bool true) ∧ w' = (w.alloc (.cells #[.int .i64 q.o, .int .i64 q.h, .int .i64 q.t] 27)).alloc (.cells #[.int .i64 q.o, .int .i64 q.h, .int .i64 q.t] 27) := by
  go_enter Tryd.func17, Tryd.ntmps17
  go_wp2
  go_ret
  exact ⟨rfl, rfl⟩
set_option maxHeartbeats 1000000 in
theorem toCourse_any (q : Co) (w : World) :
    Calls Tryd.prog 15 #[(.agg #[.int .i64 q.o, .int .i64 q.h, .int .i64 q.t])] w fun e w' => e = .returned (.agg #[.int .i64 q.o, .int .i64 q.h, .int .i64 q.t]) ∧ w' = ((w.alloc (.cells #[.int .i64 q.o, .int .i64 q.h, .int .i64 q.t] 39)).alloc (.cells #[.int .i64 q.o, .int .i64 q.h, .int .i64 q.t] 27)).alloc (.cells #[.int .i64 q.o, .int .i64 q.h, .int .i64 q.t] 27) := by
  go_enter Tryd.func15, Tryd.ntmps15
  go_wp2
  go_returns
  exact ⟨rfl, rfl⟩





end Go.Proofs.YtkdecpnbbpmooacDoor
