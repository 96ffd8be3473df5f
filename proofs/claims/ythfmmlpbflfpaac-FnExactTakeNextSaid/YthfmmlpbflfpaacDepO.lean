/- A yard as a depot: the program's side. (Written by tools/mkdepo.py.) -/
import Derived.Test.YthfmmlpbflfpaacDepI
import Derived.Deep.MidRow
import Derived.Great.BuildSlice
import Derived.Laws.CopyOwn
import Derived.Test.YthfmmlpbflfpaacPileI
namespace Go.Proofs.Ythfmmlpbflfpaac
open Go.ChangeShapes Go.WideShapes Go.ChangeAt Go.RowKit
set_option linter.unusedVariables false
set_option linter.unusedSimpArgs false

def upd (q : Nat → Pl) (i : Nat) (P : Pl) : Nat → Pl := fun j => if j = i then P else q j
theorem infoD_depot : (Try.prog.info? 55).map (fun i => i.size) = some 22 := by kernel_rfl

theorem wpList_store_pile0 {ops : Array Oper} {rest : List Oper} {op : Oper} {a : Act} {w : World} {Q : Exit → Act → World → Prop} (hgd : op.guard = none) (x y : Operand) (ho : op.op = .store 52 x y)
    (D : Nat) (h n : Int) (q : Nat → Pl) (P : Pl) (t : TypeId) (hx : a.eval x = .pointer (some ⟨D, 2, none⟩)) (hy : a.eval y = (.agg #[.int .i64 P.a, .int .i64 P.b, .int .i64 P.c, .int .i64 P.d, .int .i64 P.n])) (hD : w.heap[D]? = some (.cells #[.int .i64 h, .int .i64 n, .int .i64 (q 0).a, .int .i64 (q 0).b, .int .i64 (q 0).c, .int .i64 (q 0).d, .int .i64 (q 0).n, .int .i64 (q 1).a, .int .i64 (q 1).b, .int .i64 (q 1).c, .int .i64 (q 1).d, .int .i64 (q 1).n, .int .i64 (q 2).a, .int .i64 (q 2).b, .int .i64 (q 2).c, .int .i64 (q 2).d, .int .i64 (q 2).n, .int .i64 (q 3).a, .int .i64 (q 3).b, .int .i64 (q 3).c, .int .i64 (q 3).d, .int .i64 (q 3).n] t (0, 0)))
    (K : ∀ w', w'.heap[D]? = some (.cells #[.int .i64 h, .int .i64 n, .int .i64 ((upd q 0 P) 0).a, .int .i64 ((upd q 0 P) 0).b, .int .i64 ((upd q 0 P) 0).c, .int .i64 ((upd q 0 P) 0).d, .int .i64 ((upd q 0 P) 0).n, .int .i64 ((upd q 0 P) 1).a, .int .i64 ((upd q 0 P) 1).b, .int .i64 ((upd q 0 P) 1).c, .int .i64 ((upd q 0 P) 1).d, .int .i64 ((upd q 0 P) 1).n, .int .i64 ((upd q 0 P) 2).a, .int .i64 ((upd q 0 P) 2).b, .int .i64 ((upd q 0 P) 2).c, .int .i64 ((upd q 0 P) 2).d, .int .i64 ((upd q 0 P) 2).n, .int .i64 ((upd q 0 P) 3).a, .int .i64 ((upd q 0 P) 3).b, .int .i64 ((upd q 0 P) 3).c, .int .i64 ((upd q 0 P) 3).d, .int .i64 ((upd q 0 P) 3).n] t (0, 0)) → Below D w w' → wpList Try.prog ops Q rest (a.put op.dst undef) w') : wpList Try.prog ops Q (op :: rest) a w := by
  refine wpList_store_mid hgd 52 x y ho D 2 #[.int .i64 P.a, .int .i64 P.b, .int .i64 P.c, .int .i64 P.d, .int .i64 P.n] hx hy ?_ infos_Pl (by simp [Value.oneCell']) ?_
  · intro j hj
    match j, hj with
    | 0, _ => exact ⟨by rw [show 2 + 0 = 2 from rfl, cell_of_row w D 2 _ t _ hD]; rfl, frozen_of_row w D 2 _ t hD⟩
    | 1, _ => exact ⟨by rw [show 2 + 1 = 3 from rfl, cell_of_row w D 3 _ t _ hD]; rfl, frozen_of_row w D 3 _ t hD⟩
    | 2, _ => exact ⟨by rw [show 2 + 2 = 4 from rfl, cell_of_row w D 4 _ t _ hD]; rfl, frozen_of_row w D 4 _ t hD⟩
    | 3, _ => exact ⟨by rw [show 2 + 3 = 5 from rfl, cell_of_row w D 5 _ t _ hD]; rfl, frozen_of_row w D 5 _ t hD⟩
    | 4, _ => exact ⟨by rw [show 2 + 4 = 6 from rfl, cell_of_row w D 6 _ t _ hD]; rfl, frozen_of_row w D 6 _ t hD⟩
  · refine K _ ?_ ?_
    · show (((((w.setCell ⟨D, 2, none⟩ (.int .i64 P.a)).setCell ⟨D, 3, none⟩ (.int .i64 P.b)).setCell ⟨D, 4, none⟩ (.int .i64 P.c)).setCell ⟨D, 5, none⟩ (.int .i64 P.d)).setCell ⟨D, 6, none⟩ (.int .i64 P.n)).heap[D]? = _
      have h1 := heap_setCell_same _ D 6 _ t (.int .i64 P.n) (heap_setCell_same _ D 5 _ t (.int .i64 P.d) (heap_setCell_same _ D 4 _ t (.int .i64 P.c) (heap_setCell_same _ D 3 _ t (.int .i64 P.b) (heap_setCell_same _ D 2 _ t (.int .i64 P.a) hD))))
      simpa [upd] using h1
    · exact ((((((Below.refl D w).setCell (p := ⟨D, 2, none⟩) (Nat.le_refl D) (.int .i64 P.a)).setCell (p := ⟨D, 3, none⟩) (Nat.le_refl D) (.int .i64 P.b)).setCell (p := ⟨D, 4, none⟩) (Nat.le_refl D) (.int .i64 P.c)).setCell (p := ⟨D, 5, none⟩) (Nat.le_refl D) (.int .i64 P.d)).setCell (p := ⟨D, 6, none⟩) (Nat.le_refl D) (.int .i64 P.n))

theorem wpList_store_pile1 {ops : Array Oper} {rest : List Oper} {op : Oper} {a : Act} {w : World} {Q : Exit → Act → World → Prop} (hgd : op.guard = none) (x y : Operand) (ho : op.op = .store 52 x y)
    (D : Nat) (h n : Int) (q : Nat → Pl) (P : Pl) (t : TypeId) (hx : a.eval x = .pointer (some ⟨D, 7, none⟩)) (hy : a.eval y = (.agg #[.int .i64 P.a, .int .i64 P.b, .int .i64 P.c, .int .i64 P.d, .int .i64 P.n])) (hD : w.heap[D]? = some (.cells #[.int .i64 h, .int .i64 n, .int .i64 (q 0).a, .int .i64 (q 0).b, .int .i64 (q 0).c, .int .i64 (q 0).d, .int .i64 (q 0).n, .int .i64 (q 1).a, .int .i64 (q 1).b, .int .i64 (q 1).c, .int .i64 (q 1).d, .int .i64 (q 1).n, .int .i64 (q 2).a, .int .i64 (q 2).b, .int .i64 (q 2).c, .int .i64 (q 2).d, .int .i64 (q 2).n, .int .i64 (q 3).a, .int .i64 (q 3).b, .int .i64 (q 3).c, .int .i64 (q 3).d, .int .i64 (q 3).n] t (0, 0)))
    (K : ∀ w', w'.heap[D]? = some (.cells #[.int .i64 h, .int .i64 n, .int .i64 ((upd q 1 P) 0).a, .int .i64 ((upd q 1 P) 0).b, .int .i64 ((upd q 1 P) 0).c, .int .i64 ((upd q 1 P) 0).d, .int .i64 ((upd q 1 P) 0).n, .int .i64 ((upd q 1 P) 1).a, .int .i64 ((upd q 1 P) 1).b, .int .i64 ((upd q 1 P) 1).c, .int .i64 ((upd q 1 P) 1).d, .int .i64 ((upd q 1 P) 1).n, .int .i64 ((upd q 1 P) 2).a, .int .i64 ((upd q 1 P) 2).b, .int .i64 ((upd q 1 P) 2).c, .int .i64 ((upd q 1 P) 2).d, .int .i64 ((upd q 1 P) 2).n, .int .i64 ((upd q 1 P) 3).a, .int .i64 ((upd q 1 P) 3).b, .int .i64 ((upd q 1 P) 3).c, .int .i64 ((upd q 1 P) 3).d, .int .i64 ((upd q 1 P) 3).n] t (0, 0)) → Below D w w' → wpList Try.prog ops Q rest (a.put op.dst undef) w') : wpList Try.prog ops Q (op :: rest) a w := by
  refine wpList_store_mid hgd 52 x y ho D 7 #[.int .i64 P.a, .int .i64 P.b, .int .i64 P.c, .int .i64 P.d, .int .i64 P.n] hx hy ?_ infos_Pl (by simp [Value.oneCell']) ?_
  · intro j hj
    match j, hj with
    | 0, _ => exact ⟨by rw [show 7 + 0 = 7 from rfl, cell_of_row w D 7 _ t _ hD]; rfl, frozen_of_row w D 7 _ t hD⟩
    | 1, _ => exact ⟨by rw [show 7 + 1 = 8 from rfl, cell_of_row w D 8 _ t _ hD]; rfl, frozen_of_row w D 8 _ t hD⟩
    | 2, _ => exact ⟨by rw [show 7 + 2 = 9 from rfl, cell_of_row w D 9 _ t _ hD]; rfl, frozen_of_row w D 9 _ t hD⟩
    | 3, _ => exact ⟨by rw [show 7 + 3 = 10 from rfl, cell_of_row w D 10 _ t _ hD]; rfl, frozen_of_row w D 10 _ t hD⟩
    | 4, _ => exact ⟨by rw [show 7 + 4 = 11 from rfl, cell_of_row w D 11 _ t _ hD]; rfl, frozen_of_row w D 11 _ t hD⟩
  · refine K _ ?_ ?_
    · show (((((w.setCell ⟨D, 7, none⟩ (.int .i64 P.a)).setCell ⟨D, 8, none⟩ (.int .i64 P.b)).setCell ⟨D, 9, none⟩ (.int .i64 P.c)).setCell ⟨D, 10, none⟩ (.int .i64 P.d)).setCell ⟨D, 11, none⟩ (.int .i64 P.n)).heap[D]? = _
      have h1 := heap_setCell_same _ D 11 _ t (.int .i64 P.n) (heap_setCell_same _ D 10 _ t (.int .i64 P.d) (heap_setCell_same _ D 9 _ t (.int .i64 P.c) (heap_setCell_same _ D 8 _ t (.int .i64 P.b) (heap_setCell_same _ D 7 _ t (.int .i64 P.a) hD))))
      simpa [upd] using h1
    · exact ((((((Below.refl D w).setCell (p := ⟨D, 7, none⟩) (Nat.le_refl D) (.int .i64 P.a)).setCell (p := ⟨D, 8, none⟩) (Nat.le_refl D) (.int .i64 P.b)).setCell (p := ⟨D, 9, none⟩) (Nat.le_refl D) (.int .i64 P.c)).setCell (p := ⟨D, 10, none⟩) (Nat.le_refl D) (.int .i64 P.d)).setCell (p := ⟨D, 11, none⟩) (Nat.le_refl D) (.int .i64 P.n))

theorem wpList_store_pile2 {ops : Array Oper} {rest : List Oper} {op : Oper} {a : Act} {w : World} {Q : Exit → Act → World → Prop} (hgd : op.guard = none) (x y : Operand) (ho : op.op = .store 52 x y)
    (D : Nat) (h n : Int) (q : Nat → Pl) (P : Pl) (t : TypeId) (hx : a.eval x = .pointer (some ⟨D, 12, none⟩)) (hy : a.eval y = (.agg #[.int .i64 P.a, .int .i64 P.b, .int .i64 P.c, .int .i64 P.d, .int .i64 P.n])) (hD : w.heap[D]? = some (.cells #[.int .i64 h, .int .i64 n, .int .i64 (q 0).a, .int .i64 (q 0).b, .int .i64 (q 0).c, .int .i64 (q 0).d, .int .i64 (q 0).n, .int .i64 (q 1).a, .int .i64 (q 1).b, .int .i64 (q 1).c, .int .i64 (q 1).d, .int .i64 (q 1).n, .int .i64 (q 2).a, .int .i64 (q 2).b, .int .i64 (q 2).c, .int .i64 (q 2).d, .int .i64 (q 2).n, .int .i64 (q 3).a, .int .i64 (q 3).b, .int .i64 (q 3).c, .int .i64 (q 3).d, .int .i64 (q 3).n] t (0, 0)))
    (K : ∀ w', w'.heap[D]? = some (.cells #[.int .i64 h, .int .i64 n, .int .i64 ((upd q 2 P) 0).a, .int .i64 ((upd q 2 P) 0).b, .int .i64 ((upd q 2 P) 0).c, .int .i64 ((upd q 2 P) 0).d, .int .i64 ((upd q 2 P) 0).n, .int .i64 ((upd q 2 P) 1).a, .int .i64 ((upd q 2 P) 1).b, .int .i64 ((upd q 2 P) 1).c, .int .i64 ((upd q 2 P) 1).d, .int .i64 ((upd q 2 P) 1).n, .int .i64 ((upd q 2 P) 2).a, .int .i64 ((upd q 2 P) 2).b, .int .i64 ((upd q 2 P) 2).c, .int .i64 ((upd q 2 P) 2).d, .int .i64 ((upd q 2 P) 2).n, .int .i64 ((upd q 2 P) 3).a, .int .i64 ((upd q 2 P) 3).b, .int .i64 ((upd q 2 P) 3).c, .int .i64 ((upd q 2 P) 3).d, .int .i64 ((upd q 2 P) 3).n] t (0, 0)) → Below D w w' → wpList Try.prog ops Q rest (a.put op.dst undef) w') : wpList Try.prog ops Q (op :: rest) a w := by
  refine wpList_store_mid hgd 52 x y ho D 12 #[.int .i64 P.a, .int .i64 P.b, .int .i64 P.c, .int .i64 P.d, .int .i64 P.n] hx hy ?_ infos_Pl (by simp [Value.oneCell']) ?_
  · intro j hj
    match j, hj with
    | 0, _ => exact ⟨by rw [show 12 + 0 = 12 from rfl, cell_of_row w D 12 _ t _ hD]; rfl, frozen_of_row w D 12 _ t hD⟩
    | 1, _ => exact ⟨by rw [show 12 + 1 = 13 from rfl, cell_of_row w D 13 _ t _ hD]; rfl, frozen_of_row w D 13 _ t hD⟩
    | 2, _ => exact ⟨by rw [show 12 + 2 = 14 from rfl, cell_of_row w D 14 _ t _ hD]; rfl, frozen_of_row w D 14 _ t hD⟩
    | 3, _ => exact ⟨by rw [show 12 + 3 = 15 from rfl, cell_of_row w D 15 _ t _ hD]; rfl, frozen_of_row w D 15 _ t hD⟩
    | 4, _ => exact ⟨by rw [show 12 + 4 = 16 from rfl, cell_of_row w D 16 _ t _ hD]; rfl, frozen_of_row w D 16 _ t hD⟩
  · refine K _ ?_ ?_
    · show (((((w.setCell ⟨D, 12, none⟩ (.int .i64 P.a)).setCell ⟨D, 13, none⟩ (.int .i64 P.b)).setCell ⟨D, 14, none⟩ (.int .i64 P.c)).setCell ⟨D, 15, none⟩ (.int .i64 P.d)).setCell ⟨D, 16, none⟩ (.int .i64 P.n)).heap[D]? = _
      have h1 := heap_setCell_same _ D 16 _ t (.int .i64 P.n) (heap_setCell_same _ D 15 _ t (.int .i64 P.d) (heap_setCell_same _ D 14 _ t (.int .i64 P.c) (heap_setCell_same _ D 13 _ t (.int .i64 P.b) (heap_setCell_same _ D 12 _ t (.int .i64 P.a) hD))))
      simpa [upd] using h1
    · exact ((((((Below.refl D w).setCell (p := ⟨D, 12, none⟩) (Nat.le_refl D) (.int .i64 P.a)).setCell (p := ⟨D, 13, none⟩) (Nat.le_refl D) (.int .i64 P.b)).setCell (p := ⟨D, 14, none⟩) (Nat.le_refl D) (.int .i64 P.c)).setCell (p := ⟨D, 15, none⟩) (Nat.le_refl D) (.int .i64 P.d)).setCell (p := ⟨D, 16, none⟩) (Nat.le_refl D) (.int .i64 P.n))

theorem wpList_store_pile3 {ops : Array Oper} {rest : List Oper} {op : Oper} {a : Act} {w : World} {Q : Exit → Act → World → Prop} (hgd : op.guard = none) (x y : Operand) (ho : op.op = .store 52 x y)
    (D : Nat) (h n : Int) (q : Nat → Pl) (P : Pl) (t : TypeId) (hx : a.eval x = .pointer (some ⟨D, 17, none⟩)) (hy : a.eval y = (.agg #[.int .i64 P.a, .int .i64 P.b, .int .i64 P.c, .int .i64 P.d, .int .i64 P.n])) (hD : w.heap[D]? = some (.cells #[.int .i64 h, .int .i64 n, .int .i64 (q 0).a, .int .i64 (q 0).b, .int .i64 (q 0).c, .int .i64 (q 0).d, .int .i64 (q 0).n, .int .i64 (q 1).a, .int .i64 (q 1).b, .int .i64 (q 1).c, .int .i64 (q 1).d, .int .i64 (q 1).n, .int .i64 (q 2).a, .int .i64 (q 2).b, .int .i64 (q 2).c, .int .i64 (q 2).d, .int .i64 (q 2).n, .int .i64 (q 3).a, .int .i64 (q 3).b, .int .i64 (q 3).c, .int .i64 (q 3).d, .int .i64 (q 3).n] t (0, 0)))
    (K : ∀ w', w'.heap[D]? = some (.cells #[.int .i64 h, .int .i64 n, .int .i64 ((upd q 3 P) 0).a, .int .i64 ((upd q 3 P) 0).b, .int .i64 ((upd q 3 P) 0).c, .int .i64 ((upd q 3 P) 0).d, .int .i64 ((upd q 3 P) 0).n, .int .i64 ((upd q 3 P) 1).a, .int .i64 ((upd q 3 P) 1).b, .int .i64 ((upd q 3 P) 1).c, .int .i64 ((upd q 3 P) 1).d, .int .i64 ((upd q 3 P) 1).n, .int .i64 ((upd q 3 P) 2).a, .int .i64 ((upd q 3 P) 2).b, .int .i64 ((upd q 3 P) 2).c, .int .i64 ((upd q 3 P) 2).d, .int .i64 ((upd q 3 P) 2).n, .int .i64 ((upd q 3 P) 3).a, .int .i64 ((upd q 3 P) 3).b, .int .i64 ((upd q 3 P) 3).c, .int .i64 ((upd q 3 P) 3).d, .int .i64 ((upd q 3 P) 3).n] t (0, 0)) → Below D w w' → wpList Try.prog ops Q rest (a.put op.dst undef) w') : wpList Try.prog ops Q (op :: rest) a w := by
  refine wpList_store_mid hgd 52 x y ho D 17 #[.int .i64 P.a, .int .i64 P.b, .int .i64 P.c, .int .i64 P.d, .int .i64 P.n] hx hy ?_ infos_Pl (by simp [Value.oneCell']) ?_
  · intro j hj
    match j, hj with
    | 0, _ => exact ⟨by rw [show 17 + 0 = 17 from rfl, cell_of_row w D 17 _ t _ hD]; rfl, frozen_of_row w D 17 _ t hD⟩
    | 1, _ => exact ⟨by rw [show 17 + 1 = 18 from rfl, cell_of_row w D 18 _ t _ hD]; rfl, frozen_of_row w D 18 _ t hD⟩
    | 2, _ => exact ⟨by rw [show 17 + 2 = 19 from rfl, cell_of_row w D 19 _ t _ hD]; rfl, frozen_of_row w D 19 _ t hD⟩
    | 3, _ => exact ⟨by rw [show 17 + 3 = 20 from rfl, cell_of_row w D 20 _ t _ hD]; rfl, frozen_of_row w D 20 _ t hD⟩
    | 4, _ => exact ⟨by rw [show 17 + 4 = 21 from rfl, cell_of_row w D 21 _ t _ hD]; rfl, frozen_of_row w D 21 _ t hD⟩
  · refine K _ ?_ ?_
    · show (((((w.setCell ⟨D, 17, none⟩ (.int .i64 P.a)).setCell ⟨D, 18, none⟩ (.int .i64 P.b)).setCell ⟨D, 19, none⟩ (.int .i64 P.c)).setCell ⟨D, 20, none⟩ (.int .i64 P.d)).setCell ⟨D, 21, none⟩ (.int .i64 P.n)).heap[D]? = _
      have h1 := heap_setCell_same _ D 21 _ t (.int .i64 P.n) (heap_setCell_same _ D 20 _ t (.int .i64 P.d) (heap_setCell_same _ D 19 _ t (.int .i64 P.c) (heap_setCell_same _ D 18 _ t (.int .i64 P.b) (heap_setCell_same _ D 17 _ t (.int .i64 P.a) hD))))
      simpa [upd] using h1
    · exact ((((((Below.refl D w).setCell (p := ⟨D, 17, none⟩) (Nat.le_refl D) (.int .i64 P.a)).setCell (p := ⟨D, 18, none⟩) (Nat.le_refl D) (.int .i64 P.b)).setCell (p := ⟨D, 19, none⟩) (Nat.le_refl D) (.int .i64 P.c)).setCell (p := ⟨D, 20, none⟩) (Nat.le_refl D) (.int .i64 P.d)).setCell (p := ⟨D, 21, none⟩) (Nat.le_refl D) (.int .i64 P.n))

theorem built_depot (a b : Int) : Try.prog.built 55 [(0, .int .i64 a), (1, .int .i64 b)] = some #[.int .i64 a, .int .i64 b, .int .i64 0, .int .i64 0, .int .i64 0, .int .i64 0, .int .i64 0, .int .i64 0, .int .i64 0, .int .i64 0, .int .i64 0, .int .i64 0, .int .i64 0, .int .i64 0, .int .i64 0, .int .i64 0, .int .i64 0, .int .i64 0, .int .i64 0, .int .i64 0, .int .i64 0, .int .i64 0] := by kernel_rfl

/-- A store into the last of three new boxes. -/
theorem wpList_store_third {ops : Array Oper} {rest : List Oper} {o : Oper} {a : Act} {w0 : World} {A Z : Obj} {old : Array Value} {t : TypeId} {Q : Exit → Act → World → Prop} (hgd : o.guard = none) (ty : TypeId) (x y : Operand) (ho : o.op = .store ty x y)
    (R : Array Value) (hx : a.eval x = .pointer (some ⟨w0.heap.size + 2, 0, none⟩)) (hy : a.eval y = .agg R) (hi : (Try.prog.info? ty).map (·.size) = some R.size) (hold : old.size = R.size) (h1 : R.all (·.oneCell') = true)
    (h : ∀ w' : World, Hid (w'.heap[w0.heap.size]? = some A) → Hid (w'.heap[w0.heap.size + 1]? = some Z) → Hid (w'.heap[w0.heap.size + 2]? = some (.cells R t (0, 0))) → Hid (Below w0.heap.size w0 w') → w0.heap.size + 3 ≤ w'.heap.size → wpList Try.prog ops Q rest (a.put o.dst undef) w') :
    wpList Try.prog ops Q (o :: rest) a (((w0.alloc A).alloc Z).alloc (.cells old t (0, 0))) := by
  have hg := box3_2 w0 A Z (.cells old t (0, 0))
  refine wpList_store_row hgd ty x y ho (w0.heap.size + 2) R hx hy t old hg hi hold h1 (h _ ?_ ?_ ?_ ?_ ?_)
  · show _ = _
    rw [setRow_other _ _ _ _ (by omega)]; exact box3_0 w0 A Z _
  · show _ = _
    rw [setRow_other _ _ _ _ (by omega)]; exact box3_1 w0 A Z _
  · exact setRow_heap _ _ _ _ _ _ hg
  · exact below_setRow (by go_grown) (by omega) _
  · simp [World.setRow]

/-- The lots of stack i. -/
def tt (g : Yd) (i : Nat) : List Int := (g.x.map Sl.t).getD i []
theorem tt_get {g : Yd} {i : Nat} {x : Sl} (h : g.x[i]? = some x) : tt g i = x.t := by unfold tt; rw [List.getD_eq_getElem?_getD, List.getElem?_map, h]; rfl
theorem tt_past {g : Yd} {i : Nat} (h : g.x.length ≤ i) : tt g i = [] := by unfold tt; rw [List.getD_eq_getElem?_getD, List.getElem?_eq_none (by rw [List.length_map]; exact h)]; rfl
def isStruct : TypeDesc → Bool
  | .struct _ => true
  | _ => false
theorem und_depot : ∃ F, Try.prog.underlying 55 = some (.struct F) := by
  have h : (Try.prog.underlying 55).map isStruct = some true := by kernel_rfl
  cases e : Try.prog.underlying 55 with
  | none => rw [e] at h; simp at h
  | some d =>
    rw [e] at h
    cases d <;> first | exact ⟨_, rfl⟩ | (simp [isStruct] at h)
theorem one_all (v : List Int) : ((v.map (Value.int .i64)).toArray).all (·.oneCell') = true := by simp [Value.oneCell']
/-- The stacks that are done. -/
def Done (g : Yd) (q : Nat → Pl) (k : Nat) : Prop := ∀ i, i < 4 → q i = pil (if i < k then tt g i else [])
theorem Done.next {g : Yd} {q : Nat → Pl} {k : Nat} {x : Sl} (h : Done g q k) (hx : g.x[k]? = some x) : Done g (upd q k (pil x.t)) (k + 1) := by
  intro i hi
  unfold upd
  by_cases e : i = k
  · subst e; rw [if_pos rfl, if_pos (by omega), tt_get hx]
  · rw [if_neg e, h i hi]
    by_cases l : i < k
    · rw [if_pos l, if_pos (by omega)]
    · rw [if_neg l, if_neg (by omega)]
theorem Done.all {g : Yd} {q : Nat → Pl} {k : Nat} (h : Done g q k) (hk : k = g.x.length) : ∀ i, i < 4 → q i = pil (tt g i) := by
  intro i hi
  rw [h i hi]
  by_cases l : i < k
  · rw [if_pos l]
  · rw [if_neg l, tt_past (by omega)]

set_option maxRecDepth 100000 in
set_option maxHeartbeats 16000000 in
theorem depotOf_any (g : Yd) (n0 : Nat) (w : World) (hr : RdYd w n0 g) (ok : OkYd g) :
    Calls Try.prog 28 #[(.agg #[.int .i64 g.h, .slice g.xa n0 g.xc])] w fun e w' => ∃ q : Nat → Pl, (∀ i, i < 4 → q i = pil (tt g i)) ∧ e = .returned (.agg #[.int .i64 g.h, .int .i64 (n0 : Int), .int .i64 (q 0).a, .int .i64 (q 0).b, .int .i64 (q 0).c, .int .i64 (q 0).d, .int .i64 (q 0).n, .int .i64 (q 1).a, .int .i64 (q 1).b, .int .i64 (q 1).c, .int .i64 (q 1).d, .int .i64 (q 1).n, .int .i64 (q 2).a, .int .i64 (q 2).b, .int .i64 (q 2).c, .int .i64 (q 2).d, .int .i64 (q 2).n, .int .i64 (q 3).a, .int .i64 (q 3).b, .int .i64 (q 3).c, .int .i64 (q 3).d, .int .i64 (q 3).n]) ∧ Below w.heap.size w w' := by
  have E0 := Lib.hid hr.len
  have n4 : n0 ≤ 4 := by have := ok.n0; have := hr.len; omega
  have H := Lib.hid hr.r0
  have OK := Lib.hid ok
  obtain ⟨x0, hx0⟩ : ∃ x0, g.x[0]? = some x0 := ⟨_, List.getElem?_eq_getElem (by have := ok.n0; omega)⟩
  obtain ⟨ba, oa, EA, -, -, -⟩ := H.out.at hx0
  clear hr ok hx0 x0
  go_enter Try.func28, Try.ntmps28
  go_upto_region 1 with (fail)
  go_wp2_with (first | (refine wpList_buildTo rfl 55 _ rfl (some 11) rfl _ (built_depot _ _) ?_) | (refine wpList_store_third rfl 55 _ _ rfl #[.int .i64 g.h, .int .i64 (n0 : Int), .int .i64 0, .int .i64 0, .int .i64 0, .int .i64 0, .int .i64 0, .int .i64 0, .int .i64 0, .int .i64 0, .int .i64 0, .int .i64 0, .int .i64 0, .int .i64 0, .int .i64 0, .int .i64 0, .int .i64 0, .int .i64 0, .int .i64 0, .int .i64 0, .int .i64 0, .int .i64 0] rfl rfl infoD_depot rfl (one_all [g.h, (n0 : Int), 0, 0, 0, 0, 0, 0, 0, 0, 0, 0, 0, 0, 0, 0, 0, 0, 0, 0, 0, 0]) ?_) | fail)
  intro W HY HR HD HB hz
  obtain ⟨⟨k0, k1⟩, -, -⟩ := boxedYd_at HY.out
  have Q0 : Hid (Done g (fun _ => ⟨0, 0, 0, 0, 0⟩) 0) := by intro i hi; rw [if_neg (by omega)]; rfl
  go_wp2
  go_loopw [15] (fun iv wr => ∃ (k : Nat) (q : Nat → Pl), k ≤ n0 ∧ iv = .int .i64 k ∧ Hid (Done g q k) ∧ Hid (wr.heap[w.heap.size + 2]? = some (.cells #[.int .i64 g.h, .int .i64 (n0 : Int), .int .i64 (q 0).a, .int .i64 (q 0).b, .int .i64 (q 0).c, .int .i64 (q 0).d, .int .i64 (q 0).n, .int .i64 (q 1).a, .int .i64 (q 1).b, .int .i64 (q 1).c, .int .i64 (q 1).d, .int .i64 (q 1).n, .int .i64 (q 2).a, .int .i64 (q 2).b, .int .i64 (q 2).c, .int .i64 (q 2).d, .int .i64 (q 2).n, .int .i64 (q 3).a, .int .i64 (q 3).b, .int .i64 (q 3).c, .int .i64 (q 3).d, .int .i64 (q 3).n] 55 (0, 0))) ∧ Hid (wr.heap[w.heap.size + 1]? = some (.cells #[.int .i64 0, .int .i64 0, .int .i64 0, .int .i64 0, .int .i64 0, .int .i64 0, .int .i64 0, .int .i64 0, .int .i64 0, .int .i64 0, .int .i64 0, .int .i64 0, .int .i64 0, .int .i64 0, .int .i64 0, .int .i64 0, .int .i64 0, .int .i64 0, .int .i64 0, .int .i64 0, .int .i64 0, .int .i64 0] 55 (0, 0))) ∧ Hid (Below w.heap.size w wr) ∧ w.heap.size + 3 ≤ wr.heap.size) (fun iv _ => n0 - (intOf iv).toNat)
  case atStart => exact ⟨0, _, by omega, rfl, Q0.out, HD.out, HR.out, HB.out, hz⟩
  case round =>
    obtain ⟨k, q, hk, rfl, DN, ND, NR, B, zr⟩ := hrel
    clear Q0 HD HR HB HY k0 k1
    by_cases hlt : k < n0
    · obtain ⟨x, hx⟩ : ∃ x, g.x[k]? = some x := ⟨_, List.getElem?_eq_getElem (by have := E0.out; omega)⟩
      obtain ⟨ba', oa', ea, e1, rt, la⟩ := (H.out.later B.out).at hx
      rw [EA] at ea
      simp only [Option.some.injEq, Addr.mk.injEq, and_true] at ea
      obtain ⟨rfl, rfl⟩ := ea
      have lt4 : x.t.length ≤ 4 := by have := OK.out.t0 x (List.mem_of_getElem? hx); have := OK.out.h0; omega
      have P1 := Lib.hid (fun w h => pileOf_any x.a x.t.length x.c x.t w h lt4)
      have D2 := Lib.hid (DN.out.next hx)
      obtain ⟨P, hP⟩ : ∃ P, P = pil x.t := ⟨_, rfl⟩
      rw [← hP] at P1 D2
      obtain ⟨p, hp⟩ : ∃ p, p = x.t.length := ⟨_, rfl⟩
      rw [← hp] at P1 e1 rt
      have RT := Lib.hid rt
      clear hx hP hp rt lt4 DN
      have fin : ∀ w5 : World, Below wr.heap.size wr w5 → Hid (w5.heap[w.heap.size + 2]? = some (.cells #[.int .i64 g.h, .int .i64 (n0 : Int), .int .i64 (q 0).a, .int .i64 (q 0).b, .int .i64 (q 0).c, .int .i64 (q 0).d, .int .i64 (q 0).n, .int .i64 (q 1).a, .int .i64 (q 1).b, .int .i64 (q 1).c, .int .i64 (q 1).d, .int .i64 (q 1).n, .int .i64 (q 2).a, .int .i64 (q 2).b, .int .i64 (q 2).c, .int .i64 (q 2).d, .int .i64 (q 2).n, .int .i64 (q 3).a, .int .i64 (q 3).b, .int .i64 (q 3).c, .int .i64 (q 3).d, .int .i64 (q 3).n] 55 (0, 0))) ∧ Hid (w5.heap[w.heap.size + 1]? = some (.cells #[.int .i64 0, .int .i64 0, .int .i64 0, .int .i64 0, .int .i64 0, .int .i64 0, .int .i64 0, .int .i64 0, .int .i64 0, .int .i64 0, .int .i64 0, .int .i64 0, .int .i64 0, .int .i64 0, .int .i64 0, .int .i64 0, .int .i64 0, .int .i64 0, .int .i64 0, .int .i64 0, .int .i64 0, .int .i64 0] 55 (0, 0))) ∧ Hid (Below w.heap.size w w5) ∧ w.heap.size + 3 ≤ w5.heap.size := fun w5 b5 => ⟨(b5.block _ (by omega)).trans ND.out, (b5.block _ (by omega)).trans NR.out, B.out.trans (b5.mono (by omega)), by have := b5.size; omega⟩
      have FIN := Lib.hid fin
      clear fin ND NR B
      rcases (show k = 0 ∨ k = 1 ∨ k = 2 ∨ k = 3 by omega) with rfl | rfl | rfl | rfl
      · rw [Nat.add_zero] at e1
        go_wp2_with fail
        refine (P1.out _ RT.out).mono ?_
        rintro e w5 ⟨rfl, b5⟩
        obtain ⟨N5, R5, B5, z5⟩ := FIN.out w5 b5
        clear b5 e1
        go_wp2_with (first | (refine wpList_store_pile0 rfl _ _ rfl (w.heap.size + 2) g.h n0 q P 55 rfl rfl N5.out ?_; intro wE hE bE) | fail)
        have NE := Lib.hid hE
        have RE : Hid (wE.heap[w.heap.size + 1]? = some (.cells #[.int .i64 0, .int .i64 0, .int .i64 0, .int .i64 0, .int .i64 0, .int .i64 0, .int .i64 0, .int .i64 0, .int .i64 0, .int .i64 0, .int .i64 0, .int .i64 0, .int .i64 0, .int .i64 0, .int .i64 0, .int .i64 0, .int .i64 0, .int .i64 0, .int .i64 0, .int .i64 0, .int .i64 0, .int .i64 0] 55 (0, 0))) := (bE.block _ (by omega)).trans R5.out
        have BE : Hid (Below w.heap.size w wE) := B5.out.trans (bE.mono (by omega))
        have zE : w.heap.size + 3 ≤ wE.heap.size := by have := bE.size; omega
        clear hE bE N5 R5 B5 P1 FIN
        go_wp2
        exact ⟨⟨1, upd q 0 P, by omega, by first | rfl | go_num, D2, NE, RE, BE, zE⟩, by simp only [intOf]; omega⟩
      · go_wp2_with fail
        refine (P1.out _ RT.out).mono ?_
        rintro e w5 ⟨rfl, b5⟩
        obtain ⟨N5, R5, B5, z5⟩ := FIN.out w5 b5
        clear b5 e1
        go_wp2_with (first | (refine wpList_store_pile1 rfl _ _ rfl (w.heap.size + 2) g.h n0 q P 55 rfl rfl N5.out ?_; intro wE hE bE) | fail)
        have NE := Lib.hid hE
        have RE : Hid (wE.heap[w.heap.size + 1]? = some (.cells #[.int .i64 0, .int .i64 0, .int .i64 0, .int .i64 0, .int .i64 0, .int .i64 0, .int .i64 0, .int .i64 0, .int .i64 0, .int .i64 0, .int .i64 0, .int .i64 0, .int .i64 0, .int .i64 0, .int .i64 0, .int .i64 0, .int .i64 0, .int .i64 0, .int .i64 0, .int .i64 0, .int .i64 0, .int .i64 0] 55 (0, 0))) := (bE.block _ (by omega)).trans R5.out
        have BE : Hid (Below w.heap.size w wE) := B5.out.trans (bE.mono (by omega))
        have zE : w.heap.size + 3 ≤ wE.heap.size := by have := bE.size; omega
        clear hE bE N5 R5 B5 P1 FIN
        go_wp2
        exact ⟨⟨2, upd q 1 P, by omega, by first | rfl | go_num, D2, NE, RE, BE, zE⟩, by simp only [intOf]; omega⟩
      · go_wp2_with fail
        refine (P1.out _ RT.out).mono ?_
        rintro e w5 ⟨rfl, b5⟩
        obtain ⟨N5, R5, B5, z5⟩ := FIN.out w5 b5
        clear b5 e1
        go_wp2_with (first | (refine wpList_store_pile2 rfl _ _ rfl (w.heap.size + 2) g.h n0 q P 55 rfl rfl N5.out ?_; intro wE hE bE) | fail)
        have NE := Lib.hid hE
        have RE : Hid (wE.heap[w.heap.size + 1]? = some (.cells #[.int .i64 0, .int .i64 0, .int .i64 0, .int .i64 0, .int .i64 0, .int .i64 0, .int .i64 0, .int .i64 0, .int .i64 0, .int .i64 0, .int .i64 0, .int .i64 0, .int .i64 0, .int .i64 0, .int .i64 0, .int .i64 0, .int .i64 0, .int .i64 0, .int .i64 0, .int .i64 0, .int .i64 0, .int .i64 0] 55 (0, 0))) := (bE.block _ (by omega)).trans R5.out
        have BE : Hid (Below w.heap.size w wE) := B5.out.trans (bE.mono (by omega))
        have zE : w.heap.size + 3 ≤ wE.heap.size := by have := bE.size; omega
        clear hE bE N5 R5 B5 P1 FIN
        go_wp2
        exact ⟨⟨3, upd q 2 P, by omega, by first | rfl | go_num, D2, NE, RE, BE, zE⟩, by simp only [intOf]; omega⟩
      · go_wp2_with fail
        refine (P1.out _ RT.out).mono ?_
        rintro e w5 ⟨rfl, b5⟩
        obtain ⟨N5, R5, B5, z5⟩ := FIN.out w5 b5
        clear b5 e1
        go_wp2_with (first | (refine wpList_store_pile3 rfl _ _ rfl (w.heap.size + 2) g.h n0 q P 55 rfl rfl N5.out ?_; intro wE hE bE) | fail)
        have NE := Lib.hid hE
        have RE : Hid (wE.heap[w.heap.size + 1]? = some (.cells #[.int .i64 0, .int .i64 0, .int .i64 0, .int .i64 0, .int .i64 0, .int .i64 0, .int .i64 0, .int .i64 0, .int .i64 0, .int .i64 0, .int .i64 0, .int .i64 0, .int .i64 0, .int .i64 0, .int .i64 0, .int .i64 0, .int .i64 0, .int .i64 0, .int .i64 0, .int .i64 0, .int .i64 0, .int .i64 0] 55 (0, 0))) := (bE.block _ (by omega)).trans R5.out
        have BE : Hid (Below w.heap.size w wE) := B5.out.trans (bE.mono (by omega))
        have zE : w.heap.size + 3 ≤ wE.heap.size := by have := bE.size; omega
        clear hE bE N5 R5 B5 P1 FIN
        go_wp2
        exact ⟨⟨4, upd q 3 P, by omega, by first | rfl | go_num, D2, NE, RE, BE, zE⟩, by simp only [intOf]; omega⟩
    · obtain rfl : k = n0 := by omega
      have QQ := Lib.hid (DN.out.all E0.out)
      obtain ⟨F, hu⟩ := und_depot
      clear DN
      go_wp2_with (first | (refine wpList_load_row rfl 55 _ rfl (w.heap.size + 2) rfl 55 #[.int .i64 g.h, .int .i64 (k : Int), .int .i64 (q 0).a, .int .i64 (q 0).b, .int .i64 (q 0).c, .int .i64 (q 0).d, .int .i64 (q 0).n, .int .i64 (q 1).a, .int .i64 (q 1).b, .int .i64 (q 1).c, .int .i64 (q 1).d, .int .i64 (q 1).n, .int .i64 (q 2).a, .int .i64 (q 2).b, .int .i64 (q 2).c, .int .i64 (q 2).d, .int .i64 (q 2).n, .int .i64 (q 3).a, .int .i64 (q 3).b, .int .i64 (q 3).c, .int .i64 (q 3).d, .int .i64 (q 3).n] (0, 0) (.struct F) ND.out hu rfl infoD_depot ?_) | (refine wpList_store_row rfl 55 _ _ rfl (w.heap.size + 1) #[.int .i64 g.h, .int .i64 (k : Int), .int .i64 (q 0).a, .int .i64 (q 0).b, .int .i64 (q 0).c, .int .i64 (q 0).d, .int .i64 (q 0).n, .int .i64 (q 1).a, .int .i64 (q 1).b, .int .i64 (q 1).c, .int .i64 (q 1).d, .int .i64 (q 1).n, .int .i64 (q 2).a, .int .i64 (q 2).b, .int .i64 (q 2).c, .int .i64 (q 2).d, .int .i64 (q 2).n, .int .i64 (q 3).a, .int .i64 (q 3).b, .int .i64 (q 3).c, .int .i64 (q 3).d, .int .i64 (q 3).n] rfl rfl 55 #[.int .i64 0, .int .i64 0, .int .i64 0, .int .i64 0, .int .i64 0, .int .i64 0, .int .i64 0, .int .i64 0, .int .i64 0, .int .i64 0, .int .i64 0, .int .i64 0, .int .i64 0, .int .i64 0, .int .i64 0, .int .i64 0, .int .i64 0, .int .i64 0, .int .i64 0, .int .i64 0, .int .i64 0, .int .i64 0] NR.out infoD_depot rfl (one_all [g.h, (k : Int), (q 0).a, (q 0).b, (q 0).c, (q 0).d, (q 0).n, (q 1).a, (q 1).b, (q 1).c, (q 1).d, (q 1).n, (q 2).a, (q 2).b, (q 2).c, (q 2).d, (q 2).n, (q 3).a, (q 3).b, (q 3).c, (q 3).d, (q 3).n]) ?_) | fail)
      refine bodyPost_ret (results_cell_row Try.results28 _ _ (w.heap.size + 1) 55 #[.int .i64 g.h, .int .i64 (k : Int), .int .i64 (q 0).a, .int .i64 (q 0).b, .int .i64 (q 0).c, .int .i64 (q 0).d, .int .i64 (q 0).n, .int .i64 (q 1).a, .int .i64 (q 1).b, .int .i64 (q 1).c, .int .i64 (q 1).d, .int .i64 (q 1).n, .int .i64 (q 2).a, .int .i64 (q 2).b, .int .i64 (q 2).c, .int .i64 (q 2).d, .int .i64 (q 2).n, .int .i64 (q 3).a, .int .i64 (q 3).b, .int .i64 (q 3).c, .int .i64 (q 3).d, .int .i64 (q 3).n] (0, 0) (.struct F) rfl (setRow_heap _ _ _ _ _ _ NR.out) hu rfl infoD_depot) rfl ?_
      exact ⟨q, QQ.out, rfl, below_setRow B.out (by omega) _⟩

end Go.Proofs.Ythfmmlpbflfpaac
