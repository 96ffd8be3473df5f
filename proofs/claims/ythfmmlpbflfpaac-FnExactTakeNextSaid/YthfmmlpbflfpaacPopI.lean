/- The topmost lot is taken off a stack of a depot. (Written by tools/mkpop.py.) -/
import Derived.Test.YthfmmlpbflfpaacClearI
namespace Go.Proofs.Ythfmmlpbflfpaac
open Go.ChangeShapes Go.WideShapes Go.ChangeAt Go.RowKit
set_option linter.unusedVariables false
set_option linter.unusedSimpArgs false

set_option maxRecDepth 100000 in
set_option maxHeartbeats 4000000 in
theorem pop_0_1 (D : Nat) (h n : Int) (q : Nat → Pl) (x0 : Int) (w : World) (t : TypeId) (hq : q 0 = ⟨x0, 0, 0, 0, 1⟩) (hD : w.heap[D]? = some (.cells #[.int .i64 h, .int .i64 n, .int .i64 (q 0).a, .int .i64 (q 0).b, .int .i64 (q 0).c, .int .i64 (q 0).d, .int .i64 (q 0).n, .int .i64 (q 1).a, .int .i64 (q 1).b, .int .i64 (q 1).c, .int .i64 (q 1).d, .int .i64 (q 1).n, .int .i64 (q 2).a, .int .i64 (q 2).b, .int .i64 (q 2).c, .int .i64 (q 2).d, .int .i64 (q 2).n, .int .i64 (q 3).a, .int .i64 (q 3).b, .int .i64 (q 3).c, .int .i64 (q 3).d, .int .i64 (q 3).n] t (0, 0))) :
    Calls Try.prog 32 #[.pointer (some ⟨D, 2, none⟩)] w fun e w' => e = .returned (.int .i64 (topOf [x0])) ∧ w'.heap[D]? = some (.cells #[.int .i64 h, .int .i64 n, .int .i64 ((upd q 0 ⟨0, 0, 0, 0, 0⟩) 0).a, .int .i64 ((upd q 0 ⟨0, 0, 0, 0, 0⟩) 0).b, .int .i64 ((upd q 0 ⟨0, 0, 0, 0, 0⟩) 0).c, .int .i64 ((upd q 0 ⟨0, 0, 0, 0, 0⟩) 0).d, .int .i64 ((upd q 0 ⟨0, 0, 0, 0, 0⟩) 0).n, .int .i64 ((upd q 0 ⟨0, 0, 0, 0, 0⟩) 1).a, .int .i64 ((upd q 0 ⟨0, 0, 0, 0, 0⟩) 1).b, .int .i64 ((upd q 0 ⟨0, 0, 0, 0, 0⟩) 1).c, .int .i64 ((upd q 0 ⟨0, 0, 0, 0, 0⟩) 1).d, .int .i64 ((upd q 0 ⟨0, 0, 0, 0, 0⟩) 1).n, .int .i64 ((upd q 0 ⟨0, 0, 0, 0, 0⟩) 2).a, .int .i64 ((upd q 0 ⟨0, 0, 0, 0, 0⟩) 2).b, .int .i64 ((upd q 0 ⟨0, 0, 0, 0, 0⟩) 2).c, .int .i64 ((upd q 0 ⟨0, 0, 0, 0, 0⟩) 2).d, .int .i64 ((upd q 0 ⟨0, 0, 0, 0, 0⟩) 2).n, .int .i64 ((upd q 0 ⟨0, 0, 0, 0, 0⟩) 3).a, .int .i64 ((upd q 0 ⟨0, 0, 0, 0, 0⟩) 3).b, .int .i64 ((upd q 0 ⟨0, 0, 0, 0, 0⟩) 3).c, .int .i64 ((upd q 0 ⟨0, 0, 0, 0, 0⟩) 3).d, .int .i64 ((upd q 0 ⟨0, 0, 0, 0, 0⟩) 3).n] t (0, 0)) ∧ w.grownBy w' (some D) := by
  have lD := (Array.getElem?_eq_some_iff.1 hD).1
  have T := Lib.hid (show Calls Try.prog 31 #[.agg #[.int .i64 x0, .int .i64 0, .int .i64 0, .int .i64 0, .int .i64 1]] w _ from top_any [x0] (by simp) w)
  have HD := Lib.hid hD
  have HQ := Lib.hid hq
  have c0 : w.cell? ⟨D, 2, none⟩ = some (.int .i64 x0) := by have := cell_of_row w D 2 _ t _ hD; rw [hq] at this; exact this
  have c1 : w.cell? ⟨D, 3, none⟩ = some (.int .i64 0) := by have := cell_of_row w D 3 _ t _ hD; rw [hq] at this; exact this
  have c2 : w.cell? ⟨D, 4, none⟩ = some (.int .i64 0) := by have := cell_of_row w D 4 _ t _ hD; rw [hq] at this; exact this
  have c3 : w.cell? ⟨D, 5, none⟩ = some (.int .i64 0) := by have := cell_of_row w D 5 _ t _ hD; rw [hq] at this; exact this
  have c4 : w.cell? ⟨D, 6, none⟩ = some (.int .i64 1) := by have := cell_of_row w D 6 _ t _ hD; rw [hq] at this; exact this
  clear hq hD
  go_enter Try.func32, Try.ntmps32
  go_wp2_with fail
  refine T.out.mono ?_
  rintro e w5 ⟨rfl, b5⟩
  have HD5 := (b5.block D lD).trans HD.out
  have lD5 : D < w5.heap.size := by have := b5.size; omega
  have HD6 := heap_setCell_same _ D 6 _ t (.int .i64 0) HD5
  have d0 := (b5.cell (p := ⟨D, 2, none⟩) lD).trans c0
  have f0 := frozen_of_row w5 D 2 _ t HD5
  have d1 := (b5.cell (p := ⟨D, 3, none⟩) lD).trans c1
  have f1 := frozen_of_row w5 D 3 _ t HD5
  have d2 := (b5.cell (p := ⟨D, 4, none⟩) lD).trans c2
  have f2 := frozen_of_row w5 D 4 _ t HD5
  have d3 := (b5.cell (p := ⟨D, 5, none⟩) lD).trans c3
  have f3 := frozen_of_row w5 D 5 _ t HD5
  have d4 := (b5.cell (p := ⟨D, 6, none⟩) lD).trans c4
  have f4 := frozen_of_row w5 D 6 _ t HD5
  have K := clear_run (w5.setCell ⟨D, 6, none⟩ (.int .i64 0)).drew D 2 4 4 (by omega) (fun j hj => by
    match j, hj with
    | 0, _ => exact Option.isSome_iff_exists.2 ⟨_, (cell_of_row (w5.setCell ⟨D, 6, none⟩ (.int .i64 0)) D 2 _ t _ HD6 :)⟩
    | 1, _ => exact Option.isSome_iff_exists.2 ⟨_, (cell_of_row (w5.setCell ⟨D, 6, none⟩ (.int .i64 0)) D 3 _ t _ HD6 :)⟩
    | 2, _ => exact Option.isSome_iff_exists.2 ⟨_, (cell_of_row (w5.setCell ⟨D, 6, none⟩ (.int .i64 0)) D 4 _ t _ HD6 :)⟩
    | 3, _ => exact Option.isSome_iff_exists.2 ⟨_, (cell_of_row (w5.setCell ⟨D, 6, none⟩ (.int .i64 0)) D 5 _ t _ HD6 :)⟩) (fun j hj => by
    match j, hj with
    | 0, _ => exact (frozen_of_row (w5.setCell ⟨D, 6, none⟩ (.int .i64 0)) D 2 _ t HD6 :)
    | 1, _ => exact (frozen_of_row (w5.setCell ⟨D, 6, none⟩ (.int .i64 0)) D 3 _ t HD6 :)
    | 2, _ => exact (frozen_of_row (w5.setCell ⟨D, 6, none⟩ (.int .i64 0)) D 4 _ t HD6 :)
    | 3, _ => exact (frozen_of_row (w5.setCell ⟨D, 6, none⟩ (.int .i64 0)) D 5 _ t HD6 :))
  have K2 : (w5.setCell ⟨D, 6, none⟩ (.int .i64 0)).drew.setCells D 2 (List.replicate 4 (.int .i64 0)) = (((((w5.setCell ⟨D, 6, none⟩ (.int .i64 0)).drew.setCell ⟨D, 2, none⟩ (.int .i64 0)).setCell ⟨D, 3, none⟩ (.int .i64 0)).setCell ⟨D, 4, none⟩ (.int .i64 0)).setCell ⟨D, 5, none⟩ (.int .i64 0)) := rfl
  rw [K2] at K
  have HD7 := (heap_setCell_same _ D 5 _ t (.int .i64 0) (heap_setCell_same _ D 4 _ t (.int .i64 0) (heap_setCell_same _ D 3 _ t (.int .i64 0) (heap_setCell_same _ D 2 _ t (.int .i64 0) HD6))))
  have GB : w.grownBy ((((((w5.setCell ⟨D, 6, none⟩ (.int .i64 0)).setCell ⟨D, 2, none⟩ (.int .i64 0)).setCell ⟨D, 3, none⟩ (.int .i64 0)).setCell ⟨D, 4, none⟩ (.int .i64 0)).setCell ⟨D, 5, none⟩ (.int .i64 0)).drew) (some D) := by
    refine ⟨b5.os, b5.tape, b5.output, by have := b5.size; simp; omega, fun k hk hne => ?_⟩
    have ne : k ≠ D := fun e => hne (by rw [e])
    show ((((((w5.setCell ⟨D, 6, none⟩ (.int .i64 0)).setCell ⟨D, 2, none⟩ (.int .i64 0)).setCell ⟨D, 3, none⟩ (.int .i64 0)).setCell ⟨D, 4, none⟩ (.int .i64 0)).setCell ⟨D, 5, none⟩ (.int .i64 0))).heap[k]? = _
    rw [heap_setCell_other _ _ _ _ ne, heap_setCell_other _ _ _ _ ne, heap_setCell_other _ _ _ _ ne, heap_setCell_other _ _ _ _ ne, heap_setCell_other _ _ _ _ ne]
    exact b5.block k hk
  have HW := Lib.hid (show ((((((w5.setCell ⟨D, 6, none⟩ (.int .i64 0)).setCell ⟨D, 2, none⟩ (.int .i64 0)).setCell ⟨D, 3, none⟩ (.int .i64 0)).setCell ⟨D, 4, none⟩ (.int .i64 0)).setCell ⟨D, 5, none⟩ (.int .i64 0)).drew).heap[D]? = some (.cells #[.int .i64 h, .int .i64 n, .int .i64 ((upd q 0 ⟨0, 0, 0, 0, 0⟩) 0).a, .int .i64 ((upd q 0 ⟨0, 0, 0, 0, 0⟩) 0).b, .int .i64 ((upd q 0 ⟨0, 0, 0, 0, 0⟩) 0).c, .int .i64 ((upd q 0 ⟨0, 0, 0, 0, 0⟩) 0).d, .int .i64 ((upd q 0 ⟨0, 0, 0, 0, 0⟩) 0).n, .int .i64 ((upd q 0 ⟨0, 0, 0, 0, 0⟩) 1).a, .int .i64 ((upd q 0 ⟨0, 0, 0, 0, 0⟩) 1).b, .int .i64 ((upd q 0 ⟨0, 0, 0, 0, 0⟩) 1).c, .int .i64 ((upd q 0 ⟨0, 0, 0, 0, 0⟩) 1).d, .int .i64 ((upd q 0 ⟨0, 0, 0, 0, 0⟩) 1).n, .int .i64 ((upd q 0 ⟨0, 0, 0, 0, 0⟩) 2).a, .int .i64 ((upd q 0 ⟨0, 0, 0, 0, 0⟩) 2).b, .int .i64 ((upd q 0 ⟨0, 0, 0, 0, 0⟩) 2).c, .int .i64 ((upd q 0 ⟨0, 0, 0, 0, 0⟩) 2).d, .int .i64 ((upd q 0 ⟨0, 0, 0, 0, 0⟩) 2).n, .int .i64 ((upd q 0 ⟨0, 0, 0, 0, 0⟩) 3).a, .int .i64 ((upd q 0 ⟨0, 0, 0, 0, 0⟩) 3).b, .int .i64 ((upd q 0 ⟨0, 0, 0, 0, 0⟩) 3).c, .int .i64 ((upd q 0 ⟨0, 0, 0, 0, 0⟩) 3).d, .int .i64 ((upd q 0 ⟨0, 0, 0, 0, 0⟩) 3).n] t (0, 0)) by show ((((((w5.setCell ⟨D, 6, none⟩ (.int .i64 0)).setCell ⟨D, 2, none⟩ (.int .i64 0)).setCell ⟨D, 3, none⟩ (.int .i64 0)).setCell ⟨D, 4, none⟩ (.int .i64 0)).setCell ⟨D, 5, none⟩ (.int .i64 0))).heap[D]? = _; have h7 := HD7; simpa [upd, HQ.out] using h7)
  have GBH := Lib.hid GB
  clear K2 T c0 c1 c2 c3 c4 HD6 HD7 GB HD5
  go_wp2
  go_region
  go_wp2
  go_ret
  exact ⟨rfl, HW.out, GBH.out⟩

set_option maxRecDepth 100000 in
set_option maxHeartbeats 4000000 in
theorem pop_0_2 (D : Nat) (h n : Int) (q : Nat → Pl) (x0 x1 : Int) (w : World) (t : TypeId) (hq : q 0 = ⟨x0, x1, 0, 0, 2⟩) (hD : w.heap[D]? = some (.cells #[.int .i64 h, .int .i64 n, .int .i64 (q 0).a, .int .i64 (q 0).b, .int .i64 (q 0).c, .int .i64 (q 0).d, .int .i64 (q 0).n, .int .i64 (q 1).a, .int .i64 (q 1).b, .int .i64 (q 1).c, .int .i64 (q 1).d, .int .i64 (q 1).n, .int .i64 (q 2).a, .int .i64 (q 2).b, .int .i64 (q 2).c, .int .i64 (q 2).d, .int .i64 (q 2).n, .int .i64 (q 3).a, .int .i64 (q 3).b, .int .i64 (q 3).c, .int .i64 (q 3).d, .int .i64 (q 3).n] t (0, 0))) :
    Calls Try.prog 32 #[.pointer (some ⟨D, 2, none⟩)] w fun e w' => e = .returned (.int .i64 (topOf [x0, x1])) ∧ w'.heap[D]? = some (.cells #[.int .i64 h, .int .i64 n, .int .i64 ((upd q 0 ⟨x0, 0, 0, 0, 1⟩) 0).a, .int .i64 ((upd q 0 ⟨x0, 0, 0, 0, 1⟩) 0).b, .int .i64 ((upd q 0 ⟨x0, 0, 0, 0, 1⟩) 0).c, .int .i64 ((upd q 0 ⟨x0, 0, 0, 0, 1⟩) 0).d, .int .i64 ((upd q 0 ⟨x0, 0, 0, 0, 1⟩) 0).n, .int .i64 ((upd q 0 ⟨x0, 0, 0, 0, 1⟩) 1).a, .int .i64 ((upd q 0 ⟨x0, 0, 0, 0, 1⟩) 1).b, .int .i64 ((upd q 0 ⟨x0, 0, 0, 0, 1⟩) 1).c, .int .i64 ((upd q 0 ⟨x0, 0, 0, 0, 1⟩) 1).d, .int .i64 ((upd q 0 ⟨x0, 0, 0, 0, 1⟩) 1).n, .int .i64 ((upd q 0 ⟨x0, 0, 0, 0, 1⟩) 2).a, .int .i64 ((upd q 0 ⟨x0, 0, 0, 0, 1⟩) 2).b, .int .i64 ((upd q 0 ⟨x0, 0, 0, 0, 1⟩) 2).c, .int .i64 ((upd q 0 ⟨x0, 0, 0, 0, 1⟩) 2).d, .int .i64 ((upd q 0 ⟨x0, 0, 0, 0, 1⟩) 2).n, .int .i64 ((upd q 0 ⟨x0, 0, 0, 0, 1⟩) 3).a, .int .i64 ((upd q 0 ⟨x0, 0, 0, 0, 1⟩) 3).b, .int .i64 ((upd q 0 ⟨x0, 0, 0, 0, 1⟩) 3).c, .int .i64 ((upd q 0 ⟨x0, 0, 0, 0, 1⟩) 3).d, .int .i64 ((upd q 0 ⟨x0, 0, 0, 0, 1⟩) 3).n] t (0, 0)) ∧ w.grownBy w' (some D) := by
  have lD := (Array.getElem?_eq_some_iff.1 hD).1
  have T := Lib.hid (show Calls Try.prog 31 #[.agg #[.int .i64 x0, .int .i64 x1, .int .i64 0, .int .i64 0, .int .i64 2]] w _ from top_any [x0, x1] (by simp) w)
  have HD := Lib.hid hD
  have HQ := Lib.hid hq
  have c0 : w.cell? ⟨D, 2, none⟩ = some (.int .i64 x0) := by have := cell_of_row w D 2 _ t _ hD; rw [hq] at this; exact this
  have c1 : w.cell? ⟨D, 3, none⟩ = some (.int .i64 x1) := by have := cell_of_row w D 3 _ t _ hD; rw [hq] at this; exact this
  have c2 : w.cell? ⟨D, 4, none⟩ = some (.int .i64 0) := by have := cell_of_row w D 4 _ t _ hD; rw [hq] at this; exact this
  have c3 : w.cell? ⟨D, 5, none⟩ = some (.int .i64 0) := by have := cell_of_row w D 5 _ t _ hD; rw [hq] at this; exact this
  have c4 : w.cell? ⟨D, 6, none⟩ = some (.int .i64 2) := by have := cell_of_row w D 6 _ t _ hD; rw [hq] at this; exact this
  clear hq hD
  go_enter Try.func32, Try.ntmps32
  go_wp2_with fail
  refine T.out.mono ?_
  rintro e w5 ⟨rfl, b5⟩
  have HD5 := (b5.block D lD).trans HD.out
  have lD5 : D < w5.heap.size := by have := b5.size; omega
  have HD6 := heap_setCell_same _ D 6 _ t (.int .i64 1) HD5
  have d0 := (b5.cell (p := ⟨D, 2, none⟩) lD).trans c0
  have f0 := frozen_of_row w5 D 2 _ t HD5
  have d1 := (b5.cell (p := ⟨D, 3, none⟩) lD).trans c1
  have f1 := frozen_of_row w5 D 3 _ t HD5
  have d2 := (b5.cell (p := ⟨D, 4, none⟩) lD).trans c2
  have f2 := frozen_of_row w5 D 4 _ t HD5
  have d3 := (b5.cell (p := ⟨D, 5, none⟩) lD).trans c3
  have f3 := frozen_of_row w5 D 5 _ t HD5
  have d4 := (b5.cell (p := ⟨D, 6, none⟩) lD).trans c4
  have f4 := frozen_of_row w5 D 6 _ t HD5
  have K := clear_run (w5.setCell ⟨D, 6, none⟩ (.int .i64 1)).drew D 3 3 3 (by omega) (fun j hj => by
    match j, hj with
    | 0, _ => exact Option.isSome_iff_exists.2 ⟨_, (cell_of_row (w5.setCell ⟨D, 6, none⟩ (.int .i64 1)) D 3 _ t _ HD6 :)⟩
    | 1, _ => exact Option.isSome_iff_exists.2 ⟨_, (cell_of_row (w5.setCell ⟨D, 6, none⟩ (.int .i64 1)) D 4 _ t _ HD6 :)⟩
    | 2, _ => exact Option.isSome_iff_exists.2 ⟨_, (cell_of_row (w5.setCell ⟨D, 6, none⟩ (.int .i64 1)) D 5 _ t _ HD6 :)⟩) (fun j hj => by
    match j, hj with
    | 0, _ => exact (frozen_of_row (w5.setCell ⟨D, 6, none⟩ (.int .i64 1)) D 3 _ t HD6 :)
    | 1, _ => exact (frozen_of_row (w5.setCell ⟨D, 6, none⟩ (.int .i64 1)) D 4 _ t HD6 :)
    | 2, _ => exact (frozen_of_row (w5.setCell ⟨D, 6, none⟩ (.int .i64 1)) D 5 _ t HD6 :))
  have K2 : (w5.setCell ⟨D, 6, none⟩ (.int .i64 1)).drew.setCells D 3 (List.replicate 3 (.int .i64 0)) = ((((w5.setCell ⟨D, 6, none⟩ (.int .i64 1)).drew.setCell ⟨D, 3, none⟩ (.int .i64 0)).setCell ⟨D, 4, none⟩ (.int .i64 0)).setCell ⟨D, 5, none⟩ (.int .i64 0)) := rfl
  rw [K2] at K
  have HD7 := (heap_setCell_same _ D 5 _ t (.int .i64 0) (heap_setCell_same _ D 4 _ t (.int .i64 0) (heap_setCell_same _ D 3 _ t (.int .i64 0) HD6)))
  have GB : w.grownBy (((((w5.setCell ⟨D, 6, none⟩ (.int .i64 1)).setCell ⟨D, 3, none⟩ (.int .i64 0)).setCell ⟨D, 4, none⟩ (.int .i64 0)).setCell ⟨D, 5, none⟩ (.int .i64 0)).drew) (some D) := by
    refine ⟨b5.os, b5.tape, b5.output, by have := b5.size; simp; omega, fun k hk hne => ?_⟩
    have ne : k ≠ D := fun e => hne (by rw [e])
    show (((((w5.setCell ⟨D, 6, none⟩ (.int .i64 1)).setCell ⟨D, 3, none⟩ (.int .i64 0)).setCell ⟨D, 4, none⟩ (.int .i64 0)).setCell ⟨D, 5, none⟩ (.int .i64 0))).heap[k]? = _
    rw [heap_setCell_other _ _ _ _ ne, heap_setCell_other _ _ _ _ ne, heap_setCell_other _ _ _ _ ne, heap_setCell_other _ _ _ _ ne]
    exact b5.block k hk
  have HW := Lib.hid (show (((((w5.setCell ⟨D, 6, none⟩ (.int .i64 1)).setCell ⟨D, 3, none⟩ (.int .i64 0)).setCell ⟨D, 4, none⟩ (.int .i64 0)).setCell ⟨D, 5, none⟩ (.int .i64 0)).drew).heap[D]? = some (.cells #[.int .i64 h, .int .i64 n, .int .i64 ((upd q 0 ⟨x0, 0, 0, 0, 1⟩) 0).a, .int .i64 ((upd q 0 ⟨x0, 0, 0, 0, 1⟩) 0).b, .int .i64 ((upd q 0 ⟨x0, 0, 0, 0, 1⟩) 0).c, .int .i64 ((upd q 0 ⟨x0, 0, 0, 0, 1⟩) 0).d, .int .i64 ((upd q 0 ⟨x0, 0, 0, 0, 1⟩) 0).n, .int .i64 ((upd q 0 ⟨x0, 0, 0, 0, 1⟩) 1).a, .int .i64 ((upd q 0 ⟨x0, 0, 0, 0, 1⟩) 1).b, .int .i64 ((upd q 0 ⟨x0, 0, 0, 0, 1⟩) 1).c, .int .i64 ((upd q 0 ⟨x0, 0, 0, 0, 1⟩) 1).d, .int .i64 ((upd q 0 ⟨x0, 0, 0, 0, 1⟩) 1).n, .int .i64 ((upd q 0 ⟨x0, 0, 0, 0, 1⟩) 2).a, .int .i64 ((upd q 0 ⟨x0, 0, 0, 0, 1⟩) 2).b, .int .i64 ((upd q 0 ⟨x0, 0, 0, 0, 1⟩) 2).c, .int .i64 ((upd q 0 ⟨x0, 0, 0, 0, 1⟩) 2).d, .int .i64 ((upd q 0 ⟨x0, 0, 0, 0, 1⟩) 2).n, .int .i64 ((upd q 0 ⟨x0, 0, 0, 0, 1⟩) 3).a, .int .i64 ((upd q 0 ⟨x0, 0, 0, 0, 1⟩) 3).b, .int .i64 ((upd q 0 ⟨x0, 0, 0, 0, 1⟩) 3).c, .int .i64 ((upd q 0 ⟨x0, 0, 0, 0, 1⟩) 3).d, .int .i64 ((upd q 0 ⟨x0, 0, 0, 0, 1⟩) 3).n] t (0, 0)) by show (((((w5.setCell ⟨D, 6, none⟩ (.int .i64 1)).setCell ⟨D, 3, none⟩ (.int .i64 0)).setCell ⟨D, 4, none⟩ (.int .i64 0)).setCell ⟨D, 5, none⟩ (.int .i64 0))).heap[D]? = _; have h7 := HD7; simpa [upd, HQ.out] using h7)
  have GBH := Lib.hid GB
  clear K2 T c0 c1 c2 c3 c4 HD6 HD7 GB HD5
  go_wp2
  go_region
  go_wp2
  go_ret
  exact ⟨rfl, HW.out, GBH.out⟩

set_option maxRecDepth 100000 in
set_option maxHeartbeats 4000000 in
theorem pop_0_3 (D : Nat) (h n : Int) (q : Nat → Pl) (x0 x1 x2 : Int) (w : World) (t : TypeId) (hq : q 0 = ⟨x0, x1, x2, 0, 3⟩) (hD : w.heap[D]? = some (.cells #[.int .i64 h, .int .i64 n, .int .i64 (q 0).a, .int .i64 (q 0).b, .int .i64 (q 0).c, .int .i64 (q 0).d, .int .i64 (q 0).n, .int .i64 (q 1).a, .int .i64 (q 1).b, .int .i64 (q 1).c, .int .i64 (q 1).d, .int .i64 (q 1).n, .int .i64 (q 2).a, .int .i64 (q 2).b, .int .i64 (q 2).c, .int .i64 (q 2).d, .int .i64 (q 2).n, .int .i64 (q 3).a, .int .i64 (q 3).b, .int .i64 (q 3).c, .int .i64 (q 3).d, .int .i64 (q 3).n] t (0, 0))) :
    Calls Try.prog 32 #[.pointer (some ⟨D, 2, none⟩)] w fun e w' => e = .returned (.int .i64 (topOf [x0, x1, x2])) ∧ w'.heap[D]? = some (.cells #[.int .i64 h, .int .i64 n, .int .i64 ((upd q 0 ⟨x0, x1, 0, 0, 2⟩) 0).a, .int .i64 ((upd q 0 ⟨x0, x1, 0, 0, 2⟩) 0).b, .int .i64 ((upd q 0 ⟨x0, x1, 0, 0, 2⟩) 0).c, .int .i64 ((upd q 0 ⟨x0, x1, 0, 0, 2⟩) 0).d, .int .i64 ((upd q 0 ⟨x0, x1, 0, 0, 2⟩) 0).n, .int .i64 ((upd q 0 ⟨x0, x1, 0, 0, 2⟩) 1).a, .int .i64 ((upd q 0 ⟨x0, x1, 0, 0, 2⟩) 1).b, .int .i64 ((upd q 0 ⟨x0, x1, 0, 0, 2⟩) 1).c, .int .i64 ((upd q 0 ⟨x0, x1, 0, 0, 2⟩) 1).d, .int .i64 ((upd q 0 ⟨x0, x1, 0, 0, 2⟩) 1).n, .int .i64 ((upd q 0 ⟨x0, x1, 0, 0, 2⟩) 2).a, .int .i64 ((upd q 0 ⟨x0, x1, 0, 0, 2⟩) 2).b, .int .i64 ((upd q 0 ⟨x0, x1, 0, 0, 2⟩) 2).c, .int .i64 ((upd q 0 ⟨x0, x1, 0, 0, 2⟩) 2).d, .int .i64 ((upd q 0 ⟨x0, x1, 0, 0, 2⟩) 2).n, .int .i64 ((upd q 0 ⟨x0, x1, 0, 0, 2⟩) 3).a, .int .i64 ((upd q 0 ⟨x0, x1, 0, 0, 2⟩) 3).b, .int .i64 ((upd q 0 ⟨x0, x1, 0, 0, 2⟩) 3).c, .int .i64 ((upd q 0 ⟨x0, x1, 0, 0, 2⟩) 3).d, .int .i64 ((upd q 0 ⟨x0, x1, 0, 0, 2⟩) 3).n] t (0, 0)) ∧ w.grownBy w' (some D) := by
  have lD := (Array.getElem?_eq_some_iff.1 hD).1
  have T := Lib.hid (show Calls Try.prog 31 #[.agg #[.int .i64 x0, .int .i64 x1, .int .i64 x2, .int .i64 0, .int .i64 3]] w _ from top_any [x0, x1, x2] (by simp) w)
  have HD := Lib.hid hD
  have HQ := Lib.hid hq
  have c0 : w.cell? ⟨D, 2, none⟩ = some (.int .i64 x0) := by have := cell_of_row w D 2 _ t _ hD; rw [hq] at this; exact this
  have c1 : w.cell? ⟨D, 3, none⟩ = some (.int .i64 x1) := by have := cell_of_row w D 3 _ t _ hD; rw [hq] at this; exact this
  have c2 : w.cell? ⟨D, 4, none⟩ = some (.int .i64 x2) := by have := cell_of_row w D 4 _ t _ hD; rw [hq] at this; exact this
  have c3 : w.cell? ⟨D, 5, none⟩ = some (.int .i64 0) := by have := cell_of_row w D 5 _ t _ hD; rw [hq] at this; exact this
  have c4 : w.cell? ⟨D, 6, none⟩ = some (.int .i64 3) := by have := cell_of_row w D 6 _ t _ hD; rw [hq] at this; exact this
  clear hq hD
  go_enter Try.func32, Try.ntmps32
  go_wp2_with fail
  refine T.out.mono ?_
  rintro e w5 ⟨rfl, b5⟩
  have HD5 := (b5.block D lD).trans HD.out
  have lD5 : D < w5.heap.size := by have := b5.size; omega
  have HD6 := heap_setCell_same _ D 6 _ t (.int .i64 2) HD5
  have d0 := (b5.cell (p := ⟨D, 2, none⟩) lD).trans c0
  have f0 := frozen_of_row w5 D 2 _ t HD5
  have d1 := (b5.cell (p := ⟨D, 3, none⟩) lD).trans c1
  have f1 := frozen_of_row w5 D 3 _ t HD5
  have d2 := (b5.cell (p := ⟨D, 4, none⟩) lD).trans c2
  have f2 := frozen_of_row w5 D 4 _ t HD5
  have d3 := (b5.cell (p := ⟨D, 5, none⟩) lD).trans c3
  have f3 := frozen_of_row w5 D 5 _ t HD5
  have d4 := (b5.cell (p := ⟨D, 6, none⟩) lD).trans c4
  have f4 := frozen_of_row w5 D 6 _ t HD5
  have K := clear_run (w5.setCell ⟨D, 6, none⟩ (.int .i64 2)).drew D 4 2 2 (by omega) (fun j hj => by
    match j, hj with
    | 0, _ => exact Option.isSome_iff_exists.2 ⟨_, (cell_of_row (w5.setCell ⟨D, 6, none⟩ (.int .i64 2)) D 4 _ t _ HD6 :)⟩
    | 1, _ => exact Option.isSome_iff_exists.2 ⟨_, (cell_of_row (w5.setCell ⟨D, 6, none⟩ (.int .i64 2)) D 5 _ t _ HD6 :)⟩) (fun j hj => by
    match j, hj with
    | 0, _ => exact (frozen_of_row (w5.setCell ⟨D, 6, none⟩ (.int .i64 2)) D 4 _ t HD6 :)
    | 1, _ => exact (frozen_of_row (w5.setCell ⟨D, 6, none⟩ (.int .i64 2)) D 5 _ t HD6 :))
  have K2 : (w5.setCell ⟨D, 6, none⟩ (.int .i64 2)).drew.setCells D 4 (List.replicate 2 (.int .i64 0)) = (((w5.setCell ⟨D, 6, none⟩ (.int .i64 2)).drew.setCell ⟨D, 4, none⟩ (.int .i64 0)).setCell ⟨D, 5, none⟩ (.int .i64 0)) := rfl
  rw [K2] at K
  have HD7 := (heap_setCell_same _ D 5 _ t (.int .i64 0) (heap_setCell_same _ D 4 _ t (.int .i64 0) HD6))
  have GB : w.grownBy ((((w5.setCell ⟨D, 6, none⟩ (.int .i64 2)).setCell ⟨D, 4, none⟩ (.int .i64 0)).setCell ⟨D, 5, none⟩ (.int .i64 0)).drew) (some D) := by
    refine ⟨b5.os, b5.tape, b5.output, by have := b5.size; simp; omega, fun k hk hne => ?_⟩
    have ne : k ≠ D := fun e => hne (by rw [e])
    show ((((w5.setCell ⟨D, 6, none⟩ (.int .i64 2)).setCell ⟨D, 4, none⟩ (.int .i64 0)).setCell ⟨D, 5, none⟩ (.int .i64 0))).heap[k]? = _
    rw [heap_setCell_other _ _ _ _ ne, heap_setCell_other _ _ _ _ ne, heap_setCell_other _ _ _ _ ne]
    exact b5.block k hk
  have HW := Lib.hid (show ((((w5.setCell ⟨D, 6, none⟩ (.int .i64 2)).setCell ⟨D, 4, none⟩ (.int .i64 0)).setCell ⟨D, 5, none⟩ (.int .i64 0)).drew).heap[D]? = some (.cells #[.int .i64 h, .int .i64 n, .int .i64 ((upd q 0 ⟨x0, x1, 0, 0, 2⟩) 0).a, .int .i64 ((upd q 0 ⟨x0, x1, 0, 0, 2⟩) 0).b, .int .i64 ((upd q 0 ⟨x0, x1, 0, 0, 2⟩) 0).c, .int .i64 ((upd q 0 ⟨x0, x1, 0, 0, 2⟩) 0).d, .int .i64 ((upd q 0 ⟨x0, x1, 0, 0, 2⟩) 0).n, .int .i64 ((upd q 0 ⟨x0, x1, 0, 0, 2⟩) 1).a, .int .i64 ((upd q 0 ⟨x0, x1, 0, 0, 2⟩) 1).b, .int .i64 ((upd q 0 ⟨x0, x1, 0, 0, 2⟩) 1).c, .int .i64 ((upd q 0 ⟨x0, x1, 0, 0, 2⟩) 1).d, .int .i64 ((upd q 0 ⟨x0, x1, 0, 0, 2⟩) 1).n, .int .i64 ((upd q 0 ⟨x0, x1, 0, 0, 2⟩) 2).a, .int .i64 ((upd q 0 ⟨x0, x1, 0, 0, 2⟩) 2).b, .int .i64 ((upd q 0 ⟨x0, x1, 0, 0, 2⟩) 2).c, .int .i64 ((upd q 0 ⟨x0, x1, 0, 0, 2⟩) 2).d, .int .i64 ((upd q 0 ⟨x0, x1, 0, 0, 2⟩) 2).n, .int .i64 ((upd q 0 ⟨x0, x1, 0, 0, 2⟩) 3).a, .int .i64 ((upd q 0 ⟨x0, x1, 0, 0, 2⟩) 3).b, .int .i64 ((upd q 0 ⟨x0, x1, 0, 0, 2⟩) 3).c, .int .i64 ((upd q 0 ⟨x0, x1, 0, 0, 2⟩) 3).d, .int .i64 ((upd q 0 ⟨x0, x1, 0, 0, 2⟩) 3).n] t (0, 0)) by show ((((w5.setCell ⟨D, 6, none⟩ (.int .i64 2)).setCell ⟨D, 4, none⟩ (.int .i64 0)).setCell ⟨D, 5, none⟩ (.int .i64 0))).heap[D]? = _; have h7 := HD7; simpa [upd, HQ.out] using h7)
  have GBH := Lib.hid GB
  clear K2 T c0 c1 c2 c3 c4 HD6 HD7 GB HD5
  go_wp2
  go_region
  go_wp2
  go_ret
  exact ⟨rfl, HW.out, GBH.out⟩

set_option maxRecDepth 100000 in
set_option maxHeartbeats 4000000 in
theorem pop_0_4 (D : Nat) (h n : Int) (q : Nat → Pl) (x0 x1 x2 x3 : Int) (w : World) (t : TypeId) (hq : q 0 = ⟨x0, x1, x2, x3, 4⟩) (hD : w.heap[D]? = some (.cells #[.int .i64 h, .int .i64 n, .int .i64 (q 0).a, .int .i64 (q 0).b, .int .i64 (q 0).c, .int .i64 (q 0).d, .int .i64 (q 0).n, .int .i64 (q 1).a, .int .i64 (q 1).b, .int .i64 (q 1).c, .int .i64 (q 1).d, .int .i64 (q 1).n, .int .i64 (q 2).a, .int .i64 (q 2).b, .int .i64 (q 2).c, .int .i64 (q 2).d, .int .i64 (q 2).n, .int .i64 (q 3).a, .int .i64 (q 3).b, .int .i64 (q 3).c, .int .i64 (q 3).d, .int .i64 (q 3).n] t (0, 0))) :
    Calls Try.prog 32 #[.pointer (some ⟨D, 2, none⟩)] w fun e w' => e = .returned (.int .i64 (topOf [x0, x1, x2, x3])) ∧ w'.heap[D]? = some (.cells #[.int .i64 h, .int .i64 n, .int .i64 ((upd q 0 ⟨x0, x1, x2, 0, 3⟩) 0).a, .int .i64 ((upd q 0 ⟨x0, x1, x2, 0, 3⟩) 0).b, .int .i64 ((upd q 0 ⟨x0, x1, x2, 0, 3⟩) 0).c, .int .i64 ((upd q 0 ⟨x0, x1, x2, 0, 3⟩) 0).d, .int .i64 ((upd q 0 ⟨x0, x1, x2, 0, 3⟩) 0).n, .int .i64 ((upd q 0 ⟨x0, x1, x2, 0, 3⟩) 1).a, .int .i64 ((upd q 0 ⟨x0, x1, x2, 0, 3⟩) 1).b, .int .i64 ((upd q 0 ⟨x0, x1, x2, 0, 3⟩) 1).c, .int .i64 ((upd q 0 ⟨x0, x1, x2, 0, 3⟩) 1).d, .int .i64 ((upd q 0 ⟨x0, x1, x2, 0, 3⟩) 1).n, .int .i64 ((upd q 0 ⟨x0, x1, x2, 0, 3⟩) 2).a, .int .i64 ((upd q 0 ⟨x0, x1, x2, 0, 3⟩) 2).b, .int .i64 ((upd q 0 ⟨x0, x1, x2, 0, 3⟩) 2).c, .int .i64 ((upd q 0 ⟨x0, x1, x2, 0, 3⟩) 2).d, .int .i64 ((upd q 0 ⟨x0, x1, x2, 0, 3⟩) 2).n, .int .i64 ((upd q 0 ⟨x0, x1, x2, 0, 3⟩) 3).a, .int .i64 ((upd q 0 ⟨x0, x1, x2, 0, 3⟩) 3).b, .int .i64 ((upd q 0 ⟨x0, x1, x2, 0, 3⟩) 3).c, .int .i64 ((upd q 0 ⟨x0, x1, x2, 0, 3⟩) 3).d, .int .i64 ((upd q 0 ⟨x0, x1, x2, 0, 3⟩) 3).n] t (0, 0)) ∧ w.grownBy w' (some D) := by
  have lD := (Array.getElem?_eq_some_iff.1 hD).1
  have T := Lib.hid (show Calls Try.prog 31 #[.agg #[.int .i64 x0, .int .i64 x1, .int .i64 x2, .int .i64 x3, .int .i64 4]] w _ from top_any [x0, x1, x2, x3] (by simp) w)
  have HD := Lib.hid hD
  have HQ := Lib.hid hq
  have c0 : w.cell? ⟨D, 2, none⟩ = some (.int .i64 x0) := by have := cell_of_row w D 2 _ t _ hD; rw [hq] at this; exact this
  have c1 : w.cell? ⟨D, 3, none⟩ = some (.int .i64 x1) := by have := cell_of_row w D 3 _ t _ hD; rw [hq] at this; exact this
  have c2 : w.cell? ⟨D, 4, none⟩ = some (.int .i64 x2) := by have := cell_of_row w D 4 _ t _ hD; rw [hq] at this; exact this
  have c3 : w.cell? ⟨D, 5, none⟩ = some (.int .i64 x3) := by have := cell_of_row w D 5 _ t _ hD; rw [hq] at this; exact this
  have c4 : w.cell? ⟨D, 6, none⟩ = some (.int .i64 4) := by have := cell_of_row w D 6 _ t _ hD; rw [hq] at this; exact this
  clear hq hD
  go_enter Try.func32, Try.ntmps32
  go_wp2_with fail
  refine T.out.mono ?_
  rintro e w5 ⟨rfl, b5⟩
  have HD5 := (b5.block D lD).trans HD.out
  have lD5 : D < w5.heap.size := by have := b5.size; omega
  have HD6 := heap_setCell_same _ D 6 _ t (.int .i64 3) HD5
  have d0 := (b5.cell (p := ⟨D, 2, none⟩) lD).trans c0
  have f0 := frozen_of_row w5 D 2 _ t HD5
  have d1 := (b5.cell (p := ⟨D, 3, none⟩) lD).trans c1
  have f1 := frozen_of_row w5 D 3 _ t HD5
  have d2 := (b5.cell (p := ⟨D, 4, none⟩) lD).trans c2
  have f2 := frozen_of_row w5 D 4 _ t HD5
  have d3 := (b5.cell (p := ⟨D, 5, none⟩) lD).trans c3
  have f3 := frozen_of_row w5 D 5 _ t HD5
  have d4 := (b5.cell (p := ⟨D, 6, none⟩) lD).trans c4
  have f4 := frozen_of_row w5 D 6 _ t HD5
  have K := clear_run (w5.setCell ⟨D, 6, none⟩ (.int .i64 3)).drew D 5 1 1 (by omega) (fun j hj => by
    match j, hj with
    | 0, _ => exact Option.isSome_iff_exists.2 ⟨_, (cell_of_row (w5.setCell ⟨D, 6, none⟩ (.int .i64 3)) D 5 _ t _ HD6 :)⟩) (fun j hj => by
    match j, hj with
    | 0, _ => exact (frozen_of_row (w5.setCell ⟨D, 6, none⟩ (.int .i64 3)) D 5 _ t HD6 :))
  have K2 : (w5.setCell ⟨D, 6, none⟩ (.int .i64 3)).drew.setCells D 5 (List.replicate 1 (.int .i64 0)) = ((w5.setCell ⟨D, 6, none⟩ (.int .i64 3)).drew.setCell ⟨D, 5, none⟩ (.int .i64 0)) := rfl
  rw [K2] at K
  have HD7 := (heap_setCell_same _ D 5 _ t (.int .i64 0) HD6)
  have GB : w.grownBy (((w5.setCell ⟨D, 6, none⟩ (.int .i64 3)).setCell ⟨D, 5, none⟩ (.int .i64 0)).drew) (some D) := by
    refine ⟨b5.os, b5.tape, b5.output, by have := b5.size; simp; omega, fun k hk hne => ?_⟩
    have ne : k ≠ D := fun e => hne (by rw [e])
    show (((w5.setCell ⟨D, 6, none⟩ (.int .i64 3)).setCell ⟨D, 5, none⟩ (.int .i64 0))).heap[k]? = _
    rw [heap_setCell_other _ _ _ _ ne, heap_setCell_other _ _ _ _ ne]
    exact b5.block k hk
  have HW := Lib.hid (show (((w5.setCell ⟨D, 6, none⟩ (.int .i64 3)).setCell ⟨D, 5, none⟩ (.int .i64 0)).drew).heap[D]? = some (.cells #[.int .i64 h, .int .i64 n, .int .i64 ((upd q 0 ⟨x0, x1, x2, 0, 3⟩) 0).a, .int .i64 ((upd q 0 ⟨x0, x1, x2, 0, 3⟩) 0).b, .int .i64 ((upd q 0 ⟨x0, x1, x2, 0, 3⟩) 0).c, .int .i64 ((upd q 0 ⟨x0, x1, x2, 0, 3⟩) 0).d, .int .i64 ((upd q 0 ⟨x0, x1, x2, 0, 3⟩) 0).n, .int .i64 ((upd q 0 ⟨x0, x1, x2, 0, 3⟩) 1).a, .int .i64 ((upd q 0 ⟨x0, x1, x2, 0, 3⟩) 1).b, .int .i64 ((upd q 0 ⟨x0, x1, x2, 0, 3⟩) 1).c, .int .i64 ((upd q 0 ⟨x0, x1, x2, 0, 3⟩) 1).d, .int .i64 ((upd q 0 ⟨x0, x1, x2, 0, 3⟩) 1).n, .int .i64 ((upd q 0 ⟨x0, x1, x2, 0, 3⟩) 2).a, .int .i64 ((upd q 0 ⟨x0, x1, x2, 0, 3⟩) 2).b, .int .i64 ((upd q 0 ⟨x0, x1, x2, 0, 3⟩) 2).c, .int .i64 ((upd q 0 ⟨x0, x1, x2, 0, 3⟩) 2).d, .int .i64 ((upd q 0 ⟨x0, x1, x2, 0, 3⟩) 2).n, .int .i64 ((upd q 0 ⟨x0, x1, x2, 0, 3⟩) 3).a, .int .i64 ((upd q 0 ⟨x0, x1, x2, 0, 3⟩) 3).b, .int .i64 ((upd q 0 ⟨x0, x1, x2, 0, 3⟩) 3).c, .int .i64 ((upd q 0 ⟨x0, x1, x2, 0, 3⟩) 3).d, .int .i64 ((upd q 0 ⟨x0, x1, x2, 0, 3⟩) 3).n] t (0, 0)) by show (((w5.setCell ⟨D, 6, none⟩ (.int .i64 3)).setCell ⟨D, 5, none⟩ (.int .i64 0))).heap[D]? = _; have h7 := HD7; simpa [upd, HQ.out] using h7)
  have GBH := Lib.hid GB
  clear K2 T c0 c1 c2 c3 c4 HD6 HD7 GB HD5
  go_wp2
  go_region
  go_wp2
  go_ret
  exact ⟨rfl, HW.out, GBH.out⟩

set_option maxRecDepth 100000 in
set_option maxHeartbeats 4000000 in
theorem pop_1_1 (D : Nat) (h n : Int) (q : Nat → Pl) (x0 : Int) (w : World) (t : TypeId) (hq : q 1 = ⟨x0, 0, 0, 0, 1⟩) (hD : w.heap[D]? = some (.cells #[.int .i64 h, .int .i64 n, .int .i64 (q 0).a, .int .i64 (q 0).b, .int .i64 (q 0).c, .int .i64 (q 0).d, .int .i64 (q 0).n, .int .i64 (q 1).a, .int .i64 (q 1).b, .int .i64 (q 1).c, .int .i64 (q 1).d, .int .i64 (q 1).n, .int .i64 (q 2).a, .int .i64 (q 2).b, .int .i64 (q 2).c, .int .i64 (q 2).d, .int .i64 (q 2).n, .int .i64 (q 3).a, .int .i64 (q 3).b, .int .i64 (q 3).c, .int .i64 (q 3).d, .int .i64 (q 3).n] t (0, 0))) :
    Calls Try.prog 32 #[.pointer (some ⟨D, 7, none⟩)] w fun e w' => e = .returned (.int .i64 (topOf [x0])) ∧ w'.heap[D]? = some (.cells #[.int .i64 h, .int .i64 n, .int .i64 ((upd q 1 ⟨0, 0, 0, 0, 0⟩) 0).a, .int .i64 ((upd q 1 ⟨0, 0, 0, 0, 0⟩) 0).b, .int .i64 ((upd q 1 ⟨0, 0, 0, 0, 0⟩) 0).c, .int .i64 ((upd q 1 ⟨0, 0, 0, 0, 0⟩) 0).d, .int .i64 ((upd q 1 ⟨0, 0, 0, 0, 0⟩) 0).n, .int .i64 ((upd q 1 ⟨0, 0, 0, 0, 0⟩) 1).a, .int .i64 ((upd q 1 ⟨0, 0, 0, 0, 0⟩) 1).b, .int .i64 ((upd q 1 ⟨0, 0, 0, 0, 0⟩) 1).c, .int .i64 ((upd q 1 ⟨0, 0, 0, 0, 0⟩) 1).d, .int .i64 ((upd q 1 ⟨0, 0, 0, 0, 0⟩) 1).n, .int .i64 ((upd q 1 ⟨0, 0, 0, 0, 0⟩) 2).a, .int .i64 ((upd q 1 ⟨0, 0, 0, 0, 0⟩) 2).b, .int .i64 ((upd q 1 ⟨0, 0, 0, 0, 0⟩) 2).c, .int .i64 ((upd q 1 ⟨0, 0, 0, 0, 0⟩) 2).d, .int .i64 ((upd q 1 ⟨0, 0, 0, 0, 0⟩) 2).n, .int .i64 ((upd q 1 ⟨0, 0, 0, 0, 0⟩) 3).a, .int .i64 ((upd q 1 ⟨0, 0, 0, 0, 0⟩) 3).b, .int .i64 ((upd q 1 ⟨0, 0, 0, 0, 0⟩) 3).c, .int .i64 ((upd q 1 ⟨0, 0, 0, 0, 0⟩) 3).d, .int .i64 ((upd q 1 ⟨0, 0, 0, 0, 0⟩) 3).n] t (0, 0)) ∧ w.grownBy w' (some D) := by
  have lD := (Array.getElem?_eq_some_iff.1 hD).1
  have T := Lib.hid (show Calls Try.prog 31 #[.agg #[.int .i64 x0, .int .i64 0, .int .i64 0, .int .i64 0, .int .i64 1]] w _ from top_any [x0] (by simp) w)
  have HD := Lib.hid hD
  have HQ := Lib.hid hq
  have c0 : w.cell? ⟨D, 7, none⟩ = some (.int .i64 x0) := by have := cell_of_row w D 7 _ t _ hD; rw [hq] at this; exact this
  have c1 : w.cell? ⟨D, 8, none⟩ = some (.int .i64 0) := by have := cell_of_row w D 8 _ t _ hD; rw [hq] at this; exact this
  have c2 : w.cell? ⟨D, 9, none⟩ = some (.int .i64 0) := by have := cell_of_row w D 9 _ t _ hD; rw [hq] at this; exact this
  have c3 : w.cell? ⟨D, 10, none⟩ = some (.int .i64 0) := by have := cell_of_row w D 10 _ t _ hD; rw [hq] at this; exact this
  have c4 : w.cell? ⟨D, 11, none⟩ = some (.int .i64 1) := by have := cell_of_row w D 11 _ t _ hD; rw [hq] at this; exact this
  clear hq hD
  go_enter Try.func32, Try.ntmps32
  go_wp2_with fail
  refine T.out.mono ?_
  rintro e w5 ⟨rfl, b5⟩
  have HD5 := (b5.block D lD).trans HD.out
  have lD5 : D < w5.heap.size := by have := b5.size; omega
  have HD6 := heap_setCell_same _ D 11 _ t (.int .i64 0) HD5
  have d0 := (b5.cell (p := ⟨D, 7, none⟩) lD).trans c0
  have f0 := frozen_of_row w5 D 7 _ t HD5
  have d1 := (b5.cell (p := ⟨D, 8, none⟩) lD).trans c1
  have f1 := frozen_of_row w5 D 8 _ t HD5
  have d2 := (b5.cell (p := ⟨D, 9, none⟩) lD).trans c2
  have f2 := frozen_of_row w5 D 9 _ t HD5
  have d3 := (b5.cell (p := ⟨D, 10, none⟩) lD).trans c3
  have f3 := frozen_of_row w5 D 10 _ t HD5
  have d4 := (b5.cell (p := ⟨D, 11, none⟩) lD).trans c4
  have f4 := frozen_of_row w5 D 11 _ t HD5
  have K := clear_run (w5.setCell ⟨D, 11, none⟩ (.int .i64 0)).drew D 7 4 4 (by omega) (fun j hj => by
    match j, hj with
    | 0, _ => exact Option.isSome_iff_exists.2 ⟨_, (cell_of_row (w5.setCell ⟨D, 11, none⟩ (.int .i64 0)) D 7 _ t _ HD6 :)⟩
    | 1, _ => exact Option.isSome_iff_exists.2 ⟨_, (cell_of_row (w5.setCell ⟨D, 11, none⟩ (.int .i64 0)) D 8 _ t _ HD6 :)⟩
    | 2, _ => exact Option.isSome_iff_exists.2 ⟨_, (cell_of_row (w5.setCell ⟨D, 11, none⟩ (.int .i64 0)) D 9 _ t _ HD6 :)⟩
    | 3, _ => exact Option.isSome_iff_exists.2 ⟨_, (cell_of_row (w5.setCell ⟨D, 11, none⟩ (.int .i64 0)) D 10 _ t _ HD6 :)⟩) (fun j hj => by
    match j, hj with
    | 0, _ => exact (frozen_of_row (w5.setCell ⟨D, 11, none⟩ (.int .i64 0)) D 7 _ t HD6 :)
    | 1, _ => exact (frozen_of_row (w5.setCell ⟨D, 11, none⟩ (.int .i64 0)) D 8 _ t HD6 :)
    | 2, _ => exact (frozen_of_row (w5.setCell ⟨D, 11, none⟩ (.int .i64 0)) D 9 _ t HD6 :)
    | 3, _ => exact (frozen_of_row (w5.setCell ⟨D, 11, none⟩ (.int .i64 0)) D 10 _ t HD6 :))
  have K2 : (w5.setCell ⟨D, 11, none⟩ (.int .i64 0)).drew.setCells D 7 (List.replicate 4 (.int .i64 0)) = (((((w5.setCell ⟨D, 11, none⟩ (.int .i64 0)).drew.setCell ⟨D, 7, none⟩ (.int .i64 0)).setCell ⟨D, 8, none⟩ (.int .i64 0)).setCell ⟨D, 9, none⟩ (.int .i64 0)).setCell ⟨D, 10, none⟩ (.int .i64 0)) := rfl
  rw [K2] at K
  have HD7 := (heap_setCell_same _ D 10 _ t (.int .i64 0) (heap_setCell_same _ D 9 _ t (.int .i64 0) (heap_setCell_same _ D 8 _ t (.int .i64 0) (heap_setCell_same _ D 7 _ t (.int .i64 0) HD6))))
  have GB : w.grownBy ((((((w5.setCell ⟨D, 11, none⟩ (.int .i64 0)).setCell ⟨D, 7, none⟩ (.int .i64 0)).setCell ⟨D, 8, none⟩ (.int .i64 0)).setCell ⟨D, 9, none⟩ (.int .i64 0)).setCell ⟨D, 10, none⟩ (.int .i64 0)).drew) (some D) := by
    refine ⟨b5.os, b5.tape, b5.output, by have := b5.size; simp; omega, fun k hk hne => ?_⟩
    have ne : k ≠ D := fun e => hne (by rw [e])
    show ((((((w5.setCell ⟨D, 11, none⟩ (.int .i64 0)).setCell ⟨D, 7, none⟩ (.int .i64 0)).setCell ⟨D, 8, none⟩ (.int .i64 0)).setCell ⟨D, 9, none⟩ (.int .i64 0)).setCell ⟨D, 10, none⟩ (.int .i64 0))).heap[k]? = _
    rw [heap_setCell_other _ _ _ _ ne, heap_setCell_other _ _ _ _ ne, heap_setCell_other _ _ _ _ ne, heap_setCell_other _ _ _ _ ne, heap_setCell_other _ _ _ _ ne]
    exact b5.block k hk
  have HW := Lib.hid (show ((((((w5.setCell ⟨D, 11, none⟩ (.int .i64 0)).setCell ⟨D, 7, none⟩ (.int .i64 0)).setCell ⟨D, 8, none⟩ (.int .i64 0)).setCell ⟨D, 9, none⟩ (.int .i64 0)).setCell ⟨D, 10, none⟩ (.int .i64 0)).drew).heap[D]? = some (.cells #[.int .i64 h, .int .i64 n, .int .i64 ((upd q 1 ⟨0, 0, 0, 0, 0⟩) 0).a, .int .i64 ((upd q 1 ⟨0, 0, 0, 0, 0⟩) 0).b, .int .i64 ((upd q 1 ⟨0, 0, 0, 0, 0⟩) 0).c, .int .i64 ((upd q 1 ⟨0, 0, 0, 0, 0⟩) 0).d, .int .i64 ((upd q 1 ⟨0, 0, 0, 0, 0⟩) 0).n, .int .i64 ((upd q 1 ⟨0, 0, 0, 0, 0⟩) 1).a, .int .i64 ((upd q 1 ⟨0, 0, 0, 0, 0⟩) 1).b, .int .i64 ((upd q 1 ⟨0, 0, 0, 0, 0⟩) 1).c, .int .i64 ((upd q 1 ⟨0, 0, 0, 0, 0⟩) 1).d, .int .i64 ((upd q 1 ⟨0, 0, 0, 0, 0⟩) 1).n, .int .i64 ((upd q 1 ⟨0, 0, 0, 0, 0⟩) 2).a, .int .i64 ((upd q 1 ⟨0, 0, 0, 0, 0⟩) 2).b, .int .i64 ((upd q 1 ⟨0, 0, 0, 0, 0⟩) 2).c, .int .i64 ((upd q 1 ⟨0, 0, 0, 0, 0⟩) 2).d, .int .i64 ((upd q 1 ⟨0, 0, 0, 0, 0⟩) 2).n, .int .i64 ((upd q 1 ⟨0, 0, 0, 0, 0⟩) 3).a, .int .i64 ((upd q 1 ⟨0, 0, 0, 0, 0⟩) 3).b, .int .i64 ((upd q 1 ⟨0, 0, 0, 0, 0⟩) 3).c, .int .i64 ((upd q 1 ⟨0, 0, 0, 0, 0⟩) 3).d, .int .i64 ((upd q 1 ⟨0, 0, 0, 0, 0⟩) 3).n] t (0, 0)) by show ((((((w5.setCell ⟨D, 11, none⟩ (.int .i64 0)).setCell ⟨D, 7, none⟩ (.int .i64 0)).setCell ⟨D, 8, none⟩ (.int .i64 0)).setCell ⟨D, 9, none⟩ (.int .i64 0)).setCell ⟨D, 10, none⟩ (.int .i64 0))).heap[D]? = _; have h7 := HD7; simpa [upd, HQ.out] using h7)
  have GBH := Lib.hid GB
  clear K2 T c0 c1 c2 c3 c4 HD6 HD7 GB HD5
  go_wp2
  go_region
  go_wp2
  go_ret
  exact ⟨rfl, HW.out, GBH.out⟩

set_option maxRecDepth 100000 in
set_option maxHeartbeats 4000000 in
theorem pop_1_2 (D : Nat) (h n : Int) (q : Nat → Pl) (x0 x1 : Int) (w : World) (t : TypeId) (hq : q 1 = ⟨x0, x1, 0, 0, 2⟩) (hD : w.heap[D]? = some (.cells #[.int .i64 h, .int .i64 n, .int .i64 (q 0).a, .int .i64 (q 0).b, .int .i64 (q 0).c, .int .i64 (q 0).d, .int .i64 (q 0).n, .int .i64 (q 1).a, .int .i64 (q 1).b, .int .i64 (q 1).c, .int .i64 (q 1).d, .int .i64 (q 1).n, .int .i64 (q 2).a, .int .i64 (q 2).b, .int .i64 (q 2).c, .int .i64 (q 2).d, .int .i64 (q 2).n, .int .i64 (q 3).a, .int .i64 (q 3).b, .int .i64 (q 3).c, .int .i64 (q 3).d, .int .i64 (q 3).n] t (0, 0))) :
    Calls Try.prog 32 #[.pointer (some ⟨D, 7, none⟩)] w fun e w' => e = .returned (.int .i64 (topOf [x0, x1])) ∧ w'.heap[D]? = some (.cells #[.int .i64 h, .int .i64 n, .int .i64 ((upd q 1 ⟨x0, 0, 0, 0, 1⟩) 0).a, .int .i64 ((upd q 1 ⟨x0, 0, 0, 0, 1⟩) 0).b, .int .i64 ((upd q 1 ⟨x0, 0, 0, 0, 1⟩) 0).c, .int .i64 ((upd q 1 ⟨x0, 0, 0, 0, 1⟩) 0).d, .int .i64 ((upd q 1 ⟨x0, 0, 0, 0, 1⟩) 0).n, .int .i64 ((upd q 1 ⟨x0, 0, 0, 0, 1⟩) 1).a, .int .i64 ((upd q 1 ⟨x0, 0, 0, 0, 1⟩) 1).b, .int .i64 ((upd q 1 ⟨x0, 0, 0, 0, 1⟩) 1).c, .int .i64 ((upd q 1 ⟨x0, 0, 0, 0, 1⟩) 1).d, .int .i64 ((upd q 1 ⟨x0, 0, 0, 0, 1⟩) 1).n, .int .i64 ((upd q 1 ⟨x0, 0, 0, 0, 1⟩) 2).a, .int .i64 ((upd q 1 ⟨x0, 0, 0, 0, 1⟩) 2).b, .int .i64 ((upd q 1 ⟨x0, 0, 0, 0, 1⟩) 2).c, .int .i64 ((upd q 1 ⟨x0, 0, 0, 0, 1⟩) 2).d, .int .i64 ((upd q 1 ⟨x0, 0, 0, 0, 1⟩) 2).n, .int .i64 ((upd q 1 ⟨x0, 0, 0, 0, 1⟩) 3).a, .int .i64 ((upd q 1 ⟨x0, 0, 0, 0, 1⟩) 3).b, .int .i64 ((upd q 1 ⟨x0, 0, 0, 0, 1⟩) 3).c, .int .i64 ((upd q 1 ⟨x0, 0, 0, 0, 1⟩) 3).d, .int .i64 ((upd q 1 ⟨x0, 0, 0, 0, 1⟩) 3).n] t (0, 0)) ∧ w.grownBy w' (some D) := by
  have lD := (Array.getElem?_eq_some_iff.1 hD).1
  have T := Lib.hid (show Calls Try.prog 31 #[.agg #[.int .i64 x0, .int .i64 x1, .int .i64 0, .int .i64 0, .int .i64 2]] w _ from top_any [x0, x1] (by simp) w)
  have HD := Lib.hid hD
  have HQ := Lib.hid hq
  have c0 : w.cell? ⟨D, 7, none⟩ = some (.int .i64 x0) := by have := cell_of_row w D 7 _ t _ hD; rw [hq] at this; exact this
  have c1 : w.cell? ⟨D, 8, none⟩ = some (.int .i64 x1) := by have := cell_of_row w D 8 _ t _ hD; rw [hq] at this; exact this
  have c2 : w.cell? ⟨D, 9, none⟩ = some (.int .i64 0) := by have := cell_of_row w D 9 _ t _ hD; rw [hq] at this; exact this
  have c3 : w.cell? ⟨D, 10, none⟩ = some (.int .i64 0) := by have := cell_of_row w D 10 _ t _ hD; rw [hq] at this; exact this
  have c4 : w.cell? ⟨D, 11, none⟩ = some (.int .i64 2) := by have := cell_of_row w D 11 _ t _ hD; rw [hq] at this; exact this
  clear hq hD
  go_enter Try.func32, Try.ntmps32
  go_wp2_with fail
  refine T.out.mono ?_
  rintro e w5 ⟨rfl, b5⟩
  have HD5 := (b5.block D lD).trans HD.out
  have lD5 : D < w5.heap.size := by have := b5.size; omega
  have HD6 := heap_setCell_same _ D 11 _ t (.int .i64 1) HD5
  have d0 := (b5.cell (p := ⟨D, 7, none⟩) lD).trans c0
  have f0 := frozen_of_row w5 D 7 _ t HD5
  have d1 := (b5.cell (p := ⟨D, 8, none⟩) lD).trans c1
  have f1 := frozen_of_row w5 D 8 _ t HD5
  have d2 := (b5.cell (p := ⟨D, 9, none⟩) lD).trans c2
  have f2 := frozen_of_row w5 D 9 _ t HD5
  have d3 := (b5.cell (p := ⟨D, 10, none⟩) lD).trans c3
  have f3 := frozen_of_row w5 D 10 _ t HD5
  have d4 := (b5.cell (p := ⟨D, 11, none⟩) lD).trans c4
  have f4 := frozen_of_row w5 D 11 _ t HD5
  have K := clear_run (w5.setCell ⟨D, 11, none⟩ (.int .i64 1)).drew D 8 3 3 (by omega) (fun j hj => by
    match j, hj with
    | 0, _ => exact Option.isSome_iff_exists.2 ⟨_, (cell_of_row (w5.setCell ⟨D, 11, none⟩ (.int .i64 1)) D 8 _ t _ HD6 :)⟩
    | 1, _ => exact Option.isSome_iff_exists.2 ⟨_, (cell_of_row (w5.setCell ⟨D, 11, none⟩ (.int .i64 1)) D 9 _ t _ HD6 :)⟩
    | 2, _ => exact Option.isSome_iff_exists.2 ⟨_, (cell_of_row (w5.setCell ⟨D, 11, none⟩ (.int .i64 1)) D 10 _ t _ HD6 :)⟩) (fun j hj => by
    match j, hj with
    | 0, _ => exact (frozen_of_row (w5.setCell ⟨D, 11, none⟩ (.int .i64 1)) D 8 _ t HD6 :)
    | 1, _ => exact (frozen_of_row (w5.setCell ⟨D, 11, none⟩ (.int .i64 1)) D 9 _ t HD6 :)
    | 2, _ => exact (frozen_of_row (w5.setCell ⟨D, 11, none⟩ (.int .i64 1)) D 10 _ t HD6 :))
  have K2 : (w5.setCell ⟨D, 11, none⟩ (.int .i64 1)).drew.setCells D 8 (List.replicate 3 (.int .i64 0)) = ((((w5.setCell ⟨D, 11, none⟩ (.int .i64 1)).drew.setCell ⟨D, 8, none⟩ (.int .i64 0)).setCell ⟨D, 9, none⟩ (.int .i64 0)).setCell ⟨D, 10, none⟩ (.int .i64 0)) := rfl
  rw [K2] at K
  have HD7 := (heap_setCell_same _ D 10 _ t (.int .i64 0) (heap_setCell_same _ D 9 _ t (.int .i64 0) (heap_setCell_same _ D 8 _ t (.int .i64 0) HD6)))
  have GB : w.grownBy (((((w5.setCell ⟨D, 11, none⟩ (.int .i64 1)).setCell ⟨D, 8, none⟩ (.int .i64 0)).setCell ⟨D, 9, none⟩ (.int .i64 0)).setCell ⟨D, 10, none⟩ (.int .i64 0)).drew) (some D) := by
    refine ⟨b5.os, b5.tape, b5.output, by have := b5.size; simp; omega, fun k hk hne => ?_⟩
    have ne : k ≠ D := fun e => hne (by rw [e])
    show (((((w5.setCell ⟨D, 11, none⟩ (.int .i64 1)).setCell ⟨D, 8, none⟩ (.int .i64 0)).setCell ⟨D, 9, none⟩ (.int .i64 0)).setCell ⟨D, 10, none⟩ (.int .i64 0))).heap[k]? = _
    rw [heap_setCell_other _ _ _ _ ne, heap_setCell_other _ _ _ _ ne, heap_setCell_other _ _ _ _ ne, heap_setCell_other _ _ _ _ ne]
    exact b5.block k hk
  have HW := Lib.hid (show (((((w5.setCell ⟨D, 11, none⟩ (.int .i64 1)).setCell ⟨D, 8, none⟩ (.int .i64 0)).setCell ⟨D, 9, none⟩ (.int .i64 0)).setCell ⟨D, 10, none⟩ (.int .i64 0)).drew).heap[D]? = some (.cells #[.int .i64 h, .int .i64 n, .int .i64 ((upd q 1 ⟨x0, 0, 0, 0, 1⟩) 0).a, .int .i64 ((upd q 1 ⟨x0, 0, 0, 0, 1⟩) 0).b, .int .i64 ((upd q 1 ⟨x0, 0, 0, 0, 1⟩) 0).c, .int .i64 ((upd q 1 ⟨x0, 0, 0, 0, 1⟩) 0).d, .int .i64 ((upd q 1 ⟨x0, 0, 0, 0, 1⟩) 0).n, .int .i64 ((upd q 1 ⟨x0, 0, 0, 0, 1⟩) 1).a, .int .i64 ((upd q 1 ⟨x0, 0, 0, 0, 1⟩) 1).b, .int .i64 ((upd q 1 ⟨x0, 0, 0, 0, 1⟩) 1).c, .int .i64 ((upd q 1 ⟨x0, 0, 0, 0, 1⟩) 1).d, .int .i64 ((upd q 1 ⟨x0, 0, 0, 0, 1⟩) 1).n, .int .i64 ((upd q 1 ⟨x0, 0, 0, 0, 1⟩) 2).a, .int .i64 ((upd q 1 ⟨x0, 0, 0, 0, 1⟩) 2).b, .int .i64 ((upd q 1 ⟨x0, 0, 0, 0, 1⟩) 2).c, .int .i64 ((upd q 1 ⟨x0, 0, 0, 0, 1⟩) 2).d, .int .i64 ((upd q 1 ⟨x0, 0, 0, 0, 1⟩) 2).n, .int .i64 ((upd q 1 ⟨x0, 0, 0, 0, 1⟩) 3).a, .int .i64 ((upd q 1 ⟨x0, 0, 0, 0, 1⟩) 3).b, .int .i64 ((upd q 1 ⟨x0, 0, 0, 0, 1⟩) 3).c, .int .i64 ((upd q 1 ⟨x0, 0, 0, 0, 1⟩) 3).d, .int .i64 ((upd q 1 ⟨x0, 0, 0, 0, 1⟩) 3).n] t (0, 0)) by show (((((w5.setCell ⟨D, 11, none⟩ (.int .i64 1)).setCell ⟨D, 8, none⟩ (.int .i64 0)).setCell ⟨D, 9, none⟩ (.int .i64 0)).setCell ⟨D, 10, none⟩ (.int .i64 0))).heap[D]? = _; have h7 := HD7; simpa [upd, HQ.out] using h7)
  have GBH := Lib.hid GB
  clear K2 T c0 c1 c2 c3 c4 HD6 HD7 GB HD5
  go_wp2
  go_region
  go_wp2
  go_ret
  exact ⟨rfl, HW.out, GBH.out⟩

set_option maxRecDepth 100000 in
set_option maxHeartbeats 4000000 in
theorem pop_1_3 (D : Nat) (h n : Int) (q : Nat → Pl) (x0 x1 x2 : Int) (w : World) (t : TypeId) (hq : q 1 = ⟨x0, x1, x2, 0, 3⟩) (hD : w.heap[D]? = some (.cells #[.int .i64 h, .int .i64 n, .int .i64 (q 0).a, .int .i64 (q 0).b, .int .i64 (q 0).c, .int .i64 (q 0).d, .int .i64 (q 0).n, .int .i64 (q 1).a, .int .i64 (q 1).b, .int .i64 (q 1).c, .int .i64 (q 1).d, .int .i64 (q 1).n, .int .i64 (q 2).a, .int .i64 (q 2).b, .int .i64 (q 2).c, .int .i64 (q 2).d, .int .i64 (q 2).n, .int .i64 (q 3).a, .int .i64 (q 3).b, .int .i64 (q 3).c, .int .i64 (q 3).d, .int .i64 (q 3).n] t (0, 0))) :
    Calls Try.prog 32 #[.pointer (some ⟨D, 7, none⟩)] w fun e w' => e = .returned (.int .i64 (topOf [x0, x1, x2])) ∧ w'.heap[D]? = some (.cells #[.int .i64 h, .int .i64 n, .int .i64 ((upd q 1 ⟨x0, x1, 0, 0, 2⟩) 0).a, .int .i64 ((upd q 1 ⟨x0, x1, 0, 0, 2⟩) 0).b, .int .i64 ((upd q 1 ⟨x0, x1, 0, 0, 2⟩) 0).c, .int .i64 ((upd q 1 ⟨x0, x1, 0, 0, 2⟩) 0).d, .int .i64 ((upd q 1 ⟨x0, x1, 0, 0, 2⟩) 0).n, .int .i64 ((upd q 1 ⟨x0, x1, 0, 0, 2⟩) 1).a, .int .i64 ((upd q 1 ⟨x0, x1, 0, 0, 2⟩) 1).b, .int .i64 ((upd q 1 ⟨x0, x1, 0, 0, 2⟩) 1).c, .int .i64 ((upd q 1 ⟨x0, x1, 0, 0, 2⟩) 1).d, .int .i64 ((upd q 1 ⟨x0, x1, 0, 0, 2⟩) 1).n, .int .i64 ((upd q 1 ⟨x0, x1, 0, 0, 2⟩) 2).a, .int .i64 ((upd q 1 ⟨x0, x1, 0, 0, 2⟩) 2).b, .int .i64 ((upd q 1 ⟨x0, x1, 0, 0, 2⟩) 2).c, .int .i64 ((upd q 1 ⟨x0, x1, 0, 0, 2⟩) 2).d, .int .i64 ((upd q 1 ⟨x0, x1, 0, 0, 2⟩) 2).n, .int .i64 ((upd q 1 ⟨x0, x1, 0, 0, 2⟩) 3).a, .int .i64 ((upd q 1 ⟨x0, x1, 0, 0, 2⟩) 3).b, .int .i64 ((upd q 1 ⟨x0, x1, 0, 0, 2⟩) 3).c, .int .i64 ((upd q 1 ⟨x0, x1, 0, 0, 2⟩) 3).d, .int .i64 ((upd q 1 ⟨x0, x1, 0, 0, 2⟩) 3).n] t (0, 0)) ∧ w.grownBy w' (some D) := by
  have lD := (Array.getElem?_eq_some_iff.1 hD).1
  have T := Lib.hid (show Calls Try.prog 31 #[.agg #[.int .i64 x0, .int .i64 x1, .int .i64 x2, .int .i64 0, .int .i64 3]] w _ from top_any [x0, x1, x2] (by simp) w)
  have HD := Lib.hid hD
  have HQ := Lib.hid hq
  have c0 : w.cell? ⟨D, 7, none⟩ = some (.int .i64 x0) := by have := cell_of_row w D 7 _ t _ hD; rw [hq] at this; exact this
  have c1 : w.cell? ⟨D, 8, none⟩ = some (.int .i64 x1) := by have := cell_of_row w D 8 _ t _ hD; rw [hq] at this; exact this
  have c2 : w.cell? ⟨D, 9, none⟩ = some (.int .i64 x2) := by have := cell_of_row w D 9 _ t _ hD; rw [hq] at this; exact this
  have c3 : w.cell? ⟨D, 10, none⟩ = some (.int .i64 0) := by have := cell_of_row w D 10 _ t _ hD; rw [hq] at this; exact this
  have c4 : w.cell? ⟨D, 11, none⟩ = some (.int .i64 3) := by have := cell_of_row w D 11 _ t _ hD; rw [hq] at this; exact this
  clear hq hD
  go_enter Try.func32, Try.ntmps32
  go_wp2_with fail
  refine T.out.mono ?_
  rintro e w5 ⟨rfl, b5⟩
  have HD5 := (b5.block D lD).trans HD.out
  have lD5 : D < w5.heap.size := by have := b5.size; omega
  have HD6 := heap_setCell_same _ D 11 _ t (.int .i64 2) HD5
  have d0 := (b5.cell (p := ⟨D, 7, none⟩) lD).trans c0
  have f0 := frozen_of_row w5 D 7 _ t HD5
  have d1 := (b5.cell (p := ⟨D, 8, none⟩) lD).trans c1
  have f1 := frozen_of_row w5 D 8 _ t HD5
  have d2 := (b5.cell (p := ⟨D, 9, none⟩) lD).trans c2
  have f2 := frozen_of_row w5 D 9 _ t HD5
  have d3 := (b5.cell (p := ⟨D, 10, none⟩) lD).trans c3
  have f3 := frozen_of_row w5 D 10 _ t HD5
  have d4 := (b5.cell (p := ⟨D, 11, none⟩) lD).trans c4
  have f4 := frozen_of_row w5 D 11 _ t HD5
  have K := clear_run (w5.setCell ⟨D, 11, none⟩ (.int .i64 2)).drew D 9 2 2 (by omega) (fun j hj => by
    match j, hj with
    | 0, _ => exact Option.isSome_iff_exists.2 ⟨_, (cell_of_row (w5.setCell ⟨D, 11, none⟩ (.int .i64 2)) D 9 _ t _ HD6 :)⟩
    | 1, _ => exact Option.isSome_iff_exists.2 ⟨_, (cell_of_row (w5.setCell ⟨D, 11, none⟩ (.int .i64 2)) D 10 _ t _ HD6 :)⟩) (fun j hj => by
    match j, hj with
    | 0, _ => exact (frozen_of_row (w5.setCell ⟨D, 11, none⟩ (.int .i64 2)) D 9 _ t HD6 :)
    | 1, _ => exact (frozen_of_row (w5.setCell ⟨D, 11, none⟩ (.int .i64 2)) D 10 _ t HD6 :))
  have K2 : (w5.setCell ⟨D, 11, none⟩ (.int .i64 2)).drew.setCells D 9 (List.replicate 2 (.int .i64 0)) = (((w5.setCell ⟨D, 11, none⟩ (.int .i64 2)).drew.setCell ⟨D, 9, none⟩ (.int .i64 0)).setCell ⟨D, 10, none⟩ (.int .i64 0)) := rfl
  rw [K2] at K
  have HD7 := (heap_setCell_same _ D 10 _ t (.int .i64 0) (heap_setCell_same _ D 9 _ t (.int .i64 0) HD6))
  have GB : w.grownBy ((((w5.setCell ⟨D, 11, none⟩ (.int .i64 2)).setCell ⟨D, 9, none⟩ (.int .i64 0)).setCell ⟨D, 10, none⟩ (.int .i64 0)).drew) (some D) := by
    refine ⟨b5.os, b5.tape, b5.output, by have := b5.size; simp; omega, fun k hk hne => ?_⟩
    have ne : k ≠ D := fun e => hne (by rw [e])
    show ((((w5.setCell ⟨D, 11, none⟩ (.int .i64 2)).setCell ⟨D, 9, none⟩ (.int .i64 0)).setCell ⟨D, 10, none⟩ (.int .i64 0))).heap[k]? = _
    rw [heap_setCell_other _ _ _ _ ne, heap_setCell_other _ _ _ _ ne, heap_setCell_other _ _ _ _ ne]
    exact b5.block k hk
  have HW := Lib.hid (show ((((w5.setCell ⟨D, 11, none⟩ (.int .i64 2)).setCell ⟨D, 9, none⟩ (.int .i64 0)).setCell ⟨D, 10, none⟩ (.int .i64 0)).drew).heap[D]? = some (.cells #[.int .i64 h, .int .i64 n, .int .i64 ((upd q 1 ⟨x0, x1, 0, 0, 2⟩) 0).a, .int .i64 ((upd q 1 ⟨x0, x1, 0, 0, 2⟩) 0).b, .int .i64 ((upd q 1 ⟨x0, x1, 0, 0, 2⟩) 0).c, .int .i64 ((upd q 1 ⟨x0, x1, 0, 0, 2⟩) 0).d, .int .i64 ((upd q 1 ⟨x0, x1, 0, 0, 2⟩) 0).n, .int .i64 ((upd q 1 ⟨x0, x1, 0, 0, 2⟩) 1).a, .int .i64 ((upd q 1 ⟨x0, x1, 0, 0, 2⟩) 1).b, .int .i64 ((upd q 1 ⟨x0, x1, 0, 0, 2⟩) 1).c, .int .i64 ((upd q 1 ⟨x0, x1, 0, 0, 2⟩) 1).d, .int .i64 ((upd q 1 ⟨x0, x1, 0, 0, 2⟩) 1).n, .int .i64 ((upd q 1 ⟨x0, x1, 0, 0, 2⟩) 2).a, .int .i64 ((upd q 1 ⟨x0, x1, 0, 0, 2⟩) 2).b, .int .i64 ((upd q 1 ⟨x0, x1, 0, 0, 2⟩) 2).c, .int .i64 ((upd q 1 ⟨x0, x1, 0, 0, 2⟩) 2).d, .int .i64 ((upd q 1 ⟨x0, x1, 0, 0, 2⟩) 2).n, .int .i64 ((upd q 1 ⟨x0, x1, 0, 0, 2⟩) 3).a, .int .i64 ((upd q 1 ⟨x0, x1, 0, 0, 2⟩) 3).b, .int .i64 ((upd q 1 ⟨x0, x1, 0, 0, 2⟩) 3).c, .int .i64 ((upd q 1 ⟨x0, x1, 0, 0, 2⟩) 3).d, .int .i64 ((upd q 1 ⟨x0, x1, 0, 0, 2⟩) 3).n] t (0, 0)) by show ((((w5.setCell ⟨D, 11, none⟩ (.int .i64 2)).setCell ⟨D, 9, none⟩ (.int .i64 0)).setCell ⟨D, 10, none⟩ (.int .i64 0))).heap[D]? = _; have h7 := HD7; simpa [upd, HQ.out] using h7)
  have GBH := Lib.hid GB
  clear K2 T c0 c1 c2 c3 c4 HD6 HD7 GB HD5
  go_wp2
  go_region
  go_wp2
  go_ret
  exact ⟨rfl, HW.out, GBH.out⟩

set_option maxRecDepth 100000 in
set_option maxHeartbeats 4000000 in
theorem pop_1_4 (D : Nat) (h n : Int) (q : Nat → Pl) (x0 x1 x2 x3 : Int) (w : World) (t : TypeId) (hq : q 1 = ⟨x0, x1, x2, x3, 4⟩) (hD : w.heap[D]? = some (.cells #[.int .i64 h, .int .i64 n, .int .i64 (q 0).a, .int .i64 (q 0).b, .int .i64 (q 0).c, .int .i64 (q 0).d, .int .i64 (q 0).n, .int .i64 (q 1).a, .int .i64 (q 1).b, .int .i64 (q 1).c, .int .i64 (q 1).d, .int .i64 (q 1).n, .int .i64 (q 2).a, .int .i64 (q 2).b, .int .i64 (q 2).c, .int .i64 (q 2).d, .int .i64 (q 2).n, .int .i64 (q 3).a, .int .i64 (q 3).b, .int .i64 (q 3).c, .int .i64 (q 3).d, .int .i64 (q 3).n] t (0, 0))) :
    Calls Try.prog 32 #[.pointer (some ⟨D, 7, none⟩)] w fun e w' => e = .returned (.int .i64 (topOf [x0, x1, x2, x3])) ∧ w'.heap[D]? = some (.cells #[.int .i64 h, .int .i64 n, .int .i64 ((upd q 1 ⟨x0, x1, x2, 0, 3⟩) 0).a, .int .i64 ((upd q 1 ⟨x0, x1, x2, 0, 3⟩) 0).b, .int .i64 ((upd q 1 ⟨x0, x1, x2, 0, 3⟩) 0).c, .int .i64 ((upd q 1 ⟨x0, x1, x2, 0, 3⟩) 0).d, .int .i64 ((upd q 1 ⟨x0, x1, x2, 0, 3⟩) 0).n, .int .i64 ((upd q 1 ⟨x0, x1, x2, 0, 3⟩) 1).a, .int .i64 ((upd q 1 ⟨x0, x1, x2, 0, 3⟩) 1).b, .int .i64 ((upd q 1 ⟨x0, x1, x2, 0, 3⟩) 1).c, .int .i64 ((upd q 1 ⟨x0, x1, x2, 0, 3⟩) 1).d, .int .i64 ((upd q 1 ⟨x0, x1, x2, 0, 3⟩) 1).n, .int .i64 ((upd q 1 ⟨x0, x1, x2, 0, 3⟩) 2).a, .int .i64 ((upd q 1 ⟨x0, x1, x2, 0, 3⟩) 2).b, .int .i64 ((upd q 1 ⟨x0, x1, x2, 0, 3⟩) 2).c, .int .i64 ((upd q 1 ⟨x0, x1, x2, 0, 3⟩) 2).d, .int .i64 ((upd q 1 ⟨x0, x1, x2, 0, 3⟩) 2).n, .int .i64 ((upd q 1 ⟨x0, x1, x2, 0, 3⟩) 3).a, .int .i64 ((upd q 1 ⟨x0, x1, x2, 0, 3⟩) 3).b, .int .i64 ((upd q 1 ⟨x0, x1, x2, 0, 3⟩) 3).c, .int .i64 ((upd q 1 ⟨x0, x1, x2, 0, 3⟩) 3).d, .int .i64 ((upd q 1 ⟨x0, x1, x2, 0, 3⟩) 3).n] t (0, 0)) ∧ w.grownBy w' (some D) := by
  have lD := (Array.getElem?_eq_some_iff.1 hD).1
  have T := Lib.hid (show Calls Try.prog 31 #[.agg #[.int .i64 x0, .int .i64 x1, .int .i64 x2, .int .i64 x3, .int .i64 4]] w _ from top_any [x0, x1, x2, x3] (by simp) w)
  have HD := Lib.hid hD
  have HQ := Lib.hid hq
  have c0 : w.cell? ⟨D, 7, none⟩ = some (.int .i64 x0) := by have := cell_of_row w D 7 _ t _ hD; rw [hq] at this; exact this
  have c1 : w.cell? ⟨D, 8, none⟩ = some (.int .i64 x1) := by have := cell_of_row w D 8 _ t _ hD; rw [hq] at this; exact this
  have c2 : w.cell? ⟨D, 9, none⟩ = some (.int .i64 x2) := by have := cell_of_row w D 9 _ t _ hD; rw [hq] at this; exact this
  have c3 : w.cell? ⟨D, 10, none⟩ = some (.int .i64 x3) := by have := cell_of_row w D 10 _ t _ hD; rw [hq] at this; exact this
  have c4 : w.cell? ⟨D, 11, none⟩ = some (.int .i64 4) := by have := cell_of_row w D 11 _ t _ hD; rw [hq] at this; exact this
  clear hq hD
  go_enter Try.func32, Try.ntmps32
  go_wp2_with fail
  refine T.out.mono ?_
  rintro e w5 ⟨rfl, b5⟩
  have HD5 := (b5.block D lD).trans HD.out
  have lD5 : D < w5.heap.size := by have := b5.size; omega
  have HD6 := heap_setCell_same _ D 11 _ t (.int .i64 3) HD5
  have d0 := (b5.cell (p := ⟨D, 7, none⟩) lD).trans c0
  have f0 := frozen_of_row w5 D 7 _ t HD5
  have d1 := (b5.cell (p := ⟨D, 8, none⟩) lD).trans c1
  have f1 := frozen_of_row w5 D 8 _ t HD5
  have d2 := (b5.cell (p := ⟨D, 9, none⟩) lD).trans c2
  have f2 := frozen_of_row w5 D 9 _ t HD5
  have d3 := (b5.cell (p := ⟨D, 10, none⟩) lD).trans c3
  have f3 := frozen_of_row w5 D 10 _ t HD5
  have d4 := (b5.cell (p := ⟨D, 11, none⟩) lD).trans c4
  have f4 := frozen_of_row w5 D 11 _ t HD5
  have K := clear_run (w5.setCell ⟨D, 11, none⟩ (.int .i64 3)).drew D 10 1 1 (by omega) (fun j hj => by
    match j, hj with
    | 0, _ => exact Option.isSome_iff_exists.2 ⟨_, (cell_of_row (w5.setCell ⟨D, 11, none⟩ (.int .i64 3)) D 10 _ t _ HD6 :)⟩) (fun j hj => by
    match j, hj with
    | 0, _ => exact (frozen_of_row (w5.setCell ⟨D, 11, none⟩ (.int .i64 3)) D 10 _ t HD6 :))
  have K2 : (w5.setCell ⟨D, 11, none⟩ (.int .i64 3)).drew.setCells D 10 (List.replicate 1 (.int .i64 0)) = ((w5.setCell ⟨D, 11, none⟩ (.int .i64 3)).drew.setCell ⟨D, 10, none⟩ (.int .i64 0)) := rfl
  rw [K2] at K
  have HD7 := (heap_setCell_same _ D 10 _ t (.int .i64 0) HD6)
  have GB : w.grownBy (((w5.setCell ⟨D, 11, none⟩ (.int .i64 3)).setCell ⟨D, 10, none⟩ (.int .i64 0)).drew) (some D) := by
    refine ⟨b5.os, b5.tape, b5.output, by have := b5.size; simp; omega, fun k hk hne => ?_⟩
    have ne : k ≠ D := fun e => hne (by rw [e])
    show (((w5.setCell ⟨D, 11, none⟩ (.int .i64 3)).setCell ⟨D, 10, none⟩ (.int .i64 0))).heap[k]? = _
    rw [heap_setCell_other _ _ _ _ ne, heap_setCell_other _ _ _ _ ne]
    exact b5.block k hk
  have HW := Lib.hid (show (((w5.setCell ⟨D, 11, none⟩ (.int .i64 3)).setCell ⟨D, 10, none⟩ (.int .i64 0)).drew).heap[D]? = some (.cells #[.int .i64 h, .int .i64 n, .int .i64 ((upd q 1 ⟨x0, x1, x2, 0, 3⟩) 0).a, .int .i64 ((upd q 1 ⟨x0, x1, x2, 0, 3⟩) 0).b, .int .i64 ((upd q 1 ⟨x0, x1, x2, 0, 3⟩) 0).c, .int .i64 ((upd q 1 ⟨x0, x1, x2, 0, 3⟩) 0).d, .int .i64 ((upd q 1 ⟨x0, x1, x2, 0, 3⟩) 0).n, .int .i64 ((upd q 1 ⟨x0, x1, x2, 0, 3⟩) 1).a, .int .i64 ((upd q 1 ⟨x0, x1, x2, 0, 3⟩) 1).b, .int .i64 ((upd q 1 ⟨x0, x1, x2, 0, 3⟩) 1).c, .int .i64 ((upd q 1 ⟨x0, x1, x2, 0, 3⟩) 1).d, .int .i64 ((upd q 1 ⟨x0, x1, x2, 0, 3⟩) 1).n, .int .i64 ((upd q 1 ⟨x0, x1, x2, 0, 3⟩) 2).a, .int .i64 ((upd q 1 ⟨x0, x1, x2, 0, 3⟩) 2).b, .int .i64 ((upd q 1 ⟨x0, x1, x2, 0, 3⟩) 2).c, .int .i64 ((upd q 1 ⟨x0, x1, x2, 0, 3⟩) 2).d, .int .i64 ((upd q 1 ⟨x0, x1, x2, 0, 3⟩) 2).n, .int .i64 ((upd q 1 ⟨x0, x1, x2, 0, 3⟩) 3).a, .int .i64 ((upd q 1 ⟨x0, x1, x2, 0, 3⟩) 3).b, .int .i64 ((upd q 1 ⟨x0, x1, x2, 0, 3⟩) 3).c, .int .i64 ((upd q 1 ⟨x0, x1, x2, 0, 3⟩) 3).d, .int .i64 ((upd q 1 ⟨x0, x1, x2, 0, 3⟩) 3).n] t (0, 0)) by show (((w5.setCell ⟨D, 11, none⟩ (.int .i64 3)).setCell ⟨D, 10, none⟩ (.int .i64 0))).heap[D]? = _; have h7 := HD7; simpa [upd, HQ.out] using h7)
  have GBH := Lib.hid GB
  clear K2 T c0 c1 c2 c3 c4 HD6 HD7 GB HD5
  go_wp2
  go_region
  go_wp2
  go_ret
  exact ⟨rfl, HW.out, GBH.out⟩

set_option maxRecDepth 100000 in
set_option maxHeartbeats 4000000 in
theorem pop_2_1 (D : Nat) (h n : Int) (q : Nat → Pl) (x0 : Int) (w : World) (t : TypeId) (hq : q 2 = ⟨x0, 0, 0, 0, 1⟩) (hD : w.heap[D]? = some (.cells #[.int .i64 h, .int .i64 n, .int .i64 (q 0).a, .int .i64 (q 0).b, .int .i64 (q 0).c, .int .i64 (q 0).d, .int .i64 (q 0).n, .int .i64 (q 1).a, .int .i64 (q 1).b, .int .i64 (q 1).c, .int .i64 (q 1).d, .int .i64 (q 1).n, .int .i64 (q 2).a, .int .i64 (q 2).b, .int .i64 (q 2).c, .int .i64 (q 2).d, .int .i64 (q 2).n, .int .i64 (q 3).a, .int .i64 (q 3).b, .int .i64 (q 3).c, .int .i64 (q 3).d, .int .i64 (q 3).n] t (0, 0))) :
    Calls Try.prog 32 #[.pointer (some ⟨D, 12, none⟩)] w fun e w' => e = .returned (.int .i64 (topOf [x0])) ∧ w'.heap[D]? = some (.cells #[.int .i64 h, .int .i64 n, .int .i64 ((upd q 2 ⟨0, 0, 0, 0, 0⟩) 0).a, .int .i64 ((upd q 2 ⟨0, 0, 0, 0, 0⟩) 0).b, .int .i64 ((upd q 2 ⟨0, 0, 0, 0, 0⟩) 0).c, .int .i64 ((upd q 2 ⟨0, 0, 0, 0, 0⟩) 0).d, .int .i64 ((upd q 2 ⟨0, 0, 0, 0, 0⟩) 0).n, .int .i64 ((upd q 2 ⟨0, 0, 0, 0, 0⟩) 1).a, .int .i64 ((upd q 2 ⟨0, 0, 0, 0, 0⟩) 1).b, .int .i64 ((upd q 2 ⟨0, 0, 0, 0, 0⟩) 1).c, .int .i64 ((upd q 2 ⟨0, 0, 0, 0, 0⟩) 1).d, .int .i64 ((upd q 2 ⟨0, 0, 0, 0, 0⟩) 1).n, .int .i64 ((upd q 2 ⟨0, 0, 0, 0, 0⟩) 2).a, .int .i64 ((upd q 2 ⟨0, 0, 0, 0, 0⟩) 2).b, .int .i64 ((upd q 2 ⟨0, 0, 0, 0, 0⟩) 2).c, .int .i64 ((upd q 2 ⟨0, 0, 0, 0, 0⟩) 2).d, .int .i64 ((upd q 2 ⟨0, 0, 0, 0, 0⟩) 2).n, .int .i64 ((upd q 2 ⟨0, 0, 0, 0, 0⟩) 3).a, .int .i64 ((upd q 2 ⟨0, 0, 0, 0, 0⟩) 3).b, .int .i64 ((upd q 2 ⟨0, 0, 0, 0, 0⟩) 3).c, .int .i64 ((upd q 2 ⟨0, 0, 0, 0, 0⟩) 3).d, .int .i64 ((upd q 2 ⟨0, 0, 0, 0, 0⟩) 3).n] t (0, 0)) ∧ w.grownBy w' (some D) := by
  have lD := (Array.getElem?_eq_some_iff.1 hD).1
  have T := Lib.hid (show Calls Try.prog 31 #[.agg #[.int .i64 x0, .int .i64 0, .int .i64 0, .int .i64 0, .int .i64 1]] w _ from top_any [x0] (by simp) w)
  have HD := Lib.hid hD
  have HQ := Lib.hid hq
  have c0 : w.cell? ⟨D, 12, none⟩ = some (.int .i64 x0) := by have := cell_of_row w D 12 _ t _ hD; rw [hq] at this; exact this
  have c1 : w.cell? ⟨D, 13, none⟩ = some (.int .i64 0) := by have := cell_of_row w D 13 _ t _ hD; rw [hq] at this; exact this
  have c2 : w.cell? ⟨D, 14, none⟩ = some (.int .i64 0) := by have := cell_of_row w D 14 _ t _ hD; rw [hq] at this; exact this
  have c3 : w.cell? ⟨D, 15, none⟩ = some (.int .i64 0) := by have := cell_of_row w D 15 _ t _ hD; rw [hq] at this; exact this
  have c4 : w.cell? ⟨D, 16, none⟩ = some (.int .i64 1) := by have := cell_of_row w D 16 _ t _ hD; rw [hq] at this; exact this
  clear hq hD
  go_enter Try.func32, Try.ntmps32
  go_wp2_with fail
  refine T.out.mono ?_
  rintro e w5 ⟨rfl, b5⟩
  have HD5 := (b5.block D lD).trans HD.out
  have lD5 : D < w5.heap.size := by have := b5.size; omega
  have HD6 := heap_setCell_same _ D 16 _ t (.int .i64 0) HD5
  have d0 := (b5.cell (p := ⟨D, 12, none⟩) lD).trans c0
  have f0 := frozen_of_row w5 D 12 _ t HD5
  have d1 := (b5.cell (p := ⟨D, 13, none⟩) lD).trans c1
  have f1 := frozen_of_row w5 D 13 _ t HD5
  have d2 := (b5.cell (p := ⟨D, 14, none⟩) lD).trans c2
  have f2 := frozen_of_row w5 D 14 _ t HD5
  have d3 := (b5.cell (p := ⟨D, 15, none⟩) lD).trans c3
  have f3 := frozen_of_row w5 D 15 _ t HD5
  have d4 := (b5.cell (p := ⟨D, 16, none⟩) lD).trans c4
  have f4 := frozen_of_row w5 D 16 _ t HD5
  have K := clear_run (w5.setCell ⟨D, 16, none⟩ (.int .i64 0)).drew D 12 4 4 (by omega) (fun j hj => by
    match j, hj with
    | 0, _ => exact Option.isSome_iff_exists.2 ⟨_, (cell_of_row (w5.setCell ⟨D, 16, none⟩ (.int .i64 0)) D 12 _ t _ HD6 :)⟩
    | 1, _ => exact Option.isSome_iff_exists.2 ⟨_, (cell_of_row (w5.setCell ⟨D, 16, none⟩ (.int .i64 0)) D 13 _ t _ HD6 :)⟩
    | 2, _ => exact Option.isSome_iff_exists.2 ⟨_, (cell_of_row (w5.setCell ⟨D, 16, none⟩ (.int .i64 0)) D 14 _ t _ HD6 :)⟩
    | 3, _ => exact Option.isSome_iff_exists.2 ⟨_, (cell_of_row (w5.setCell ⟨D, 16, none⟩ (.int .i64 0)) D 15 _ t _ HD6 :)⟩) (fun j hj => by
    match j, hj with
    | 0, _ => exact (frozen_of_row (w5.setCell ⟨D, 16, none⟩ (.int .i64 0)) D 12 _ t HD6 :)
    | 1, _ => exact (frozen_of_row (w5.setCell ⟨D, 16, none⟩ (.int .i64 0)) D 13 _ t HD6 :)
    | 2, _ => exact (frozen_of_row (w5.setCell ⟨D, 16, none⟩ (.int .i64 0)) D 14 _ t HD6 :)
    | 3, _ => exact (frozen_of_row (w5.setCell ⟨D, 16, none⟩ (.int .i64 0)) D 15 _ t HD6 :))
  have K2 : (w5.setCell ⟨D, 16, none⟩ (.int .i64 0)).drew.setCells D 12 (List.replicate 4 (.int .i64 0)) = (((((w5.setCell ⟨D, 16, none⟩ (.int .i64 0)).drew.setCell ⟨D, 12, none⟩ (.int .i64 0)).setCell ⟨D, 13, none⟩ (.int .i64 0)).setCell ⟨D, 14, none⟩ (.int .i64 0)).setCell ⟨D, 15, none⟩ (.int .i64 0)) := rfl
  rw [K2] at K
  have HD7 := (heap_setCell_same _ D 15 _ t (.int .i64 0) (heap_setCell_same _ D 14 _ t (.int .i64 0) (heap_setCell_same _ D 13 _ t (.int .i64 0) (heap_setCell_same _ D 12 _ t (.int .i64 0) HD6))))
  have GB : w.grownBy ((((((w5.setCell ⟨D, 16, none⟩ (.int .i64 0)).setCell ⟨D, 12, none⟩ (.int .i64 0)).setCell ⟨D, 13, none⟩ (.int .i64 0)).setCell ⟨D, 14, none⟩ (.int .i64 0)).setCell ⟨D, 15, none⟩ (.int .i64 0)).drew) (some D) := by
    refine ⟨b5.os, b5.tape, b5.output, by have := b5.size; simp; omega, fun k hk hne => ?_⟩
    have ne : k ≠ D := fun e => hne (by rw [e])
    show ((((((w5.setCell ⟨D, 16, none⟩ (.int .i64 0)).setCell ⟨D, 12, none⟩ (.int .i64 0)).setCell ⟨D, 13, none⟩ (.int .i64 0)).setCell ⟨D, 14, none⟩ (.int .i64 0)).setCell ⟨D, 15, none⟩ (.int .i64 0))).heap[k]? = _
    rw [heap_setCell_other _ _ _ _ ne, heap_setCell_other _ _ _ _ ne, heap_setCell_other _ _ _ _ ne, heap_setCell_other _ _ _ _ ne, heap_setCell_other _ _ _ _ ne]
    exact b5.block k hk
  have HW := Lib.hid (show ((((((w5.setCell ⟨D, 16, none⟩ (.int .i64 0)).setCell ⟨D, 12, none⟩ (.int .i64 0)).setCell ⟨D, 13, none⟩ (.int .i64 0)).setCell ⟨D, 14, none⟩ (.int .i64 0)).setCell ⟨D, 15, none⟩ (.int .i64 0)).drew).heap[D]? = some (.cells #[.int .i64 h, .int .i64 n, .int .i64 ((upd q 2 ⟨0, 0, 0, 0, 0⟩) 0).a, .int .i64 ((upd q 2 ⟨0, 0, 0, 0, 0⟩) 0).b, .int .i64 ((upd q 2 ⟨0, 0, 0, 0, 0⟩) 0).c, .int .i64 ((upd q 2 ⟨0, 0, 0, 0, 0⟩) 0).d, .int .i64 ((upd q 2 ⟨0, 0, 0, 0, 0⟩) 0).n, .int .i64 ((upd q 2 ⟨0, 0, 0, 0, 0⟩) 1).a, .int .i64 ((upd q 2 ⟨0, 0, 0, 0, 0⟩) 1).b, .int .i64 ((upd q 2 ⟨0, 0, 0, 0, 0⟩) 1).c, .int .i64 ((upd q 2 ⟨0, 0, 0, 0, 0⟩) 1).d, .int .i64 ((upd q 2 ⟨0, 0, 0, 0, 0⟩) 1).n, .int .i64 ((upd q 2 ⟨0, 0, 0, 0, 0⟩) 2).a, .int .i64 ((upd q 2 ⟨0, 0, 0, 0, 0⟩) 2).b, .int .i64 ((upd q 2 ⟨0, 0, 0, 0, 0⟩) 2).c, .int .i64 ((upd q 2 ⟨0, 0, 0, 0, 0⟩) 2).d, .int .i64 ((upd q 2 ⟨0, 0, 0, 0, 0⟩) 2).n, .int .i64 ((upd q 2 ⟨0, 0, 0, 0, 0⟩) 3).a, .int .i64 ((upd q 2 ⟨0, 0, 0, 0, 0⟩) 3).b, .int .i64 ((upd q 2 ⟨0, 0, 0, 0, 0⟩) 3).c, .int .i64 ((upd q 2 ⟨0, 0, 0, 0, 0⟩) 3).d, .int .i64 ((upd q 2 ⟨0, 0, 0, 0, 0⟩) 3).n] t (0, 0)) by show ((((((w5.setCell ⟨D, 16, none⟩ (.int .i64 0)).setCell ⟨D, 12, none⟩ (.int .i64 0)).setCell ⟨D, 13, none⟩ (.int .i64 0)).setCell ⟨D, 14, none⟩ (.int .i64 0)).setCell ⟨D, 15, none⟩ (.int .i64 0))).heap[D]? = _; have h7 := HD7; simpa [upd, HQ.out] using h7)
  have GBH := Lib.hid GB
  clear K2 T c0 c1 c2 c3 c4 HD6 HD7 GB HD5
  go_wp2
  go_region
  go_wp2
  go_ret
  exact ⟨rfl, HW.out, GBH.out⟩

set_option maxRecDepth 100000 in
set_option maxHeartbeats 4000000 in
theorem pop_2_2 (D : Nat) (h n : Int) (q : Nat → Pl) (x0 x1 : Int) (w : World) (t : TypeId) (hq : q 2 = ⟨x0, x1, 0, 0, 2⟩) (hD : w.heap[D]? = some (.cells #[.int .i64 h, .int .i64 n, .int .i64 (q 0).a, .int .i64 (q 0).b, .int .i64 (q 0).c, .int .i64 (q 0).d, .int .i64 (q 0).n, .int .i64 (q 1).a, .int .i64 (q 1).b, .int .i64 (q 1).c, .int .i64 (q 1).d, .int .i64 (q 1).n, .int .i64 (q 2).a, .int .i64 (q 2).b, .int .i64 (q 2).c, .int .i64 (q 2).d, .int .i64 (q 2).n, .int .i64 (q 3).a, .int .i64 (q 3).b, .int .i64 (q 3).c, .int .i64 (q 3).d, .int .i64 (q 3).n] t (0, 0))) :
    Calls Try.prog 32 #[.pointer (some ⟨D, 12, none⟩)] w fun e w' => e = .returned (.int .i64 (topOf [x0, x1])) ∧ w'.heap[D]? = some (.cells #[.int .i64 h, .int .i64 n, .int .i64 ((upd q 2 ⟨x0, 0, 0, 0, 1⟩) 0).a, .int .i64 ((upd q 2 ⟨x0, 0, 0, 0, 1⟩) 0).b, .int .i64 ((upd q 2 ⟨x0, 0, 0, 0, 1⟩) 0).c, .int .i64 ((upd q 2 ⟨x0, 0, 0, 0, 1⟩) 0).d, .int .i64 ((upd q 2 ⟨x0, 0, 0, 0, 1⟩) 0).n, .int .i64 ((upd q 2 ⟨x0, 0, 0, 0, 1⟩) 1).a, .int .i64 ((upd q 2 ⟨x0, 0, 0, 0, 1⟩) 1).b, .int .i64 ((upd q 2 ⟨x0, 0, 0, 0, 1⟩) 1).c, .int .i64 ((upd q 2 ⟨x0, 0, 0, 0, 1⟩) 1).d, .int .i64 ((upd q 2 ⟨x0, 0, 0, 0, 1⟩) 1).n, .int .i64 ((upd q 2 ⟨x0, 0, 0, 0, 1⟩) 2).a, .int .i64 ((upd q 2 ⟨x0, 0, 0, 0, 1⟩) 2).b, .int .i64 ((upd q 2 ⟨x0, 0, 0, 0, 1⟩) 2).c, .int .i64 ((upd q 2 ⟨x0, 0, 0, 0, 1⟩) 2).d, .int .i64 ((upd q 2 ⟨x0, 0, 0, 0, 1⟩) 2).n, .int .i64 ((upd q 2 ⟨x0, 0, 0, 0, 1⟩) 3).a, .int .i64 ((upd q 2 ⟨x0, 0, 0, 0, 1⟩) 3).b, .int .i64 ((upd q 2 ⟨x0, 0, 0, 0, 1⟩) 3).c, .int .i64 ((upd q 2 ⟨x0, 0, 0, 0, 1⟩) 3).d, .int .i64 ((upd q 2 ⟨x0, 0, 0, 0, 1⟩) 3).n] t (0, 0)) ∧ w.grownBy w' (some D) := by
  have lD := (Array.getElem?_eq_some_iff.1 hD).1
  have T := Lib.hid (show Calls Try.prog 31 #[.agg #[.int .i64 x0, .int .i64 x1, .int .i64 0, .int .i64 0, .int .i64 2]] w _ from top_any [x0, x1] (by simp) w)
  have HD := Lib.hid hD
  have HQ := Lib.hid hq
  have c0 : w.cell? ⟨D, 12, none⟩ = some (.int .i64 x0) := by have := cell_of_row w D 12 _ t _ hD; rw [hq] at this; exact this
  have c1 : w.cell? ⟨D, 13, none⟩ = some (.int .i64 x1) := by have := cell_of_row w D 13 _ t _ hD; rw [hq] at this; exact this
  have c2 : w.cell? ⟨D, 14, none⟩ = some (.int .i64 0) := by have := cell_of_row w D 14 _ t _ hD; rw [hq] at this; exact this
  have c3 : w.cell? ⟨D, 15, none⟩ = some (.int .i64 0) := by have := cell_of_row w D 15 _ t _ hD; rw [hq] at this; exact this
  have c4 : w.cell? ⟨D, 16, none⟩ = some (.int .i64 2) := by have := cell_of_row w D 16 _ t _ hD; rw [hq] at this; exact this
  clear hq hD
  go_enter Try.func32, Try.ntmps32
  go_wp2_with fail
  refine T.out.mono ?_
  rintro e w5 ⟨rfl, b5⟩
  have HD5 := (b5.block D lD).trans HD.out
  have lD5 : D < w5.heap.size := by have := b5.size; omega
  have HD6 := heap_setCell_same _ D 16 _ t (.int .i64 1) HD5
  have d0 := (b5.cell (p := ⟨D, 12, none⟩) lD).trans c0
  have f0 := frozen_of_row w5 D 12 _ t HD5
  have d1 := (b5.cell (p := ⟨D, 13, none⟩) lD).trans c1
  have f1 := frozen_of_row w5 D 13 _ t HD5
  have d2 := (b5.cell (p := ⟨D, 14, none⟩) lD).trans c2
  have f2 := frozen_of_row w5 D 14 _ t HD5
  have d3 := (b5.cell (p := ⟨D, 15, none⟩) lD).trans c3
  have f3 := frozen_of_row w5 D 15 _ t HD5
  have d4 := (b5.cell (p := ⟨D, 16, none⟩) lD).trans c4
  have f4 := frozen_of_row w5 D 16 _ t HD5
  have K := clear_run (w5.setCell ⟨D, 16, none⟩ (.int .i64 1)).drew D 13 3 3 (by omega) (fun j hj => by
    match j, hj with
    | 0, _ => exact Option.isSome_iff_exists.2 ⟨_, (cell_of_row (w5.setCell ⟨D, 16, none⟩ (.int .i64 1)) D 13 _ t _ HD6 :)⟩
    | 1, _ => exact Option.isSome_iff_exists.2 ⟨_, (cell_of_row (w5.setCell ⟨D, 16, none⟩ (.int .i64 1)) D 14 _ t _ HD6 :)⟩
    | 2, _ => exact Option.isSome_iff_exists.2 ⟨_, (cell_of_row (w5.setCell ⟨D, 16, none⟩ (.int .i64 1)) D 15 _ t _ HD6 :)⟩) (fun j hj => by
    match j, hj with
    | 0, _ => exact (frozen_of_row (w5.setCell ⟨D, 16, none⟩ (.int .i64 1)) D 13 _ t HD6 :)
    | 1, _ => exact (frozen_of_row (w5.setCell ⟨D, 16, none⟩ (.int .i64 1)) D 14 _ t HD6 :)
    | 2, _ => exact (frozen_of_row (w5.setCell ⟨D, 16, none⟩ (.int .i64 1)) D 15 _ t HD6 :))
  have K2 : (w5.setCell ⟨D, 16, none⟩ (.int .i64 1)).drew.setCells D 13 (List.replicate 3 (.int .i64 0)) = ((((w5.setCell ⟨D, 16, none⟩ (.int .i64 1)).drew.setCell ⟨D, 13, none⟩ (.int .i64 0)).setCell ⟨D, 14, none⟩ (.int .i64 0)).setCell ⟨D, 15, none⟩ (.int .i64 0)) := rfl
  rw [K2] at K
  have HD7 := (heap_setCell_same _ D 15 _ t (.int .i64 0) (heap_setCell_same _ D 14 _ t (.int .i64 0) (heap_setCell_same _ D 13 _ t (.int .i64 0) HD6)))
  have GB : w.grownBy (((((w5.setCell ⟨D, 16, none⟩ (.int .i64 1)).setCell ⟨D, 13, none⟩ (.int .i64 0)).setCell ⟨D, 14, none⟩ (.int .i64 0)).setCell ⟨D, 15, none⟩ (.int .i64 0)).drew) (some D) := by
    refine ⟨b5.os, b5.tape, b5.output, by have := b5.size; simp; omega, fun k hk hne => ?_⟩
    have ne : k ≠ D := fun e => hne (by rw [e])
    show (((((w5.setCell ⟨D, 16, none⟩ (.int .i64 1)).setCell ⟨D, 13, none⟩ (.int .i64 0)).setCell ⟨D, 14, none⟩ (.int .i64 0)).setCell ⟨D, 15, none⟩ (.int .i64 0))).heap[k]? = _
    rw [heap_setCell_other _ _ _ _ ne, heap_setCell_other _ _ _ _ ne, heap_setCell_other _ _ _ _ ne, heap_setCell_other _ _ _ _ ne]
    exact b5.block k hk
  have HW := Lib.hid (show (((((w5.setCell ⟨D, 16, none⟩ (.int .i64 1)).setCell ⟨D, 13, none⟩ (.int .i64 0)).setCell ⟨D, 14, none⟩ (.int .i64 0)).setCell ⟨D, 15, none⟩ (.int .i64 0)).drew).heap[D]? = some (.cells #[.int .i64 h, .int .i64 n, .int .i64 ((upd q 2 ⟨x0, 0, 0, 0, 1⟩) 0).a, .int .i64 ((upd q 2 ⟨x0, 0, 0, 0, 1⟩) 0).b, .int .i64 ((upd q 2 ⟨x0, 0, 0, 0, 1⟩) 0).c, .int .i64 ((upd q 2 ⟨x0, 0, 0, 0, 1⟩) 0).d, .int .i64 ((upd q 2 ⟨x0, 0, 0, 0, 1⟩) 0).n, .int .i64 ((upd q 2 ⟨x0, 0, 0, 0, 1⟩) 1).a, .int .i64 ((upd q 2 ⟨x0, 0, 0, 0, 1⟩) 1).b, .int .i64 ((upd q 2 ⟨x0, 0, 0, 0, 1⟩) 1).c, .int .i64 ((upd q 2 ⟨x0, 0, 0, 0, 1⟩) 1).d, .int .i64 ((upd q 2 ⟨x0, 0, 0, 0, 1⟩) 1).n, .int .i64 ((upd q 2 ⟨x0, 0, 0, 0, 1⟩) 2).a, .int .i64 ((upd q 2 ⟨x0, 0, 0, 0, 1⟩) 2).b, .int .i64 ((upd q 2 ⟨x0, 0, 0, 0, 1⟩) 2).c, .int .i64 ((upd q 2 ⟨x0, 0, 0, 0, 1⟩) 2).d, .int .i64 ((upd q 2 ⟨x0, 0, 0, 0, 1⟩) 2).n, .int .i64 ((upd q 2 ⟨x0, 0, 0, 0, 1⟩) 3).a, .int .i64 ((upd q 2 ⟨x0, 0, 0, 0, 1⟩) 3).b, .int .i64 ((upd q 2 ⟨x0, 0, 0, 0, 1⟩) 3).c, .int .i64 ((upd q 2 ⟨x0, 0, 0, 0, 1⟩) 3).d, .int .i64 ((upd q 2 ⟨x0, 0, 0, 0, 1⟩) 3).n] t (0, 0)) by show (((((w5.setCell ⟨D, 16, none⟩ (.int .i64 1)).setCell ⟨D, 13, none⟩ (.int .i64 0)).setCell ⟨D, 14, none⟩ (.int .i64 0)).setCell ⟨D, 15, none⟩ (.int .i64 0))).heap[D]? = _; have h7 := HD7; simpa [upd, HQ.out] using h7)
  have GBH := Lib.hid GB
  clear K2 T c0 c1 c2 c3 c4 HD6 HD7 GB HD5
  go_wp2
  go_region
  go_wp2
  go_ret
  exact ⟨rfl, HW.out, GBH.out⟩

set_option maxRecDepth 100000 in
set_option maxHeartbeats 4000000 in
theorem pop_2_3 (D : Nat) (h n : Int) (q : Nat → Pl) (x0 x1 x2 : Int) (w : World) (t : TypeId) (hq : q 2 = ⟨x0, x1, x2, 0, 3⟩) (hD : w.heap[D]? = some (.cells #[.int .i64 h, .int .i64 n, .int .i64 (q 0).a, .int .i64 (q 0).b, .int .i64 (q 0).c, .int .i64 (q 0).d, .int .i64 (q 0).n, .int .i64 (q 1).a, .int .i64 (q 1).b, .int .i64 (q 1).c, .int .i64 (q 1).d, .int .i64 (q 1).n, .int .i64 (q 2).a, .int .i64 (q 2).b, .int .i64 (q 2).c, .int .i64 (q 2).d, .int .i64 (q 2).n, .int .i64 (q 3).a, .int .i64 (q 3).b, .int .i64 (q 3).c, .int .i64 (q 3).d, .int .i64 (q 3).n] t (0, 0))) :
    Calls Try.prog 32 #[.pointer (some ⟨D, 12, none⟩)] w fun e w' => e = .returned (.int .i64 (topOf [x0, x1, x2])) ∧ w'.heap[D]? = some (.cells #[.int .i64 h, .int .i64 n, .int .i64 ((upd q 2 ⟨x0, x1, 0, 0, 2⟩) 0).a, .int .i64 ((upd q 2 ⟨x0, x1, 0, 0, 2⟩) 0).b, .int .i64 ((upd q 2 ⟨x0, x1, 0, 0, 2⟩) 0).c, .int .i64 ((upd q 2 ⟨x0, x1, 0, 0, 2⟩) 0).d, .int .i64 ((upd q 2 ⟨x0, x1, 0, 0, 2⟩) 0).n, .int .i64 ((upd q 2 ⟨x0, x1, 0, 0, 2⟩) 1).a, .int .i64 ((upd q 2 ⟨x0, x1, 0, 0, 2⟩) 1).b, .int .i64 ((upd q 2 ⟨x0, x1, 0, 0, 2⟩) 1).c, .int .i64 ((upd q 2 ⟨x0, x1, 0, 0, 2⟩) 1).d, .int .i64 ((upd q 2 ⟨x0, x1, 0, 0, 2⟩) 1).n, .int .i64 ((upd q 2 ⟨x0, x1, 0, 0, 2⟩) 2).a, .int .i64 ((upd q 2 ⟨x0, x1, 0, 0, 2⟩) 2).b, .int .i64 ((upd q 2 ⟨x0, x1, 0, 0, 2⟩) 2).c, .int .i64 ((upd q 2 ⟨x0, x1, 0, 0, 2⟩) 2).d, .int .i64 ((upd q 2 ⟨x0, x1, 0, 0, 2⟩) 2).n, .int .i64 ((upd q 2 ⟨x0, x1, 0, 0, 2⟩) 3).a, .int .i64 ((upd q 2 ⟨x0, x1, 0, 0, 2⟩) 3).b, .int .i64 ((upd q 2 ⟨x0, x1, 0, 0, 2⟩) 3).c, .int .i64 ((upd q 2 ⟨x0, x1, 0, 0, 2⟩) 3).d, .int .i64 ((upd q 2 ⟨x0, x1, 0, 0, 2⟩) 3).n] t (0, 0)) ∧ w.grownBy w' (some D) := by
  have lD := (Array.getElem?_eq_some_iff.1 hD).1
  have T := Lib.hid (show Calls Try.prog 31 #[.agg #[.int .i64 x0, .int .i64 x1, .int .i64 x2, .int .i64 0, .int .i64 3]] w _ from top_any [x0, x1, x2] (by simp) w)
  have HD := Lib.hid hD
  have HQ := Lib.hid hq
  have c0 : w.cell? ⟨D, 12, none⟩ = some (.int .i64 x0) := by have := cell_of_row w D 12 _ t _ hD; rw [hq] at this; exact this
  have c1 : w.cell? ⟨D, 13, none⟩ = some (.int .i64 x1) := by have := cell_of_row w D 13 _ t _ hD; rw [hq] at this; exact this
  have c2 : w.cell? ⟨D, 14, none⟩ = some (.int .i64 x2) := by have := cell_of_row w D 14 _ t _ hD; rw [hq] at this; exact this
  have c3 : w.cell? ⟨D, 15, none⟩ = some (.int .i64 0) := by have := cell_of_row w D 15 _ t _ hD; rw [hq] at this; exact this
  have c4 : w.cell? ⟨D, 16, none⟩ = some (.int .i64 3) := by have := cell_of_row w D 16 _ t _ hD; rw [hq] at this; exact this
  clear hq hD
  go_enter Try.func32, Try.ntmps32
  go_wp2_with fail
  refine T.out.mono ?_
  rintro e w5 ⟨rfl, b5⟩
  have HD5 := (b5.block D lD).trans HD.out
  have lD5 : D < w5.heap.size := by have := b5.size; omega
  have HD6 := heap_setCell_same _ D 16 _ t (.int .i64 2) HD5
  have d0 := (b5.cell (p := ⟨D, 12, none⟩) lD).trans c0
  have f0 := frozen_of_row w5 D 12 _ t HD5
  have d1 := (b5.cell (p := ⟨D, 13, none⟩) lD).trans c1
  have f1 := frozen_of_row w5 D 13 _ t HD5
  have d2 := (b5.cell (p := ⟨D, 14, none⟩) lD).trans c2
  have f2 := frozen_of_row w5 D 14 _ t HD5
  have d3 := (b5.cell (p := ⟨D, 15, none⟩) lD).trans c3
  have f3 := frozen_of_row w5 D 15 _ t HD5
  have d4 := (b5.cell (p := ⟨D, 16, none⟩) lD).trans c4
  have f4 := frozen_of_row w5 D 16 _ t HD5
  have K := clear_run (w5.setCell ⟨D, 16, none⟩ (.int .i64 2)).drew D 14 2 2 (by omega) (fun j hj => by
    match j, hj with
    | 0, _ => exact Option.isSome_iff_exists.2 ⟨_, (cell_of_row (w5.setCell ⟨D, 16, none⟩ (.int .i64 2)) D 14 _ t _ HD6 :)⟩
    | 1, _ => exact Option.isSome_iff_exists.2 ⟨_, (cell_of_row (w5.setCell ⟨D, 16, none⟩ (.int .i64 2)) D 15 _ t _ HD6 :)⟩) (fun j hj => by
    match j, hj with
    | 0, _ => exact (frozen_of_row (w5.setCell ⟨D, 16, none⟩ (.int .i64 2)) D 14 _ t HD6 :)
    | 1, _ => exact (frozen_of_row (w5.setCell ⟨D, 16, none⟩ (.int .i64 2)) D 15 _ t HD6 :))
  have K2 : (w5.setCell ⟨D, 16, none⟩ (.int .i64 2)).drew.setCells D 14 (List.replicate 2 (.int .i64 0)) = (((w5.setCell ⟨D, 16, none⟩ (.int .i64 2)).drew.setCell ⟨D, 14, none⟩ (.int .i64 0)).setCell ⟨D, 15, none⟩ (.int .i64 0)) := rfl
  rw [K2] at K
  have HD7 := (heap_setCell_same _ D 15 _ t (.int .i64 0) (heap_setCell_same _ D 14 _ t (.int .i64 0) HD6))
  have GB : w.grownBy ((((w5.setCell ⟨D, 16, none⟩ (.int .i64 2)).setCell ⟨D, 14, none⟩ (.int .i64 0)).setCell ⟨D, 15, none⟩ (.int .i64 0)).drew) (some D) := by
    refine ⟨b5.os, b5.tape, b5.output, by have := b5.size; simp; omega, fun k hk hne => ?_⟩
    have ne : k ≠ D := fun e => hne (by rw [e])
    show ((((w5.setCell ⟨D, 16, none⟩ (.int .i64 2)).setCell ⟨D, 14, none⟩ (.int .i64 0)).setCell ⟨D, 15, none⟩ (.int .i64 0))).heap[k]? = _
    rw [heap_setCell_other _ _ _ _ ne, heap_setCell_other _ _ _ _ ne, heap_setCell_other _ _ _ _ ne]
    exact b5.block k hk
  have HW := Lib.hid (show ((((w5.setCell ⟨D, 16, none⟩ (.int .i64 2)).setCell ⟨D, 14, none⟩ (.int .i64 0)).setCell ⟨D, 15, none⟩ (.int .i64 0)).drew).heap[D]? = some (.cells #[.int .i64 h, .int .i64 n, .int .i64 ((upd q 2 ⟨x0, x1, 0, 0, 2⟩) 0).a, .int .i64 ((upd q 2 ⟨x0, x1, 0, 0, 2⟩) 0).b, .int .i64 ((upd q 2 ⟨x0, x1, 0, 0, 2⟩) 0).c, .int .i64 ((upd q 2 ⟨x0, x1, 0, 0, 2⟩) 0).d, .int .i64 ((upd q 2 ⟨x0, x1, 0, 0, 2⟩) 0).n, .int .i64 ((upd q 2 ⟨x0, x1, 0, 0, 2⟩) 1).a, .int .i64 ((upd q 2 ⟨x0, x1, 0, 0, 2⟩) 1).b, .int .i64 ((upd q 2 ⟨x0, x1, 0, 0, 2⟩) 1).c, .int .i64 ((upd q 2 ⟨x0, x1, 0, 0, 2⟩) 1).d, .int .i64 ((upd q 2 ⟨x0, x1, 0, 0, 2⟩) 1).n, .int .i64 ((upd q 2 ⟨x0, x1, 0, 0, 2⟩) 2).a, .int .i64 ((upd q 2 ⟨x0, x1, 0, 0, 2⟩) 2).b, .int .i64 ((upd q 2 ⟨x0, x1, 0, 0, 2⟩) 2).c, .int .i64 ((upd q 2 ⟨x0, x1, 0, 0, 2⟩) 2).d, .int .i64 ((upd q 2 ⟨x0, x1, 0, 0, 2⟩) 2).n, .int .i64 ((upd q 2 ⟨x0, x1, 0, 0, 2⟩) 3).a, .int .i64 ((upd q 2 ⟨x0, x1, 0, 0, 2⟩) 3).b, .int .i64 ((upd q 2 ⟨x0, x1, 0, 0, 2⟩) 3).c, .int .i64 ((upd q 2 ⟨x0, x1, 0, 0, 2⟩) 3).d, .int .i64 ((upd q 2 ⟨x0, x1, 0, 0, 2⟩) 3).n] t (0, 0)) by show ((((w5.setCell ⟨D, 16, none⟩ (.int .i64 2)).setCell ⟨D, 14, none⟩ (.int .i64 0)).setCell ⟨D, 15, none⟩ (.int .i64 0))).heap[D]? = _; have h7 := HD7; simpa [upd, HQ.out] using h7)
  have GBH := Lib.hid GB
  clear K2 T c0 c1 c2 c3 c4 HD6 HD7 GB HD5
  go_wp2
  go_region
  go_wp2
  go_ret
  exact ⟨rfl, HW.out, GBH.out⟩

set_option maxRecDepth 100000 in
set_option maxHeartbeats 4000000 in
theorem pop_2_4 (D : Nat) (h n : Int) (q : Nat → Pl) (x0 x1 x2 x3 : Int) (w : World) (t : TypeId) (hq : q 2 = ⟨x0, x1, x2, x3, 4⟩) (hD : w.heap[D]? = some (.cells #[.int .i64 h, .int .i64 n, .int .i64 (q 0).a, .int .i64 (q 0).b, .int .i64 (q 0).c, .int .i64 (q 0).d, .int .i64 (q 0).n, .int .i64 (q 1).a, .int .i64 (q 1).b, .int .i64 (q 1).c, .int .i64 (q 1).d, .int .i64 (q 1).n, .int .i64 (q 2).a, .int .i64 (q 2).b, .int .i64 (q 2).c, .int .i64 (q 2).d, .int .i64 (q 2).n, .int .i64 (q 3).a, .int .i64 (q 3).b, .int .i64 (q 3).c, .int .i64 (q 3).d, .int .i64 (q 3).n] t (0, 0))) :
    Calls Try.prog 32 #[.pointer (some ⟨D, 12, none⟩)] w fun e w' => e = .returned (.int .i64 (topOf [x0, x1, x2, x3])) ∧ w'.heap[D]? = some (.cells #[.int .i64 h, .int .i64 n, .int .i64 ((upd q 2 ⟨x0, x1, x2, 0, 3⟩) 0).a, .int .i64 ((upd q 2 ⟨x0, x1, x2, 0, 3⟩) 0).b, .int .i64 ((upd q 2 ⟨x0, x1, x2, 0, 3⟩) 0).c, .int .i64 ((upd q 2 ⟨x0, x1, x2, 0, 3⟩) 0).d, .int .i64 ((upd q 2 ⟨x0, x1, x2, 0, 3⟩) 0).n, .int .i64 ((upd q 2 ⟨x0, x1, x2, 0, 3⟩) 1).a, .int .i64 ((upd q 2 ⟨x0, x1, x2, 0, 3⟩) 1).b, .int .i64 ((upd q 2 ⟨x0, x1, x2, 0, 3⟩) 1).c, .int .i64 ((upd q 2 ⟨x0, x1, x2, 0, 3⟩) 1).d, .int .i64 ((upd q 2 ⟨x0, x1, x2, 0, 3⟩) 1).n, .int .i64 ((upd q 2 ⟨x0, x1, x2, 0, 3⟩) 2).a, .int .i64 ((upd q 2 ⟨x0, x1, x2, 0, 3⟩) 2).b, .int .i64 ((upd q 2 ⟨x0, x1, x2, 0, 3⟩) 2).c, .int .i64 ((upd q 2 ⟨x0, x1, x2, 0, 3⟩) 2).d, .int .i64 ((upd q 2 ⟨x0, x1, x2, 0, 3⟩) 2).n, .int .i64 ((upd q 2 ⟨x0, x1, x2, 0, 3⟩) 3).a, .int .i64 ((upd q 2 ⟨x0, x1, x2, 0, 3⟩) 3).b, .int .i64 ((upd q 2 ⟨x0, x1, x2, 0, 3⟩) 3).c, .int .i64 ((upd q 2 ⟨x0, x1, x2, 0, 3⟩) 3).d, .int .i64 ((upd q 2 ⟨x0, x1, x2, 0, 3⟩) 3).n] t (0, 0)) ∧ w.grownBy w' (some D) := by
  have lD := (Array.getElem?_eq_some_iff.1 hD).1
  have T := Lib.hid (show Calls Try.prog 31 #[.agg #[.int .i64 x0, .int .i64 x1, .int .i64 x2, .int .i64 x3, .int .i64 4]] w _ from top_any [x0, x1, x2, x3] (by simp) w)
  have HD := Lib.hid hD
  have HQ := Lib.hid hq
  have c0 : w.cell? ⟨D, 12, none⟩ = some (.int .i64 x0) := by have := cell_of_row w D 12 _ t _ hD; rw [hq] at this; exact this
  have c1 : w.cell? ⟨D, 13, none⟩ = some (.int .i64 x1) := by have := cell_of_row w D 13 _ t _ hD; rw [hq] at this; exact this
  have c2 : w.cell? ⟨D, 14, none⟩ = some (.int .i64 x2) := by have := cell_of_row w D 14 _ t _ hD; rw [hq] at this; exact this
  have c3 : w.cell? ⟨D, 15, none⟩ = some (.int .i64 x3) := by have := cell_of_row w D 15 _ t _ hD; rw [hq] at this; exact this
  have c4 : w.cell? ⟨D, 16, none⟩ = some (.int .i64 4) := by have := cell_of_row w D 16 _ t _ hD; rw [hq] at this; exact this
  clear hq hD
  go_enter Try.func32, Try.ntmps32
  go_wp2_with fail
  refine T.out.mono ?_
  rintro e w5 ⟨rfl, b5⟩
  have HD5 := (b5.block D lD).trans HD.out
  have lD5 : D < w5.heap.size := by have := b5.size; omega
  have HD6 := heap_setCell_same _ D 16 _ t (.int .i64 3) HD5
  have d0 := (b5.cell (p := ⟨D, 12, none⟩) lD).trans c0
  have f0 := frozen_of_row w5 D 12 _ t HD5
  have d1 := (b5.cell (p := ⟨D, 13, none⟩) lD).trans c1
  have f1 := frozen_of_row w5 D 13 _ t HD5
  have d2 := (b5.cell (p := ⟨D, 14, none⟩) lD).trans c2
  have f2 := frozen_of_row w5 D 14 _ t HD5
  have d3 := (b5.cell (p := ⟨D, 15, none⟩) lD).trans c3
  have f3 := frozen_of_row w5 D 15 _ t HD5
  have d4 := (b5.cell (p := ⟨D, 16, none⟩) lD).trans c4
  have f4 := frozen_of_row w5 D 16 _ t HD5
  have K := clear_run (w5.setCell ⟨D, 16, none⟩ (.int .i64 3)).drew D 15 1 1 (by omega) (fun j hj => by
    match j, hj with
    | 0, _ => exact Option.isSome_iff_exists.2 ⟨_, (cell_of_row (w5.setCell ⟨D, 16, none⟩ (.int .i64 3)) D 15 _ t _ HD6 :)⟩) (fun j hj => by
    match j, hj with
    | 0, _ => exact (frozen_of_row (w5.setCell ⟨D, 16, none⟩ (.int .i64 3)) D 15 _ t HD6 :))
  have K2 : (w5.setCell ⟨D, 16, none⟩ (.int .i64 3)).drew.setCells D 15 (List.replicate 1 (.int .i64 0)) = ((w5.setCell ⟨D, 16, none⟩ (.int .i64 3)).drew.setCell ⟨D, 15, none⟩ (.int .i64 0)) := rfl
  rw [K2] at K
  have HD7 := (heap_setCell_same _ D 15 _ t (.int .i64 0) HD6)
  have GB : w.grownBy (((w5.setCell ⟨D, 16, none⟩ (.int .i64 3)).setCell ⟨D, 15, none⟩ (.int .i64 0)).drew) (some D) := by
    refine ⟨b5.os, b5.tape, b5.output, by have := b5.size; simp; omega, fun k hk hne => ?_⟩
    have ne : k ≠ D := fun e => hne (by rw [e])
    show (((w5.setCell ⟨D, 16, none⟩ (.int .i64 3)).setCell ⟨D, 15, none⟩ (.int .i64 0))).heap[k]? = _
    rw [heap_setCell_other _ _ _ _ ne, heap_setCell_other _ _ _ _ ne]
    exact b5.block k hk
  have HW := Lib.hid (show (((w5.setCell ⟨D, 16, none⟩ (.int .i64 3)).setCell ⟨D, 15, none⟩ (.int .i64 0)).drew).heap[D]? = some (.cells #[.int .i64 h, .int .i64 n, .int .i64 ((upd q 2 ⟨x0, x1, x2, 0, 3⟩) 0).a, .int .i64 ((upd q 2 ⟨x0, x1, x2, 0, 3⟩) 0).b, .int .i64 ((upd q 2 ⟨x0, x1, x2, 0, 3⟩) 0).c, .int .i64 ((upd q 2 ⟨x0, x1, x2, 0, 3⟩) 0).d, .int .i64 ((upd q 2 ⟨x0, x1, x2, 0, 3⟩) 0).n, .int .i64 ((upd q 2 ⟨x0, x1, x2, 0, 3⟩) 1).a, .int .i64 ((upd q 2 ⟨x0, x1, x2, 0, 3⟩) 1).b, .int .i64 ((upd q 2 ⟨x0, x1, x2, 0, 3⟩) 1).c, .int .i64 ((upd q 2 ⟨x0, x1, x2, 0, 3⟩) 1).d, .int .i64 ((upd q 2 ⟨x0, x1, x2, 0, 3⟩) 1).n, .int .i64 ((upd q 2 ⟨x0, x1, x2, 0, 3⟩) 2).a, .int .i64 ((upd q 2 ⟨x0, x1, x2, 0, 3⟩) 2).b, .int .i64 ((upd q 2 ⟨x0, x1, x2, 0, 3⟩) 2).c, .int .i64 ((upd q 2 ⟨x0, x1, x2, 0, 3⟩) 2).d, .int .i64 ((upd q 2 ⟨x0, x1, x2, 0, 3⟩) 2).n, .int .i64 ((upd q 2 ⟨x0, x1, x2, 0, 3⟩) 3).a, .int .i64 ((upd q 2 ⟨x0, x1, x2, 0, 3⟩) 3).b, .int .i64 ((upd q 2 ⟨x0, x1, x2, 0, 3⟩) 3).c, .int .i64 ((upd q 2 ⟨x0, x1, x2, 0, 3⟩) 3).d, .int .i64 ((upd q 2 ⟨x0, x1, x2, 0, 3⟩) 3).n] t (0, 0)) by show (((w5.setCell ⟨D, 16, none⟩ (.int .i64 3)).setCell ⟨D, 15, none⟩ (.int .i64 0))).heap[D]? = _; have h7 := HD7; simpa [upd, HQ.out] using h7)
  have GBH := Lib.hid GB
  clear K2 T c0 c1 c2 c3 c4 HD6 HD7 GB HD5
  go_wp2
  go_region
  go_wp2
  go_ret
  exact ⟨rfl, HW.out, GBH.out⟩

set_option maxRecDepth 100000 in
set_option maxHeartbeats 4000000 in
theorem pop_3_1 (D : Nat) (h n : Int) (q : Nat → Pl) (x0 : Int) (w : World) (t : TypeId) (hq : q 3 = ⟨x0, 0, 0, 0, 1⟩) (hD : w.heap[D]? = some (.cells #[.int .i64 h, .int .i64 n, .int .i64 (q 0).a, .int .i64 (q 0).b, .int .i64 (q 0).c, .int .i64 (q 0).d, .int .i64 (q 0).n, .int .i64 (q 1).a, .int .i64 (q 1).b, .int .i64 (q 1).c, .int .i64 (q 1).d, .int .i64 (q 1).n, .int .i64 (q 2).a, .int .i64 (q 2).b, .int .i64 (q 2).c, .int .i64 (q 2).d, .int .i64 (q 2).n, .int .i64 (q 3).a, .int .i64 (q 3).b, .int .i64 (q 3).c, .int .i64 (q 3).d, .int .i64 (q 3).n] t (0, 0))) :
    Calls Try.prog 32 #[.pointer (some ⟨D, 17, none⟩)] w fun e w' => e = .returned (.int .i64 (topOf [x0])) ∧ w'.heap[D]? = some (.cells #[.int .i64 h, .int .i64 n, .int .i64 ((upd q 3 ⟨0, 0, 0, 0, 0⟩) 0).a, .int .i64 ((upd q 3 ⟨0, 0, 0, 0, 0⟩) 0).b, .int .i64 ((upd q 3 ⟨0, 0, 0, 0, 0⟩) 0).c, .int .i64 ((upd q 3 ⟨0, 0, 0, 0, 0⟩) 0).d, .int .i64 ((upd q 3 ⟨0, 0, 0, 0, 0⟩) 0).n, .int .i64 ((upd q 3 ⟨0, 0, 0, 0, 0⟩) 1).a, .int .i64 ((upd q 3 ⟨0, 0, 0, 0, 0⟩) 1).b, .int .i64 ((upd q 3 ⟨0, 0, 0, 0, 0⟩) 1).c, .int .i64 ((upd q 3 ⟨0, 0, 0, 0, 0⟩) 1).d, .int .i64 ((upd q 3 ⟨0, 0, 0, 0, 0⟩) 1).n, .int .i64 ((upd q 3 ⟨0, 0, 0, 0, 0⟩) 2).a, .int .i64 ((upd q 3 ⟨0, 0, 0, 0, 0⟩) 2).b, .int .i64 ((upd q 3 ⟨0, 0, 0, 0, 0⟩) 2).c, .int .i64 ((upd q 3 ⟨0, 0, 0, 0, 0⟩) 2).d, .int .i64 ((upd q 3 ⟨0, 0, 0, 0, 0⟩) 2).n, .int .i64 ((upd q 3 ⟨0, 0, 0, 0, 0⟩) 3).a, .int .i64 ((upd q 3 ⟨0, 0, 0, 0, 0⟩) 3).b, .int .i64 ((upd q 3 ⟨0, 0, 0, 0, 0⟩) 3).c, .int .i64 ((upd q 3 ⟨0, 0, 0, 0, 0⟩) 3).d, .int .i64 ((upd q 3 ⟨0, 0, 0, 0, 0⟩) 3).n] t (0, 0)) ∧ w.grownBy w' (some D) := by
  have lD := (Array.getElem?_eq_some_iff.1 hD).1
  have T := Lib.hid (show Calls Try.prog 31 #[.agg #[.int .i64 x0, .int .i64 0, .int .i64 0, .int .i64 0, .int .i64 1]] w _ from top_any [x0] (by simp) w)
  have HD := Lib.hid hD
  have HQ := Lib.hid hq
  have c0 : w.cell? ⟨D, 17, none⟩ = some (.int .i64 x0) := by have := cell_of_row w D 17 _ t _ hD; rw [hq] at this; exact this
  have c1 : w.cell? ⟨D, 18, none⟩ = some (.int .i64 0) := by have := cell_of_row w D 18 _ t _ hD; rw [hq] at this; exact this
  have c2 : w.cell? ⟨D, 19, none⟩ = some (.int .i64 0) := by have := cell_of_row w D 19 _ t _ hD; rw [hq] at this; exact this
  have c3 : w.cell? ⟨D, 20, none⟩ = some (.int .i64 0) := by have := cell_of_row w D 20 _ t _ hD; rw [hq] at this; exact this
  have c4 : w.cell? ⟨D, 21, none⟩ = some (.int .i64 1) := by have := cell_of_row w D 21 _ t _ hD; rw [hq] at this; exact this
  clear hq hD
  go_enter Try.func32, Try.ntmps32
  go_wp2_with fail
  refine T.out.mono ?_
  rintro e w5 ⟨rfl, b5⟩
  have HD5 := (b5.block D lD).trans HD.out
  have lD5 : D < w5.heap.size := by have := b5.size; omega
  have HD6 := heap_setCell_same _ D 21 _ t (.int .i64 0) HD5
  have d0 := (b5.cell (p := ⟨D, 17, none⟩) lD).trans c0
  have f0 := frozen_of_row w5 D 17 _ t HD5
  have d1 := (b5.cell (p := ⟨D, 18, none⟩) lD).trans c1
  have f1 := frozen_of_row w5 D 18 _ t HD5
  have d2 := (b5.cell (p := ⟨D, 19, none⟩) lD).trans c2
  have f2 := frozen_of_row w5 D 19 _ t HD5
  have d3 := (b5.cell (p := ⟨D, 20, none⟩) lD).trans c3
  have f3 := frozen_of_row w5 D 20 _ t HD5
  have d4 := (b5.cell (p := ⟨D, 21, none⟩) lD).trans c4
  have f4 := frozen_of_row w5 D 21 _ t HD5
  have K := clear_run (w5.setCell ⟨D, 21, none⟩ (.int .i64 0)).drew D 17 4 4 (by omega) (fun j hj => by
    match j, hj with
    | 0, _ => exact Option.isSome_iff_exists.2 ⟨_, (cell_of_row (w5.setCell ⟨D, 21, none⟩ (.int .i64 0)) D 17 _ t _ HD6 :)⟩
    | 1, _ => exact Option.isSome_iff_exists.2 ⟨_, (cell_of_row (w5.setCell ⟨D, 21, none⟩ (.int .i64 0)) D 18 _ t _ HD6 :)⟩
    | 2, _ => exact Option.isSome_iff_exists.2 ⟨_, (cell_of_row (w5.setCell ⟨D, 21, none⟩ (.int .i64 0)) D 19 _ t _ HD6 :)⟩
    | 3, _ => exact Option.isSome_iff_exists.2 ⟨_, (cell_of_row (w5.setCell ⟨D, 21, none⟩ (.int .i64 0)) D 20 _ t _ HD6 :)⟩) (fun j hj => by
    match j, hj with
    | 0, _ => exact (frozen_of_row (w5.setCell ⟨D, 21, none⟩ (.int .i64 0)) D 17 _ t HD6 :)
    | 1, _ => exact (frozen_of_row (w5.setCell ⟨D, 21, none⟩ (.int .i64 0)) D 18 _ t HD6 :)
    | 2, _ => exact (frozen_of_row (w5.setCell ⟨D, 21, none⟩ (.int .i64 0)) D 19 _ t HD6 :)
    | 3, _ => exact (frozen_of_row (w5.setCell ⟨D, 21, none⟩ (.int .i64 0)) D 20 _ t HD6 :))
  have K2 : (w5.setCell ⟨D, 21, none⟩ (.int .i64 0)).drew.setCells D 17 (List.replicate 4 (.int .i64 0)) = (((((w5.setCell ⟨D, 21, none⟩ (.int .i64 0)).drew.setCell ⟨D, 17, none⟩ (.int .i64 0)).setCell ⟨D, 18, none⟩ (.int .i64 0)).setCell ⟨D, 19, none⟩ (.int .i64 0)).setCell ⟨D, 20, none⟩ (.int .i64 0)) := rfl
  rw [K2] at K
  have HD7 := (heap_setCell_same _ D 20 _ t (.int .i64 0) (heap_setCell_same _ D 19 _ t (.int .i64 0) (heap_setCell_same _ D 18 _ t (.int .i64 0) (heap_setCell_same _ D 17 _ t (.int .i64 0) HD6))))
  have GB : w.grownBy ((((((w5.setCell ⟨D, 21, none⟩ (.int .i64 0)).setCell ⟨D, 17, none⟩ (.int .i64 0)).setCell ⟨D, 18, none⟩ (.int .i64 0)).setCell ⟨D, 19, none⟩ (.int .i64 0)).setCell ⟨D, 20, none⟩ (.int .i64 0)).drew) (some D) := by
    refine ⟨b5.os, b5.tape, b5.output, by have := b5.size; simp; omega, fun k hk hne => ?_⟩
    have ne : k ≠ D := fun e => hne (by rw [e])
    show ((((((w5.setCell ⟨D, 21, none⟩ (.int .i64 0)).setCell ⟨D, 17, none⟩ (.int .i64 0)).setCell ⟨D, 18, none⟩ (.int .i64 0)).setCell ⟨D, 19, none⟩ (.int .i64 0)).setCell ⟨D, 20, none⟩ (.int .i64 0))).heap[k]? = _
    rw [heap_setCell_other _ _ _ _ ne, heap_setCell_other _ _ _ _ ne, heap_setCell_other _ _ _ _ ne, heap_setCell_other _ _ _ _ ne, heap_setCell_other _ _ _ _ ne]
    exact b5.block k hk
  have HW := Lib.hid (show ((((((w5.setCell ⟨D, 21, none⟩ (.int .i64 0)).setCell ⟨D, 17, none⟩ (.int .i64 0)).setCell ⟨D, 18, none⟩ (.int .i64 0)).setCell ⟨D, 19, none⟩ (.int .i64 0)).setCell ⟨D, 20, none⟩ (.int .i64 0)).drew).heap[D]? = some (.cells #[.int .i64 h, .int .i64 n, .int .i64 ((upd q 3 ⟨0, 0, 0, 0, 0⟩) 0).a, .int .i64 ((upd q 3 ⟨0, 0, 0, 0, 0⟩) 0).b, .int .i64 ((upd q 3 ⟨0, 0, 0, 0, 0⟩) 0).c, .int .i64 ((upd q 3 ⟨0, 0, 0, 0, 0⟩) 0).d, .int .i64 ((upd q 3 ⟨0, 0, 0, 0, 0⟩) 0).n, .int .i64 ((upd q 3 ⟨0, 0, 0, 0, 0⟩) 1).a, .int .i64 ((upd q 3 ⟨0, 0, 0, 0, 0⟩) 1).b, .int .i64 ((upd q 3 ⟨0, 0, 0, 0, 0⟩) 1).c, .int .i64 ((upd q 3 ⟨0, 0, 0, 0, 0⟩) 1).d, .int .i64 ((upd q 3 ⟨0, 0, 0, 0, 0⟩) 1).n, .int .i64 ((upd q 3 ⟨0, 0, 0, 0, 0⟩) 2).a, .int .i64 ((upd q 3 ⟨0, 0, 0, 0, 0⟩) 2).b, .int .i64 ((upd q 3 ⟨0, 0, 0, 0, 0⟩) 2).c, .int .i64 ((upd q 3 ⟨0, 0, 0, 0, 0⟩) 2).d, .int .i64 ((upd q 3 ⟨0, 0, 0, 0, 0⟩) 2).n, .int .i64 ((upd q 3 ⟨0, 0, 0, 0, 0⟩) 3).a, .int .i64 ((upd q 3 ⟨0, 0, 0, 0, 0⟩) 3).b, .int .i64 ((upd q 3 ⟨0, 0, 0, 0, 0⟩) 3).c, .int .i64 ((upd q 3 ⟨0, 0, 0, 0, 0⟩) 3).d, .int .i64 ((upd q 3 ⟨0, 0, 0, 0, 0⟩) 3).n] t (0, 0)) by show ((((((w5.setCell ⟨D, 21, none⟩ (.int .i64 0)).setCell ⟨D, 17, none⟩ (.int .i64 0)).setCell ⟨D, 18, none⟩ (.int .i64 0)).setCell ⟨D, 19, none⟩ (.int .i64 0)).setCell ⟨D, 20, none⟩ (.int .i64 0))).heap[D]? = _; have h7 := HD7; simpa [upd, HQ.out] using h7)
  have GBH := Lib.hid GB
  clear K2 T c0 c1 c2 c3 c4 HD6 HD7 GB HD5
  go_wp2
  go_region
  go_wp2
  go_ret
  exact ⟨rfl, HW.out, GBH.out⟩

set_option maxRecDepth 100000 in
set_option maxHeartbeats 4000000 in
theorem pop_3_2 (D : Nat) (h n : Int) (q : Nat → Pl) (x0 x1 : Int) (w : World) (t : TypeId) (hq : q 3 = ⟨x0, x1, 0, 0, 2⟩) (hD : w.heap[D]? = some (.cells #[.int .i64 h, .int .i64 n, .int .i64 (q 0).a, .int .i64 (q 0).b, .int .i64 (q 0).c, .int .i64 (q 0).d, .int .i64 (q 0).n, .int .i64 (q 1).a, .int .i64 (q 1).b, .int .i64 (q 1).c, .int .i64 (q 1).d, .int .i64 (q 1).n, .int .i64 (q 2).a, .int .i64 (q 2).b, .int .i64 (q 2).c, .int .i64 (q 2).d, .int .i64 (q 2).n, .int .i64 (q 3).a, .int .i64 (q 3).b, .int .i64 (q 3).c, .int .i64 (q 3).d, .int .i64 (q 3).n] t (0, 0))) :
    Calls Try.prog 32 #[.pointer (some ⟨D, 17, none⟩)] w fun e w' => e = .returned (.int .i64 (topOf [x0, x1])) ∧ w'.heap[D]? = some (.cells #[.int .i64 h, .int .i64 n, .int .i64 ((upd q 3 ⟨x0, 0, 0, 0, 1⟩) 0).a, .int .i64 ((upd q 3 ⟨x0, 0, 0, 0, 1⟩) 0).b, .int .i64 ((upd q 3 ⟨x0, 0, 0, 0, 1⟩) 0).c, .int .i64 ((upd q 3 ⟨x0, 0, 0, 0, 1⟩) 0).d, .int .i64 ((upd q 3 ⟨x0, 0, 0, 0, 1⟩) 0).n, .int .i64 ((upd q 3 ⟨x0, 0, 0, 0, 1⟩) 1).a, .int .i64 ((upd q 3 ⟨x0, 0, 0, 0, 1⟩) 1).b, .int .i64 ((upd q 3 ⟨x0, 0, 0, 0, 1⟩) 1).c, .int .i64 ((upd q 3 ⟨x0, 0, 0, 0, 1⟩) 1).d, .int .i64 ((upd q 3 ⟨x0, 0, 0, 0, 1⟩) 1).n, .int .i64 ((upd q 3 ⟨x0, 0, 0, 0, 1⟩) 2).a, .int .i64 ((upd q 3 ⟨x0, 0, 0, 0, 1⟩) 2).b, .int .i64 ((upd q 3 ⟨x0, 0, 0, 0, 1⟩) 2).c, .int .i64 ((upd q 3 ⟨x0, 0, 0, 0, 1⟩) 2).d, .int .i64 ((upd q 3 ⟨x0, 0, 0, 0, 1⟩) 2).n, .int .i64 ((upd q 3 ⟨x0, 0, 0, 0, 1⟩) 3).a, .int .i64 ((upd q 3 ⟨x0, 0, 0, 0, 1⟩) 3).b, .int .i64 ((upd q 3 ⟨x0, 0, 0, 0, 1⟩) 3).c, .int .i64 ((upd q 3 ⟨x0, 0, 0, 0, 1⟩) 3).d, .int .i64 ((upd q 3 ⟨x0, 0, 0, 0, 1⟩) 3).n] t (0, 0)) ∧ w.grownBy w' (some D) := by
  have lD := (Array.getElem?_eq_some_iff.1 hD).1
  have T := Lib.hid (show Calls Try.prog 31 #[.agg #[.int .i64 x0, .int .i64 x1, .int .i64 0, .int .i64 0, .int .i64 2]] w _ from top_any [x0, x1] (by simp) w)
  have HD := Lib.hid hD
  have HQ := Lib.hid hq
  have c0 : w.cell? ⟨D, 17, none⟩ = some (.int .i64 x0) := by have := cell_of_row w D 17 _ t _ hD; rw [hq] at this; exact this
  have c1 : w.cell? ⟨D, 18, none⟩ = some (.int .i64 x1) := by have := cell_of_row w D 18 _ t _ hD; rw [hq] at this; exact this
  have c2 : w.cell? ⟨D, 19, none⟩ = some (.int .i64 0) := by have := cell_of_row w D 19 _ t _ hD; rw [hq] at this; exact this
  have c3 : w.cell? ⟨D, 20, none⟩ = some (.int .i64 0) := by have := cell_of_row w D 20 _ t _ hD; rw [hq] at this; exact this
  have c4 : w.cell? ⟨D, 21, none⟩ = some (.int .i64 2) := by have := cell_of_row w D 21 _ t _ hD; rw [hq] at this; exact this
  clear hq hD
  go_enter Try.func32, Try.ntmps32
  go_wp2_with fail
  refine T.out.mono ?_
  rintro e w5 ⟨rfl, b5⟩
  have HD5 := (b5.block D lD).trans HD.out
  have lD5 : D < w5.heap.size := by have := b5.size; omega
  have HD6 := heap_setCell_same _ D 21 _ t (.int .i64 1) HD5
  have d0 := (b5.cell (p := ⟨D, 17, none⟩) lD).trans c0
  have f0 := frozen_of_row w5 D 17 _ t HD5
  have d1 := (b5.cell (p := ⟨D, 18, none⟩) lD).trans c1
  have f1 := frozen_of_row w5 D 18 _ t HD5
  have d2 := (b5.cell (p := ⟨D, 19, none⟩) lD).trans c2
  have f2 := frozen_of_row w5 D 19 _ t HD5
  have d3 := (b5.cell (p := ⟨D, 20, none⟩) lD).trans c3
  have f3 := frozen_of_row w5 D 20 _ t HD5
  have d4 := (b5.cell (p := ⟨D, 21, none⟩) lD).trans c4
  have f4 := frozen_of_row w5 D 21 _ t HD5
  have K := clear_run (w5.setCell ⟨D, 21, none⟩ (.int .i64 1)).drew D 18 3 3 (by omega) (fun j hj => by
    match j, hj with
    | 0, _ => exact Option.isSome_iff_exists.2 ⟨_, (cell_of_row (w5.setCell ⟨D, 21, none⟩ (.int .i64 1)) D 18 _ t _ HD6 :)⟩
    | 1, _ => exact Option.isSome_iff_exists.2 ⟨_, (cell_of_row (w5.setCell ⟨D, 21, none⟩ (.int .i64 1)) D 19 _ t _ HD6 :)⟩
    | 2, _ => exact Option.isSome_iff_exists.2 ⟨_, (cell_of_row (w5.setCell ⟨D, 21, none⟩ (.int .i64 1)) D 20 _ t _ HD6 :)⟩) (fun j hj => by
    match j, hj with
    | 0, _ => exact (frozen_of_row (w5.setCell ⟨D, 21, none⟩ (.int .i64 1)) D 18 _ t HD6 :)
    | 1, _ => exact (frozen_of_row (w5.setCell ⟨D, 21, none⟩ (.int .i64 1)) D 19 _ t HD6 :)
    | 2, _ => exact (frozen_of_row (w5.setCell ⟨D, 21, none⟩ (.int .i64 1)) D 20 _ t HD6 :))
  have K2 : (w5.setCell ⟨D, 21, none⟩ (.int .i64 1)).drew.setCells D 18 (List.replicate 3 (.int .i64 0)) = ((((w5.setCell ⟨D, 21, none⟩ (.int .i64 1)).drew.setCell ⟨D, 18, none⟩ (.int .i64 0)).setCell ⟨D, 19, none⟩ (.int .i64 0)).setCell ⟨D, 20, none⟩ (.int .i64 0)) := rfl
  rw [K2] at K
  have HD7 := (heap_setCell_same _ D 20 _ t (.int .i64 0) (heap_setCell_same _ D 19 _ t (.int .i64 0) (heap_setCell_same _ D 18 _ t (.int .i64 0) HD6)))
  have GB : w.grownBy (((((w5.setCell ⟨D, 21, none⟩ (.int .i64 1)).setCell ⟨D, 18, none⟩ (.int .i64 0)).setCell ⟨D, 19, none⟩ (.int .i64 0)).setCell ⟨D, 20, none⟩ (.int .i64 0)).drew) (some D) := by
    refine ⟨b5.os, b5.tape, b5.output, by have := b5.size; simp; omega, fun k hk hne => ?_⟩
    have ne : k ≠ D := fun e => hne (by rw [e])
    show (((((w5.setCell ⟨D, 21, none⟩ (.int .i64 1)).setCell ⟨D, 18, none⟩ (.int .i64 0)).setCell ⟨D, 19, none⟩ (.int .i64 0)).setCell ⟨D, 20, none⟩ (.int .i64 0))).heap[k]? = _
    rw [heap_setCell_other _ _ _ _ ne, heap_setCell_other _ _ _ _ ne, heap_setCell_other _ _ _ _ ne, heap_setCell_other _ _ _ _ ne]
    exact b5.block k hk
  have HW := Lib.hid (show (((((w5.setCell ⟨D, 21, none⟩ (.int .i64 1)).setCell ⟨D, 18, none⟩ (.int .i64 0)).setCell ⟨D, 19, none⟩ (.int .i64 0)).setCell ⟨D, 20, none⟩ (.int .i64 0)).drew).heap[D]? = some (.cells #[.int .i64 h, .int .i64 n, .int .i64 ((upd q 3 ⟨x0, 0, 0, 0, 1⟩) 0).a, .int .i64 ((upd q 3 ⟨x0, 0, 0, 0, 1⟩) 0).b, .int .i64 ((upd q 3 ⟨x0, 0, 0, 0, 1⟩) 0).c, .int .i64 ((upd q 3 ⟨x0, 0, 0, 0, 1⟩) 0).d, .int .i64 ((upd q 3 ⟨x0, 0, 0, 0, 1⟩) 0).n, .int .i64 ((upd q 3 ⟨x0, 0, 0, 0, 1⟩) 1).a, .int .i64 ((upd q 3 ⟨x0, 0, 0, 0, 1⟩) 1).b, .int .i64 ((upd q 3 ⟨x0, 0, 0, 0, 1⟩) 1).c, .int .i64 ((upd q 3 ⟨x0, 0, 0, 0, 1⟩) 1).d, .int .i64 ((upd q 3 ⟨x0, 0, 0, 0, 1⟩) 1).n, .int .i64 ((upd q 3 ⟨x0, 0, 0, 0, 1⟩) 2).a, .int .i64 ((upd q 3 ⟨x0, 0, 0, 0, 1⟩) 2).b, .int .i64 ((upd q 3 ⟨x0, 0, 0, 0, 1⟩) 2).c, .int .i64 ((upd q 3 ⟨x0, 0, 0, 0, 1⟩) 2).d, .int .i64 ((upd q 3 ⟨x0, 0, 0, 0, 1⟩) 2).n, .int .i64 ((upd q 3 ⟨x0, 0, 0, 0, 1⟩) 3).a, .int .i64 ((upd q 3 ⟨x0, 0, 0, 0, 1⟩) 3).b, .int .i64 ((upd q 3 ⟨x0, 0, 0, 0, 1⟩) 3).c, .int .i64 ((upd q 3 ⟨x0, 0, 0, 0, 1⟩) 3).d, .int .i64 ((upd q 3 ⟨x0, 0, 0, 0, 1⟩) 3).n] t (0, 0)) by show (((((w5.setCell ⟨D, 21, none⟩ (.int .i64 1)).setCell ⟨D, 18, none⟩ (.int .i64 0)).setCell ⟨D, 19, none⟩ (.int .i64 0)).setCell ⟨D, 20, none⟩ (.int .i64 0))).heap[D]? = _; have h7 := HD7; simpa [upd, HQ.out] using h7)
  have GBH := Lib.hid GB
  clear K2 T c0 c1 c2 c3 c4 HD6 HD7 GB HD5
  go_wp2
  go_region
  go_wp2
  go_ret
  exact ⟨rfl, HW.out, GBH.out⟩

set_option maxRecDepth 100000 in
set_option maxHeartbeats 4000000 in
theorem pop_3_3 (D : Nat) (h n : Int) (q : Nat → Pl) (x0 x1 x2 : Int) (w : World) (t : TypeId) (hq : q 3 = ⟨x0, x1, x2, 0, 3⟩) (hD : w.heap[D]? = some (.cells #[.int .i64 h, .int .i64 n, .int .i64 (q 0).a, .int .i64 (q 0).b, .int .i64 (q 0).c, .int .i64 (q 0).d, .int .i64 (q 0).n, .int .i64 (q 1).a, .int .i64 (q 1).b, .int .i64 (q 1).c, .int .i64 (q 1).d, .int .i64 (q 1).n, .int .i64 (q 2).a, .int .i64 (q 2).b, .int .i64 (q 2).c, .int .i64 (q 2).d, .int .i64 (q 2).n, .int .i64 (q 3).a, .int .i64 (q 3).b, .int .i64 (q 3).c, .int .i64 (q 3).d, .int .i64 (q 3).n] t (0, 0))) :
    Calls Try.prog 32 #[.pointer (some ⟨D, 17, none⟩)] w fun e w' => e = .returned (.int .i64 (topOf [x0, x1, x2])) ∧ w'.heap[D]? = some (.cells #[.int .i64 h, .int .i64 n, .int .i64 ((upd q 3 ⟨x0, x1, 0, 0, 2⟩) 0).a, .int .i64 ((upd q 3 ⟨x0, x1, 0, 0, 2⟩) 0).b, .int .i64 ((upd q 3 ⟨x0, x1, 0, 0, 2⟩) 0).c, .int .i64 ((upd q 3 ⟨x0, x1, 0, 0, 2⟩) 0).d, .int .i64 ((upd q 3 ⟨x0, x1, 0, 0, 2⟩) 0).n, .int .i64 ((upd q 3 ⟨x0, x1, 0, 0, 2⟩) 1).a, .int .i64 ((upd q 3 ⟨x0, x1, 0, 0, 2⟩) 1).b, .int .i64 ((upd q 3 ⟨x0, x1, 0, 0, 2⟩) 1).c, .int .i64 ((upd q 3 ⟨x0, x1, 0, 0, 2⟩) 1).d, .int .i64 ((upd q 3 ⟨x0, x1, 0, 0, 2⟩) 1).n, .int .i64 ((upd q 3 ⟨x0, x1, 0, 0, 2⟩) 2).a, .int .i64 ((upd q 3 ⟨x0, x1, 0, 0, 2⟩) 2).b, .int .i64 ((upd q 3 ⟨x0, x1, 0, 0, 2⟩) 2).c, .int .i64 ((upd q 3 ⟨x0, x1, 0, 0, 2⟩) 2).d, .int .i64 ((upd q 3 ⟨x0, x1, 0, 0, 2⟩) 2).n, .int .i64 ((upd q 3 ⟨x0, x1, 0, 0, 2⟩) 3).a, .int .i64 ((upd q 3 ⟨x0, x1, 0, 0, 2⟩) 3).b, .int .i64 ((upd q 3 ⟨x0, x1, 0, 0, 2⟩) 3).c, .int .i64 ((upd q 3 ⟨x0, x1, 0, 0, 2⟩) 3).d, .int .i64 ((upd q 3 ⟨x0, x1, 0, 0, 2⟩) 3).n] t (0, 0)) ∧ w.grownBy w' (some D) := by
  have lD := (Array.getElem?_eq_some_iff.1 hD).1
  have T := Lib.hid (show Calls Try.prog 31 #[.agg #[.int .i64 x0, .int .i64 x1, .int .i64 x2, .int .i64 0, .int .i64 3]] w _ from top_any [x0, x1, x2] (by simp) w)
  have HD := Lib.hid hD
  have HQ := Lib.hid hq
  have c0 : w.cell? ⟨D, 17, none⟩ = some (.int .i64 x0) := by have := cell_of_row w D 17 _ t _ hD; rw [hq] at this; exact this
  have c1 : w.cell? ⟨D, 18, none⟩ = some (.int .i64 x1) := by have := cell_of_row w D 18 _ t _ hD; rw [hq] at this; exact this
  have c2 : w.cell? ⟨D, 19, none⟩ = some (.int .i64 x2) := by have := cell_of_row w D 19 _ t _ hD; rw [hq] at this; exact this
  have c3 : w.cell? ⟨D, 20, none⟩ = some (.int .i64 0) := by have := cell_of_row w D 20 _ t _ hD; rw [hq] at this; exact this
  have c4 : w.cell? ⟨D, 21, none⟩ = some (.int .i64 3) := by have := cell_of_row w D 21 _ t _ hD; rw [hq] at this; exact this
  clear hq hD
  go_enter Try.func32, Try.ntmps32
  go_wp2_with fail
  refine T.out.mono ?_
  rintro e w5 ⟨rfl, b5⟩
  have HD5 := (b5.block D lD).trans HD.out
  have lD5 : D < w5.heap.size := by have := b5.size; omega
  have HD6 := heap_setCell_same _ D 21 _ t (.int .i64 2) HD5
  have d0 := (b5.cell (p := ⟨D, 17, none⟩) lD).trans c0
  have f0 := frozen_of_row w5 D 17 _ t HD5
  have d1 := (b5.cell (p := ⟨D, 18, none⟩) lD).trans c1
  have f1 := frozen_of_row w5 D 18 _ t HD5
  have d2 := (b5.cell (p := ⟨D, 19, none⟩) lD).trans c2
  have f2 := frozen_of_row w5 D 19 _ t HD5
  have d3 := (b5.cell (p := ⟨D, 20, none⟩) lD).trans c3
  have f3 := frozen_of_row w5 D 20 _ t HD5
  have d4 := (b5.cell (p := ⟨D, 21, none⟩) lD).trans c4
  have f4 := frozen_of_row w5 D 21 _ t HD5
  have K := clear_run (w5.setCell ⟨D, 21, none⟩ (.int .i64 2)).drew D 19 2 2 (by omega) (fun j hj => by
    match j, hj with
    | 0, _ => exact Option.isSome_iff_exists.2 ⟨_, (cell_of_row (w5.setCell ⟨D, 21, none⟩ (.int .i64 2)) D 19 _ t _ HD6 :)⟩
    | 1, _ => exact Option.isSome_iff_exists.2 ⟨_, (cell_of_row (w5.setCell ⟨D, 21, none⟩ (.int .i64 2)) D 20 _ t _ HD6 :)⟩) (fun j hj => by
    match j, hj with
    | 0, _ => exact (frozen_of_row (w5.setCell ⟨D, 21, none⟩ (.int .i64 2)) D 19 _ t HD6 :)
    | 1, _ => exact (frozen_of_row (w5.setCell ⟨D, 21, none⟩ (.int .i64 2)) D 20 _ t HD6 :))
  have K2 : (w5.setCell ⟨D, 21, none⟩ (.int .i64 2)).drew.setCells D 19 (List.replicate 2 (.int .i64 0)) = (((w5.setCell ⟨D, 21, none⟩ (.int .i64 2)).drew.setCell ⟨D, 19, none⟩ (.int .i64 0)).setCell ⟨D, 20, none⟩ (.int .i64 0)) := rfl
  rw [K2] at K
  have HD7 := (heap_setCell_same _ D 20 _ t (.int .i64 0) (heap_setCell_same _ D 19 _ t (.int .i64 0) HD6))
  have GB : w.grownBy ((((w5.setCell ⟨D, 21, none⟩ (.int .i64 2)).setCell ⟨D, 19, none⟩ (.int .i64 0)).setCell ⟨D, 20, none⟩ (.int .i64 0)).drew) (some D) := by
    refine ⟨b5.os, b5.tape, b5.output, by have := b5.size; simp; omega, fun k hk hne => ?_⟩
    have ne : k ≠ D := fun e => hne (by rw [e])
    show ((((w5.setCell ⟨D, 21, none⟩ (.int .i64 2)).setCell ⟨D, 19, none⟩ (.int .i64 0)).setCell ⟨D, 20, none⟩ (.int .i64 0))).heap[k]? = _
    rw [heap_setCell_other _ _ _ _ ne, heap_setCell_other _ _ _ _ ne, heap_setCell_other _ _ _ _ ne]
    exact b5.block k hk
  have HW := Lib.hid (show ((((w5.setCell ⟨D, 21, none⟩ (.int .i64 2)).setCell ⟨D, 19, none⟩ (.int .i64 0)).setCell ⟨D, 20, none⟩ (.int .i64 0)).drew).heap[D]? = some (.cells #[.int .i64 h, .int .i64 n, .int .i64 ((upd q 3 ⟨x0, x1, 0, 0, 2⟩) 0).a, .int .i64 ((upd q 3 ⟨x0, x1, 0, 0, 2⟩) 0).b, .int .i64 ((upd q 3 ⟨x0, x1, 0, 0, 2⟩) 0).c, .int .i64 ((upd q 3 ⟨x0, x1, 0, 0, 2⟩) 0).d, .int .i64 ((upd q 3 ⟨x0, x1, 0, 0, 2⟩) 0).n, .int .i64 ((upd q 3 ⟨x0, x1, 0, 0, 2⟩) 1).a, .int .i64 ((upd q 3 ⟨x0, x1, 0, 0, 2⟩) 1).b, .int .i64 ((upd q 3 ⟨x0, x1, 0, 0, 2⟩) 1).c, .int .i64 ((upd q 3 ⟨x0, x1, 0, 0, 2⟩) 1).d, .int .i64 ((upd q 3 ⟨x0, x1, 0, 0, 2⟩) 1).n, .int .i64 ((upd q 3 ⟨x0, x1, 0, 0, 2⟩) 2).a, .int .i64 ((upd q 3 ⟨x0, x1, 0, 0, 2⟩) 2).b, .int .i64 ((upd q 3 ⟨x0, x1, 0, 0, 2⟩) 2).c, .int .i64 ((upd q 3 ⟨x0, x1, 0, 0, 2⟩) 2).d, .int .i64 ((upd q 3 ⟨x0, x1, 0, 0, 2⟩) 2).n, .int .i64 ((upd q 3 ⟨x0, x1, 0, 0, 2⟩) 3).a, .int .i64 ((upd q 3 ⟨x0, x1, 0, 0, 2⟩) 3).b, .int .i64 ((upd q 3 ⟨x0, x1, 0, 0, 2⟩) 3).c, .int .i64 ((upd q 3 ⟨x0, x1, 0, 0, 2⟩) 3).d, .int .i64 ((upd q 3 ⟨x0, x1, 0, 0, 2⟩) 3).n] t (0, 0)) by show ((((w5.setCell ⟨D, 21, none⟩ (.int .i64 2)).setCell ⟨D, 19, none⟩ (.int .i64 0)).setCell ⟨D, 20, none⟩ (.int .i64 0))).heap[D]? = _; have h7 := HD7; simpa [upd, HQ.out] using h7)
  have GBH := Lib.hid GB
  clear K2 T c0 c1 c2 c3 c4 HD6 HD7 GB HD5
  go_wp2
  go_region
  go_wp2
  go_ret
  exact ⟨rfl, HW.out, GBH.out⟩

set_option maxRecDepth 100000 in
set_option maxHeartbeats 4000000 in
theorem pop_3_4 (D : Nat) (h n : Int) (q : Nat → Pl) (x0 x1 x2 x3 : Int) (w : World) (t : TypeId) (hq : q 3 = ⟨x0, x1, x2, x3, 4⟩) (hD : w.heap[D]? = some (.cells #[.int .i64 h, .int .i64 n, .int .i64 (q 0).a, .int .i64 (q 0).b, .int .i64 (q 0).c, .int .i64 (q 0).d, .int .i64 (q 0).n, .int .i64 (q 1).a, .int .i64 (q 1).b, .int .i64 (q 1).c, .int .i64 (q 1).d, .int .i64 (q 1).n, .int .i64 (q 2).a, .int .i64 (q 2).b, .int .i64 (q 2).c, .int .i64 (q 2).d, .int .i64 (q 2).n, .int .i64 (q 3).a, .int .i64 (q 3).b, .int .i64 (q 3).c, .int .i64 (q 3).d, .int .i64 (q 3).n] t (0, 0))) :
    Calls Try.prog 32 #[.pointer (some ⟨D, 17, none⟩)] w fun e w' => e = .returned (.int .i64 (topOf [x0, x1, x2, x3])) ∧ w'.heap[D]? = some (.cells #[.int .i64 h, .int .i64 n, .int .i64 ((upd q 3 ⟨x0, x1, x2, 0, 3⟩) 0).a, .int .i64 ((upd q 3 ⟨x0, x1, x2, 0, 3⟩) 0).b, .int .i64 ((upd q 3 ⟨x0, x1, x2, 0, 3⟩) 0).c, .int .i64 ((upd q 3 ⟨x0, x1, x2, 0, 3⟩) 0).d, .int .i64 ((upd q 3 ⟨x0, x1, x2, 0, 3⟩) 0).n, .int .i64 ((upd q 3 ⟨x0, x1, x2, 0, 3⟩) 1).a, .int .i64 ((upd q 3 ⟨x0, x1, x2, 0, 3⟩) 1).b, .int .i64 ((upd q 3 ⟨x0, x1, x2, 0, 3⟩) 1).c, .int .i64 ((upd q 3 ⟨x0, x1, x2, 0, 3⟩) 1).d, .int .i64 ((upd q 3 ⟨x0, x1, x2, 0, 3⟩) 1).n, .int .i64 ((upd q 3 ⟨x0, x1, x2, 0, 3⟩) 2).a, .int .i64 ((upd q 3 ⟨x0, x1, x2, 0, 3⟩) 2).b, .int .i64 ((upd q 3 ⟨x0, x1, x2, 0, 3⟩) 2).c, .int .i64 ((upd q 3 ⟨x0, x1, x2, 0, 3⟩) 2).d, .int .i64 ((upd q 3 ⟨x0, x1, x2, 0, 3⟩) 2).n, .int .i64 ((upd q 3 ⟨x0, x1, x2, 0, 3⟩) 3).a, .int .i64 ((upd q 3 ⟨x0, x1, x2, 0, 3⟩) 3).b, .int .i64 ((upd q 3 ⟨x0, x1, x2, 0, 3⟩) 3).c, .int .i64 ((upd q 3 ⟨x0, x1, x2, 0, 3⟩) 3).d, .int .i64 ((upd q 3 ⟨x0, x1, x2, 0, 3⟩) 3).n] t (0, 0)) ∧ w.grownBy w' (some D) := by
  have lD := (Array.getElem?_eq_some_iff.1 hD).1
  have T := Lib.hid (show Calls Try.prog 31 #[.agg #[.int .i64 x0, .int .i64 x1, .int .i64 x2, .int .i64 x3, .int .i64 4]] w _ from top_any [x0, x1, x2, x3] (by simp) w)
  have HD := Lib.hid hD
  have HQ := Lib.hid hq
  have c0 : w.cell? ⟨D, 17, none⟩ = some (.int .i64 x0) := by have := cell_of_row w D 17 _ t _ hD; rw [hq] at this; exact this
  have c1 : w.cell? ⟨D, 18, none⟩ = some (.int .i64 x1) := by have := cell_of_row w D 18 _ t _ hD; rw [hq] at this; exact this
  have c2 : w.cell? ⟨D, 19, none⟩ = some (.int .i64 x2) := by have := cell_of_row w D 19 _ t _ hD; rw [hq] at this; exact this
  have c3 : w.cell? ⟨D, 20, none⟩ = some (.int .i64 x3) := by have := cell_of_row w D 20 _ t _ hD; rw [hq] at this; exact this
  have c4 : w.cell? ⟨D, 21, none⟩ = some (.int .i64 4) := by have := cell_of_row w D 21 _ t _ hD; rw [hq] at this; exact this
  clear hq hD
  go_enter Try.func32, Try.ntmps32
  go_wp2_with fail
  refine T.out.mono ?_
  rintro e w5 ⟨rfl, b5⟩
  have HD5 := (b5.block D lD).trans HD.out
  have lD5 : D < w5.heap.size := by have := b5.size; omega
  have HD6 := heap_setCell_same _ D 21 _ t (.int .i64 3) HD5
  have d0 := (b5.cell (p := ⟨D, 17, none⟩) lD).trans c0
  have f0 := frozen_of_row w5 D 17 _ t HD5
  have d1 := (b5.cell (p := ⟨D, 18, none⟩) lD).trans c1
  have f1 := frozen_of_row w5 D 18 _ t HD5
  have d2 := (b5.cell (p := ⟨D, 19, none⟩) lD).trans c2
  have f2 := frozen_of_row w5 D 19 _ t HD5
  have d3 := (b5.cell (p := ⟨D, 20, none⟩) lD).trans c3
  have f3 := frozen_of_row w5 D 20 _ t HD5
  have d4 := (b5.cell (p := ⟨D, 21, none⟩) lD).trans c4
  have f4 := frozen_of_row w5 D 21 _ t HD5
  have K := clear_run (w5.setCell ⟨D, 21, none⟩ (.int .i64 3)).drew D 20 1 1 (by omega) (fun j hj => by
    match j, hj with
    | 0, _ => exact Option.isSome_iff_exists.2 ⟨_, (cell_of_row (w5.setCell ⟨D, 21, none⟩ (.int .i64 3)) D 20 _ t _ HD6 :)⟩) (fun j hj => by
    match j, hj with
    | 0, _ => exact (frozen_of_row (w5.setCell ⟨D, 21, none⟩ (.int .i64 3)) D 20 _ t HD6 :))
  have K2 : (w5.setCell ⟨D, 21, none⟩ (.int .i64 3)).drew.setCells D 20 (List.replicate 1 (.int .i64 0)) = ((w5.setCell ⟨D, 21, none⟩ (.int .i64 3)).drew.setCell ⟨D, 20, none⟩ (.int .i64 0)) := rfl
  rw [K2] at K
  have HD7 := (heap_setCell_same _ D 20 _ t (.int .i64 0) HD6)
  have GB : w.grownBy (((w5.setCell ⟨D, 21, none⟩ (.int .i64 3)).setCell ⟨D, 20, none⟩ (.int .i64 0)).drew) (some D) := by
    refine ⟨b5.os, b5.tape, b5.output, by have := b5.size; simp; omega, fun k hk hne => ?_⟩
    have ne : k ≠ D := fun e => hne (by rw [e])
    show (((w5.setCell ⟨D, 21, none⟩ (.int .i64 3)).setCell ⟨D, 20, none⟩ (.int .i64 0))).heap[k]? = _
    rw [heap_setCell_other _ _ _ _ ne, heap_setCell_other _ _ _ _ ne]
    exact b5.block k hk
  have HW := Lib.hid (show (((w5.setCell ⟨D, 21, none⟩ (.int .i64 3)).setCell ⟨D, 20, none⟩ (.int .i64 0)).drew).heap[D]? = some (.cells #[.int .i64 h, .int .i64 n, .int .i64 ((upd q 3 ⟨x0, x1, x2, 0, 3⟩) 0).a, .int .i64 ((upd q 3 ⟨x0, x1, x2, 0, 3⟩) 0).b, .int .i64 ((upd q 3 ⟨x0, x1, x2, 0, 3⟩) 0).c, .int .i64 ((upd q 3 ⟨x0, x1, x2, 0, 3⟩) 0).d, .int .i64 ((upd q 3 ⟨x0, x1, x2, 0, 3⟩) 0).n, .int .i64 ((upd q 3 ⟨x0, x1, x2, 0, 3⟩) 1).a, .int .i64 ((upd q 3 ⟨x0, x1, x2, 0, 3⟩) 1).b, .int .i64 ((upd q 3 ⟨x0, x1, x2, 0, 3⟩) 1).c, .int .i64 ((upd q 3 ⟨x0, x1, x2, 0, 3⟩) 1).d, .int .i64 ((upd q 3 ⟨x0, x1, x2, 0, 3⟩) 1).n, .int .i64 ((upd q 3 ⟨x0, x1, x2, 0, 3⟩) 2).a, .int .i64 ((upd q 3 ⟨x0, x1, x2, 0, 3⟩) 2).b, .int .i64 ((upd q 3 ⟨x0, x1, x2, 0, 3⟩) 2).c, .int .i64 ((upd q 3 ⟨x0, x1, x2, 0, 3⟩) 2).d, .int .i64 ((upd q 3 ⟨x0, x1, x2, 0, 3⟩) 2).n, .int .i64 ((upd q 3 ⟨x0, x1, x2, 0, 3⟩) 3).a, .int .i64 ((upd q 3 ⟨x0, x1, x2, 0, 3⟩) 3).b, .int .i64 ((upd q 3 ⟨x0, x1, x2, 0, 3⟩) 3).c, .int .i64 ((upd q 3 ⟨x0, x1, x2, 0, 3⟩) 3).d, .int .i64 ((upd q 3 ⟨x0, x1, x2, 0, 3⟩) 3).n] t (0, 0)) by show (((w5.setCell ⟨D, 21, none⟩ (.int .i64 3)).setCell ⟨D, 20, none⟩ (.int .i64 0))).heap[D]? = _; have h7 := HD7; simpa [upd, HQ.out] using h7)
  have GBH := Lib.hid GB
  clear K2 T c0 c1 c2 c3 c4 HD6 HD7 GB HD5
  go_wp2
  go_region
  go_wp2
  go_ret
  exact ⟨rfl, HW.out, GBH.out⟩

theorem pop_any (D : Nat) (h n : Int) (q : Nat → Pl) (tl : List Int) (i : Nat) (w : World) (t : TypeId) (hi : i < 4) (h0 : tl ≠ []) (l4 : tl.length ≤ 4) (hq : q i = pil tl) (hD : w.heap[D]? = some (.cells #[.int .i64 h, .int .i64 n, .int .i64 (q 0).a, .int .i64 (q 0).b, .int .i64 (q 0).c, .int .i64 (q 0).d, .int .i64 (q 0).n, .int .i64 (q 1).a, .int .i64 (q 1).b, .int .i64 (q 1).c, .int .i64 (q 1).d, .int .i64 (q 1).n, .int .i64 (q 2).a, .int .i64 (q 2).b, .int .i64 (q 2).c, .int .i64 (q 2).d, .int .i64 (q 2).n, .int .i64 (q 3).a, .int .i64 (q 3).b, .int .i64 (q 3).c, .int .i64 (q 3).d, .int .i64 (q 3).n] t (0, 0))) :
    Calls Try.prog 32 #[.pointer (some ⟨D, 2 + i * 5, none⟩)] w fun e w' => e = .returned (.int .i64 (topOf tl)) ∧ w'.heap[D]? = some (.cells #[.int .i64 h, .int .i64 n, .int .i64 ((upd q i (pil tl.dropLast)) 0).a, .int .i64 ((upd q i (pil tl.dropLast)) 0).b, .int .i64 ((upd q i (pil tl.dropLast)) 0).c, .int .i64 ((upd q i (pil tl.dropLast)) 0).d, .int .i64 ((upd q i (pil tl.dropLast)) 0).n, .int .i64 ((upd q i (pil tl.dropLast)) 1).a, .int .i64 ((upd q i (pil tl.dropLast)) 1).b, .int .i64 ((upd q i (pil tl.dropLast)) 1).c, .int .i64 ((upd q i (pil tl.dropLast)) 1).d, .int .i64 ((upd q i (pil tl.dropLast)) 1).n, .int .i64 ((upd q i (pil tl.dropLast)) 2).a, .int .i64 ((upd q i (pil tl.dropLast)) 2).b, .int .i64 ((upd q i (pil tl.dropLast)) 2).c, .int .i64 ((upd q i (pil tl.dropLast)) 2).d, .int .i64 ((upd q i (pil tl.dropLast)) 2).n, .int .i64 ((upd q i (pil tl.dropLast)) 3).a, .int .i64 ((upd q i (pil tl.dropLast)) 3).b, .int .i64 ((upd q i (pil tl.dropLast)) 3).c, .int .i64 ((upd q i (pil tl.dropLast)) 3).d, .int .i64 ((upd q i (pil tl.dropLast)) 3).n] t (0, 0)) ∧ w.grownBy w' (some D) := by
  match i, hi, tl, h0, l4, hq with
  | 0, _, [x0], _, _, hq => exact pop_0_1 D h n q x0 w t hq hD
  | 0, _, [x0, x1], _, _, hq => exact pop_0_2 D h n q x0 x1 w t hq hD
  | 0, _, [x0, x1, x2], _, _, hq => exact pop_0_3 D h n q x0 x1 x2 w t hq hD
  | 0, _, [x0, x1, x2, x3], _, _, hq => exact pop_0_4 D h n q x0 x1 x2 x3 w t hq hD
  | 1, _, [x0], _, _, hq => exact pop_1_1 D h n q x0 w t hq hD
  | 1, _, [x0, x1], _, _, hq => exact pop_1_2 D h n q x0 x1 w t hq hD
  | 1, _, [x0, x1, x2], _, _, hq => exact pop_1_3 D h n q x0 x1 x2 w t hq hD
  | 1, _, [x0, x1, x2, x3], _, _, hq => exact pop_1_4 D h n q x0 x1 x2 x3 w t hq hD
  | 2, _, [x0], _, _, hq => exact pop_2_1 D h n q x0 w t hq hD
  | 2, _, [x0, x1], _, _, hq => exact pop_2_2 D h n q x0 x1 w t hq hD
  | 2, _, [x0, x1, x2], _, _, hq => exact pop_2_3 D h n q x0 x1 x2 w t hq hD
  | 2, _, [x0, x1, x2, x3], _, _, hq => exact pop_2_4 D h n q x0 x1 x2 x3 w t hq hD
  | 3, _, [x0], _, _, hq => exact pop_3_1 D h n q x0 w t hq hD
  | 3, _, [x0, x1], _, _, hq => exact pop_3_2 D h n q x0 x1 w t hq hD
  | 3, _, [x0, x1, x2], _, _, hq => exact pop_3_3 D h n q x0 x1 x2 w t hq hD
  | 3, _, [x0, x1, x2, x3], _, _, hq => exact pop_3_4 D h n q x0 x1 x2 x3 w t hq hD
end Go.Proofs.Ythfmmlpbflfpaac
