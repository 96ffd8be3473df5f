/- Turns of rings on both sides. -/
import Derived.Test.YtpphbjgaldidaaaDoorRingIs
import Derived.Test.YtpphbjgaldidaaaDoorTabs
import Derived.Test.YtpphbjgaldidaaaDoorExKit
import Derived.Deep.RegionHeld3
namespace Go.Proofs.YtpphbjgaldidaaaDoor
open Go.ChangeShapes Go.WideShapes Go.ChangeAt Go.RowKit
set_option linter.unusedVariables false
set_option linter.unusedSimpArgs false

def bendL : List Int := [10, 9, 7, 4, 0, -4, -7, -9, -10, -9, -7, -4, 0, 4, 7, 9]
def bendK (y : Int) : Int := bendL.getD y.toNat 0
def riseK (y : Int) : Int := bendL.getD ((y + 12) % 16).toNat 0
/-- Bend and rise of a valid ring. -/
def bendR (q : Rg) : Int := if q.k = 0 then 0 else bendK q.y
def riseR (q : Rg) : Int := if q.k = 0 then 0 else riseK q.y

theorem key_fin : ∀ j : Fin 16, keyL.getD (j.val * 2) 0 = bendK (j.val : Int) ∧ keyL.getD (j.val * 2 + 1) 0 = riseK (j.val : Int) := by decide +kernel
theorem turn_bd_fin : ∀ j : Fin 16, (-10 ≤ bendK (j.val : Int) ∧ bendK (j.val : Int) ≤ 10) ∧ (-10 ≤ riseK (j.val : Int) ∧ riseK (j.val : Int) ≤ 10) := by decide +kernel

theorem turn_bd (q : Rg) (h : OkR q) : (-10 ≤ bendR q ∧ bendR q ≤ 10) ∧ (-10 ≤ riseR q ∧ riseR q ≤ 10) := by
  unfold bendR riseR
  split
  · omega
  · have := turn_bd_fin ⟨q.y.toNat, by have := h.2; omega⟩
    have e : ((q.y.toNat : Nat) : Int) = q.y := by have := h.2; omega
    rw [e] at this
    exact this

set_option maxHeartbeats 1000000 in
theorem turn_any (q : Rg) (h : OkR q) (w : World) (T : TKeys w) :
    Calls Tryd.prog 22 #[(.agg #[.int .i64 q.k, .int .i64 q.y])] w fun e w' => e = .returned (.agg #[.int .i64 (bendR q), .int .i64 (riseR q)]) ∧ Below w.heap.size w w' := by
  by_cases hk : q.k = 0
  · have e1 : bendR q = 0 := if_pos hk
    have e2 : riseR q = 0 := if_pos hk
    have z : (q.k == 0) = true := by simpa using hk
    rw [e1, e2]
    clear e1 e2 T h
    go_enter Tryd.func22, Tryd.ntmps22
    go_wp2
    go_returns
    exact ⟨rfl, by go_grown⟩
  · have e1 : bendR q = bendK q.y := if_neg hk
    have e2 : riseR q = riseK q.y := if_neg hk
    have z : (q.k == 0) = false := by simpa using hk
    rw [e1, e2]
    obtain ⟨k, hk2⟩ : ∃ k : Nat, q.y = k := ⟨q.y.toNat, by have := h.2; omega⟩
    have k16 : k < 16 := by have := h.2; omega
    have c0 := T (k * 2) (by omega)
    have c1 := T (k * 2 + 1) (by omega)
    rw [(key_fin ⟨k, k16⟩).1] at c0
    rw [(key_fin ⟨k, k16⟩).2] at c1
    have i1 : (0 : Int) ≤ (k : Int) := by omega
    have i2 : (k : Int) < 16 := by omega
    have g0 : 0 < w.heap.size := block_lt_of_cell c0
    simp only at c0 c1
    rw [hk2]
    clear e1 e2 T h hk hk2
    go_enter Tryd.func22, Tryd.ntmps22
    go_wp2
    go_returns
    exact ⟨rfl, by go_grown⟩

theorem below_drewN' {B : Nat} {a w : World} (n : Nat) (h : Below B a w) : Below B a (w.drewN n) := ⟨h.os, h.tape, h.output, h.size, h.block⟩

def bendCells : Array Value := #[.int .i64 10, .int .i64 9, .int .i64 7, .int .i64 4, .int .i64 0, .int .i64 (-4), .int .i64 (-7), .int .i64 (-9), .int .i64 (-10), .int .i64 (-9), .int .i64 (-7), .int .i64 (-4), .int .i64 0, .int .i64 4, .int .i64 7, .int .i64 9]
theorem bend_cell (k : Nat) (h : k < 16) : bendCells[k]? = some (.int .i64 (bendK (k : Int))) := by
  have e : bendCells.toList = bendL.map (Value.int .i64) := rfl
  rw [← Array.getElem?_toList, e, List.getElem?_map]
  unfold bendK
  rw [Int.toNat_natCast, List.getD_eq_getElem?_getD]
  have : k < bendL.length := h
  rw [List.getElem?_eq_getElem this]
  rfl

set_option maxRecDepth 100000 in
set_option maxHeartbeats 2000000 in
theorem l03Turn_any (q : Rg) (h : OkR q) (w : World) :
    Calls Tryd.prog 30 #[(.agg #[.int .i64 q.k, .int .i64 q.y])] w fun e w' => e = .returned (.tuple #[.int .i64 (bendR q), .int .i64 (riseR q)]) ∧ Below w.heap.size w w' := by
  by_cases hk : q.k = 0
  · have e1 : bendR q = 0 := if_pos hk
    have e2 : riseR q = 0 := if_pos hk
    have z : (q.k == 0) = true := by simpa using hk
    rw [e1, e2]
    clear e1 e2 h
    go_enter Tryd.func30, Tryd.ntmps30
    go_wp2
    go_ret2
    exact ⟨rfl, by go_grown⟩
  · have e1 : bendR q = bendK q.y := if_neg hk
    have e2 : riseR q = riseK q.y := if_neg hk
    have z : (q.k == 0) = false := by simpa using hk
    rw [e1, e2]
    obtain ⟨k, hk2⟩ : ∃ k : Nat, q.y = k := ⟨q.y.toNat, by have := h.2; omega⟩
    have k16 : k < 16 := by have := h.2; omega
    obtain ⟨m, hm⟩ : ∃ m : Nat, m = (k + 12) % 16 := ⟨_, rfl⟩
    have m16 : m < 16 := by omega
    have er : riseK q.y = bendK (m : Int) := by
      unfold riseK bendK
      rw [show (q.y + 12) % 16 = (m : Int) by omega]
    rw [er]
    have q1 : IntKind.i64.wrap ((k : Int) + 12) = (k : Int) + 12 := IntWalk.i64_in _ (by omega)
    have q2 : IntKind.i64.wrap (((k : Int) + 12).tmod 16) = (m : Int) := by rw [Int.tmod_eq_emod_of_nonneg (by omega), show ((k : Int) + 12) % 16 = (m : Int) by omega]; exact IntWalk.i64_in _ (by omega)
    have q3 : ((k : Int) + 12) % 16 = (m : Int) := by omega
    have q4 : ((k : Int) + 12).tmod 16 = (m : Int) := by rw [Int.tmod_eq_emod_of_nonneg (by omega)]; omega
    have i1 : (0 : Int) ≤ (k : Int) := by omega
    have i2 : (k : Int) < 16 := by omega
    have i3 : (0 : Int) ≤ (m : Int) := by omega
    have i4 : (m : Int) < 16 := by omega
    rw [hk2]
    clear e1 e2 h hk hk2 er hm
    go_enter Tryd.func30, Tryd.ntmps30
    go_wp2
    have n0 : ((w.alloc (.cells #[.int .i64 q.k, .int .i64 (k : Int)] 45)).alloc (.cells #[.int .i64 10, .int .i64 9, .int .i64 7, .int .i64 4, .int .i64 0, .int .i64 (-4), .int .i64 (-7), .int .i64 (-9), .int .i64 (-10), .int .i64 (-9), .int .i64 (-7), .int .i64 (-4), .int .i64 0, .int .i64 4, .int .i64 7, .int .i64 9] 2)).cell? ⟨w.heap.size, 1, none⟩ = some (.int .i64 (k : Int)) := cell_of_row _ w.heap.size 1 _ _ _ (heap_alloc2_old w _ _)
    have n1 : ((w.alloc (.cells #[.int .i64 q.k, .int .i64 (k : Int)] 45)).alloc (.cells #[.int .i64 10, .int .i64 9, .int .i64 7, .int .i64 4, .int .i64 0, .int .i64 (-4), .int .i64 (-7), .int .i64 (-9), .int .i64 (-10), .int .i64 (-9), .int .i64 (-7), .int .i64 (-4), .int .i64 0, .int .i64 4, .int .i64 7, .int .i64 9] 2)).cell? ⟨w.heap.size + 1, k, none⟩ = some (.int .i64 (bendK (k : Int))) := (cell_of_row _ (w.heap.size + 1) k bendCells _ _ (heap_alloc2_new w _ _)).trans (bend_cell k k16)
    have n2 : ((w.alloc (.cells #[.int .i64 q.k, .int .i64 (k : Int)] 45)).alloc (.cells #[.int .i64 10, .int .i64 9, .int .i64 7, .int .i64 4, .int .i64 0, .int .i64 (-4), .int .i64 (-7), .int .i64 (-9), .int .i64 (-10), .int .i64 (-9), .int .i64 (-7), .int .i64 (-4), .int .i64 0, .int .i64 4, .int .i64 7, .int .i64 9] 2)).cell? ⟨w.heap.size + 1, m, none⟩ = some (.int .i64 (bendK (m : Int))) := (cell_of_row _ (w.heap.size + 1) m bendCells _ _ (heap_alloc2_new w _ _)).trans (bend_cell m m16)
    have B : Hid (Below w.heap.size w ((w.alloc (.cells #[.int .i64 q.k, .int .i64 (k : Int)] 45)).alloc (.cells #[.int .i64 10, .int .i64 9, .int .i64 7, .int .i64 4, .int .i64 0, .int .i64 (-4), .int .i64 (-7), .int .i64 (-9), .int .i64 (-10), .int .i64 (-9), .int .i64 (-7), .int .i64 (-4), .int .i64 0, .int .i64 4, .int .i64 7, .int .i64 9] 2))) := by show Below _ _ _; go_grown
    obtain ⟨w2, hw2⟩ : ∃ w2, w2 = ((w.alloc (.cells #[.int .i64 q.k, .int .i64 (k : Int)] 45)).alloc (.cells #[.int .i64 10, .int .i64 9, .int .i64 7, .int .i64 4, .int .i64 0, .int .i64 (-4), .int .i64 (-7), .int .i64 (-9), .int .i64 (-10), .int .i64 (-9), .int .i64 (-7), .int .i64 (-4), .int .i64 0, .int .i64 4, .int .i64 7, .int .i64 9] 2)) := ⟨_, rfl⟩
    rw [← hw2] at n0 n1 n2 B
    rw [← hw2]
    clear hw2
    go_quiet (fail)
    go_wp2
    go_ret2
    exact ⟨rfl, below_drewN' _ B.out⟩
end Go.Proofs.YtpphbjgaldidaaaDoor
