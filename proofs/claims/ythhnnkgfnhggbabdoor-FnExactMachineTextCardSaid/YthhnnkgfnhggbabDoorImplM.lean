/- The program's machines: gaps, strokes, what is valid. -/
import Derived.Test.YthhnnkgfnhggbabDoorMach
import Derived.Deep.RegionHeld3
namespace Go.Proofs.YthhnnkgfnhggbabDoor
open Go.ChangeShapes Go.WideShapes Go.ChangeAt Go.RowKit
set_option linter.unusedVariables false
set_option linter.unusedSimpArgs false

set_option maxHeartbeats 1000000 in
theorem offsetFrom_any (p q : Ps) (x y : Int) (q1 : IntKind.i64.wrap (p.s - q.s) = x) (q2 : IntKind.i64.wrap (p.h - q.h) = y) (w : World) :
    Calls Tryd.prog 47 #[(.agg #[.int .i64 p.s, .int .i64 p.h, .int .i64 p.y, .int .i64 p.p]), (.agg #[.int .i64 q.s, .int .i64 q.h, .int .i64 q.y, .int .i64 q.p])] w fun e w' => e = .returned (.agg #[.int .i64 x, .int .i64 y]) ∧ Below w.heap.size w w' := by
  go_enter Tryd.func47, Tryd.ntmps47
  go_wp2
  go_returns
  exact ⟨rfl, by go_grown⟩

set_option maxHeartbeats 1000000 in
theorem heading_any (p : Ps) (w : World) :
    Calls Tryd.prog 156 #[(.agg #[.int .i64 p.s, .int .i64 p.h, .int .i64 p.y, .int .i64 p.p])] w fun e w' => e = .returned (.agg #[.int .i64 p.y, .int .i64 p.p]) ∧ Below w.heap.size w w' := by
  go_enter Tryd.func156, Tryd.ntmps156
  go_wp2
  go_returns
  exact ⟨rfl, by go_grown⟩


set_option maxHeartbeats 1000000 in
theorem minus_any (a b c d x y : Int) (q1 : IntKind.i64.wrap (a - c) = x) (q2 : IntKind.i64.wrap (b - d) = y) (w : World) :
    Calls Tryd.prog 157 #[.agg #[.int .i64 a, .int .i64 b], .agg #[.int .i64 c, .int .i64 d]] w fun e w' => e = .returned (.agg #[.int .i64 x, .int .i64 y]) ∧ Below w.heap.size w w' := by
  go_enter Tryd.func157, Tryd.ntmps157
  go_wp2
  go_returns
  exact ⟨rfl, by go_grown⟩

set_option maxHeartbeats 1000000 in
theorem plus_any (a b c d x y : Int) (q1 : IntKind.i64.wrap (a + c) = x) (q2 : IntKind.i64.wrap (b + d) = y) (w : World) :
    Calls Tryd.prog 175 #[.agg #[.int .i64 a, .int .i64 b], .agg #[.int .i64 c, .int .i64 d]] w fun e w' => e = .returned (.agg #[.int .i64 x, .int .i64 y]) ∧ Below w.heap.size w w' := by
  go_enter Tryd.func175, Tryd.ntmps175
  go_wp2
  go_returns
  exact ⟨rfl, by go_grown⟩

set_option maxHeartbeats 1000000 in
theorem times_any (a b n x y : Int) (q1 : IntKind.i64.wrap (a * n) = x) (q2 : IntKind.i64.wrap (b * n) = y) (w : World) :
    Calls Tryd.prog 158 #[.agg #[.int .i64 a, .int .i64 b], .int .i64 n] w fun e w' => e = .returned (.agg #[.int .i64 x, .int .i64 y]) ∧ Below w.heap.size w w' := by
  go_enter Tryd.func158, Tryd.ntmps158
  go_wp2
  go_returns
  exact ⟨rfl, by go_grown⟩

theorem spread_any (n x y a b c d : Int) (q7 : IntKind.i64.wrap (n - x) = a) (q8 : IntKind.i64.wrap (n - y) = b) (q9 : IntKind.i64.wrap (n + x) = c) (q10 : IntKind.i64.wrap (n + y) = d) (w : World) :
    Calls Tryd.prog 155 #[.int .i64 n, .agg #[.int .i64 x, .int .i64 y]] w fun e w' => e = .returned (.agg #[.int .i64 a, .int .i64 b, .int .i64 c, .int .i64 d]) ∧ Below w.heap.size w w' := by
  go_enter Tryd.func155, Tryd.ntmps155
  go_wp2
  go_returns
  exact ⟨rfl, by go_grown⟩

set_option maxHeartbeats 2000000 in
theorem offset_any (m : Mc) (h : NearM m) (w : World) :
    Calls Tryd.prog 159 #[(.agg #[.int .i64 m.u.s, .int .i64 m.u.h, .int .i64 m.u.y, .int .i64 m.u.p, .int .i64 m.t.s, .int .i64 m.t.h, .int .i64 m.t.y, .int .i64 m.t.p, .int .i64 m.a])] w fun e w' => e = .returned (.agg #[.int .i64 (sideM m), .int .i64 (highM m)]) ∧ Below w.heap.size w w' := by
  obtain ⟨r1, r2, r3, r4⟩ := h.room
  obtain ⟨⟨⟨_, _⟩, ⟨_, _⟩, ⟨_, _⟩, ⟨_, _⟩⟩, ⟨⟨_, _⟩, ⟨_, _⟩, ⟨_, _⟩, ⟨_, _⟩⟩, _, _⟩ := h
  have q1 : IntKind.i64.wrap (m.t.s - m.u.s) = m.t.s - m.u.s := IntWalk.i64_in _ (by omega)
  have q2 : IntKind.i64.wrap (m.u.y * 2) = m.u.y * 2 := IntWalk.i64_in _ (by omega)
  have q3 : IntKind.i64.wrap (m.t.s - m.u.s + m.u.y * 2) = sideM m := by
    rw [show m.t.s - m.u.s + m.u.y * 2 = sideM m by unfold sideM; omega]; exact IntWalk.i64_in _ (by omega)
  have q4 : IntKind.i64.wrap (m.t.h - m.u.h) = m.t.h - m.u.h := IntWalk.i64_in _ (by omega)
  have q5 : IntKind.i64.wrap (m.u.p * 2) = m.u.p * 2 := IntWalk.i64_in _ (by omega)
  have q6 : IntKind.i64.wrap (m.t.h - m.u.h + m.u.p * 2) = highM m := by
    rw [show m.t.h - m.u.h + m.u.p * 2 = highM m by unfold highM; omega]; exact IntWalk.i64_in _ (by omega)
  have C1 := Lib.hid (fun w => offsetFrom_any m.t m.u _ _ q1 q4 w)
  have C3 := Lib.hid (fun w => times_any m.u.y m.u.p 2 _ _ q2 q5 w)
  have C4 := Lib.hid (fun w => plus_any _ _ _ _ _ _ q3 q6 w)
  clear r1 r2 r3 r4 q1 q2 q3 q4 q5 q6
  have KS : Hid (∀ w', Below (w.heap.size + 1) ((w.alloc (.cells #[.int .i64 m.u.s, .int .i64 m.u.h, .int .i64 m.u.y, .int .i64 m.u.p, .int .i64 m.t.s, .int .i64 m.t.h, .int .i64 m.t.y, .int .i64 m.t.p, .int .i64 m.a] 80)).alloc (.cells #[.int .i64 0, .int .i64 0] 90)) w' → (w'.cell? ⟨w.heap.size, 0, none⟩ = some (.int .i64 m.u.s) ∧ w'.cell? ⟨w.heap.size, 1, none⟩ = some (.int .i64 m.u.h) ∧ w'.cell? ⟨w.heap.size, 2, none⟩ = some (.int .i64 m.u.y) ∧ w'.cell? ⟨w.heap.size, 3, none⟩ = some (.int .i64 m.u.p) ∧ w'.cell? ⟨w.heap.size, 4, none⟩ = some (.int .i64 m.t.s) ∧ w'.cell? ⟨w.heap.size, 5, none⟩ = some (.int .i64 m.t.h) ∧ w'.cell? ⟨w.heap.size, 6, none⟩ = some (.int .i64 m.t.y) ∧ w'.cell? ⟨w.heap.size, 7, none⟩ = some (.int .i64 m.t.p) ∧ w'.cell? ⟨w.heap.size, 8, none⟩ = some (.int .i64 m.a))) := by
    intro w' b
    obtain ⟨k, -⟩ := boxMc_at ((b.block w.heap.size (by omega)).trans ((Below.heap_alloc _ _ _ (by simp)).trans (heap_alloc_new w (.cells #[.int .i64 m.u.s, .int .i64 m.u.h, .int .i64 m.u.y, .int .i64 m.u.p, .int .i64 m.t.s, .int .i64 m.t.h, .int .i64 m.t.y, .int .i64 m.t.p, .int .i64 m.a] 80))))
    exact k
  have KR : Hid (∀ w', Below (w.heap.size + 2) ((w.alloc (.cells #[.int .i64 m.u.s, .int .i64 m.u.h, .int .i64 m.u.y, .int .i64 m.u.p, .int .i64 m.t.s, .int .i64 m.t.h, .int .i64 m.t.y, .int .i64 m.t.p, .int .i64 m.a] 80)).alloc (.cells #[.int .i64 0, .int .i64 0] 90)) w' → w'.heap[w.heap.size + 1]? = some (.cells #[.int .i64 0, .int .i64 0] 90 (0, 0))) := by
    intro w' b
    exact (b.block (w.heap.size + 1) (by omega)).trans (by have := heap_alloc_new (w.alloc (.cells #[.int .i64 m.u.s, .int .i64 m.u.h, .int .i64 m.u.y, .int .i64 m.u.p, .int .i64 m.t.s, .int .i64 m.t.h, .int .i64 m.t.y, .int .i64 m.t.p, .int .i64 m.a] 80)) (.cells #[.int .i64 0, .int .i64 0] 90); rwa [World.size_alloc] at this)
  go_enter Tryd.func159, Tryd.ntmps159
  go_wp2_with fail
  go_region_held3 (fun w' => (w'.cell? ⟨w.heap.size, 0, none⟩ = some (.int .i64 m.u.s) ∧ w'.cell? ⟨w.heap.size, 1, none⟩ = some (.int .i64 m.u.h) ∧ w'.cell? ⟨w.heap.size, 2, none⟩ = some (.int .i64 m.u.y) ∧ w'.cell? ⟨w.heap.size, 3, none⟩ = some (.int .i64 m.u.p) ∧ w'.cell? ⟨w.heap.size, 4, none⟩ = some (.int .i64 m.t.s) ∧ w'.cell? ⟨w.heap.size, 5, none⟩ = some (.int .i64 m.t.h) ∧ w'.cell? ⟨w.heap.size, 6, none⟩ = some (.int .i64 m.t.y) ∧ w'.cell? ⟨w.heap.size, 7, none⟩ = some (.int .i64 m.t.p) ∧ w'.cell? ⟨w.heap.size, 8, none⟩ = some (.int .i64 m.a)))
    (first | exact KS.out _ (D4.out.mono (by omega)) | exact KS.out _ (D3.out.mono (by omega)) | exact KS.out _ (D2.out.mono (by omega)) | exact KS.out _ (D1.out.mono (by omega)) | exact KS.out _ (Below.refl _ _).drew | exact KS.out _ (((D4.out.mono (show w.heap.size + 1 ≤ w.heap.size + 2 by omega)).setCell (p := ⟨w.heap.size + 1, 0, none⟩) (Nat.le_refl _) _).setCell (p := ⟨w.heap.size + 1, 1, none⟩) (Nat.le_refl _) _))
    (first
      | (go_at_call 175; refine (C4.out _).mono ?_; rintro e w4 ⟨rfl, b4⟩; have D4 : Hid (Below (w.heap.size + 2) ((w.alloc (.cells #[.int .i64 m.u.s, .int .i64 m.u.h, .int .i64 m.u.y, .int .i64 m.u.p, .int .i64 m.t.s, .int .i64 m.t.h, .int .i64 m.t.y, .int .i64 m.t.p, .int .i64 m.a] 80)).alloc (.cells #[.int .i64 0, .int .i64 0] 90)) w4) := D3.out.trans (b4.mono (by have e := D3.out.size; simp only [World.size_alloc] at e; omega)); have RR := KR.out _ D4.out; have u0 := cell_of_row w4 (w.heap.size + 1) 0 _ _ _ RR; have f0 := frozen_of_row w4 (w.heap.size + 1) 0 _ _ RR; have u1 := cell_of_row w4 (w.heap.size + 1) 1 _ _ _ RR; have f1 := frozen_of_row w4 (w.heap.size + 1) 1 _ _ RR)
      | (go_at_call 158; refine (C3.out _).mono ?_; rintro e w3 ⟨rfl, b3⟩; have D3 : Hid (Below (w.heap.size + 2) ((w.alloc (.cells #[.int .i64 m.u.s, .int .i64 m.u.h, .int .i64 m.u.y, .int .i64 m.u.p, .int .i64 m.t.s, .int .i64 m.t.h, .int .i64 m.t.y, .int .i64 m.t.p, .int .i64 m.a] 80)).alloc (.cells #[.int .i64 0, .int .i64 0] 90)) w3) := D2.out.trans (b3.mono (by have e := D2.out.size; simp only [World.size_alloc] at e; omega)))
      | (go_at_call 156; refine (heading_any m.u _).mono ?_; rintro e w2 ⟨rfl, b2⟩; have D2 : Hid (Below (w.heap.size + 2) ((w.alloc (.cells #[.int .i64 m.u.s, .int .i64 m.u.h, .int .i64 m.u.y, .int .i64 m.u.p, .int .i64 m.t.s, .int .i64 m.t.h, .int .i64 m.t.y, .int .i64 m.t.p, .int .i64 m.a] 80)).alloc (.cells #[.int .i64 0, .int .i64 0] 90)) w2) := D1.out.trans (b2.mono (by have e := D1.out.size; simp only [World.size_alloc] at e; omega)))
      | (go_at_call 47; refine (C1.out _).mono ?_; rintro e w1 ⟨rfl, b1⟩; have D1 : Hid (Below (w.heap.size + 2) ((w.alloc (.cells #[.int .i64 m.u.s, .int .i64 m.u.h, .int .i64 m.u.y, .int .i64 m.u.p, .int .i64 m.t.s, .int .i64 m.t.h, .int .i64 m.t.y, .int .i64 m.t.p, .int .i64 m.a] 80)).alloc (.cells #[.int .i64 0, .int .i64 0] 90)) w1) := (Below.refl _ _).drew.trans (b1.mono (by simp))))
  all_goals have DD : Hid (Below w.heap.size w w4) := Below.trans (by go_grown) (D4.out.mono (by omega))
  all_goals
    go_wp2
    have RF : ((w4.setCell ⟨w.heap.size + 1, 0, none⟩ (.int .i64 (sideM m))).setCell ⟨w.heap.size + 1, 1, none⟩ (.int .i64 (highM m))).heap[w.heap.size + 1]? = some (.cells #[.int .i64 (sideM m), .int .i64 (highM m)] 90 (0, 0)) := by
      have h1 := (heap_setCell_same _ (w.heap.size + 1) 1 _ 90 (.int .i64 (highM m)) (heap_setCell_same w4 (w.heap.size + 1) 0 _ 90 (.int .i64 (sideM m)) RR))
      simpa using h1
    have g0 := cell_of_row _ (w.heap.size + 1) 0 _ _ _ RF
    have g1 := cell_of_row _ (w.heap.size + 1) 1 _ _ _ RF
    refine bodyPost_ret (v := .agg #[.int .i64 (sideM m), .int .i64 (highM m)]) (by simp [results, Tryd.results159, go_sem, g0, g1]; try rfl) rfl ⟨rfl, ?_⟩
    have D := DD.out
    go_grown

set_option maxHeartbeats 2000000 in
theorem gaps_any (m : Mc) (h : NearM m) (w : World) :
    Calls Tryd.prog 133 #[(.agg #[.int .i64 m.u.s, .int .i64 m.u.h, .int .i64 m.u.y, .int .i64 m.u.p, .int .i64 m.t.s, .int .i64 m.t.h, .int .i64 m.t.y, .int .i64 m.t.p, .int .i64 m.a])] w fun e w' => e = .returned (.agg #[.int .i64 (40 - sideM m), .int .i64 (40 - highM m), .int .i64 (40 + sideM m), .int .i64 (40 + highM m)]) ∧ Below w.heap.size w w' := by
  have C1 := Lib.hid (fun w => offset_any m h w)
  obtain ⟨r1, r2, -, -⟩ := h.room
  have q7 : IntKind.i64.wrap (40 - sideM m) = 40 - sideM m := IntWalk.i64_in _ (by omega)
  have q8 : IntKind.i64.wrap (40 - highM m) = 40 - highM m := IntWalk.i64_in _ (by omega)
  have q9 : IntKind.i64.wrap (40 + sideM m) = 40 + sideM m := IntWalk.i64_in _ (by omega)
  have q10 : IntKind.i64.wrap (40 + highM m) = 40 + highM m := IntWalk.i64_in _ (by omega)
  have C2 := Lib.hid (fun w => spread_any _ _ _ _ _ _ _ q7 q8 q9 q10 w)
  clear r1 r2 h q7 q8 q9 q10
  go_enter Tryd.func133, Tryd.ntmps133
  go_wp2_with fail
  refine (C1.out _).mono ?_
  rintro e w1 ⟨rfl, b1⟩
  have B1 : Hid (Below w.heap.size w w1) := Below.trans (by go_grown) (b1.mono (by simp only [World.size_alloc]; omega))
  have RR : w1.heap[w.heap.size + 1]? = some (.cells #[.int .i64 0, .int .i64 0, .int .i64 0, .int .i64 0] 177 (0, 0)) := (b1.block (w.heap.size + 1) (by simp only [World.size_alloc]; omega)).trans (by have := heap_alloc_new (w.alloc (.cells #[.int .i64 m.u.s, .int .i64 m.u.h, .int .i64 m.u.y, .int .i64 m.u.p, .int .i64 m.t.s, .int .i64 m.t.h, .int .i64 m.t.y, .int .i64 m.t.p, .int .i64 m.a] 80)) (.cells #[.int .i64 0, .int .i64 0, .int .i64 0, .int .i64 0] 177); rwa [World.size_alloc] at this)
  have z1 := b1.size
  simp only [World.size_alloc] at z1
  clear b1
  go_wp2_with fail
  refine (C2.out _).mono ?_
  rintro e w2 ⟨rfl, b2⟩
  have B2 : Hid (Below w.heap.size w w2) := B1.out.trans (b2.mono B1.out.size)
  have R2 := (b2.block (w.heap.size + 1) (by omega)).trans RR
  have u0 := cell_of_row w2 (w.heap.size + 1) 0 _ _ _ R2
  have u1 := cell_of_row w2 (w.heap.size + 1) 1 _ _ _ R2
  have u2 := cell_of_row w2 (w.heap.size + 1) 2 _ _ _ R2
  have u3 := cell_of_row w2 (w.heap.size + 1) 3 _ _ _ R2
  have f0 := frozen_of_row w2 (w.heap.size + 1) 0 _ _ R2
  have f1 := frozen_of_row w2 (w.heap.size + 1) 1 _ _ R2
  have f2 := frozen_of_row w2 (w.heap.size + 1) 2 _ _ R2
  have f3 := frozen_of_row w2 (w.heap.size + 1) 3 _ _ R2
  have RR := R2
  have DD := B2
  clear b2
  all_goals
    go_wp2
    have RF : ((((w2.setCell ⟨w.heap.size + 1, 0, none⟩ (.int .i64 (40 - sideM m))).setCell ⟨w.heap.size + 1, 1, none⟩ (.int .i64 (40 - highM m))).setCell ⟨w.heap.size + 1, 2, none⟩ (.int .i64 (40 + sideM m))).setCell ⟨w.heap.size + 1, 3, none⟩ (.int .i64 (40 + highM m))).heap[w.heap.size + 1]? = some (.cells #[.int .i64 (40 - sideM m), .int .i64 (40 - highM m), .int .i64 (40 + sideM m), .int .i64 (40 + highM m)] 177 (0, 0)) := by
      have h1 := (heap_setCell_same _ (w.heap.size + 1) 3 _ 177 (.int .i64 (40 + highM m)) (heap_setCell_same _ (w.heap.size + 1) 2 _ 177 (.int .i64 (40 + sideM m)) (heap_setCell_same _ (w.heap.size + 1) 1 _ 177 (.int .i64 (40 - highM m)) (heap_setCell_same w2 (w.heap.size + 1) 0 _ 177 (.int .i64 (40 - sideM m)) RR))))
      simpa using h1
    have g0 := cell_of_row _ (w.heap.size + 1) 0 _ _ _ RF
    have g1 := cell_of_row _ (w.heap.size + 1) 1 _ _ _ RF
    have g2 := cell_of_row _ (w.heap.size + 1) 2 _ _ _ RF
    have g3 := cell_of_row _ (w.heap.size + 1) 3 _ _ _ RF
    refine bodyPost_ret (v := .agg #[.int .i64 (40 - sideM m), .int .i64 (40 - highM m), .int .i64 (40 + sideM m), .int .i64 (40 + highM m)]) (by simp [results, Tryd.results133, go_sem, g0, g1, g2, g3]; try rfl) rfl ⟨rfl, ?_⟩
    have D := DD.out
    go_grown

set_option maxHeartbeats 2000000 in
theorem strokes_any (m : Mc) (h : NearM m) (w : World) :
    Calls Tryd.prog 132 #[(.agg #[.int .i64 m.u.s, .int .i64 m.u.h, .int .i64 m.u.y, .int .i64 m.u.p, .int .i64 m.t.s, .int .i64 m.t.h, .int .i64 m.t.y, .int .i64 m.t.p, .int .i64 m.a])] w fun e w' => e = .returned (.agg #[.int .i64 (m.a - swingM m), .int .i64 (m.a - tiltM m), .int .i64 (m.a + swingM m), .int .i64 (m.a + tiltM m)]) ∧ Below w.heap.size w w' := by
  obtain ⟨r1, r2, r3, r4⟩ := h.room
  obtain ⟨⟨⟨_, _⟩, ⟨_, _⟩, ⟨_, _⟩, ⟨_, _⟩⟩, ⟨⟨_, _⟩, ⟨_, _⟩, ⟨_, _⟩, ⟨_, _⟩⟩, _, _⟩ := h
  have q1 : IntKind.i64.wrap (m.u.y - m.t.y) = m.u.y - m.t.y := IntWalk.i64_in _ (by omega)
  have q3 : IntKind.i64.wrap ((m.u.y - m.t.y) * 2) = swingM m := by
    rw [show (m.u.y - m.t.y) * 2 = swingM m by unfold swingM; omega]; exact IntWalk.i64_in _ (by omega)
  have q4 : IntKind.i64.wrap (m.u.p - m.t.p) = m.u.p - m.t.p := IntWalk.i64_in _ (by omega)
  have q6 : IntKind.i64.wrap ((m.u.p - m.t.p) * 2) = tiltM m := by
    rw [show (m.u.p - m.t.p) * 2 = tiltM m by unfold tiltM; omega]; exact IntWalk.i64_in _ (by omega)
  have q7 : IntKind.i64.wrap (m.a - swingM m) = m.a - swingM m := IntWalk.i64_in _ (by omega)
  have q8 : IntKind.i64.wrap (m.a - tiltM m) = m.a - tiltM m := IntWalk.i64_in _ (by omega)
  have q9 : IntKind.i64.wrap (m.a + swingM m) = m.a + swingM m := IntWalk.i64_in _ (by omega)
  have q10 : IntKind.i64.wrap (m.a + tiltM m) = m.a + tiltM m := IntWalk.i64_in _ (by omega)
  have C3 := Lib.hid (fun w => minus_any _ _ _ _ _ _ q1 q4 w)
  have C4 := Lib.hid (fun w => times_any _ _ 2 _ _ q3 q6 w)
  have C5 := Lib.hid (fun w => spread_any _ _ _ _ _ _ _ q7 q8 q9 q10 w)
  clear r1 r2 r3 r4 q1 q3 q4 q6 q7 q8 q9 q10
  have KS : Hid (∀ w', Below (w.heap.size + 1) ((w.alloc (.cells #[.int .i64 m.u.s, .int .i64 m.u.h, .int .i64 m.u.y, .int .i64 m.u.p, .int .i64 m.t.s, .int .i64 m.t.h, .int .i64 m.t.y, .int .i64 m.t.p, .int .i64 m.a] 80)).alloc (.cells #[.int .i64 0, .int .i64 0, .int .i64 0, .int .i64 0] 177)) w' → (w'.cell? ⟨w.heap.size, 0, none⟩ = some (.int .i64 m.u.s) ∧ w'.cell? ⟨w.heap.size, 1, none⟩ = some (.int .i64 m.u.h) ∧ w'.cell? ⟨w.heap.size, 2, none⟩ = some (.int .i64 m.u.y) ∧ w'.cell? ⟨w.heap.size, 3, none⟩ = some (.int .i64 m.u.p) ∧ w'.cell? ⟨w.heap.size, 4, none⟩ = some (.int .i64 m.t.s) ∧ w'.cell? ⟨w.heap.size, 5, none⟩ = some (.int .i64 m.t.h) ∧ w'.cell? ⟨w.heap.size, 6, none⟩ = some (.int .i64 m.t.y) ∧ w'.cell? ⟨w.heap.size, 7, none⟩ = some (.int .i64 m.t.p) ∧ w'.cell? ⟨w.heap.size, 8, none⟩ = some (.int .i64 m.a))) := by
    intro w' b
    obtain ⟨k, -⟩ := boxMc_at ((b.block w.heap.size (by omega)).trans ((Below.heap_alloc _ _ _ (by simp)).trans (heap_alloc_new w (.cells #[.int .i64 m.u.s, .int .i64 m.u.h, .int .i64 m.u.y, .int .i64 m.u.p, .int .i64 m.t.s, .int .i64 m.t.h, .int .i64 m.t.y, .int .i64 m.t.p, .int .i64 m.a] 80))))
    exact k
  have KR : Hid (∀ w', Below (w.heap.size + 2) ((w.alloc (.cells #[.int .i64 m.u.s, .int .i64 m.u.h, .int .i64 m.u.y, .int .i64 m.u.p, .int .i64 m.t.s, .int .i64 m.t.h, .int .i64 m.t.y, .int .i64 m.t.p, .int .i64 m.a] 80)).alloc (.cells #[.int .i64 0, .int .i64 0, .int .i64 0, .int .i64 0] 177)) w' → w'.heap[w.heap.size + 1]? = some (.cells #[.int .i64 0, .int .i64 0, .int .i64 0, .int .i64 0] 177 (0, 0))) := by
    intro w' b
    exact (b.block (w.heap.size + 1) (by omega)).trans (by have := heap_alloc_new (w.alloc (.cells #[.int .i64 m.u.s, .int .i64 m.u.h, .int .i64 m.u.y, .int .i64 m.u.p, .int .i64 m.t.s, .int .i64 m.t.h, .int .i64 m.t.y, .int .i64 m.t.p, .int .i64 m.a] 80)) (.cells #[.int .i64 0, .int .i64 0, .int .i64 0, .int .i64 0] 177); rwa [World.size_alloc] at this)
  go_enter Tryd.func132, Tryd.ntmps132
  go_wp2_with fail
  go_region_held3 (fun w' => (w'.cell? ⟨w.heap.size, 0, none⟩ = some (.int .i64 m.u.s) ∧ w'.cell? ⟨w.heap.size, 1, none⟩ = some (.int .i64 m.u.h) ∧ w'.cell? ⟨w.heap.size, 2, none⟩ = some (.int .i64 m.u.y) ∧ w'.cell? ⟨w.heap.size, 3, none⟩ = some (.int .i64 m.u.p) ∧ w'.cell? ⟨w.heap.size, 4, none⟩ = some (.int .i64 m.t.s) ∧ w'.cell? ⟨w.heap.size, 5, none⟩ = some (.int .i64 m.t.h) ∧ w'.cell? ⟨w.heap.size, 6, none⟩ = some (.int .i64 m.t.y) ∧ w'.cell? ⟨w.heap.size, 7, none⟩ = some (.int .i64 m.t.p) ∧ w'.cell? ⟨w.heap.size, 8, none⟩ = some (.int .i64 m.a)))
    (first | exact KS.out _ (D5.out.mono (by omega)) | exact KS.out _ (D4.out.mono (by omega)) | exact KS.out _ (D3.out.mono (by omega)) | exact KS.out _ (D2.out.mono (by omega)) | exact KS.out _ (D1.out.mono (by omega)) | exact KS.out _ (Below.refl _ _).drew | exact KS.out _ (((((D5.out.mono (show w.heap.size + 1 ≤ w.heap.size + 2 by omega)).setCell (p := ⟨w.heap.size + 1, 0, none⟩) (Nat.le_refl _) _).setCell (p := ⟨w.heap.size + 1, 1, none⟩) (Nat.le_refl _) _).setCell (p := ⟨w.heap.size + 1, 2, none⟩) (Nat.le_refl _) _).setCell (p := ⟨w.heap.size + 1, 3, none⟩) (Nat.le_refl _) _))
    (first
      | (go_at_call 155; refine (C5.out _).mono ?_; rintro e w5 ⟨rfl, b5⟩; have D5 : Hid (Below (w.heap.size + 2) ((w.alloc (.cells #[.int .i64 m.u.s, .int .i64 m.u.h, .int .i64 m.u.y, .int .i64 m.u.p, .int .i64 m.t.s, .int .i64 m.t.h, .int .i64 m.t.y, .int .i64 m.t.p, .int .i64 m.a] 80)).alloc (.cells #[.int .i64 0, .int .i64 0, .int .i64 0, .int .i64 0] 177)) w5) := D4.out.trans (b5.mono (by have e := D4.out.size; simp only [World.size_alloc] at e; omega)); have RR := KR.out _ D5.out; have u0 := cell_of_row w5 (w.heap.size + 1) 0 _ _ _ RR; have f0 := frozen_of_row w5 (w.heap.size + 1) 0 _ _ RR; have u1 := cell_of_row w5 (w.heap.size + 1) 1 _ _ _ RR; have f1 := frozen_of_row w5 (w.heap.size + 1) 1 _ _ RR; have u2 := cell_of_row w5 (w.heap.size + 1) 2 _ _ _ RR; have f2 := frozen_of_row w5 (w.heap.size + 1) 2 _ _ RR; have u3 := cell_of_row w5 (w.heap.size + 1) 3 _ _ _ RR; have f3 := frozen_of_row w5 (w.heap.size + 1) 3 _ _ RR)
      | (go_at_call 158; refine (C4.out _).mono ?_; rintro e w4 ⟨rfl, b4⟩; have D4 : Hid (Below (w.heap.size + 2) ((w.alloc (.cells #[.int .i64 m.u.s, .int .i64 m.u.h, .int .i64 m.u.y, .int .i64 m.u.p, .int .i64 m.t.s, .int .i64 m.t.h, .int .i64 m.t.y, .int .i64 m.t.p, .int .i64 m.a] 80)).alloc (.cells #[.int .i64 0, .int .i64 0, .int .i64 0, .int .i64 0] 177)) w4) := D3.out.trans (b4.mono (by have e := D3.out.size; simp only [World.size_alloc] at e; omega)))
      | (go_at_call 157; refine (C3.out _).mono ?_; rintro e w3 ⟨rfl, b3⟩; have D3 : Hid (Below (w.heap.size + 2) ((w.alloc (.cells #[.int .i64 m.u.s, .int .i64 m.u.h, .int .i64 m.u.y, .int .i64 m.u.p, .int .i64 m.t.s, .int .i64 m.t.h, .int .i64 m.t.y, .int .i64 m.t.p, .int .i64 m.a] 80)).alloc (.cells #[.int .i64 0, .int .i64 0, .int .i64 0, .int .i64 0] 177)) w3) := D2.out.trans (b3.mono (by have e := D2.out.size; simp only [World.size_alloc] at e; omega)))
      | (go_at_call 156; (with_reducible refine (heading_any m.t _).mono ?_); rintro e w2 ⟨rfl, b2⟩; have D2 : Hid (Below (w.heap.size + 2) ((w.alloc (.cells #[.int .i64 m.u.s, .int .i64 m.u.h, .int .i64 m.u.y, .int .i64 m.u.p, .int .i64 m.t.s, .int .i64 m.t.h, .int .i64 m.t.y, .int .i64 m.t.p, .int .i64 m.a] 80)).alloc (.cells #[.int .i64 0, .int .i64 0, .int .i64 0, .int .i64 0] 177)) w2) := D1.out.trans (b2.mono (by have e := D1.out.size; simp only [World.size_alloc] at e; omega)))
      | (go_at_call 156; (with_reducible refine (heading_any m.u _).mono ?_); rintro e w1 ⟨rfl, b1⟩; have D1 : Hid (Below (w.heap.size + 2) ((w.alloc (.cells #[.int .i64 m.u.s, .int .i64 m.u.h, .int .i64 m.u.y, .int .i64 m.u.p, .int .i64 m.t.s, .int .i64 m.t.h, .int .i64 m.t.y, .int .i64 m.t.p, .int .i64 m.a] 80)).alloc (.cells #[.int .i64 0, .int .i64 0, .int .i64 0, .int .i64 0] 177)) w1) := (Below.refl _ _).drew.trans (b1.mono (by simp))))
  all_goals have DD : Hid (Below w.heap.size w w5) := Below.trans (by go_grown) (D5.out.mono (by omega))
  all_goals
    go_wp2
    have RF : ((((w5.setCell ⟨w.heap.size + 1, 0, none⟩ (.int .i64 (m.a - swingM m))).setCell ⟨w.heap.size + 1, 1, none⟩ (.int .i64 (m.a - tiltM m))).setCell ⟨w.heap.size + 1, 2, none⟩ (.int .i64 (m.a + swingM m))).setCell ⟨w.heap.size + 1, 3, none⟩ (.int .i64 (m.a + tiltM m))).heap[w.heap.size + 1]? = some (.cells #[.int .i64 (m.a - swingM m), .int .i64 (m.a - tiltM m), .int .i64 (m.a + swingM m), .int .i64 (m.a + tiltM m)] 177 (0, 0)) := by
      have h1 := (heap_setCell_same _ (w.heap.size + 1) 3 _ 177 (.int .i64 (m.a + tiltM m)) (heap_setCell_same _ (w.heap.size + 1) 2 _ 177 (.int .i64 (m.a + swingM m)) (heap_setCell_same _ (w.heap.size + 1) 1 _ 177 (.int .i64 (m.a - tiltM m)) (heap_setCell_same w5 (w.heap.size + 1) 0 _ 177 (.int .i64 (m.a - swingM m)) RR))))
      simpa using h1
    have g0 := cell_of_row _ (w.heap.size + 1) 0 _ _ _ RF
    have g1 := cell_of_row _ (w.heap.size + 1) 1 _ _ _ RF
    have g2 := cell_of_row _ (w.heap.size + 1) 2 _ _ _ RF
    have g3 := cell_of_row _ (w.heap.size + 1) 3 _ _ _ RF
    refine bodyPost_ret (v := .agg #[.int .i64 (m.a - swingM m), .int .i64 (m.a - tiltM m), .int .i64 (m.a + swingM m), .int .i64 (m.a + tiltM m)]) (by simp [results, Tryd.results132, go_sem, g0, g1, g2, g3]; try rfl) rfl ⟨rfl, ?_⟩
    have D := DD.out
    go_grown

end Go.Proofs.YthhnnkgfnhggbabDoor
