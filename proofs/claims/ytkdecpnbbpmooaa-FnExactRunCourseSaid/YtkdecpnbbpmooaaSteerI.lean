/- The course one ring further: the program. -/
import Derived.Test.YtkdecpnbbpmooaaSteerN
import Derived.Test.YtkdecpnbbpmooaaAbs
import Derived.Deep.RegionHeld3
namespace Go.Proofs.Ytkdecpnbbpmooaa
open Go.ChangeShapes Go.WideShapes Go.ChangeAt Go.RowKit
set_option linter.unusedVariables false
set_option linter.unusedSimpArgs false

theorem next_W0 (w : World) (l : Lm) (c : Co) : ((((w.alloc (.cells #[.int .i64 l.m, .int .i64 l.c] 25)).alloc (.cells #[.int .i64 c.o, .int .i64 c.h, .int .i64 c.t] 31)).alloc (.cells #[.int .i64 0, .int .i64 0, .int .i64 0] 31)).heap[w.heap.size]? = some (.cells #[.int .i64 l.m, .int .i64 l.c] 25 (0, 0)) ∧ (((w.alloc (.cells #[.int .i64 l.m, .int .i64 l.c] 25)).alloc (.cells #[.int .i64 c.o, .int .i64 c.h, .int .i64 c.t] 31)).alloc (.cells #[.int .i64 0, .int .i64 0, .int .i64 0] 31)).heap[w.heap.size + 1]? = some (.cells #[.int .i64 c.o, .int .i64 c.h, .int .i64 c.t] 31 (0, 0)) ∧ (((w.alloc (.cells #[.int .i64 l.m, .int .i64 l.c] 25)).alloc (.cells #[.int .i64 c.o, .int .i64 c.h, .int .i64 c.t] 31)).alloc (.cells #[.int .i64 0, .int .i64 0, .int .i64 0] 31)).heap[w.heap.size + 2]? = some (.cells #[.int .i64 noC.o, .int .i64 noC.h, .int .i64 noC.t] 31 (0, 0))) ∧ (((w.alloc (.cells #[.int .i64 l.m, .int .i64 l.c] 25)).alloc (.cells #[.int .i64 c.o, .int .i64 c.h, .int .i64 c.t] 31)).alloc (.cells #[.int .i64 0, .int .i64 0, .int .i64 0] 31)).heap.size = w.heap.size + 3 := by
  refine ⟨⟨?_, ?_, ?_⟩, by simp⟩
  · exact (Below.heap_alloc _ _ _ (by simp; omega)).trans (boxN2_0 w _ _)
  · exact (Below.heap_alloc _ _ _ (by simp)).trans (boxN2_1 w _ _)
  · have := heap_alloc_new ((w.alloc (.cells #[.int .i64 l.m, .int .i64 l.c] 25)).alloc (.cells #[.int .i64 c.o, .int .i64 c.h, .int .i64 c.t] 31)) (.cells #[.int .i64 0, .int .i64 0, .int .i64 0] 31)
    rwa [World.size_alloc, World.size_alloc] at this
theorem next_S (w : World) (l : Lm) (c : Co) (w' : World) (h : Below (w.heap.size + 3) (((w.alloc (.cells #[.int .i64 l.m, .int .i64 l.c] 25)).alloc (.cells #[.int .i64 c.o, .int .i64 c.h, .int .i64 c.t] 31)).alloc (.cells #[.int .i64 0, .int .i64 0, .int .i64 0] 31)) w') : w'.cell? ⟨w.heap.size, 0, none⟩ = some (.int .i64 l.m) ∧ w'.cell? ⟨w.heap.size, 1, none⟩ = some (.int .i64 l.c) ∧ w'.cell? ⟨w.heap.size + 1, 0, none⟩ = some (.int .i64 c.o) ∧ w'.cell? ⟨w.heap.size + 1, 1, none⟩ = some (.int .i64 c.h) ∧ w'.cell? ⟨w.heap.size + 1, 2, none⟩ = some (.int .i64 c.t) := by
  obtain ⟨⟨b0, b1, b2⟩, -⟩ := next_W0 w l c
  obtain ⟨⟨k0, k1⟩, -⟩ := boxLm_at ((h.block _ (by omega)).trans b0)
  obtain ⟨⟨k2, k3, k4⟩, -⟩ := boxCo_at ((h.block _ (by omega)).trans b1)
  exact ⟨k0, k1, k2, k3, k4⟩

set_option maxRecDepth 100000 in
set_option maxHeartbeats 8000000 in
theorem implNextC_no1 (l : Lm) (c : Co) (t : Int) (h1 : ¬ OkC l c) (w : World) :
    Calls Try.prog 19 #[(.agg #[.int .i64 l.m, .int .i64 l.c]), (.agg #[.int .i64 c.o, .int .i64 c.h, .int .i64 c.t]), .int .i64 t] w fun e w' => e = .returned (.tuple #[(.agg #[.int .i64 noC.o, .int .i64 noC.h, .int .i64 noC.t]), .bool false]) ∧ Below w.heap.size w w' := by
  have C1 := Lib.hid (fun w => implCourse_any l c false ⟨(fun e => by cases e), (fun e => absurd e h1)⟩ w)
  clear h1
  have KS : Hid (∀ w', Below (w.heap.size + 3) (((w.alloc (.cells #[.int .i64 l.m, .int .i64 l.c] 25)).alloc (.cells #[.int .i64 c.o, .int .i64 c.h, .int .i64 c.t] 31)).alloc (.cells #[.int .i64 0, .int .i64 0, .int .i64 0] 31)) w' → (w'.cell? ⟨w.heap.size, 0, none⟩ = some (.int .i64 l.m) ∧ w'.cell? ⟨w.heap.size, 1, none⟩ = some (.int .i64 l.c) ∧ w'.cell? ⟨w.heap.size + 1, 0, none⟩ = some (.int .i64 c.o) ∧ w'.cell? ⟨w.heap.size + 1, 1, none⟩ = some (.int .i64 c.h) ∧ w'.cell? ⟨w.heap.size + 1, 2, none⟩ = some (.int .i64 c.t))) := fun w' h => next_S w l c w' h
  have WS := Lib.hid (next_W0 w l c)
  go_enter Try.func19, Try.ntmps19
  go_wp2_with fail
  refine wp_region_held_drew (S := fun w' => (w'.cell? ⟨w.heap.size, 0, none⟩ = some (.int .i64 l.m) ∧ w'.cell? ⟨w.heap.size, 1, none⟩ = some (.int .i64 l.c) ∧ w'.cell? ⟨w.heap.size + 1, 0, none⟩ = some (.int .i64 c.o) ∧ w'.cell? ⟨w.heap.size + 1, 1, none⟩ = some (.int .i64 c.h) ∧ w'.cell? ⟨w.heap.size + 1, 2, none⟩ = some (.int .i64 c.t))) (by kernel_rfl) (KS.out _ (Below.refl _ _).drew) (fun hHeld => ?_)
  have D0 : Hid (Below (w.heap.size + 3) (((w.alloc (.cells #[.int .i64 l.m, .int .i64 l.c] 25)).alloc (.cells #[.int .i64 c.o, .int .i64 c.h, .int .i64 c.t] 31)).alloc (.cells #[.int .i64 0, .int .i64 0, .int .i64 0] 31)) (World.drew (((w.alloc (.cells #[.int .i64 l.m, .int .i64 l.c] 25)).alloc (.cells #[.int .i64 c.o, .int .i64 c.h, .int .i64 c.t] 31)).alloc (.cells #[.int .i64 0, .int .i64 0, .int .i64 0] 31)))) := (Below.refl _ _).drew
  have Z0 : w.heap.size + 3 ≤ (World.drew (((w.alloc (.cells #[.int .i64 l.m, .int .i64 l.c] 25)).alloc (.cells #[.int .i64 c.o, .int .i64 c.h, .int .i64 c.t] 31)).alloc (.cells #[.int .i64 0, .int .i64 0, .int .i64 0] 31))).heap.size := by show _ ≤ (((w.alloc (.cells #[.int .i64 l.m, .int .i64 l.c] 25)).alloc (.cells #[.int .i64 c.o, .int .i64 c.h, .int .i64 c.t] 31)).alloc (.cells #[.int .i64 0, .int .i64 0, .int .i64 0] 31)).heap.size; have := WS.out.2; omega
  refine wpAnyH_take (i := 0) (v := ?_) (by (simp only [List.getElem?_toArray, List.getElem?_cons_succ, List.getElem?_cons_zero]); (try exact rfl)) (by kernel_rfl) (by kernel_rfl) (by kernel_rfl) (by intro _ _ _ h; exact h) (Or.inl ⟨by rfl, ?_⟩) (by assumption) ?_
  rotate_left
  · intro w hSw
    try dsimp only at hSw
    go_simp
    try with_reducible rfl
  try simp only [Act.put, List.setIfInBounds_toArray, List.set_cons_zero, List.set_cons_succ]
  refine wpAnyH_take (i := 1) (v := ?_) (by (simp only [List.getElem?_toArray, List.getElem?_cons_succ, List.getElem?_cons_zero]); (try exact rfl)) (by kernel_rfl) (by kernel_rfl) (by kernel_rfl) (by intro _ _ _ h; exact h) (Or.inl ⟨by rfl, ?_⟩) (by assumption) ?_
  rotate_left
  · intro w hSw
    try dsimp only at hSw
    go_simp
    try with_reducible rfl
  try simp only [Act.put, List.setIfInBounds_toArray, List.set_cons_zero, List.set_cons_succ]
  refine wpAnyH_ready (rs := [2]) (by kernel_rfl) (by simp) ?_
  refine AllReadyH.cons (by (simp only [List.getElem?_toArray, List.getElem?_cons_succ, List.getElem?_cons_zero]); (try exact rfl)) (fun K hK => ?_) AllReadyH.nil
  go_simp
  go_at_call 17
  refine (C1.out _).mono ?_
  rintro e w1 ⟨rfl, b1⟩
  have D1 : Hid (Below (w.heap.size + 3) (((w.alloc (.cells #[.int .i64 l.m, .int .i64 l.c] 25)).alloc (.cells #[.int .i64 c.o, .int .i64 c.h, .int .i64 c.t] 31)).alloc (.cells #[.int .i64 0, .int .i64 0, .int .i64 0] 31)) w1) := D0.out.trans (b1.mono Z0)
  have Z1 : w.heap.size + 3 ≤ w1.heap.size := Nat.le_trans Z0 b1.size
  clear b1
  (first | refine hK.out _ _ ?_ (fun hHeld => ?_) | (go_wp2_with fail; refine hK.out _ _ ?_ (fun hHeld => ?_)))
  · try dsimp only
    exact KS.out _ (D1.out)
  clear hK K
  try simp only [Act.put, List.setIfInBounds_toArray, List.set_cons_zero, List.set_cons_succ]
  refine wpAnyH_take (i := 3) (v := ?_) (by (simp only [List.getElem?_toArray, List.getElem?_cons_succ, List.getElem?_cons_zero]); (try exact rfl)) (by kernel_rfl) (by kernel_rfl) (by kernel_rfl) (by intro _ _ _ h; exact h) (Or.inl ⟨by rfl, ?_⟩) (by assumption) ?_
  rotate_left
  · intro w hSw
    try dsimp only at hSw
    go_simp
    try with_reducible rfl
  try simp only [Act.put, List.setIfInBounds_toArray, List.set_cons_zero, List.set_cons_succ]
  refine wpAnyH_take (i := 4) (v := ?_) (by (simp only [List.getElem?_toArray, List.getElem?_cons_succ, List.getElem?_cons_zero]); (try exact rfl)) (by kernel_rfl) (by kernel_rfl) (by kernel_rfl) (by intro _ _ _ h; exact h) (Or.inl ⟨by rfl, ?_⟩) (by assumption) ?_
  rotate_left
  · intro w hSw
    try dsimp only at hSw
    go_simp
    try with_reducible rfl
  try simp only [Act.put, List.setIfInBounds_toArray, List.set_cons_zero, List.set_cons_succ]
  refine wpAnyH_take (i := 5) (v := undef) (by (simp only [List.getElem?_toArray, List.getElem?_cons_succ, List.getElem?_cons_zero]); (try exact rfl)) (by kernel_rfl) (by kernel_rfl) (by kernel_rfl) (by intro _ _ _ h; exact h) (Or.inr ⟨by rfl, rfl⟩) (by assumption) ?_
  try simp only [Act.put, List.setIfInBounds_toArray, List.set_cons_zero, List.set_cons_succ]
  refine wpAnyH_take (i := 6) (v := undef) (by (simp only [List.getElem?_toArray, List.getElem?_cons_succ, List.getElem?_cons_zero]); (try exact rfl)) (by kernel_rfl) (by kernel_rfl) (by kernel_rfl) (by intro _ _ _ h; exact h) (Or.inr ⟨by rfl, rfl⟩) (by assumption) ?_
  try simp only [Act.put, List.setIfInBounds_toArray, List.set_cons_zero, List.set_cons_succ]
  refine wpAnyH_take (i := 7) (v := undef) (by (simp only [List.getElem?_toArray, List.getElem?_cons_succ, List.getElem?_cons_zero]); (try exact rfl)) (by kernel_rfl) (by kernel_rfl) (by kernel_rfl) (by intro _ _ _ h; exact h) (Or.inr ⟨by rfl, rfl⟩) (by assumption) ?_
  try simp only [Act.put, List.setIfInBounds_toArray, List.set_cons_zero, List.set_cons_succ]
  refine wpAnyH_take (i := 8) (v := undef) (by (simp only [List.getElem?_toArray, List.getElem?_cons_succ, List.getElem?_cons_zero]); (try exact rfl)) (by kernel_rfl) (by kernel_rfl) (by kernel_rfl) (by intro _ _ _ h; exact h) (Or.inr ⟨by rfl, rfl⟩) (by assumption) ?_
  try simp only [Act.put, List.setIfInBounds_toArray, List.set_cons_zero, List.set_cons_succ]
  refine wpAnyH_take (i := 9) (v := ?_) (by (simp only [List.getElem?_toArray, List.getElem?_cons_succ, List.getElem?_cons_zero]); (try exact rfl)) (by kernel_rfl) (by kernel_rfl) (by kernel_rfl) (by intro _ _ _ h; exact h) (Or.inl ⟨by rfl, ?_⟩) (by assumption) ?_
  rotate_left
  · intro w hSw
    try dsimp only at hSw
    go_simp
    try with_reducible rfl
  try simp only [Act.put, List.setIfInBounds_toArray, List.set_cons_zero, List.set_cons_succ]
  refine wpAnyH_take (i := 10) (v := ?_) (by (simp only [List.getElem?_toArray, List.getElem?_cons_succ, List.getElem?_cons_zero]); (try exact rfl)) (by kernel_rfl) (by kernel_rfl) (by kernel_rfl) (by intro _ _ _ h; exact h) (Or.inl ⟨by rfl, ?_⟩) (by assumption) ?_
  rotate_left
  · intro w hSw
    try dsimp only at hSw
    go_simp
    try with_reducible rfl
  try simp only [Act.put, List.setIfInBounds_toArray, List.set_cons_zero, List.set_cons_succ]
  refine wpAnyH_take (i := 11) (v := undef) (by (simp only [List.getElem?_toArray, List.getElem?_cons_succ, List.getElem?_cons_zero]); (try exact rfl)) (by kernel_rfl) (by kernel_rfl) (by kernel_rfl) (by intro _ _ _ h; exact h) (Or.inr ⟨by rfl, rfl⟩) (by assumption) ?_
  try simp only [Act.put, List.setIfInBounds_toArray, List.set_cons_zero, List.set_cons_succ]
  refine wpAnyH_take (i := 12) (v := undef) (by (simp only [List.getElem?_toArray, List.getElem?_cons_succ, List.getElem?_cons_zero]); (try exact rfl)) (by kernel_rfl) (by kernel_rfl) (by kernel_rfl) (by intro _ _ _ h; exact h) (Or.inr ⟨by rfl, rfl⟩) (by assumption) ?_
  try simp only [Act.put, List.setIfInBounds_toArray, List.set_cons_zero, List.set_cons_succ]
  refine wpAnyH_take (i := 13) (v := undef) (by (simp only [List.getElem?_toArray, List.getElem?_cons_succ, List.getElem?_cons_zero]); (try exact rfl)) (by kernel_rfl) (by kernel_rfl) (by kernel_rfl) (by intro _ _ _ h; exact h) (Or.inr ⟨by rfl, rfl⟩) (by assumption) ?_
  try simp only [Act.put, List.setIfInBounds_toArray, List.set_cons_zero, List.set_cons_succ]
  refine wpAnyH_take (i := 14) (v := undef) (by (simp only [List.getElem?_toArray, List.getElem?_cons_succ, List.getElem?_cons_zero]); (try exact rfl)) (by kernel_rfl) (by kernel_rfl) (by kernel_rfl) (by intro _ _ _ h; exact h) (Or.inr ⟨by rfl, rfl⟩) (by assumption) ?_
  try simp only [Act.put, List.setIfInBounds_toArray, List.set_cons_zero, List.set_cons_succ]
  refine wpAnyH_take (i := 15) (v := undef) (by (simp only [List.getElem?_toArray, List.getElem?_cons_succ, List.getElem?_cons_zero]); (try exact rfl)) (by kernel_rfl) (by kernel_rfl) (by kernel_rfl) (by intro _ _ _ h; exact h) (Or.inr ⟨by rfl, rfl⟩) (by assumption) ?_
  try simp only [Act.put, List.setIfInBounds_toArray, List.set_cons_zero, List.set_cons_succ]
  refine wpAnyH_take (i := 16) (v := undef) (by (simp only [List.getElem?_toArray, List.getElem?_cons_succ, List.getElem?_cons_zero]); (try exact rfl)) (by kernel_rfl) (by kernel_rfl) (by kernel_rfl) (by intro _ _ _ h; exact h) (Or.inr ⟨by rfl, rfl⟩) (by assumption) ?_
  try simp only [Act.put, List.setIfInBounds_toArray, List.set_cons_zero, List.set_cons_succ]
  refine wpAnyH_take (i := 17) (v := undef) (by (simp only [List.getElem?_toArray, List.getElem?_cons_succ, List.getElem?_cons_zero]); (try exact rfl)) (by kernel_rfl) (by kernel_rfl) (by kernel_rfl) (by intro _ _ _ h; exact h) (Or.inr ⟨by rfl, rfl⟩) (by assumption) ?_
  try simp only [Act.put, List.setIfInBounds_toArray, List.set_cons_zero, List.set_cons_succ]
  refine wpAnyH_take (i := 18) (v := undef) (by (simp only [List.getElem?_toArray, List.getElem?_cons_succ, List.getElem?_cons_zero]); (try exact rfl)) (by kernel_rfl) (by kernel_rfl) (by kernel_rfl) (by intro _ _ _ h; exact h) (Or.inr ⟨by rfl, rfl⟩) (by assumption) ?_
  try simp only [Act.put, List.setIfInBounds_toArray, List.set_cons_zero, List.set_cons_succ]
  refine wpAnyH_take (i := 19) (v := ?_) (by (simp only [List.getElem?_toArray, List.getElem?_cons_succ, List.getElem?_cons_zero]); (try exact rfl)) (by kernel_rfl) (by kernel_rfl) (by kernel_rfl) (by intro _ _ _ h; exact h) (Or.inl ⟨by rfl, ?_⟩) (by assumption) ?_
  rotate_left
  · intro w hSw
    try dsimp only at hSw
    go_simp
    try with_reducible rfl
  try simp only [Act.put, List.setIfInBounds_toArray, List.set_cons_zero, List.set_cons_succ]
  refine wpAnyH_done (by kernel_rfl) ?_ _
  obtain ⟨⟨p0, p1, p2⟩, ps⟩ := WS.out
  have N1 := (D1.out.block _ (by omega)).trans p1
  have N2 := (D1.out.block _ (by omega)).trans p2
  have B : Below w.heap.size w w1 := Below.trans (by go_grown) (D1.out.mono (by omega))
  clear p0 p1 p2 ps WS KS hHeld
  clear D0 Z0
  clear D1
  obtain ⟨⟨k0, k1, k2⟩, ⟨f0, f1, f2⟩, l0⟩ := boxCo_at (q := noC) N2
  have RF := Lib.hid (boxCo_put N2 noC)
  have BB := Lib.hid B
  clear N1 N2 B
  go_wp2
  obtain ⟨⟨g0, g1, g2⟩, -⟩ := boxCo_at (q := noC) RF.out
  dsimp only [noC] at g0 g1 g2
  have B := BB.out
  have sz := B.size
  refine bodyPost_ret (v := .tuple #[(.agg #[.int .i64 noC.o, .int .i64 noC.h, .int .i64 noC.t]), .bool false]) (by simp [results, Try.results19, go_sem, g0, g1, g2, noC, nextC]; try rfl) rfl ⟨rfl, ?_⟩
  go_grown

set_option maxRecDepth 100000 in
set_option maxHeartbeats 8000000 in
theorem implNextC_no2 (l : Lm) (c : Co) (t : Int) (h1 : OkC l c) (h2 : ¬ (-l.m ≤ t ∧ t ≤ l.m)) (w : World) :
    Calls Try.prog 19 #[(.agg #[.int .i64 l.m, .int .i64 l.c]), (.agg #[.int .i64 c.o, .int .i64 c.h, .int .i64 c.t]), .int .i64 t] w fun e w' => e = .returned (.tuple #[(.agg #[.int .i64 noC.o, .int .i64 noC.h, .int .i64 noC.t]), .bool false]) ∧ Below w.heap.size w w' := by
  obtain ⟨⟨⟨m1, m2⟩, ⟨c1, c2⟩⟩, -⟩ := id h1
  have C1 := Lib.hid (fun w => implCourse_any l c true ⟨(fun e => h1), (fun e => rfl)⟩ w)
  have C2 := Lib.hid (fun w => (canTurn_any l (by omega) (by omega) t false ⟨(fun e => by cases e), (fun e => absurd e h2)⟩ w).mono fun e w' (hh : _ ∧ _) => (⟨hh.1, by rw [hh.2]; go_grown⟩ : _ ∧ Below w.heap.size w w'))
  clear h1 h2 m1 m2 c1 c2
  have KS : Hid (∀ w', Below (w.heap.size + 3) (((w.alloc (.cells #[.int .i64 l.m, .int .i64 l.c] 25)).alloc (.cells #[.int .i64 c.o, .int .i64 c.h, .int .i64 c.t] 31)).alloc (.cells #[.int .i64 0, .int .i64 0, .int .i64 0] 31)) w' → (w'.cell? ⟨w.heap.size, 0, none⟩ = some (.int .i64 l.m) ∧ w'.cell? ⟨w.heap.size, 1, none⟩ = some (.int .i64 l.c) ∧ w'.cell? ⟨w.heap.size + 1, 0, none⟩ = some (.int .i64 c.o) ∧ w'.cell? ⟨w.heap.size + 1, 1, none⟩ = some (.int .i64 c.h) ∧ w'.cell? ⟨w.heap.size + 1, 2, none⟩ = some (.int .i64 c.t))) := fun w' h => next_S w l c w' h
  have WS := Lib.hid (next_W0 w l c)
  go_enter Try.func19, Try.ntmps19
  go_wp2_with fail
  refine wp_region_held_drew (S := fun w' => (w'.cell? ⟨w.heap.size, 0, none⟩ = some (.int .i64 l.m) ∧ w'.cell? ⟨w.heap.size, 1, none⟩ = some (.int .i64 l.c) ∧ w'.cell? ⟨w.heap.size + 1, 0, none⟩ = some (.int .i64 c.o) ∧ w'.cell? ⟨w.heap.size + 1, 1, none⟩ = some (.int .i64 c.h) ∧ w'.cell? ⟨w.heap.size + 1, 2, none⟩ = some (.int .i64 c.t))) (by kernel_rfl) (KS.out _ (Below.refl _ _).drew) (fun hHeld => ?_)
  have D0 : Hid (Below (w.heap.size + 3) (((w.alloc (.cells #[.int .i64 l.m, .int .i64 l.c] 25)).alloc (.cells #[.int .i64 c.o, .int .i64 c.h, .int .i64 c.t] 31)).alloc (.cells #[.int .i64 0, .int .i64 0, .int .i64 0] 31)) (World.drew (((w.alloc (.cells #[.int .i64 l.m, .int .i64 l.c] 25)).alloc (.cells #[.int .i64 c.o, .int .i64 c.h, .int .i64 c.t] 31)).alloc (.cells #[.int .i64 0, .int .i64 0, .int .i64 0] 31)))) := (Below.refl _ _).drew
  have Z0 : w.heap.size + 3 ≤ (World.drew (((w.alloc (.cells #[.int .i64 l.m, .int .i64 l.c] 25)).alloc (.cells #[.int .i64 c.o, .int .i64 c.h, .int .i64 c.t] 31)).alloc (.cells #[.int .i64 0, .int .i64 0, .int .i64 0] 31))).heap.size := by show _ ≤ (((w.alloc (.cells #[.int .i64 l.m, .int .i64 l.c] 25)).alloc (.cells #[.int .i64 c.o, .int .i64 c.h, .int .i64 c.t] 31)).alloc (.cells #[.int .i64 0, .int .i64 0, .int .i64 0] 31)).heap.size; have := WS.out.2; omega
  refine wpAnyH_take (i := 0) (v := ?_) (by (simp only [List.getElem?_toArray, List.getElem?_cons_succ, List.getElem?_cons_zero]); (try exact rfl)) (by kernel_rfl) (by kernel_rfl) (by kernel_rfl) (by intro _ _ _ h; exact h) (Or.inl ⟨by rfl, ?_⟩) (by assumption) ?_
  rotate_left
  · intro w hSw
    try dsimp only at hSw
    go_simp
    try with_reducible rfl
  try simp only [Act.put, List.setIfInBounds_toArray, List.set_cons_zero, List.set_cons_succ]
  refine wpAnyH_take (i := 1) (v := ?_) (by (simp only [List.getElem?_toArray, List.getElem?_cons_succ, List.getElem?_cons_zero]); (try exact rfl)) (by kernel_rfl) (by kernel_rfl) (by kernel_rfl) (by intro _ _ _ h; exact h) (Or.inl ⟨by rfl, ?_⟩) (by assumption) ?_
  rotate_left
  · intro w hSw
    try dsimp only at hSw
    go_simp
    try with_reducible rfl
  try simp only [Act.put, List.setIfInBounds_toArray, List.set_cons_zero, List.set_cons_succ]
  refine wpAnyH_ready (rs := [2]) (by kernel_rfl) (by simp) ?_
  refine AllReadyH.cons (by (simp only [List.getElem?_toArray, List.getElem?_cons_succ, List.getElem?_cons_zero]); (try exact rfl)) (fun K hK => ?_) AllReadyH.nil
  go_simp
  go_at_call 17
  refine (C1.out _).mono ?_
  rintro e w1 ⟨rfl, b1⟩
  have D1 : Hid (Below (w.heap.size + 3) (((w.alloc (.cells #[.int .i64 l.m, .int .i64 l.c] 25)).alloc (.cells #[.int .i64 c.o, .int .i64 c.h, .int .i64 c.t] 31)).alloc (.cells #[.int .i64 0, .int .i64 0, .int .i64 0] 31)) w1) := D0.out.trans (b1.mono Z0)
  have Z1 : w.heap.size + 3 ≤ w1.heap.size := Nat.le_trans Z0 b1.size
  clear b1
  (first | refine hK.out _ _ ?_ (fun hHeld => ?_) | (go_wp2_with fail; refine hK.out _ _ ?_ (fun hHeld => ?_)))
  · try dsimp only
    exact KS.out _ (D1.out)
  clear hK K
  try simp only [Act.put, List.setIfInBounds_toArray, List.set_cons_zero, List.set_cons_succ]
  refine wpAnyH_take (i := 3) (v := ?_) (by (simp only [List.getElem?_toArray, List.getElem?_cons_succ, List.getElem?_cons_zero]); (try exact rfl)) (by kernel_rfl) (by kernel_rfl) (by kernel_rfl) (by intro _ _ _ h; exact h) (Or.inl ⟨by rfl, ?_⟩) (by assumption) ?_
  rotate_left
  · intro w hSw
    try dsimp only at hSw
    go_simp
    try with_reducible rfl
  try simp only [Act.put, List.setIfInBounds_toArray, List.set_cons_zero, List.set_cons_succ]
  refine wpAnyH_take (i := 4) (v := ?_) (by (simp only [List.getElem?_toArray, List.getElem?_cons_succ, List.getElem?_cons_zero]); (try exact rfl)) (by kernel_rfl) (by kernel_rfl) (by kernel_rfl) (by intro _ _ _ h; exact h) (Or.inl ⟨by rfl, ?_⟩) (by assumption) ?_
  rotate_left
  · intro w hSw
    try dsimp only at hSw
    go_simp
    try with_reducible rfl
  try simp only [Act.put, List.setIfInBounds_toArray, List.set_cons_zero, List.set_cons_succ]
  refine wpAnyH_take (i := 5) (v := ?_) (by (simp only [List.getElem?_toArray, List.getElem?_cons_succ, List.getElem?_cons_zero]); (try exact rfl)) (by kernel_rfl) (by kernel_rfl) (by kernel_rfl) (by intro _ _ _ h; exact h) (Or.inl ⟨by rfl, ?_⟩) (by assumption) ?_
  rotate_left
  · intro w hSw
    try dsimp only at hSw
    go_simp
    try with_reducible rfl
  try simp only [Act.put, List.setIfInBounds_toArray, List.set_cons_zero, List.set_cons_succ]
  refine wpAnyH_take (i := 6) (v := ?_) (by (simp only [List.getElem?_toArray, List.getElem?_cons_succ, List.getElem?_cons_zero]); (try exact rfl)) (by kernel_rfl) (by kernel_rfl) (by kernel_rfl) (by intro _ _ _ h; exact h) (Or.inl ⟨by rfl, ?_⟩) (by assumption) ?_
  rotate_left
  · intro w hSw
    try dsimp only at hSw
    go_simp
    try with_reducible rfl
  try simp only [Act.put, List.setIfInBounds_toArray, List.set_cons_zero, List.set_cons_succ]
  refine wpAnyH_ready (rs := [7]) (by kernel_rfl) (by simp) ?_
  refine AllReadyH.cons (by (simp only [List.getElem?_toArray, List.getElem?_cons_succ, List.getElem?_cons_zero]); (try exact rfl)) (fun K hK => ?_) AllReadyH.nil
  go_simp
  go_at_call 50
  refine (C2.out _).mono ?_
  rintro e w2 ⟨rfl, b2⟩
  have D2 : Hid (Below (w.heap.size + 3) (((w.alloc (.cells #[.int .i64 l.m, .int .i64 l.c] 25)).alloc (.cells #[.int .i64 c.o, .int .i64 c.h, .int .i64 c.t] 31)).alloc (.cells #[.int .i64 0, .int .i64 0, .int .i64 0] 31)) w2) := D1.out.trans (b2.mono Z1)
  have Z2 : w.heap.size + 3 ≤ w2.heap.size := Nat.le_trans Z1 b2.size
  clear b2
  (first | refine hK.out _ _ ?_ (fun hHeld => ?_) | (go_wp2_with fail; refine hK.out _ _ ?_ (fun hHeld => ?_)))
  · try dsimp only
    exact KS.out _ (D2.out)
  clear hK K
  try simp only [Act.put, List.setIfInBounds_toArray, List.set_cons_zero, List.set_cons_succ]
  refine wpAnyH_take (i := 8) (v := ?_) (by (simp only [List.getElem?_toArray, List.getElem?_cons_succ, List.getElem?_cons_zero]); (try exact rfl)) (by kernel_rfl) (by kernel_rfl) (by kernel_rfl) (by intro _ _ _ h; exact h) (Or.inl ⟨by rfl, ?_⟩) (by assumption) ?_
  rotate_left
  · intro w hSw
    try dsimp only at hSw
    go_simp
    try with_reducible rfl
  try simp only [Act.put, List.setIfInBounds_toArray, List.set_cons_zero, List.set_cons_succ]
  refine wpAnyH_take (i := 9) (v := ?_) (by (simp only [List.getElem?_toArray, List.getElem?_cons_succ, List.getElem?_cons_zero]); (try exact rfl)) (by kernel_rfl) (by kernel_rfl) (by kernel_rfl) (by intro _ _ _ h; exact h) (Or.inl ⟨by rfl, ?_⟩) (by assumption) ?_
  rotate_left
  · intro w hSw
    try dsimp only at hSw
    go_simp
    try with_reducible rfl
  try simp only [Act.put, List.setIfInBounds_toArray, List.set_cons_zero, List.set_cons_succ]
  refine wpAnyH_take (i := 10) (v := ?_) (by (simp only [List.getElem?_toArray, List.getElem?_cons_succ, List.getElem?_cons_zero]); (try exact rfl)) (by kernel_rfl) (by kernel_rfl) (by kernel_rfl) (by intro _ _ _ h; exact h) (Or.inl ⟨by rfl, ?_⟩) (by assumption) ?_
  rotate_left
  · intro w hSw
    try dsimp only at hSw
    go_simp
    try with_reducible rfl
  try simp only [Act.put, List.setIfInBounds_toArray, List.set_cons_zero, List.set_cons_succ]
  refine wpAnyH_take (i := 11) (v := undef) (by (simp only [List.getElem?_toArray, List.getElem?_cons_succ, List.getElem?_cons_zero]); (try exact rfl)) (by kernel_rfl) (by kernel_rfl) (by kernel_rfl) (by intro _ _ _ h; exact h) (Or.inr ⟨by rfl, rfl⟩) (by assumption) ?_
  try simp only [Act.put, List.setIfInBounds_toArray, List.set_cons_zero, List.set_cons_succ]
  refine wpAnyH_take (i := 12) (v := undef) (by (simp only [List.getElem?_toArray, List.getElem?_cons_succ, List.getElem?_cons_zero]); (try exact rfl)) (by kernel_rfl) (by kernel_rfl) (by kernel_rfl) (by intro _ _ _ h; exact h) (Or.inr ⟨by rfl, rfl⟩) (by assumption) ?_
  try simp only [Act.put, List.setIfInBounds_toArray, List.set_cons_zero, List.set_cons_succ]
  refine wpAnyH_take (i := 13) (v := undef) (by (simp only [List.getElem?_toArray, List.getElem?_cons_succ, List.getElem?_cons_zero]); (try exact rfl)) (by kernel_rfl) (by kernel_rfl) (by kernel_rfl) (by intro _ _ _ h; exact h) (Or.inr ⟨by rfl, rfl⟩) (by assumption) ?_
  try simp only [Act.put, List.setIfInBounds_toArray, List.set_cons_zero, List.set_cons_succ]
  refine wpAnyH_take (i := 14) (v := undef) (by (simp only [List.getElem?_toArray, List.getElem?_cons_succ, List.getElem?_cons_zero]); (try exact rfl)) (by kernel_rfl) (by kernel_rfl) (by kernel_rfl) (by intro _ _ _ h; exact h) (Or.inr ⟨by rfl, rfl⟩) (by assumption) ?_
  try simp only [Act.put, List.setIfInBounds_toArray, List.set_cons_zero, List.set_cons_succ]
  refine wpAnyH_take (i := 15) (v := undef) (by (simp only [List.getElem?_toArray, List.getElem?_cons_succ, List.getElem?_cons_zero]); (try exact rfl)) (by kernel_rfl) (by kernel_rfl) (by kernel_rfl) (by intro _ _ _ h; exact h) (Or.inr ⟨by rfl, rfl⟩) (by assumption) ?_
  try simp only [Act.put, List.setIfInBounds_toArray, List.set_cons_zero, List.set_cons_succ]
  refine wpAnyH_take (i := 16) (v := undef) (by (simp only [List.getElem?_toArray, List.getElem?_cons_succ, List.getElem?_cons_zero]); (try exact rfl)) (by kernel_rfl) (by kernel_rfl) (by kernel_rfl) (by intro _ _ _ h; exact h) (Or.inr ⟨by rfl, rfl⟩) (by assumption) ?_
  try simp only [Act.put, List.setIfInBounds_toArray, List.set_cons_zero, List.set_cons_succ]
  refine wpAnyH_take (i := 17) (v := undef) (by (simp only [List.getElem?_toArray, List.getElem?_cons_succ, List.getElem?_cons_zero]); (try exact rfl)) (by kernel_rfl) (by kernel_rfl) (by kernel_rfl) (by intro _ _ _ h; exact h) (Or.inr ⟨by rfl, rfl⟩) (by assumption) ?_
  try simp only [Act.put, List.setIfInBounds_toArray, List.set_cons_zero, List.set_cons_succ]
  refine wpAnyH_take (i := 18) (v := undef) (by (simp only [List.getElem?_toArray, List.getElem?_cons_succ, List.getElem?_cons_zero]); (try exact rfl)) (by kernel_rfl) (by kernel_rfl) (by kernel_rfl) (by intro _ _ _ h; exact h) (Or.inr ⟨by rfl, rfl⟩) (by assumption) ?_
  try simp only [Act.put, List.setIfInBounds_toArray, List.set_cons_zero, List.set_cons_succ]
  refine wpAnyH_take (i := 19) (v := ?_) (by (simp only [List.getElem?_toArray, List.getElem?_cons_succ, List.getElem?_cons_zero]); (try exact rfl)) (by kernel_rfl) (by kernel_rfl) (by kernel_rfl) (by intro _ _ _ h; exact h) (Or.inl ⟨by rfl, ?_⟩) (by assumption) ?_
  rotate_left
  · intro w hSw
    try dsimp only at hSw
    go_simp
    try with_reducible rfl
  try simp only [Act.put, List.setIfInBounds_toArray, List.set_cons_zero, List.set_cons_succ]
  refine wpAnyH_done (by kernel_rfl) ?_ _
  obtain ⟨⟨p0, p1, p2⟩, ps⟩ := WS.out
  have N1 := (D2.out.block _ (by omega)).trans p1
  have N2 := (D2.out.block _ (by omega)).trans p2
  have B : Below w.heap.size w w2 := Below.trans (by go_grown) (D2.out.mono (by omega))
  clear p0 p1 p2 ps WS KS hHeld
  clear D0 Z0
  clear D1 Z1
  clear D2
  obtain ⟨⟨k0, k1, k2⟩, ⟨f0, f1, f2⟩, l0⟩ := boxCo_at (q := noC) N2
  have RF := Lib.hid (boxCo_put N2 noC)
  have BB := Lib.hid B
  clear N1 N2 B
  go_wp2
  obtain ⟨⟨g0, g1, g2⟩, -⟩ := boxCo_at (q := noC) RF.out
  dsimp only [noC] at g0 g1 g2
  have B := BB.out
  have sz := B.size
  refine bodyPost_ret (v := .tuple #[(.agg #[.int .i64 noC.o, .int .i64 noC.h, .int .i64 noC.t]), .bool false]) (by simp [results, Try.results19, go_sem, g0, g1, g2, noC, nextC]; try rfl) rfl ⟨rfl, ?_⟩
  go_grown

set_option maxRecDepth 100000 in
set_option maxHeartbeats 8000000 in
theorem implNextC_no3 (l : Lm) (c : Co) (t : Int) (h1 : OkC l c) (h2 : -l.m ≤ t ∧ t ≤ l.m) (h3 : ¬ (-l.c ≤ t - c.t ∧ t - c.t ≤ l.c)) (w : World) :
    Calls Try.prog 19 #[(.agg #[.int .i64 l.m, .int .i64 l.c]), (.agg #[.int .i64 c.o, .int .i64 c.h, .int .i64 c.t]), .int .i64 t] w fun e w' => e = .returned (.tuple #[(.agg #[.int .i64 noC.o, .int .i64 noC.h, .int .i64 noC.t]), .bool false]) ∧ Below w.heap.size w w' := by
  obtain ⟨⟨⟨m1, m2⟩, ⟨c1, c2⟩⟩, ⟨⟨⟨x1, x2⟩, ⟨x3, x4⟩⟩, ⟨x5, x6⟩⟩⟩ := id h1
  obtain ⟨t1, t2⟩ := id h2
  have q1 : IntKind.i64.wrap (t - c.t) = t - c.t := IntWalk.i64_in _ (by omega)
  obtain ⟨r, hr⟩ : ∃ r, r = absI (t - c.t) := ⟨_, rfl⟩
  have C1 := Lib.hid (fun w => implCourse_any l c true ⟨(fun e => h1), (fun e => rfl)⟩ w)
  have C2 := Lib.hid (fun w => (canTurn_any l (by omega) (by omega) t true ⟨(fun e => h2), (fun e => rfl)⟩ w).mono fun e w' (hh : _ ∧ _) => (⟨hh.1, by rw [hh.2]; go_grown⟩ : _ ∧ Below w.heap.size w w'))
  have C3 := Lib.hid (fun w => (absolute_any (t - c.t) r hr (by omega) w).mono fun e w' (hh : _ ∧ _) => (⟨hh.1, by rw [hh.2]; exact Below.refl _ _⟩ : _ ∧ Below w.heap.size w w'))
  have gt : l.c < r := by rw [hr]; unfold absI; split <;> omega
  clear h1 h2 h3 hr
  have KS : Hid (∀ w', Below (w.heap.size + 3) (((w.alloc (.cells #[.int .i64 l.m, .int .i64 l.c] 25)).alloc (.cells #[.int .i64 c.o, .int .i64 c.h, .int .i64 c.t] 31)).alloc (.cells #[.int .i64 0, .int .i64 0, .int .i64 0] 31)) w' → (w'.cell? ⟨w.heap.size, 0, none⟩ = some (.int .i64 l.m) ∧ w'.cell? ⟨w.heap.size, 1, none⟩ = some (.int .i64 l.c) ∧ w'.cell? ⟨w.heap.size + 1, 0, none⟩ = some (.int .i64 c.o) ∧ w'.cell? ⟨w.heap.size + 1, 1, none⟩ = some (.int .i64 c.h) ∧ w'.cell? ⟨w.heap.size + 1, 2, none⟩ = some (.int .i64 c.t))) := fun w' h => next_S w l c w' h
  have WS := Lib.hid (next_W0 w l c)
  go_enter Try.func19, Try.ntmps19
  go_wp2_with fail
  refine wp_region_held_drew (S := fun w' => (w'.cell? ⟨w.heap.size, 0, none⟩ = some (.int .i64 l.m) ∧ w'.cell? ⟨w.heap.size, 1, none⟩ = some (.int .i64 l.c) ∧ w'.cell? ⟨w.heap.size + 1, 0, none⟩ = some (.int .i64 c.o) ∧ w'.cell? ⟨w.heap.size + 1, 1, none⟩ = some (.int .i64 c.h) ∧ w'.cell? ⟨w.heap.size + 1, 2, none⟩ = some (.int .i64 c.t))) (by kernel_rfl) (KS.out _ (Below.refl _ _).drew) (fun hHeld => ?_)
  have D0 : Hid (Below (w.heap.size + 3) (((w.alloc (.cells #[.int .i64 l.m, .int .i64 l.c] 25)).alloc (.cells #[.int .i64 c.o, .int .i64 c.h, .int .i64 c.t] 31)).alloc (.cells #[.int .i64 0, .int .i64 0, .int .i64 0] 31)) (World.drew (((w.alloc (.cells #[.int .i64 l.m, .int .i64 l.c] 25)).alloc (.cells #[.int .i64 c.o, .int .i64 c.h, .int .i64 c.t] 31)).alloc (.cells #[.int .i64 0, .int .i64 0, .int .i64 0] 31)))) := (Below.refl _ _).drew
  have Z0 : w.heap.size + 3 ≤ (World.drew (((w.alloc (.cells #[.int .i64 l.m, .int .i64 l.c] 25)).alloc (.cells #[.int .i64 c.o, .int .i64 c.h, .int .i64 c.t] 31)).alloc (.cells #[.int .i64 0, .int .i64 0, .int .i64 0] 31))).heap.size := by show _ ≤ (((w.alloc (.cells #[.int .i64 l.m, .int .i64 l.c] 25)).alloc (.cells #[.int .i64 c.o, .int .i64 c.h, .int .i64 c.t] 31)).alloc (.cells #[.int .i64 0, .int .i64 0, .int .i64 0] 31)).heap.size; have := WS.out.2; omega
  refine wpAnyH_take (i := 0) (v := ?_) (by (simp only [List.getElem?_toArray, List.getElem?_cons_succ, List.getElem?_cons_zero]); (try exact rfl)) (by kernel_rfl) (by kernel_rfl) (by kernel_rfl) (by intro _ _ _ h; exact h) (Or.inl ⟨by rfl, ?_⟩) (by assumption) ?_
  rotate_left
  · intro w hSw
    try dsimp only at hSw
    go_simp
    try with_reducible rfl
  try simp only [Act.put, List.setIfInBounds_toArray, List.set_cons_zero, List.set_cons_succ]
  refine wpAnyH_take (i := 1) (v := ?_) (by (simp only [List.getElem?_toArray, List.getElem?_cons_succ, List.getElem?_cons_zero]); (try exact rfl)) (by kernel_rfl) (by kernel_rfl) (by kernel_rfl) (by intro _ _ _ h; exact h) (Or.inl ⟨by rfl, ?_⟩) (by assumption) ?_
  rotate_left
  · intro w hSw
    try dsimp only at hSw
    go_simp
    try with_reducible rfl
  try simp only [Act.put, List.setIfInBounds_toArray, List.set_cons_zero, List.set_cons_succ]
  refine wpAnyH_ready (rs := [2]) (by kernel_rfl) (by simp) ?_
  refine AllReadyH.cons (by (simp only [List.getElem?_toArray, List.getElem?_cons_succ, List.getElem?_cons_zero]); (try exact rfl)) (fun K hK => ?_) AllReadyH.nil
  go_simp
  go_at_call 17
  refine (C1.out _).mono ?_
  rintro e w1 ⟨rfl, b1⟩
  have D1 : Hid (Below (w.heap.size + 3) (((w.alloc (.cells #[.int .i64 l.m, .int .i64 l.c] 25)).alloc (.cells #[.int .i64 c.o, .int .i64 c.h, .int .i64 c.t] 31)).alloc (.cells #[.int .i64 0, .int .i64 0, .int .i64 0] 31)) w1) := D0.out.trans (b1.mono Z0)
  have Z1 : w.heap.size + 3 ≤ w1.heap.size := Nat.le_trans Z0 b1.size
  clear b1
  (first | refine hK.out _ _ ?_ (fun hHeld => ?_) | (go_wp2_with fail; refine hK.out _ _ ?_ (fun hHeld => ?_)))
  · try dsimp only
    exact KS.out _ (D1.out)
  clear hK K
  try simp only [Act.put, List.setIfInBounds_toArray, List.set_cons_zero, List.set_cons_succ]
  refine wpAnyH_take (i := 3) (v := ?_) (by (simp only [List.getElem?_toArray, List.getElem?_cons_succ, List.getElem?_cons_zero]); (try exact rfl)) (by kernel_rfl) (by kernel_rfl) (by kernel_rfl) (by intro _ _ _ h; exact h) (Or.inl ⟨by rfl, ?_⟩) (by assumption) ?_
  rotate_left
  · intro w hSw
    try dsimp only at hSw
    go_simp
    try with_reducible rfl
  try simp only [Act.put, List.setIfInBounds_toArray, List.set_cons_zero, List.set_cons_succ]
  refine wpAnyH_take (i := 4) (v := ?_) (by (simp only [List.getElem?_toArray, List.getElem?_cons_succ, List.getElem?_cons_zero]); (try exact rfl)) (by kernel_rfl) (by kernel_rfl) (by kernel_rfl) (by intro _ _ _ h; exact h) (Or.inl ⟨by rfl, ?_⟩) (by assumption) ?_
  rotate_left
  · intro w hSw
    try dsimp only at hSw
    go_simp
    try with_reducible rfl
  try simp only [Act.put, List.setIfInBounds_toArray, List.set_cons_zero, List.set_cons_succ]
  refine wpAnyH_take (i := 5) (v := ?_) (by (simp only [List.getElem?_toArray, List.getElem?_cons_succ, List.getElem?_cons_zero]); (try exact rfl)) (by kernel_rfl) (by kernel_rfl) (by kernel_rfl) (by intro _ _ _ h; exact h) (Or.inl ⟨by rfl, ?_⟩) (by assumption) ?_
  rotate_left
  · intro w hSw
    try dsimp only at hSw
    go_simp
    try with_reducible rfl
  try simp only [Act.put, List.setIfInBounds_toArray, List.set_cons_zero, List.set_cons_succ]
  refine wpAnyH_take (i := 6) (v := ?_) (by (simp only [List.getElem?_toArray, List.getElem?_cons_succ, List.getElem?_cons_zero]); (try exact rfl)) (by kernel_rfl) (by kernel_rfl) (by kernel_rfl) (by intro _ _ _ h; exact h) (Or.inl ⟨by rfl, ?_⟩) (by assumption) ?_
  rotate_left
  · intro w hSw
    try dsimp only at hSw
    go_simp
    try with_reducible rfl
  try simp only [Act.put, List.setIfInBounds_toArray, List.set_cons_zero, List.set_cons_succ]
  refine wpAnyH_ready (rs := [7]) (by kernel_rfl) (by simp) ?_
  refine AllReadyH.cons (by (simp only [List.getElem?_toArray, List.getElem?_cons_succ, List.getElem?_cons_zero]); (try exact rfl)) (fun K hK => ?_) AllReadyH.nil
  go_simp
  go_at_call 50
  refine (C2.out _).mono ?_
  rintro e w2 ⟨rfl, b2⟩
  have D2 : Hid (Below (w.heap.size + 3) (((w.alloc (.cells #[.int .i64 l.m, .int .i64 l.c] 25)).alloc (.cells #[.int .i64 c.o, .int .i64 c.h, .int .i64 c.t] 31)).alloc (.cells #[.int .i64 0, .int .i64 0, .int .i64 0] 31)) w2) := D1.out.trans (b2.mono Z1)
  have Z2 : w.heap.size + 3 ≤ w2.heap.size := Nat.le_trans Z1 b2.size
  clear b2
  (first | refine hK.out _ _ ?_ (fun hHeld => ?_) | (go_wp2_with fail; refine hK.out _ _ ?_ (fun hHeld => ?_)))
  · try dsimp only
    exact KS.out _ (D2.out)
  clear hK K
  try simp only [Act.put, List.setIfInBounds_toArray, List.set_cons_zero, List.set_cons_succ]
  refine wpAnyH_take (i := 8) (v := ?_) (by (simp only [List.getElem?_toArray, List.getElem?_cons_succ, List.getElem?_cons_zero]); (try exact rfl)) (by kernel_rfl) (by kernel_rfl) (by kernel_rfl) (by intro _ _ _ h; exact h) (Or.inl ⟨by rfl, ?_⟩) (by assumption) ?_
  rotate_left
  · intro w hSw
    try dsimp only at hSw
    go_simp
    try with_reducible rfl
  try simp only [Act.put, List.setIfInBounds_toArray, List.set_cons_zero, List.set_cons_succ]
  refine wpAnyH_take (i := 9) (v := ?_) (by (simp only [List.getElem?_toArray, List.getElem?_cons_succ, List.getElem?_cons_zero]); (try exact rfl)) (by kernel_rfl) (by kernel_rfl) (by kernel_rfl) (by intro _ _ _ h; exact h) (Or.inl ⟨by rfl, ?_⟩) (by assumption) ?_
  rotate_left
  · intro w hSw
    try dsimp only at hSw
    go_simp
    try with_reducible rfl
  try simp only [Act.put, List.setIfInBounds_toArray, List.set_cons_zero, List.set_cons_succ]
  refine wpAnyH_take (i := 10) (v := ?_) (by (simp only [List.getElem?_toArray, List.getElem?_cons_succ, List.getElem?_cons_zero]); (try exact rfl)) (by kernel_rfl) (by kernel_rfl) (by kernel_rfl) (by intro _ _ _ h; exact h) (Or.inl ⟨by rfl, ?_⟩) (by assumption) ?_
  rotate_left
  · intro w hSw
    try dsimp only at hSw
    go_simp
    try with_reducible rfl
  try simp only [Act.put, List.setIfInBounds_toArray, List.set_cons_zero, List.set_cons_succ]
  refine wpAnyH_take (i := 11) (v := ?_) (by (simp only [List.getElem?_toArray, List.getElem?_cons_succ, List.getElem?_cons_zero]); (try exact rfl)) (by kernel_rfl) (by kernel_rfl) (by kernel_rfl) (by intro _ _ _ h; exact h) (Or.inl ⟨by rfl, ?_⟩) (by assumption) ?_
  rotate_left
  · intro w hSw
    try dsimp only at hSw
    go_simp
    try with_reducible rfl
  try simp only [Act.put, List.setIfInBounds_toArray, List.set_cons_zero, List.set_cons_succ]
  refine wpAnyH_take (i := 12) (v := ?_) (by (simp only [List.getElem?_toArray, List.getElem?_cons_succ, List.getElem?_cons_zero]); (try exact rfl)) (by kernel_rfl) (by kernel_rfl) (by kernel_rfl) (by intro _ _ _ h; exact h) (Or.inl ⟨by rfl, ?_⟩) (by assumption) ?_
  rotate_left
  · intro w hSw
    try dsimp only at hSw
    go_simp
    try with_reducible rfl
  try simp only [Act.put, List.setIfInBounds_toArray, List.set_cons_zero, List.set_cons_succ]
  refine wpAnyH_take (i := 13) (v := ?_) (by (simp only [List.getElem?_toArray, List.getElem?_cons_succ, List.getElem?_cons_zero]); (try exact rfl)) (by kernel_rfl) (by kernel_rfl) (by kernel_rfl) (by intro _ _ _ h; exact h) (Or.inl ⟨by rfl, ?_⟩) (by assumption) ?_
  rotate_left
  · intro w hSw
    try dsimp only at hSw
    go_simp
    try with_reducible rfl
  try simp only [Act.put, List.setIfInBounds_toArray, List.set_cons_zero, List.set_cons_succ]
  refine wpAnyH_take (i := 14) (v := ?_) (by (simp only [List.getElem?_toArray, List.getElem?_cons_succ, List.getElem?_cons_zero]); (try exact rfl)) (by kernel_rfl) (by kernel_rfl) (by kernel_rfl) (by intro _ _ _ h; exact h) (Or.inl ⟨by rfl, ?_⟩) (by assumption) ?_
  rotate_left
  · intro w hSw
    try dsimp only at hSw
    go_simp
    try with_reducible rfl
  try simp only [Act.put, List.setIfInBounds_toArray, List.set_cons_zero, List.set_cons_succ]
  refine wpAnyH_take (i := 16) (v := ?_) (by (simp only [List.getElem?_toArray, List.getElem?_cons_succ, List.getElem?_cons_zero]); (try exact rfl)) (by kernel_rfl) (by kernel_rfl) (by kernel_rfl) (by intro _ _ _ h; exact h) (Or.inl ⟨by rfl, ?_⟩) (by assumption) ?_
  rotate_left
  · intro w hSw
    try dsimp only at hSw
    go_simp
    try with_reducible rfl
  try simp only [Act.put, List.setIfInBounds_toArray, List.set_cons_zero, List.set_cons_succ]
  refine wpAnyH_take (i := 17) (v := ?_) (by (simp only [List.getElem?_toArray, List.getElem?_cons_succ, List.getElem?_cons_zero]); (try exact rfl)) (by kernel_rfl) (by kernel_rfl) (by kernel_rfl) (by intro _ _ _ h; exact h) (Or.inl ⟨by rfl, ?_⟩) (by assumption) ?_
  rotate_left
  · intro w hSw
    try dsimp only at hSw
    go_simp
    try with_reducible rfl
  try simp only [Act.put, List.setIfInBounds_toArray, List.set_cons_zero, List.set_cons_succ]
  try rw [q1]
  refine wpAnyH_ready (rs := [15]) (by kernel_rfl) (by simp) ?_
  refine AllReadyH.cons (by (simp only [List.getElem?_toArray, List.getElem?_cons_succ, List.getElem?_cons_zero]); (try exact rfl)) (fun K hK => ?_) AllReadyH.nil
  go_simp
  go_at_call 52
  refine (C3.out _).mono ?_
  rintro e w3 ⟨rfl, b3⟩
  have D3 : Hid (Below (w.heap.size + 3) (((w.alloc (.cells #[.int .i64 l.m, .int .i64 l.c] 25)).alloc (.cells #[.int .i64 c.o, .int .i64 c.h, .int .i64 c.t] 31)).alloc (.cells #[.int .i64 0, .int .i64 0, .int .i64 0] 31)) w3) := D2.out.trans (b3.mono Z2)
  have Z3 : w.heap.size + 3 ≤ w3.heap.size := Nat.le_trans Z2 b3.size
  clear b3
  (first | refine hK.out _ _ ?_ (fun hHeld => ?_) | (go_wp2_with fail; refine hK.out _ _ ?_ (fun hHeld => ?_)))
  · try dsimp only
    exact KS.out _ (D3.out)
  clear hK K
  try simp only [Act.put, List.setIfInBounds_toArray, List.set_cons_zero, List.set_cons_succ]
  refine wpAnyH_take (i := 18) (v := ?_) (by (simp only [List.getElem?_toArray, List.getElem?_cons_succ, List.getElem?_cons_zero]); (try exact rfl)) (by kernel_rfl) (by kernel_rfl) (by kernel_rfl) (by intro _ _ _ h; exact h) (Or.inl ⟨by rfl, ?_⟩) (by assumption) ?_
  rotate_left
  · intro w hSw
    try dsimp only at hSw
    go_simp
    try with_reducible rfl
  try simp only [Act.put, List.setIfInBounds_toArray, List.set_cons_zero, List.set_cons_succ]
  refine wpAnyH_take (i := 19) (v := ?_) (by (simp only [List.getElem?_toArray, List.getElem?_cons_succ, List.getElem?_cons_zero]); (try exact rfl)) (by kernel_rfl) (by kernel_rfl) (by kernel_rfl) (by intro _ _ _ h; exact h) (Or.inl ⟨by rfl, ?_⟩) (by assumption) ?_
  rotate_left
  · intro w hSw
    try dsimp only at hSw
    go_simp
    try with_reducible rfl
  try simp only [Act.put, List.setIfInBounds_toArray, List.set_cons_zero, List.set_cons_succ]
  refine wpAnyH_done (by kernel_rfl) ?_ _
  obtain ⟨⟨p0, p1, p2⟩, ps⟩ := WS.out
  have N1 := (D3.out.block _ (by omega)).trans p1
  have N2 := (D3.out.block _ (by omega)).trans p2
  have B : Below w.heap.size w w3 := Below.trans (by go_grown) (D3.out.mono (by omega))
  clear p0 p1 p2 ps WS KS hHeld
  clear D0 Z0
  clear D1 Z1
  clear D2 Z2
  clear D3
  obtain ⟨⟨k0, k1, k2⟩, ⟨f0, f1, f2⟩, l0⟩ := boxCo_at (q := noC) N2
  have RF := Lib.hid (boxCo_put N2 noC)
  have BB := Lib.hid B
  clear N1 N2 B
  go_wp2
  obtain ⟨⟨g0, g1, g2⟩, -⟩ := boxCo_at (q := noC) RF.out
  dsimp only [noC] at g0 g1 g2
  have B := BB.out
  have sz := B.size
  refine bodyPost_ret (v := .tuple #[(.agg #[.int .i64 noC.o, .int .i64 noC.h, .int .i64 noC.t]), .bool false]) (by simp [results, Try.results19, go_sem, g0, g1, g2, noC, nextC]; try rfl) rfl ⟨rfl, ?_⟩
  go_grown

set_option maxRecDepth 100000 in
set_option maxHeartbeats 8000000 in
theorem implNextC_no4 (l : Lm) (c : Co) (t : Int) (h1 : OkC l c) (h2 : -l.m ≤ t ∧ t ≤ l.m) (h3 : -l.c ≤ t - c.t ∧ t - c.t ≤ l.c) (h4 : ¬ InC l.m (nextC c t)) (w : World) :
    Calls Try.prog 19 #[(.agg #[.int .i64 l.m, .int .i64 l.c]), (.agg #[.int .i64 c.o, .int .i64 c.h, .int .i64 c.t]), .int .i64 t] w fun e w' => e = .returned (.tuple #[(.agg #[.int .i64 noC.o, .int .i64 noC.h, .int .i64 noC.t]), .bool false]) ∧ Below w.heap.size w w' := by
  obtain ⟨⟨⟨m1, m2⟩, ⟨c1, c2⟩⟩, ⟨⟨⟨x1, x2⟩, ⟨x3, x4⟩⟩, ⟨x5, x6⟩⟩⟩ := id h1
  obtain ⟨t1, t2⟩ := id h2
  have q1 : IntKind.i64.wrap (t - c.t) = t - c.t := IntWalk.i64_in _ (by omega)
  obtain ⟨r, hr⟩ : ∃ r, r = absI (t - c.t) := ⟨_, rfl⟩
  have C1 := Lib.hid (fun w => implCourse_any l c true ⟨(fun e => h1), (fun e => rfl)⟩ w)
  have C2 := Lib.hid (fun w => (canTurn_any l (by omega) (by omega) t true ⟨(fun e => h2), (fun e => rfl)⟩ w).mono fun e w' (hh : _ ∧ _) => (⟨hh.1, by rw [hh.2]; go_grown⟩ : _ ∧ Below w.heap.size w w'))
  have C3 := Lib.hid (fun w => (absolute_any (t - c.t) r hr (by omega) w).mono fun e w' (hh : _ ∧ _) => (⟨hh.1, by rw [hh.2]; exact Below.refl _ _⟩ : _ ∧ Below w.heap.size w w'))
  have gt : ¬ l.c < r := by rw [hr]; unfold absI; split <;> omega
  have C4 : Hid (∀ w : World, Calls Try.prog 49 #[(.agg #[.int .i64 (c.o + c.h), .int .i64 (c.h + t), .int .i64 t])] w fun e w' => e = .returned (.bool false) ∧ w' = w.alloc (.cells #[.int .i64 (c.o + c.h), .int .i64 (c.h + t), .int .i64 t] 31)) := (fun w => isNear_any (nextC c t) false ⟨(fun e => by cases e), (fun e => absurd ⟨e, h2⟩ h4)⟩ w)
  clear h4
  clear h1 h2 h3 hr
  have KS : Hid (∀ w', Below (w.heap.size + 3) (((w.alloc (.cells #[.int .i64 l.m, .int .i64 l.c] 25)).alloc (.cells #[.int .i64 c.o, .int .i64 c.h, .int .i64 c.t] 31)).alloc (.cells #[.int .i64 0, .int .i64 0, .int .i64 0] 31)) w' → (w'.cell? ⟨w.heap.size, 0, none⟩ = some (.int .i64 l.m) ∧ w'.cell? ⟨w.heap.size, 1, none⟩ = some (.int .i64 l.c) ∧ w'.cell? ⟨w.heap.size + 1, 0, none⟩ = some (.int .i64 c.o) ∧ w'.cell? ⟨w.heap.size + 1, 1, none⟩ = some (.int .i64 c.h) ∧ w'.cell? ⟨w.heap.size + 1, 2, none⟩ = some (.int .i64 c.t))) := fun w' h => next_S w l c w' h
  have WS := Lib.hid (next_W0 w l c)
  go_enter Try.func19, Try.ntmps19
  go_wp2_with fail
  refine wp_region_held_drew (S := fun w' => (w'.cell? ⟨w.heap.size, 0, none⟩ = some (.int .i64 l.m) ∧ w'.cell? ⟨w.heap.size, 1, none⟩ = some (.int .i64 l.c) ∧ w'.cell? ⟨w.heap.size + 1, 0, none⟩ = some (.int .i64 c.o) ∧ w'.cell? ⟨w.heap.size + 1, 1, none⟩ = some (.int .i64 c.h) ∧ w'.cell? ⟨w.heap.size + 1, 2, none⟩ = some (.int .i64 c.t))) (by kernel_rfl) (KS.out _ (Below.refl _ _).drew) (fun hHeld => ?_)
  have D0 : Hid (Below (w.heap.size + 3) (((w.alloc (.cells #[.int .i64 l.m, .int .i64 l.c] 25)).alloc (.cells #[.int .i64 c.o, .int .i64 c.h, .int .i64 c.t] 31)).alloc (.cells #[.int .i64 0, .int .i64 0, .int .i64 0] 31)) (World.drew (((w.alloc (.cells #[.int .i64 l.m, .int .i64 l.c] 25)).alloc (.cells #[.int .i64 c.o, .int .i64 c.h, .int .i64 c.t] 31)).alloc (.cells #[.int .i64 0, .int .i64 0, .int .i64 0] 31)))) := (Below.refl _ _).drew
  have Z0 : w.heap.size + 3 ≤ (World.drew (((w.alloc (.cells #[.int .i64 l.m, .int .i64 l.c] 25)).alloc (.cells #[.int .i64 c.o, .int .i64 c.h, .int .i64 c.t] 31)).alloc (.cells #[.int .i64 0, .int .i64 0, .int .i64 0] 31))).heap.size := by show _ ≤ (((w.alloc (.cells #[.int .i64 l.m, .int .i64 l.c] 25)).alloc (.cells #[.int .i64 c.o, .int .i64 c.h, .int .i64 c.t] 31)).alloc (.cells #[.int .i64 0, .int .i64 0, .int .i64 0] 31)).heap.size; have := WS.out.2; omega
  refine wpAnyH_take (i := 0) (v := ?_) (by (simp only [List.getElem?_toArray, List.getElem?_cons_succ, List.getElem?_cons_zero]); (try exact rfl)) (by kernel_rfl) (by kernel_rfl) (by kernel_rfl) (by intro _ _ _ h; exact h) (Or.inl ⟨by rfl, ?_⟩) (by assumption) ?_
  rotate_left
  · intro w hSw
    try dsimp only at hSw
    go_simp
    try with_reducible rfl
  try simp only [Act.put, List.setIfInBounds_toArray, List.set_cons_zero, List.set_cons_succ]
  refine wpAnyH_take (i := 1) (v := ?_) (by (simp only [List.getElem?_toArray, List.getElem?_cons_succ, List.getElem?_cons_zero]); (try exact rfl)) (by kernel_rfl) (by kernel_rfl) (by kernel_rfl) (by intro _ _ _ h; exact h) (Or.inl ⟨by rfl, ?_⟩) (by assumption) ?_
  rotate_left
  · intro w hSw
    try dsimp only at hSw
    go_simp
    try with_reducible rfl
  try simp only [Act.put, List.setIfInBounds_toArray, List.set_cons_zero, List.set_cons_succ]
  refine wpAnyH_ready (rs := [2]) (by kernel_rfl) (by simp) ?_
  refine AllReadyH.cons (by (simp only [List.getElem?_toArray, List.getElem?_cons_succ, List.getElem?_cons_zero]); (try exact rfl)) (fun K hK => ?_) AllReadyH.nil
  go_simp
  go_at_call 17
  refine (C1.out _).mono ?_
  rintro e w1 ⟨rfl, b1⟩
  have D1 : Hid (Below (w.heap.size + 3) (((w.alloc (.cells #[.int .i64 l.m, .int .i64 l.c] 25)).alloc (.cells #[.int .i64 c.o, .int .i64 c.h, .int .i64 c.t] 31)).alloc (.cells #[.int .i64 0, .int .i64 0, .int .i64 0] 31)) w1) := D0.out.trans (b1.mono Z0)
  have Z1 : w.heap.size + 3 ≤ w1.heap.size := Nat.le_trans Z0 b1.size
  clear b1
  (first | refine hK.out _ _ ?_ (fun hHeld => ?_) | (go_wp2_with fail; refine hK.out _ _ ?_ (fun hHeld => ?_)))
  · try dsimp only
    exact KS.out _ (D1.out)
  clear hK K
  try simp only [Act.put, List.setIfInBounds_toArray, List.set_cons_zero, List.set_cons_succ]
  refine wpAnyH_take (i := 3) (v := ?_) (by (simp only [List.getElem?_toArray, List.getElem?_cons_succ, List.getElem?_cons_zero]); (try exact rfl)) (by kernel_rfl) (by kernel_rfl) (by kernel_rfl) (by intro _ _ _ h; exact h) (Or.inl ⟨by rfl, ?_⟩) (by assumption) ?_
  rotate_left
  · intro w hSw
    try dsimp only at hSw
    go_simp
    try with_reducible rfl
  try simp only [Act.put, List.setIfInBounds_toArray, List.set_cons_zero, List.set_cons_succ]
  refine wpAnyH_take (i := 4) (v := ?_) (by (simp only [List.getElem?_toArray, List.getElem?_cons_succ, List.getElem?_cons_zero]); (try exact rfl)) (by kernel_rfl) (by kernel_rfl) (by kernel_rfl) (by intro _ _ _ h; exact h) (Or.inl ⟨by rfl, ?_⟩) (by assumption) ?_
  rotate_left
  · intro w hSw
    try dsimp only at hSw
    go_simp
    try with_reducible rfl
  try simp only [Act.put, List.setIfInBounds_toArray, List.set_cons_zero, List.set_cons_succ]
  refine wpAnyH_take (i := 5) (v := ?_) (by (simp only [List.getElem?_toArray, List.getElem?_cons_succ, List.getElem?_cons_zero]); (try exact rfl)) (by kernel_rfl) (by kernel_rfl) (by kernel_rfl) (by intro _ _ _ h; exact h) (Or.inl ⟨by rfl, ?_⟩) (by assumption) ?_
  rotate_left
  · intro w hSw
    try dsimp only at hSw
    go_simp
    try with_reducible rfl
  try simp only [Act.put, List.setIfInBounds_toArray, List.set_cons_zero, List.set_cons_succ]
  refine wpAnyH_take (i := 6) (v := ?_) (by (simp only [List.getElem?_toArray, List.getElem?_cons_succ, List.getElem?_cons_zero]); (try exact rfl)) (by kernel_rfl) (by kernel_rfl) (by kernel_rfl) (by intro _ _ _ h; exact h) (Or.inl ⟨by rfl, ?_⟩) (by assumption) ?_
  rotate_left
  · intro w hSw
    try dsimp only at hSw
    go_simp
    try with_reducible rfl
  try simp only [Act.put, List.setIfInBounds_toArray, List.set_cons_zero, List.set_cons_succ]
  refine wpAnyH_ready (rs := [7]) (by kernel_rfl) (by simp) ?_
  refine AllReadyH.cons (by (simp only [List.getElem?_toArray, List.getElem?_cons_succ, List.getElem?_cons_zero]); (try exact rfl)) (fun K hK => ?_) AllReadyH.nil
  go_simp
  go_at_call 50
  refine (C2.out _).mono ?_
  rintro e w2 ⟨rfl, b2⟩
  have D2 : Hid (Below (w.heap.size + 3) (((w.alloc (.cells #[.int .i64 l.m, .int .i64 l.c] 25)).alloc (.cells #[.int .i64 c.o, .int .i64 c.h, .int .i64 c.t] 31)).alloc (.cells #[.int .i64 0, .int .i64 0, .int .i64 0] 31)) w2) := D1.out.trans (b2.mono Z1)
  have Z2 : w.heap.size + 3 ≤ w2.heap.size := Nat.le_trans Z1 b2.size
  clear b2
  (first | refine hK.out _ _ ?_ (fun hHeld => ?_) | (go_wp2_with fail; refine hK.out _ _ ?_ (fun hHeld => ?_)))
  · try dsimp only
    exact KS.out _ (D2.out)
  clear hK K
  try simp only [Act.put, List.setIfInBounds_toArray, List.set_cons_zero, List.set_cons_succ]
  refine wpAnyH_take (i := 8) (v := ?_) (by (simp only [List.getElem?_toArray, List.getElem?_cons_succ, List.getElem?_cons_zero]); (try exact rfl)) (by kernel_rfl) (by kernel_rfl) (by kernel_rfl) (by intro _ _ _ h; exact h) (Or.inl ⟨by rfl, ?_⟩) (by assumption) ?_
  rotate_left
  · intro w hSw
    try dsimp only at hSw
    go_simp
    try with_reducible rfl
  try simp only [Act.put, List.setIfInBounds_toArray, List.set_cons_zero, List.set_cons_succ]
  refine wpAnyH_take (i := 9) (v := ?_) (by (simp only [List.getElem?_toArray, List.getElem?_cons_succ, List.getElem?_cons_zero]); (try exact rfl)) (by kernel_rfl) (by kernel_rfl) (by kernel_rfl) (by intro _ _ _ h; exact h) (Or.inl ⟨by rfl, ?_⟩) (by assumption) ?_
  rotate_left
  · intro w hSw
    try dsimp only at hSw
    go_simp
    try with_reducible rfl
  try simp only [Act.put, List.setIfInBounds_toArray, List.set_cons_zero, List.set_cons_succ]
  refine wpAnyH_take (i := 10) (v := ?_) (by (simp only [List.getElem?_toArray, List.getElem?_cons_succ, List.getElem?_cons_zero]); (try exact rfl)) (by kernel_rfl) (by kernel_rfl) (by kernel_rfl) (by intro _ _ _ h; exact h) (Or.inl ⟨by rfl, ?_⟩) (by assumption) ?_
  rotate_left
  · intro w hSw
    try dsimp only at hSw
    go_simp
    try with_reducible rfl
  try simp only [Act.put, List.setIfInBounds_toArray, List.set_cons_zero, List.set_cons_succ]
  refine wpAnyH_take (i := 11) (v := ?_) (by (simp only [List.getElem?_toArray, List.getElem?_cons_succ, List.getElem?_cons_zero]); (try exact rfl)) (by kernel_rfl) (by kernel_rfl) (by kernel_rfl) (by intro _ _ _ h; exact h) (Or.inl ⟨by rfl, ?_⟩) (by assumption) ?_
  rotate_left
  · intro w hSw
    try dsimp only at hSw
    go_simp
    try with_reducible rfl
  try simp only [Act.put, List.setIfInBounds_toArray, List.set_cons_zero, List.set_cons_succ]
  refine wpAnyH_take (i := 12) (v := ?_) (by (simp only [List.getElem?_toArray, List.getElem?_cons_succ, List.getElem?_cons_zero]); (try exact rfl)) (by kernel_rfl) (by kernel_rfl) (by kernel_rfl) (by intro _ _ _ h; exact h) (Or.inl ⟨by rfl, ?_⟩) (by assumption) ?_
  rotate_left
  · intro w hSw
    try dsimp only at hSw
    go_simp
    try with_reducible rfl
  try simp only [Act.put, List.setIfInBounds_toArray, List.set_cons_zero, List.set_cons_succ]
  refine wpAnyH_take (i := 13) (v := ?_) (by (simp only [List.getElem?_toArray, List.getElem?_cons_succ, List.getElem?_cons_zero]); (try exact rfl)) (by kernel_rfl) (by kernel_rfl) (by kernel_rfl) (by intro _ _ _ h; exact h) (Or.inl ⟨by rfl, ?_⟩) (by assumption) ?_
  rotate_left
  · intro w hSw
    try dsimp only at hSw
    go_simp
    try with_reducible rfl
  try simp only [Act.put, List.setIfInBounds_toArray, List.set_cons_zero, List.set_cons_succ]
  refine wpAnyH_take (i := 14) (v := ?_) (by (simp only [List.getElem?_toArray, List.getElem?_cons_succ, List.getElem?_cons_zero]); (try exact rfl)) (by kernel_rfl) (by kernel_rfl) (by kernel_rfl) (by intro _ _ _ h; exact h) (Or.inl ⟨by rfl, ?_⟩) (by assumption) ?_
  rotate_left
  · intro w hSw
    try dsimp only at hSw
    go_simp
    try with_reducible rfl
  try simp only [Act.put, List.setIfInBounds_toArray, List.set_cons_zero, List.set_cons_succ]
  refine wpAnyH_take (i := 16) (v := ?_) (by (simp only [List.getElem?_toArray, List.getElem?_cons_succ, List.getElem?_cons_zero]); (try exact rfl)) (by kernel_rfl) (by kernel_rfl) (by kernel_rfl) (by intro _ _ _ h; exact h) (Or.inl ⟨by rfl, ?_⟩) (by assumption) ?_
  rotate_left
  · intro w hSw
    try dsimp only at hSw
    go_simp
    try with_reducible rfl
  try simp only [Act.put, List.setIfInBounds_toArray, List.set_cons_zero, List.set_cons_succ]
  refine wpAnyH_take (i := 17) (v := ?_) (by (simp only [List.getElem?_toArray, List.getElem?_cons_succ, List.getElem?_cons_zero]); (try exact rfl)) (by kernel_rfl) (by kernel_rfl) (by kernel_rfl) (by intro _ _ _ h; exact h) (Or.inl ⟨by rfl, ?_⟩) (by assumption) ?_
  rotate_left
  · intro w hSw
    try dsimp only at hSw
    go_simp
    try with_reducible rfl
  try simp only [Act.put, List.setIfInBounds_toArray, List.set_cons_zero, List.set_cons_succ]
  try rw [q1]
  refine wpAnyH_ready (rs := [15]) (by kernel_rfl) (by simp) ?_
  refine AllReadyH.cons (by (simp only [List.getElem?_toArray, List.getElem?_cons_succ, List.getElem?_cons_zero]); (try exact rfl)) (fun K hK => ?_) AllReadyH.nil
  go_simp
  go_at_call 52
  refine (C3.out _).mono ?_
  rintro e w3 ⟨rfl, b3⟩
  have D3 : Hid (Below (w.heap.size + 3) (((w.alloc (.cells #[.int .i64 l.m, .int .i64 l.c] 25)).alloc (.cells #[.int .i64 c.o, .int .i64 c.h, .int .i64 c.t] 31)).alloc (.cells #[.int .i64 0, .int .i64 0, .int .i64 0] 31)) w3) := D2.out.trans (b3.mono Z2)
  have Z3 : w.heap.size + 3 ≤ w3.heap.size := Nat.le_trans Z2 b3.size
  clear b3
  (first | refine hK.out _ _ ?_ (fun hHeld => ?_) | (go_wp2_with fail; refine hK.out _ _ ?_ (fun hHeld => ?_)))
  · try dsimp only
    exact KS.out _ (D3.out)
  clear hK K
  try simp only [Act.put, List.setIfInBounds_toArray, List.set_cons_zero, List.set_cons_succ]
  refine wpAnyH_take (i := 18) (v := ?_) (by (simp only [List.getElem?_toArray, List.getElem?_cons_succ, List.getElem?_cons_zero]); (try exact rfl)) (by kernel_rfl) (by kernel_rfl) (by kernel_rfl) (by intro _ _ _ h; exact h) (Or.inl ⟨by rfl, ?_⟩) (by assumption) ?_
  rotate_left
  · intro w hSw
    try dsimp only at hSw
    go_simp
    try with_reducible rfl
  try simp only [Act.put, List.setIfInBounds_toArray, List.set_cons_zero, List.set_cons_succ]
  refine wpAnyH_take (i := 19) (v := ?_) (by (simp only [List.getElem?_toArray, List.getElem?_cons_succ, List.getElem?_cons_zero]); (try exact rfl)) (by kernel_rfl) (by kernel_rfl) (by kernel_rfl) (by intro _ _ _ h; exact h) (Or.inl ⟨by rfl, ?_⟩) (by assumption) ?_
  rotate_left
  · intro w hSw
    try dsimp only at hSw
    go_simp
    try with_reducible rfl
  try simp only [Act.put, List.setIfInBounds_toArray, List.set_cons_zero, List.set_cons_succ]
  refine wpAnyH_done (by kernel_rfl) ?_ _
  obtain ⟨⟨p0, p1, p2⟩, ps⟩ := WS.out
  have N1 := (D3.out.block _ (by omega)).trans p1
  have N2 := (D3.out.block _ (by omega)).trans p2
  have B : Below w.heap.size w w3 := Below.trans (by go_grown) (D3.out.mono (by omega))
  clear p0 p1 p2 ps WS KS hHeld
  clear D0 Z0
  clear D1 Z1
  clear D2 Z2
  clear D3
  clear q1
  obtain ⟨⟨j0, j1, j2⟩, -, -⟩ := boxCo_at (q := c) N1
  clear N1
  have n1 : ¬ w.heap.size + 1 = w3.heap.size := by omega
  have n2 : ¬ w.heap.size + 2 = w3.heap.size := by omega
  go_wp2_with fail
  refine (C4.out _).mono ?_
  rintro e w4 ⟨rfl, rfl⟩
  have M2 : Hid (((w3.alloc (.cells #[.int .i64 (c.o + c.h), .int .i64 (c.h + t), .int .i64 t] 31)).alloc (.cells #[.int .i64 (c.o + c.h), .int .i64 (c.h + t), .int .i64 t] 31)).heap[w.heap.size + 2]? = some (.cells #[.int .i64 noC.o, .int .i64 noC.h, .int .i64 noC.t] 31 (0, 0))) := (Below.heap_alloc _ _ _ (by simp; omega)).trans ((Below.heap_alloc _ _ _ (by omega)).trans N2)
  have N3 := Lib.hid (boxN2_0 w3 (.cells #[.int .i64 (c.o + c.h), .int .i64 (c.h + t), .int .i64 t] 31) (.cells #[.int .i64 (c.o + c.h), .int .i64 (c.h + t), .int .i64 t] 31))
  have B4 : Hid (Below w.heap.size w ((w3.alloc (.cells #[.int .i64 (c.o + c.h), .int .i64 (c.h + t), .int .i64 t] 31)).alloc (.cells #[.int .i64 (c.o + c.h), .int .i64 (c.h + t), .int .i64 t] 31))) := by have := B.size; show Below _ _ _; go_grown
  generalize hw4 : ((w3.alloc (.cells #[.int .i64 (c.o + c.h), .int .i64 (c.h + t), .int .i64 t] 31)).alloc (.cells #[.int .i64 (c.o + c.h), .int .i64 (c.h + t), .int .i64 t] 31)) = w4 at M2 N3 B4 ⊢
  have M := M2.out
  have NN := N3.out
  obtain ⟨⟨k0, k1, k2⟩, ⟨f0, f1, f2⟩, l0⟩ := boxCo_at (q := noC) M
  obtain ⟨⟨e0, e1, e2⟩, -, -⟩ := boxCo_at (q := nextC c t) NN
  have RF := Lib.hid (boxCo_put M noC)
  clear hw4 N2 M2 N3 M NN B j0 j1 j2 C1 C2 C3 C4
  go_wp2
  obtain ⟨⟨g0, g1, g2⟩, -⟩ := boxCo_at (q := noC) RF.out
  dsimp only [noC, nextC] at g0 g1 g2
  have B := B4.out
  have sz := B.size
  refine bodyPost_ret (v := .tuple #[(.agg #[.int .i64 noC.o, .int .i64 noC.h, .int .i64 noC.t]), .bool false]) (by simp [results, Try.results19, go_sem, g0, g1, g2, noC, nextC]; try rfl) rfl ⟨rfl, ?_⟩
  go_grown

set_option maxRecDepth 100000 in
set_option maxHeartbeats 8000000 in
theorem implNextC_yes (l : Lm) (c : Co) (t : Int) (h1 : OkC l c) (h2 : -l.m ≤ t ∧ t ≤ l.m) (h3 : -l.c ≤ t - c.t ∧ t - c.t ≤ l.c) (h4 : InC l.m (nextC c t)) (w : World) :
    Calls Try.prog 19 #[(.agg #[.int .i64 l.m, .int .i64 l.c]), (.agg #[.int .i64 c.o, .int .i64 c.h, .int .i64 c.t]), .int .i64 t] w fun e w' => e = .returned (.tuple #[(.agg #[.int .i64 (nextC c t).o, .int .i64 (nextC c t).h, .int .i64 (nextC c t).t]), .bool true]) ∧ Below w.heap.size w w' := by
  obtain ⟨⟨⟨m1, m2⟩, ⟨c1, c2⟩⟩, ⟨⟨⟨x1, x2⟩, ⟨x3, x4⟩⟩, ⟨x5, x6⟩⟩⟩ := id h1
  obtain ⟨t1, t2⟩ := id h2
  have q1 : IntKind.i64.wrap (t - c.t) = t - c.t := IntWalk.i64_in _ (by omega)
  obtain ⟨r, hr⟩ : ∃ r, r = absI (t - c.t) := ⟨_, rfl⟩
  have C1 := Lib.hid (fun w => implCourse_any l c true ⟨(fun e => h1), (fun e => rfl)⟩ w)
  have C2 := Lib.hid (fun w => (canTurn_any l (by omega) (by omega) t true ⟨(fun e => h2), (fun e => rfl)⟩ w).mono fun e w' (hh : _ ∧ _) => (⟨hh.1, by rw [hh.2]; go_grown⟩ : _ ∧ Below w.heap.size w w'))
  have C3 := Lib.hid (fun w => (absolute_any (t - c.t) r hr (by omega) w).mono fun e w' (hh : _ ∧ _) => (⟨hh.1, by rw [hh.2]; exact Below.refl _ _⟩ : _ ∧ Below w.heap.size w w'))
  have gt : ¬ l.c < r := by rw [hr]; unfold absI; split <;> omega
  have C4 : Hid (∀ w : World, Calls Try.prog 49 #[(.agg #[.int .i64 (c.o + c.h), .int .i64 (c.h + t), .int .i64 t])] w fun e w' => e = .returned (.bool true) ∧ w' = w.alloc (.cells #[.int .i64 (c.o + c.h), .int .i64 (c.h + t), .int .i64 t] 31)) := (fun w => isNear_any (nextC c t) true ⟨(fun e => h4.1), (fun e => rfl)⟩ w)
  clear h4
  clear h1 h2 h3 hr
  have KS : Hid (∀ w', Below (w.heap.size + 3) (((w.alloc (.cells #[.int .i64 l.m, .int .i64 l.c] 25)).alloc (.cells #[.int .i64 c.o, .int .i64 c.h, .int .i64 c.t] 31)).alloc (.cells #[.int .i64 0, .int .i64 0, .int .i64 0] 31)) w' → (w'.cell? ⟨w.heap.size, 0, none⟩ = some (.int .i64 l.m) ∧ w'.cell? ⟨w.heap.size, 1, none⟩ = some (.int .i64 l.c) ∧ w'.cell? ⟨w.heap.size + 1, 0, none⟩ = some (.int .i64 c.o) ∧ w'.cell? ⟨w.heap.size + 1, 1, none⟩ = some (.int .i64 c.h) ∧ w'.cell? ⟨w.heap.size + 1, 2, none⟩ = some (.int .i64 c.t))) := fun w' h => next_S w l c w' h
  have WS := Lib.hid (next_W0 w l c)
  go_enter Try.func19, Try.ntmps19
  go_wp2_with fail
  refine wp_region_held_drew (S := fun w' => (w'.cell? ⟨w.heap.size, 0, none⟩ = some (.int .i64 l.m) ∧ w'.cell? ⟨w.heap.size, 1, none⟩ = some (.int .i64 l.c) ∧ w'.cell? ⟨w.heap.size + 1, 0, none⟩ = some (.int .i64 c.o) ∧ w'.cell? ⟨w.heap.size + 1, 1, none⟩ = some (.int .i64 c.h) ∧ w'.cell? ⟨w.heap.size + 1, 2, none⟩ = some (.int .i64 c.t))) (by kernel_rfl) (KS.out _ (Below.refl _ _).drew) (fun hHeld => ?_)
  have D0 : Hid (Below (w.heap.size + 3) (((w.alloc (.cells #[.int .i64 l.m, .int .i64 l.c] 25)).alloc (.cells #[.int .i64 c.o, .int .i64 c.h, .int .i64 c.t] 31)).alloc (.cells #[.int .i64 0, .int .i64 0, .int .i64 0] 31)) (World.drew (((w.alloc (.cells #[.int .i64 l.m, .int .i64 l.c] 25)).alloc (.cells #[.int .i64 c.o, .int .i64 c.h, .int .i64 c.t] 31)).alloc (.cells #[.int .i64 0, .int .i64 0, .int .i64 0] 31)))) := (Below.refl _ _).drew
  have Z0 : w.heap.size + 3 ≤ (World.drew (((w.alloc (.cells #[.int .i64 l.m, .int .i64 l.c] 25)).alloc (.cells #[.int .i64 c.o, .int .i64 c.h, .int .i64 c.t] 31)).alloc (.cells #[.int .i64 0, .int .i64 0, .int .i64 0] 31))).heap.size := by show _ ≤ (((w.alloc (.cells #[.int .i64 l.m, .int .i64 l.c] 25)).alloc (.cells #[.int .i64 c.o, .int .i64 c.h, .int .i64 c.t] 31)).alloc (.cells #[.int .i64 0, .int .i64 0, .int .i64 0] 31)).heap.size; have := WS.out.2; omega
  refine wpAnyH_take (i := 0) (v := ?_) (by (simp only [List.getElem?_toArray, List.getElem?_cons_succ, List.getElem?_cons_zero]); (try exact rfl)) (by kernel_rfl) (by kernel_rfl) (by kernel_rfl) (by intro _ _ _ h; exact h) (Or.inl ⟨by rfl, ?_⟩) (by assumption) ?_
  rotate_left
  · intro w hSw
    try dsimp only at hSw
    go_simp
    try with_reducible rfl
  try simp only [Act.put, List.setIfInBounds_toArray, List.set_cons_zero, List.set_cons_succ]
  refine wpAnyH_take (i := 1) (v := ?_) (by (simp only [List.getElem?_toArray, List.getElem?_cons_succ, List.getElem?_cons_zero]); (try exact rfl)) (by kernel_rfl) (by kernel_rfl) (by kernel_rfl) (by intro _ _ _ h; exact h) (Or.inl ⟨by rfl, ?_⟩) (by assumption) ?_
  rotate_left
  · intro w hSw
    try dsimp only at hSw
    go_simp
    try with_reducible rfl
  try simp only [Act.put, List.setIfInBounds_toArray, List.set_cons_zero, List.set_cons_succ]
  refine wpAnyH_ready (rs := [2]) (by kernel_rfl) (by simp) ?_
  refine AllReadyH.cons (by (simp only [List.getElem?_toArray, List.getElem?_cons_succ, List.getElem?_cons_zero]); (try exact rfl)) (fun K hK => ?_) AllReadyH.nil
  go_simp
  go_at_call 17
  refine (C1.out _).mono ?_
  rintro e w1 ⟨rfl, b1⟩
  have D1 : Hid (Below (w.heap.size + 3) (((w.alloc (.cells #[.int .i64 l.m, .int .i64 l.c] 25)).alloc (.cells #[.int .i64 c.o, .int .i64 c.h, .int .i64 c.t] 31)).alloc (.cells #[.int .i64 0, .int .i64 0, .int .i64 0] 31)) w1) := D0.out.trans (b1.mono Z0)
  have Z1 : w.heap.size + 3 ≤ w1.heap.size := Nat.le_trans Z0 b1.size
  clear b1
  (first | refine hK.out _ _ ?_ (fun hHeld => ?_) | (go_wp2_with fail; refine hK.out _ _ ?_ (fun hHeld => ?_)))
  · try dsimp only
    exact KS.out _ (D1.out)
  clear hK K
  try simp only [Act.put, List.setIfInBounds_toArray, List.set_cons_zero, List.set_cons_succ]
  refine wpAnyH_take (i := 3) (v := ?_) (by (simp only [List.getElem?_toArray, List.getElem?_cons_succ, List.getElem?_cons_zero]); (try exact rfl)) (by kernel_rfl) (by kernel_rfl) (by kernel_rfl) (by intro _ _ _ h; exact h) (Or.inl ⟨by rfl, ?_⟩) (by assumption) ?_
  rotate_left
  · intro w hSw
    try dsimp only at hSw
    go_simp
    try with_reducible rfl
  try simp only [Act.put, List.setIfInBounds_toArray, List.set_cons_zero, List.set_cons_succ]
  refine wpAnyH_take (i := 4) (v := ?_) (by (simp only [List.getElem?_toArray, List.getElem?_cons_succ, List.getElem?_cons_zero]); (try exact rfl)) (by kernel_rfl) (by kernel_rfl) (by kernel_rfl) (by intro _ _ _ h; exact h) (Or.inl ⟨by rfl, ?_⟩) (by assumption) ?_
  rotate_left
  · intro w hSw
    try dsimp only at hSw
    go_simp
    try with_reducible rfl
  try simp only [Act.put, List.setIfInBounds_toArray, List.set_cons_zero, List.set_cons_succ]
  refine wpAnyH_take (i := 5) (v := ?_) (by (simp only [List.getElem?_toArray, List.getElem?_cons_succ, List.getElem?_cons_zero]); (try exact rfl)) (by kernel_rfl) (by kernel_rfl) (by kernel_rfl) (by intro _ _ _ h; exact h) (Or.inl ⟨by rfl, ?_⟩) (by assumption) ?_
  rotate_left
  · intro w hSw
    try dsimp only at hSw
    go_simp
    try with_reducible rfl
  try simp only [Act.put, List.setIfInBounds_toArray, List.set_cons_zero, List.set_cons_succ]
  refine wpAnyH_take (i := 6) (v := ?_) (by (simp only [List.getElem?_toArray, List.getElem?_cons_succ, List.getElem?_cons_zero]); (try exact rfl)) (by kernel_rfl) (by kernel_rfl) (by kernel_rfl) (by intro _ _ _ h; exact h) (Or.inl ⟨by rfl, ?_⟩) (by assumption) ?_
  rotate_left
  · intro w hSw
    try dsimp only at hSw
    go_simp
    try with_reducible rfl
  try simp only [Act.put, List.setIfInBounds_toArray, List.set_cons_zero, List.set_cons_succ]
  refine wpAnyH_ready (rs := [7]) (by kernel_rfl) (by simp) ?_
  refine AllReadyH.cons (by (simp only [List.getElem?_toArray, List.getElem?_cons_succ, List.getElem?_cons_zero]); (try exact rfl)) (fun K hK => ?_) AllReadyH.nil
  go_simp
  go_at_call 50
  refine (C2.out _).mono ?_
  rintro e w2 ⟨rfl, b2⟩
  have D2 : Hid (Below (w.heap.size + 3) (((w.alloc (.cells #[.int .i64 l.m, .int .i64 l.c] 25)).alloc (.cells #[.int .i64 c.o, .int .i64 c.h, .int .i64 c.t] 31)).alloc (.cells #[.int .i64 0, .int .i64 0, .int .i64 0] 31)) w2) := D1.out.trans (b2.mono Z1)
  have Z2 : w.heap.size + 3 ≤ w2.heap.size := Nat.le_trans Z1 b2.size
  clear b2
  (first | refine hK.out _ _ ?_ (fun hHeld => ?_) | (go_wp2_with fail; refine hK.out _ _ ?_ (fun hHeld => ?_)))
  · try dsimp only
    exact KS.out _ (D2.out)
  clear hK K
  try simp only [Act.put, List.setIfInBounds_toArray, List.set_cons_zero, List.set_cons_succ]
  refine wpAnyH_take (i := 8) (v := ?_) (by (simp only [List.getElem?_toArray, List.getElem?_cons_succ, List.getElem?_cons_zero]); (try exact rfl)) (by kernel_rfl) (by kernel_rfl) (by kernel_rfl) (by intro _ _ _ h; exact h) (Or.inl ⟨by rfl, ?_⟩) (by assumption) ?_
  rotate_left
  · intro w hSw
    try dsimp only at hSw
    go_simp
    try with_reducible rfl
  try simp only [Act.put, List.setIfInBounds_toArray, List.set_cons_zero, List.set_cons_succ]
  refine wpAnyH_take (i := 9) (v := ?_) (by (simp only [List.getElem?_toArray, List.getElem?_cons_succ, List.getElem?_cons_zero]); (try exact rfl)) (by kernel_rfl) (by kernel_rfl) (by kernel_rfl) (by intro _ _ _ h; exact h) (Or.inl ⟨by rfl, ?_⟩) (by assumption) ?_
  rotate_left
  · intro w hSw
    try dsimp only at hSw
    go_simp
    try with_reducible rfl
  try simp only [Act.put, List.setIfInBounds_toArray, List.set_cons_zero, List.set_cons_succ]
  refine wpAnyH_take (i := 10) (v := ?_) (by (simp only [List.getElem?_toArray, List.getElem?_cons_succ, List.getElem?_cons_zero]); (try exact rfl)) (by kernel_rfl) (by kernel_rfl) (by kernel_rfl) (by intro _ _ _ h; exact h) (Or.inl ⟨by rfl, ?_⟩) (by assumption) ?_
  rotate_left
  · intro w hSw
    try dsimp only at hSw
    go_simp
    try with_reducible rfl
  try simp only [Act.put, List.setIfInBounds_toArray, List.set_cons_zero, List.set_cons_succ]
  refine wpAnyH_take (i := 11) (v := ?_) (by (simp only [List.getElem?_toArray, List.getElem?_cons_succ, List.getElem?_cons_zero]); (try exact rfl)) (by kernel_rfl) (by kernel_rfl) (by kernel_rfl) (by intro _ _ _ h; exact h) (Or.inl ⟨by rfl, ?_⟩) (by assumption) ?_
  rotate_left
  · intro w hSw
    try dsimp only at hSw
    go_simp
    try with_reducible rfl
  try simp only [Act.put, List.setIfInBounds_toArray, List.set_cons_zero, List.set_cons_succ]
  refine wpAnyH_take (i := 12) (v := ?_) (by (simp only [List.getElem?_toArray, List.getElem?_cons_succ, List.getElem?_cons_zero]); (try exact rfl)) (by kernel_rfl) (by kernel_rfl) (by kernel_rfl) (by intro _ _ _ h; exact h) (Or.inl ⟨by rfl, ?_⟩) (by assumption) ?_
  rotate_left
  · intro w hSw
    try dsimp only at hSw
    go_simp
    try with_reducible rfl
  try simp only [Act.put, List.setIfInBounds_toArray, List.set_cons_zero, List.set_cons_succ]
  refine wpAnyH_take (i := 13) (v := ?_) (by (simp only [List.getElem?_toArray, List.getElem?_cons_succ, List.getElem?_cons_zero]); (try exact rfl)) (by kernel_rfl) (by kernel_rfl) (by kernel_rfl) (by intro _ _ _ h; exact h) (Or.inl ⟨by rfl, ?_⟩) (by assumption) ?_
  rotate_left
  · intro w hSw
    try dsimp only at hSw
    go_simp
    try with_reducible rfl
  try simp only [Act.put, List.setIfInBounds_toArray, List.set_cons_zero, List.set_cons_succ]
  refine wpAnyH_take (i := 14) (v := ?_) (by (simp only [List.getElem?_toArray, List.getElem?_cons_succ, List.getElem?_cons_zero]); (try exact rfl)) (by kernel_rfl) (by kernel_rfl) (by kernel_rfl) (by intro _ _ _ h; exact h) (Or.inl ⟨by rfl, ?_⟩) (by assumption) ?_
  rotate_left
  · intro w hSw
    try dsimp only at hSw
    go_simp
    try with_reducible rfl
  try simp only [Act.put, List.setIfInBounds_toArray, List.set_cons_zero, List.set_cons_succ]
  refine wpAnyH_take (i := 16) (v := ?_) (by (simp only [List.getElem?_toArray, List.getElem?_cons_succ, List.getElem?_cons_zero]); (try exact rfl)) (by kernel_rfl) (by kernel_rfl) (by kernel_rfl) (by intro _ _ _ h; exact h) (Or.inl ⟨by rfl, ?_⟩) (by assumption) ?_
  rotate_left
  · intro w hSw
    try dsimp only at hSw
    go_simp
    try with_reducible rfl
  try simp only [Act.put, List.setIfInBounds_toArray, List.set_cons_zero, List.set_cons_succ]
  refine wpAnyH_take (i := 17) (v := ?_) (by (simp only [List.getElem?_toArray, List.getElem?_cons_succ, List.getElem?_cons_zero]); (try exact rfl)) (by kernel_rfl) (by kernel_rfl) (by kernel_rfl) (by intro _ _ _ h; exact h) (Or.inl ⟨by rfl, ?_⟩) (by assumption) ?_
  rotate_left
  · intro w hSw
    try dsimp only at hSw
    go_simp
    try with_reducible rfl
  try simp only [Act.put, List.setIfInBounds_toArray, List.set_cons_zero, List.set_cons_succ]
  try rw [q1]
  refine wpAnyH_ready (rs := [15]) (by kernel_rfl) (by simp) ?_
  refine AllReadyH.cons (by (simp only [List.getElem?_toArray, List.getElem?_cons_succ, List.getElem?_cons_zero]); (try exact rfl)) (fun K hK => ?_) AllReadyH.nil
  go_simp
  go_at_call 52
  refine (C3.out _).mono ?_
  rintro e w3 ⟨rfl, b3⟩
  have D3 : Hid (Below (w.heap.size + 3) (((w.alloc (.cells #[.int .i64 l.m, .int .i64 l.c] 25)).alloc (.cells #[.int .i64 c.o, .int .i64 c.h, .int .i64 c.t] 31)).alloc (.cells #[.int .i64 0, .int .i64 0, .int .i64 0] 31)) w3) := D2.out.trans (b3.mono Z2)
  have Z3 : w.heap.size + 3 ≤ w3.heap.size := Nat.le_trans Z2 b3.size
  clear b3
  (first | refine hK.out _ _ ?_ (fun hHeld => ?_) | (go_wp2_with fail; refine hK.out _ _ ?_ (fun hHeld => ?_)))
  · try dsimp only
    exact KS.out _ (D3.out)
  clear hK K
  try simp only [Act.put, List.setIfInBounds_toArray, List.set_cons_zero, List.set_cons_succ]
  refine wpAnyH_take (i := 18) (v := ?_) (by (simp only [List.getElem?_toArray, List.getElem?_cons_succ, List.getElem?_cons_zero]); (try exact rfl)) (by kernel_rfl) (by kernel_rfl) (by kernel_rfl) (by intro _ _ _ h; exact h) (Or.inl ⟨by rfl, ?_⟩) (by assumption) ?_
  rotate_left
  · intro w hSw
    try dsimp only at hSw
    go_simp
    try with_reducible rfl
  try simp only [Act.put, List.setIfInBounds_toArray, List.set_cons_zero, List.set_cons_succ]
  refine wpAnyH_take (i := 19) (v := ?_) (by (simp only [List.getElem?_toArray, List.getElem?_cons_succ, List.getElem?_cons_zero]); (try exact rfl)) (by kernel_rfl) (by kernel_rfl) (by kernel_rfl) (by intro _ _ _ h; exact h) (Or.inl ⟨by rfl, ?_⟩) (by assumption) ?_
  rotate_left
  · intro w hSw
    try dsimp only at hSw
    go_simp
    try with_reducible rfl
  try simp only [Act.put, List.setIfInBounds_toArray, List.set_cons_zero, List.set_cons_succ]
  refine wpAnyH_done (by kernel_rfl) ?_ _
  obtain ⟨⟨p0, p1, p2⟩, ps⟩ := WS.out
  have N1 := (D3.out.block _ (by omega)).trans p1
  have N2 := (D3.out.block _ (by omega)).trans p2
  have B : Below w.heap.size w w3 := Below.trans (by go_grown) (D3.out.mono (by omega))
  clear p0 p1 p2 ps WS KS hHeld
  clear D0 Z0
  clear D1 Z1
  clear D2 Z2
  clear D3
  clear q1
  obtain ⟨⟨j0, j1, j2⟩, -, -⟩ := boxCo_at (q := c) N1
  clear N1
  have n1 : ¬ w.heap.size + 1 = w3.heap.size := by omega
  have n2 : ¬ w.heap.size + 2 = w3.heap.size := by omega
  go_wp2_with fail
  refine (C4.out _).mono ?_
  rintro e w4 ⟨rfl, rfl⟩
  have M2 : Hid (((w3.alloc (.cells #[.int .i64 (c.o + c.h), .int .i64 (c.h + t), .int .i64 t] 31)).alloc (.cells #[.int .i64 (c.o + c.h), .int .i64 (c.h + t), .int .i64 t] 31)).heap[w.heap.size + 2]? = some (.cells #[.int .i64 noC.o, .int .i64 noC.h, .int .i64 noC.t] 31 (0, 0))) := (Below.heap_alloc _ _ _ (by simp; omega)).trans ((Below.heap_alloc _ _ _ (by omega)).trans N2)
  have N3 := Lib.hid (boxN2_0 w3 (.cells #[.int .i64 (c.o + c.h), .int .i64 (c.h + t), .int .i64 t] 31) (.cells #[.int .i64 (c.o + c.h), .int .i64 (c.h + t), .int .i64 t] 31))
  have B4 : Hid (Below w.heap.size w ((w3.alloc (.cells #[.int .i64 (c.o + c.h), .int .i64 (c.h + t), .int .i64 t] 31)).alloc (.cells #[.int .i64 (c.o + c.h), .int .i64 (c.h + t), .int .i64 t] 31))) := by have := B.size; show Below _ _ _; go_grown
  generalize hw4 : ((w3.alloc (.cells #[.int .i64 (c.o + c.h), .int .i64 (c.h + t), .int .i64 t] 31)).alloc (.cells #[.int .i64 (c.o + c.h), .int .i64 (c.h + t), .int .i64 t] 31)) = w4 at M2 N3 B4 ⊢
  have M := M2.out
  have NN := N3.out
  obtain ⟨⟨k0, k1, k2⟩, ⟨f0, f1, f2⟩, l0⟩ := boxCo_at (q := noC) M
  obtain ⟨⟨e0, e1, e2⟩, -, -⟩ := boxCo_at (q := nextC c t) NN
  have RF := Lib.hid (boxCo_put M (nextC c t))
  clear hw4 N2 M2 N3 M NN B j0 j1 j2 C1 C2 C3 C4
  go_wp2
  obtain ⟨⟨g0, g1, g2⟩, -⟩ := boxCo_at (q := (nextC c t)) RF.out
  dsimp only [noC, nextC] at g0 g1 g2
  have B := B4.out
  have sz := B.size
  refine bodyPost_ret (v := .tuple #[(.agg #[.int .i64 (nextC c t).o, .int .i64 (nextC c t).h, .int .i64 (nextC c t).t]), .bool true]) (by simp [results, Try.results19, go_sem, g0, g1, g2, noC, nextC]; try rfl) rfl ⟨rfl, ?_⟩
  go_grown

theorem implNextC_any (l : Lm) (c : Co) (t : Int) (o : Co) (v : Bool) (h : NextRes (OkC l c ∧ Goes l c t) c t o v) (w : World) :
    Calls Try.prog 19 #[(.agg #[.int .i64 l.m, .int .i64 l.c]), (.agg #[.int .i64 c.o, .int .i64 c.h, .int .i64 c.t]), .int .i64 t] w fun e w' => e = .returned (.tuple #[(.agg #[.int .i64 o.o, .int .i64 o.h, .int .i64 o.t]), .bool v]) ∧ Below w.heap.size w w' := by
  by_cases h1 : OkC l c
  · by_cases h2 : -l.m ≤ t ∧ t ≤ l.m
    · by_cases h3 : -l.c ≤ t - c.t ∧ t - c.t ≤ l.c
      · by_cases h4 : InC l.m (nextC c t)
        · obtain ⟨rfl, rfl⟩ := nextRes_yes h ⟨h1, ⟨h2, h3⟩, h4⟩
          exact implNextC_yes l c t h1 h2 h3 h4 w
        · obtain ⟨rfl, rfl⟩ := nextRes_no h (fun g => h4 g.2.2)
          exact implNextC_no4 l c t h1 h2 h3 h4 w
      · obtain ⟨rfl, rfl⟩ := nextRes_no h (fun g => h3 g.2.1.2)
        exact implNextC_no3 l c t h1 h2 h3 w
    · obtain ⟨rfl, rfl⟩ := nextRes_no h (fun g => h2 g.2.1.1)
      exact implNextC_no2 l c t h1 h2 w
  · obtain ⟨rfl, rfl⟩ := nextRes_no h (fun g => h1 g.1)
    exact implNextC_no1 l c t h1 w
end Go.Proofs.Ytkdecpnbbpmooaa
