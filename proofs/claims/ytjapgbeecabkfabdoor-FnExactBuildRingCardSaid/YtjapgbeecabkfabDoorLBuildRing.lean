/- The law of BuildRing. -/
import Derived.Test.YtjapgbeecabkfabDoorBuildEx
import Derived.Test.YtjapgbeecabkfabDoorExKit
import Derived.Deep.RegionHeld3
namespace Go.Proofs.YtjapgbeecabkfabDoor
open Go.ChangeShapes Go.WideShapes Go.ChangeAt Go.RowKit
set_option linter.unusedVariables false
set_option linter.unusedSimpArgs false

theorem lt_alloc (w : World) (o : Obj) : w.heap.size < (w.alloc o).heap.size := by simp
theorem wb2 (w : World) (q0 : Mc) (q1 : Rg) : Below w.heap.size w ((w.alloc (.cells #[.int .i64 q0.u.s, .int .i64 q0.u.h, .int .i64 q0.u.y, .int .i64 q0.u.p, .int .i64 q0.t.s, .int .i64 q0.t.h, .int .i64 q0.t.y, .int .i64 q0.t.p, .int .i64 q0.a] 25)).alloc (.cells #[.int .i64 q1.k, .int .i64 q1.y] 27)) := by go_grown
theorem sz2 (w : World) (q0 : Mc) (q1 : Rg) : ((w.alloc (.cells #[.int .i64 q0.u.s, .int .i64 q0.u.h, .int .i64 q0.u.y, .int .i64 q0.u.p, .int .i64 q0.t.s, .int .i64 q0.t.h, .int .i64 q0.t.y, .int .i64 q0.t.p, .int .i64 q0.a] 25)).alloc (.cells #[.int .i64 q1.k, .int .i64 q1.y] 27)).heap.size = w.heap.size + 2 := by simp
theorem le2 (w : World) (q0 : Mc) (q1 : Rg) {B : Nat} {x : World} (h : Below B ((w.alloc (.cells #[.int .i64 q0.u.s, .int .i64 q0.u.h, .int .i64 q0.u.y, .int .i64 q0.u.p, .int .i64 q0.t.s, .int .i64 q0.t.h, .int .i64 q0.t.y, .int .i64 q0.t.p, .int .i64 q0.a] 25)).alloc (.cells #[.int .i64 q1.k, .int .i64 q1.y] 27)) x) : w.heap.size + 2 ≤ x.heap.size := by
  have := h.size
  rw [sz2] at this
  exact this

set_option maxRecDepth 100000 in
set_option maxHeartbeats 8000000 in
theorem buildRing_law (q0 : Mc) (q1 : Rg) (w : World) (T : World → Prop) (hT : ∀ w', Below w.heap.size w w' → T w') (r0 : Mc) (r1 : Bool) 
    (c1 : Hid (∀ (w : World), T w → Calls Tryd.prog 12 #[(.agg #[.int .i64 q0.u.s, .int .i64 q0.u.h, .int .i64 q0.u.y, .int .i64 q0.u.p, .int .i64 q0.t.s, .int .i64 q0.t.h, .int .i64 q0.t.y, .int .i64 q0.t.p, .int .i64 q0.a]), (.agg #[.int .i64 q1.k, .int .i64 q1.y])] w fun e w' => e = .returned (.tuple #[(.agg #[.int .i64 r0.u.s, .int .i64 r0.u.h, .int .i64 r0.u.y, .int .i64 r0.u.p, .int .i64 r0.t.s, .int .i64 r0.t.h, .int .i64 r0.t.y, .int .i64 r0.t.p, .int .i64 r0.a]), .bool r1]) ∧ Below w.heap.size w w'))
    (c2 : Hid (∀ (w : World), T w → Calls Tryd.prog 15 #[(.agg #[.int .i64 q0.u.s, .int .i64 q0.u.h, .int .i64 q0.u.y, .int .i64 q0.u.p, .int .i64 q0.t.s, .int .i64 q0.t.h, .int .i64 q0.t.y, .int .i64 q0.t.p, .int .i64 q0.a]), (.agg #[.int .i64 q1.k, .int .i64 q1.y])] w fun e w' => e = .returned (.tuple #[(.agg #[.int .i64 r0.u.s, .int .i64 r0.u.h, .int .i64 r0.u.y, .int .i64 r0.u.p, .int .i64 r0.t.s, .int .i64 r0.t.h, .int .i64 r0.t.y, .int .i64 r0.t.p, .int .i64 r0.a]), .bool r1]) ∧ Below w.heap.size w w')) :
    Calls Tryd.prog 3 #[(.agg #[.int .i64 q0.u.s, .int .i64 q0.u.h, .int .i64 q0.u.y, .int .i64 q0.u.p, .int .i64 q0.t.s, .int .i64 q0.t.h, .int .i64 q0.t.y, .int .i64 q0.t.p, .int .i64 q0.a]), (.agg #[.int .i64 q1.k, .int .i64 q1.y])] w fun e w' => e = .returned (.bool true) ∧ Below w.heap.size w w' := by
  have HT := Lib.hid hT
  clear hT
  have KS : Hid (∀ w', Below (w.heap.size + 2) ((w.alloc (.cells #[.int .i64 q0.u.s, .int .i64 q0.u.h, .int .i64 q0.u.y, .int .i64 q0.u.p, .int .i64 q0.t.s, .int .i64 q0.t.h, .int .i64 q0.t.y, .int .i64 q0.t.p, .int .i64 q0.a] 25)).alloc (.cells #[.int .i64 q1.k, .int .i64 q1.y] 27)) w' → (w'.cell? ⟨w.heap.size, 0, none⟩ = some (.int .i64 q0.u.s) ∧ w'.cell? ⟨w.heap.size, 1, none⟩ = some (.int .i64 q0.u.h) ∧ w'.cell? ⟨w.heap.size, 2, none⟩ = some (.int .i64 q0.u.y) ∧ w'.cell? ⟨w.heap.size, 3, none⟩ = some (.int .i64 q0.u.p) ∧ w'.cell? ⟨w.heap.size, 4, none⟩ = some (.int .i64 q0.t.s) ∧ w'.cell? ⟨w.heap.size, 5, none⟩ = some (.int .i64 q0.t.h) ∧ w'.cell? ⟨w.heap.size, 6, none⟩ = some (.int .i64 q0.t.y) ∧ w'.cell? ⟨w.heap.size, 7, none⟩ = some (.int .i64 q0.t.p) ∧ w'.cell? ⟨w.heap.size, 8, none⟩ = some (.int .i64 q0.a) ∧ w'.cell? ⟨w.heap.size + 1, 0, none⟩ = some (.int .i64 q1.k) ∧ w'.cell? ⟨w.heap.size + 1, 1, none⟩ = some (.int .i64 q1.y))) := by
    intro w' b
    obtain ⟨⟨k0, k1, k2, k3, k4, k5, k6, k7, k8⟩, -⟩ := boxMc_at ((b.block (w.heap.size) (by omega)).trans (box2_0 w _ _))
    obtain ⟨⟨j0, j1⟩, -⟩ := boxRg_at ((b.block (w.heap.size + 1) (by omega)).trans (box2_1 w _ _))
    exact ⟨k0, k1, k2, k3, k4, k5, k6, k7, k8, j0, j1⟩
  have D0 : Hid (Below (w.heap.size + 2) ((w.alloc (.cells #[.int .i64 q0.u.s, .int .i64 q0.u.h, .int .i64 q0.u.y, .int .i64 q0.u.p, .int .i64 q0.t.s, .int .i64 q0.t.h, .int .i64 q0.t.y, .int .i64 q0.t.p, .int .i64 q0.a] 25)).alloc (.cells #[.int .i64 q1.k, .int .i64 q1.y] 27)) ((w.alloc (.cells #[.int .i64 q0.u.s, .int .i64 q0.u.h, .int .i64 q0.u.y, .int .i64 q0.u.p, .int .i64 q0.t.s, .int .i64 q0.t.h, .int .i64 q0.t.y, .int .i64 q0.t.p, .int .i64 q0.a] 25)).alloc (.cells #[.int .i64 q1.k, .int .i64 q1.y] 27)).drew) := (Below.refl _ _).drew
  go_enter Tryd.func3, Tryd.ntmps3
  go_wp2_with fail
  refine wp_region_held_drew (S := fun w' => (w'.cell? ⟨w.heap.size, 0, none⟩ = some (.int .i64 q0.u.s) ∧ w'.cell? ⟨w.heap.size, 1, none⟩ = some (.int .i64 q0.u.h) ∧ w'.cell? ⟨w.heap.size, 2, none⟩ = some (.int .i64 q0.u.y) ∧ w'.cell? ⟨w.heap.size, 3, none⟩ = some (.int .i64 q0.u.p) ∧ w'.cell? ⟨w.heap.size, 4, none⟩ = some (.int .i64 q0.t.s) ∧ w'.cell? ⟨w.heap.size, 5, none⟩ = some (.int .i64 q0.t.h) ∧ w'.cell? ⟨w.heap.size, 6, none⟩ = some (.int .i64 q0.t.y) ∧ w'.cell? ⟨w.heap.size, 7, none⟩ = some (.int .i64 q0.t.p) ∧ w'.cell? ⟨w.heap.size, 8, none⟩ = some (.int .i64 q0.a) ∧ w'.cell? ⟨w.heap.size + 1, 0, none⟩ = some (.int .i64 q1.k) ∧ w'.cell? ⟨w.heap.size + 1, 1, none⟩ = some (.int .i64 q1.y))) (by kernel_rfl) (KS.out _ D0.out) (fun hHeld => ?_)
  refine wpAnyH_take (i := 0) (v := ?_) (by (simp only [List.getElem?_toArray, List.getElem?_cons_succ, List.getElem?_cons_zero]); (try exact rfl)) (by kernel_rfl) (by kernel_rfl) (by kernel_rfl) (by intro _ _ _ h; exact h) (Or.inl ⟨by rfl, ?_⟩) (by assumption) ?_
  rotate_left
  · intro w hSw
    try dsimp only at hSw
    go_simp
    try with_reducible rfl
  try simp only [Act.put, List.setIfInBounds_toArray, List.set_cons_zero, List.set_cons_succ]
  refine wpAnyH_take (i := 2) (v := ?_) (by (simp only [List.getElem?_toArray, List.getElem?_cons_succ, List.getElem?_cons_zero]); (try exact rfl)) (by kernel_rfl) (by kernel_rfl) (by kernel_rfl) (by intro _ _ _ h; exact h) (Or.inl ⟨by rfl, ?_⟩) (by assumption) ?_
  rotate_left
  · intro w hSw
    try dsimp only at hSw
    go_simp
    try with_reducible rfl
  try simp only [Act.put, List.setIfInBounds_toArray, List.set_cons_zero, List.set_cons_succ]
  refine wpAnyH_ready (rs := [1, 8]) (by kernel_rfl) (by simp) ?_
  refine (AllReadyH.cons (by (simp only [List.getElem?_toArray, List.getElem?_cons_succ, List.getElem?_cons_zero]); (try exact rfl)) (fun K hK => ?_) (AllReadyH.cons (by (simp only [List.getElem?_toArray, List.getElem?_cons_succ, List.getElem?_cons_zero]); (try exact rfl)) (fun K hK => ?_) AllReadyH.nil))
  go_simp
  go_at_call 13
  refine (toMachine_blw q0 _).mono ?_
  rintro e u11 ⟨rfl, b1⟩
  have Du11 : Hid (Below (w.heap.size + 2) ((w.alloc (.cells #[.int .i64 q0.u.s, .int .i64 q0.u.h, .int .i64 q0.u.y, .int .i64 q0.u.p, .int .i64 q0.t.s, .int .i64 q0.t.h, .int .i64 q0.t.y, .int .i64 q0.t.p, .int .i64 q0.a] 25)).alloc (.cells #[.int .i64 q1.k, .int .i64 q1.y] 27)) u11) := Below.trans D0.out (b1.mono (le2 w q0 q1 D0.out))
  clear b1
  (first | refine hK.out _ _ ?_ (fun hHeld => ?_) | (go_wp2_with fail; refine hK.out _ _ ?_ (fun hHeld => ?_)))
  · try dsimp only
    exact KS.out _ Du11.out
  clear hK K
  try simp only [Act.put, List.setIfInBounds_toArray, List.set_cons_zero, List.set_cons_succ]
  refine wpAnyH_ready (rs := [3, 8]) (by kernel_rfl) (by simp) ?_
  refine (AllReadyH.cons (by (simp only [List.getElem?_toArray, List.getElem?_cons_succ, List.getElem?_cons_zero]); (try exact rfl)) (fun K hK => ?_) (AllReadyH.cons (by (simp only [List.getElem?_toArray, List.getElem?_cons_succ, List.getElem?_cons_zero]); (try exact rfl)) (fun K hK => ?_) AllReadyH.nil))
  go_simp
  go_at_call 14
  refine (toRing_blw q1 _).mono ?_
  rintro e u13 ⟨rfl, b3⟩
  have Du13 : Hid (Below (w.heap.size + 2) ((w.alloc (.cells #[.int .i64 q0.u.s, .int .i64 q0.u.h, .int .i64 q0.u.y, .int .i64 q0.u.p, .int .i64 q0.t.s, .int .i64 q0.t.h, .int .i64 q0.t.y, .int .i64 q0.t.p, .int .i64 q0.a] 25)).alloc (.cells #[.int .i64 q1.k, .int .i64 q1.y] 27)) u13) := Below.trans Du11.out (b3.mono (le2 w q0 q1 Du11.out))
  clear b3
  (first | refine hK.out _ _ ?_ (fun hHeld => ?_) | (go_wp2_with fail; refine hK.out _ _ ?_ (fun hHeld => ?_)))
  · try dsimp only
    exact KS.out _ Du13.out
  clear hK K
  try simp only [Act.put, List.setIfInBounds_toArray, List.set_cons_zero, List.set_cons_succ]
  refine wpAnyH_ready (rs := [4, 8]) (by kernel_rfl) (by simp) ?_
  refine (AllReadyH.cons (by (simp only [List.getElem?_toArray, List.getElem?_cons_succ, List.getElem?_cons_zero]); (try exact rfl)) (fun K hK => ?_) (AllReadyH.cons (by (simp only [List.getElem?_toArray, List.getElem?_cons_succ, List.getElem?_cons_zero]); (try exact rfl)) (fun K hK => ?_) AllReadyH.nil))
  go_simp
  go_at_call 12
  refine (c1.out _ (HT.out _ (Below.trans (wb2 w q0 q1) (Du13.out.mono (by omega))))).mono ?_
  rintro e u14 ⟨rfl, b4⟩
  have Du14 : Hid (Below (w.heap.size + 2) ((w.alloc (.cells #[.int .i64 q0.u.s, .int .i64 q0.u.h, .int .i64 q0.u.y, .int .i64 q0.u.p, .int .i64 q0.t.s, .int .i64 q0.t.h, .int .i64 q0.t.y, .int .i64 q0.t.p, .int .i64 q0.a] 25)).alloc (.cells #[.int .i64 q1.k, .int .i64 q1.y] 27)) u14) := Below.trans Du13.out (b4.mono (le2 w q0 q1 Du13.out))
  clear b4
  (first | refine hK.out _ _ ?_ (fun hHeld => ?_) | (go_wp2_with fail; refine hK.out _ _ ?_ (fun hHeld => ?_)))
  · try dsimp only
    exact KS.out _ Du14.out
  clear hK K
  try simp only [Act.put, List.setIfInBounds_toArray, List.set_cons_zero, List.set_cons_succ]
  refine wpAnyH_take (i := 5) (v := ?_) (by (simp only [List.getElem?_toArray, List.getElem?_cons_succ, List.getElem?_cons_zero]); (try exact rfl)) (by kernel_rfl) (by kernel_rfl) (by kernel_rfl) (by intro _ _ _ h; exact h) (Or.inl ⟨by rfl, ?_⟩) (by assumption) ?_
  rotate_left
  · intro w hSw
    try dsimp only at hSw
    go_simp
    try with_reducible rfl
  try simp only [Act.put, List.setIfInBounds_toArray, List.set_cons_zero, List.set_cons_succ]
  refine wpAnyH_take (i := 6) (v := ?_) (by (simp only [List.getElem?_toArray, List.getElem?_cons_succ, List.getElem?_cons_zero]); (try exact rfl)) (by kernel_rfl) (by kernel_rfl) (by kernel_rfl) (by intro _ _ _ h; exact h) (Or.inl ⟨by rfl, ?_⟩) (by assumption) ?_
  rotate_left
  · intro w hSw
    try dsimp only at hSw
    go_simp
    try with_reducible rfl
  try simp only [Act.put, List.setIfInBounds_toArray, List.set_cons_zero, List.set_cons_succ]
  refine wpAnyH_take (i := 7) (v := ?_) (by (simp only [List.getElem?_toArray, List.getElem?_cons_succ, List.getElem?_cons_zero]); (try exact rfl)) (by kernel_rfl) (by kernel_rfl) (by kernel_rfl) (by intro _ _ _ h; exact h) (Or.inl ⟨by rfl, ?_⟩) (by assumption) ?_
  rotate_left
  · intro w hSw
    try dsimp only at hSw
    go_simp
    try with_reducible rfl
  try simp only [Act.put, List.setIfInBounds_toArray, List.set_cons_zero, List.set_cons_succ]
  refine wpAnyH_ready (rs := [8]) (by kernel_rfl) (by simp) ?_
  refine (AllReadyH.cons (by (simp only [List.getElem?_toArray, List.getElem?_cons_succ, List.getElem?_cons_zero]); (try exact rfl)) (fun K hK => ?_) AllReadyH.nil)
  go_simp
  generalize hA : World.alloc u14 (.cells #[.int .i64 0, .int .i64 0, .int .i64 0, .int .i64 0, .int .i64 0, .int .i64 0, .int .i64 0, .int .i64 0, .int .i64 0] 30) = wa1
  obtain ⟨p1, hp⟩ : ∃ p, p = u14.heap.size := ⟨_, rfl⟩
  have ba : Below u14.heap.size u14 wa1 := by rw [← hA]; exact Below.alloc (Below.refl _ _) (Nat.le_refl _) _
  have Zwa1 : wa1.heap[p1]? = some (.cells #[.int .i64 0, .int .i64 0, .int .i64 0, .int .i64 0, .int .i64 0, .int .i64 0, .int .i64 0, .int .i64 0, .int .i64 0] 30 (0, 0)) := by rw [← hA, hp]; exact heap_alloc_new _ _
  have Lwa1 : p1 < wa1.heap.size := by rw [← hA, hp]; exact lt_alloc _ _
  have Dwa1 : Hid (Below (w.heap.size + 2) ((w.alloc (.cells #[.int .i64 q0.u.s, .int .i64 q0.u.h, .int .i64 q0.u.y, .int .i64 q0.u.p, .int .i64 q0.t.s, .int .i64 q0.t.h, .int .i64 q0.t.y, .int .i64 q0.t.p, .int .i64 q0.a] 25)).alloc (.cells #[.int .i64 q1.k, .int .i64 q1.y] 27)) wa1) := Below.trans Du14.out (ba.mono (le2 w q0 q1 Du14.out))
  have tp1 : w.heap.size + 2 ≤ p1 := by rw [hp]; exact le2 w q0 q1 Du14.out
  rw [← hp]
  clear hA hp ba
  (first | refine hK.out _ _ ?_ (fun hHeld => ?_) | (go_wp2_with fail; refine hK.out _ _ ?_ (fun hHeld => ?_)))
  · try dsimp only
    exact KS.out _ Dwa1.out
  clear hK K
  try simp only [Act.put, List.setIfInBounds_toArray, List.set_cons_zero, List.set_cons_succ]
  refine wpAnyH_ready (rs := [9]) (by kernel_rfl) (by simp) ?_
  refine AllReadyH.cons (by (simp only [List.getElem?_toArray, List.getElem?_cons_succ, List.getElem?_cons_zero]); (try exact rfl)) (fun K hK => ?_) AllReadyH.nil
  refine step_store_M rfl _ _ rfl p1 (⟨⟨0, 0, 0, 0⟩, ⟨0, 0, 0, 0⟩, 0⟩ : Mc) r0 _ rfl rfl Zwa1 ?_
  intro wE hE oE bE
  have DwE : Hid (Below (w.heap.size + 2) ((w.alloc (.cells #[.int .i64 q0.u.s, .int .i64 q0.u.h, .int .i64 q0.u.y, .int .i64 q0.u.p, .int .i64 q0.t.s, .int .i64 q0.t.h, .int .i64 q0.t.y, .int .i64 q0.t.p, .int .i64 q0.a] 25)).alloc (.cells #[.int .i64 q1.k, .int .i64 q1.y] 27)) wE) := Below.trans Dwa1.out (bE.mono tp1)
  have PwE := Lib.hid hE
  have QwE : p1 < wE.heap.size := Nat.lt_of_lt_of_le Lwa1 bE.size
  clear hE oE bE
  refine hK.out _ _ ?_ (fun hHeld => ?_)
  · try dsimp only
    exact KS.out _ DwE.out
  clear hK K
  try simp only [Act.put, List.setIfInBounds_toArray, List.set_cons_zero, List.set_cons_succ]
  refine wpAnyH_take (i := 10) (v := ?_) (by (simp only [List.getElem?_toArray, List.getElem?_cons_succ, List.getElem?_cons_zero]); (try exact rfl)) (by kernel_rfl) (by kernel_rfl) (by kernel_rfl) (by intro _ _ _ h; exact h) (Or.inl ⟨by rfl, ?_⟩) (by assumption) ?_
  rotate_left
  · intro w hSw
    try dsimp only at hSw
    go_simp
    try with_reducible rfl
  try simp only [Act.put, List.setIfInBounds_toArray, List.set_cons_zero, List.set_cons_succ]
  refine wpAnyH_done (by kernel_rfl) ?_ _
  rotate_left
  go_simp
  generalize hA : World.alloc u13 (.cells #[.int .i64 0, .int .i64 0, .int .i64 0, .int .i64 0, .int .i64 0, .int .i64 0, .int .i64 0, .int .i64 0, .int .i64 0] 30) = wa1
  obtain ⟨p1, hp⟩ : ∃ p, p = u13.heap.size := ⟨_, rfl⟩
  have ba : Below u13.heap.size u13 wa1 := by rw [← hA]; exact Below.alloc (Below.refl _ _) (Nat.le_refl _) _
  have Zwa1 : wa1.heap[p1]? = some (.cells #[.int .i64 0, .int .i64 0, .int .i64 0, .int .i64 0, .int .i64 0, .int .i64 0, .int .i64 0, .int .i64 0, .int .i64 0] 30 (0, 0)) := by rw [← hA, hp]; exact heap_alloc_new _ _
  have Lwa1 : p1 < wa1.heap.size := by rw [← hA, hp]; exact lt_alloc _ _
  have Dwa1 : Hid (Below (w.heap.size + 2) ((w.alloc (.cells #[.int .i64 q0.u.s, .int .i64 q0.u.h, .int .i64 q0.u.y, .int .i64 q0.u.p, .int .i64 q0.t.s, .int .i64 q0.t.h, .int .i64 q0.t.y, .int .i64 q0.t.p, .int .i64 q0.a] 25)).alloc (.cells #[.int .i64 q1.k, .int .i64 q1.y] 27)) wa1) := Below.trans Du13.out (ba.mono (le2 w q0 q1 Du13.out))
  have tp1 : w.heap.size + 2 ≤ p1 := by rw [hp]; exact le2 w q0 q1 Du13.out
  rw [← hp]
  clear hA hp ba
  (first | refine hK.out _ _ ?_ (fun hHeld => ?_) | (go_wp2_with fail; refine hK.out _ _ ?_ (fun hHeld => ?_)))
  · try dsimp only
    exact KS.out _ Dwa1.out
  clear hK K
  try simp only [Act.put, List.setIfInBounds_toArray, List.set_cons_zero, List.set_cons_succ]
  refine wpAnyH_ready (rs := [4]) (by kernel_rfl) (by simp) ?_
  refine (AllReadyH.cons (by (simp only [List.getElem?_toArray, List.getElem?_cons_succ, List.getElem?_cons_zero]); (try exact rfl)) (fun K hK => ?_) AllReadyH.nil)
  go_simp
  go_at_call 12
  refine (c1.out _ (HT.out _ (Below.trans (wb2 w q0 q1) (Dwa1.out.mono (by omega))))).mono ?_
  rintro e u14 ⟨rfl, b4⟩
  have Du14 : Hid (Below (w.heap.size + 2) ((w.alloc (.cells #[.int .i64 q0.u.s, .int .i64 q0.u.h, .int .i64 q0.u.y, .int .i64 q0.u.p, .int .i64 q0.t.s, .int .i64 q0.t.h, .int .i64 q0.t.y, .int .i64 q0.t.p, .int .i64 q0.a] 25)).alloc (.cells #[.int .i64 q1.k, .int .i64 q1.y] 27)) u14) := Below.trans Dwa1.out (b4.mono (le2 w q0 q1 Dwa1.out))
  have Zu14 := (b4.block p1 Lwa1).trans Zwa1
  have Lu14 : p1 < u14.heap.size := Nat.lt_of_lt_of_le Lwa1 b4.size
  clear b4
  (first | refine hK.out _ _ ?_ (fun hHeld => ?_) | (go_wp2_with fail; refine hK.out _ _ ?_ (fun hHeld => ?_)))
  · try dsimp only
    exact KS.out _ Du14.out
  clear hK K
  try simp only [Act.put, List.setIfInBounds_toArray, List.set_cons_zero, List.set_cons_succ]
  refine wpAnyH_take (i := 5) (v := ?_) (by (simp only [List.getElem?_toArray, List.getElem?_cons_succ, List.getElem?_cons_zero]); (try exact rfl)) (by kernel_rfl) (by kernel_rfl) (by kernel_rfl) (by intro _ _ _ h; exact h) (Or.inl ⟨by rfl, ?_⟩) (by assumption) ?_
  rotate_left
  · intro w hSw
    try dsimp only at hSw
    go_simp
    try with_reducible rfl
  try simp only [Act.put, List.setIfInBounds_toArray, List.set_cons_zero, List.set_cons_succ]
  refine wpAnyH_take (i := 6) (v := ?_) (by (simp only [List.getElem?_toArray, List.getElem?_cons_succ, List.getElem?_cons_zero]); (try exact rfl)) (by kernel_rfl) (by kernel_rfl) (by kernel_rfl) (by intro _ _ _ h; exact h) (Or.inl ⟨by rfl, ?_⟩) (by assumption) ?_
  rotate_left
  · intro w hSw
    try dsimp only at hSw
    go_simp
    try with_reducible rfl
  try simp only [Act.put, List.setIfInBounds_toArray, List.set_cons_zero, List.set_cons_succ]
  refine wpAnyH_take (i := 7) (v := ?_) (by (simp only [List.getElem?_toArray, List.getElem?_cons_succ, List.getElem?_cons_zero]); (try exact rfl)) (by kernel_rfl) (by kernel_rfl) (by kernel_rfl) (by intro _ _ _ h; exact h) (Or.inl ⟨by rfl, ?_⟩) (by assumption) ?_
  rotate_left
  · intro w hSw
    try dsimp only at hSw
    go_simp
    try with_reducible rfl
  try simp only [Act.put, List.setIfInBounds_toArray, List.set_cons_zero, List.set_cons_succ]
  refine wpAnyH_ready (rs := [9]) (by kernel_rfl) (by simp) ?_
  refine AllReadyH.cons (by (simp only [List.getElem?_toArray, List.getElem?_cons_succ, List.getElem?_cons_zero]); (try exact rfl)) (fun K hK => ?_) AllReadyH.nil
  refine step_store_M rfl _ _ rfl p1 (⟨⟨0, 0, 0, 0⟩, ⟨0, 0, 0, 0⟩, 0⟩ : Mc) r0 _ rfl rfl Zu14 ?_
  intro wE hE oE bE
  have DwE : Hid (Below (w.heap.size + 2) ((w.alloc (.cells #[.int .i64 q0.u.s, .int .i64 q0.u.h, .int .i64 q0.u.y, .int .i64 q0.u.p, .int .i64 q0.t.s, .int .i64 q0.t.h, .int .i64 q0.t.y, .int .i64 q0.t.p, .int .i64 q0.a] 25)).alloc (.cells #[.int .i64 q1.k, .int .i64 q1.y] 27)) wE) := Below.trans Du14.out (bE.mono tp1)
  have PwE := Lib.hid hE
  have QwE : p1 < wE.heap.size := Nat.lt_of_lt_of_le Lu14 bE.size
  clear hE oE bE
  refine hK.out _ _ ?_ (fun hHeld => ?_)
  · try dsimp only
    exact KS.out _ DwE.out
  clear hK K
  try simp only [Act.put, List.setIfInBounds_toArray, List.set_cons_zero, List.set_cons_succ]
  refine wpAnyH_take (i := 10) (v := ?_) (by (simp only [List.getElem?_toArray, List.getElem?_cons_succ, List.getElem?_cons_zero]); (try exact rfl)) (by kernel_rfl) (by kernel_rfl) (by kernel_rfl) (by intro _ _ _ h; exact h) (Or.inl ⟨by rfl, ?_⟩) (by assumption) ?_
  rotate_left
  · intro w hSw
    try dsimp only at hSw
    go_simp
    try with_reducible rfl
  try simp only [Act.put, List.setIfInBounds_toArray, List.set_cons_zero, List.set_cons_succ]
  refine wpAnyH_done (by kernel_rfl) ?_ _
  rotate_left
  go_simp
  generalize hA : World.alloc u11 (.cells #[.int .i64 0, .int .i64 0, .int .i64 0, .int .i64 0, .int .i64 0, .int .i64 0, .int .i64 0, .int .i64 0, .int .i64 0] 30) = wa1
  obtain ⟨p1, hp⟩ : ∃ p, p = u11.heap.size := ⟨_, rfl⟩
  have ba : Below u11.heap.size u11 wa1 := by rw [← hA]; exact Below.alloc (Below.refl _ _) (Nat.le_refl _) _
  have Zwa1 : wa1.heap[p1]? = some (.cells #[.int .i64 0, .int .i64 0, .int .i64 0, .int .i64 0, .int .i64 0, .int .i64 0, .int .i64 0, .int .i64 0, .int .i64 0] 30 (0, 0)) := by rw [← hA, hp]; exact heap_alloc_new _ _
  have Lwa1 : p1 < wa1.heap.size := by rw [← hA, hp]; exact lt_alloc _ _
  have Dwa1 : Hid (Below (w.heap.size + 2) ((w.alloc (.cells #[.int .i64 q0.u.s, .int .i64 q0.u.h, .int .i64 q0.u.y, .int .i64 q0.u.p, .int .i64 q0.t.s, .int .i64 q0.t.h, .int .i64 q0.t.y, .int .i64 q0.t.p, .int .i64 q0.a] 25)).alloc (.cells #[.int .i64 q1.k, .int .i64 q1.y] 27)) wa1) := Below.trans Du11.out (ba.mono (le2 w q0 q1 Du11.out))
  have tp1 : w.heap.size + 2 ≤ p1 := by rw [hp]; exact le2 w q0 q1 Du11.out
  rw [← hp]
  clear hA hp ba
  (first | refine hK.out _ _ ?_ (fun hHeld => ?_) | (go_wp2_with fail; refine hK.out _ _ ?_ (fun hHeld => ?_)))
  · try dsimp only
    exact KS.out _ Dwa1.out
  clear hK K
  try simp only [Act.put, List.setIfInBounds_toArray, List.set_cons_zero, List.set_cons_succ]
  refine wpAnyH_ready (rs := [3]) (by kernel_rfl) (by simp) ?_
  refine (AllReadyH.cons (by (simp only [List.getElem?_toArray, List.getElem?_cons_succ, List.getElem?_cons_zero]); (try exact rfl)) (fun K hK => ?_) AllReadyH.nil)
  go_simp
  go_at_call 14
  refine (toRing_blw q1 _).mono ?_
  rintro e u13 ⟨rfl, b3⟩
  have Du13 : Hid (Below (w.heap.size + 2) ((w.alloc (.cells #[.int .i64 q0.u.s, .int .i64 q0.u.h, .int .i64 q0.u.y, .int .i64 q0.u.p, .int .i64 q0.t.s, .int .i64 q0.t.h, .int .i64 q0.t.y, .int .i64 q0.t.p, .int .i64 q0.a] 25)).alloc (.cells #[.int .i64 q1.k, .int .i64 q1.y] 27)) u13) := Below.trans Dwa1.out (b3.mono (le2 w q0 q1 Dwa1.out))
  have Zu13 := (b3.block p1 Lwa1).trans Zwa1
  have Lu13 : p1 < u13.heap.size := Nat.lt_of_lt_of_le Lwa1 b3.size
  clear b3
  (first | refine hK.out _ _ ?_ (fun hHeld => ?_) | (go_wp2_with fail; refine hK.out _ _ ?_ (fun hHeld => ?_)))
  · try dsimp only
    exact KS.out _ Du13.out
  clear hK K
  try simp only [Act.put, List.setIfInBounds_toArray, List.set_cons_zero, List.set_cons_succ]
  refine wpAnyH_ready (rs := [4]) (by kernel_rfl) (by simp) ?_
  refine (AllReadyH.cons (by (simp only [List.getElem?_toArray, List.getElem?_cons_succ, List.getElem?_cons_zero]); (try exact rfl)) (fun K hK => ?_) AllReadyH.nil)
  go_simp
  go_at_call 12
  refine (c1.out _ (HT.out _ (Below.trans (wb2 w q0 q1) (Du13.out.mono (by omega))))).mono ?_
  rintro e u14 ⟨rfl, b4⟩
  have Du14 : Hid (Below (w.heap.size + 2) ((w.alloc (.cells #[.int .i64 q0.u.s, .int .i64 q0.u.h, .int .i64 q0.u.y, .int .i64 q0.u.p, .int .i64 q0.t.s, .int .i64 q0.t.h, .int .i64 q0.t.y, .int .i64 q0.t.p, .int .i64 q0.a] 25)).alloc (.cells #[.int .i64 q1.k, .int .i64 q1.y] 27)) u14) := Below.trans Du13.out (b4.mono (le2 w q0 q1 Du13.out))
  have Zu14 := (b4.block p1 Lu13).trans Zu13
  have Lu14 : p1 < u14.heap.size := Nat.lt_of_lt_of_le Lu13 b4.size
  clear b4
  (first | refine hK.out _ _ ?_ (fun hHeld => ?_) | (go_wp2_with fail; refine hK.out _ _ ?_ (fun hHeld => ?_)))
  · try dsimp only
    exact KS.out _ Du14.out
  clear hK K
  try simp only [Act.put, List.setIfInBounds_toArray, List.set_cons_zero, List.set_cons_succ]
  refine wpAnyH_take (i := 5) (v := ?_) (by (simp only [List.getElem?_toArray, List.getElem?_cons_succ, List.getElem?_cons_zero]); (try exact rfl)) (by kernel_rfl) (by kernel_rfl) (by kernel_rfl) (by intro _ _ _ h; exact h) (Or.inl ⟨by rfl, ?_⟩) (by assumption) ?_
  rotate_left
  · intro w hSw
    try dsimp only at hSw
    go_simp
    try with_reducible rfl
  try simp only [Act.put, List.setIfInBounds_toArray, List.set_cons_zero, List.set_cons_succ]
  refine wpAnyH_take (i := 6) (v := ?_) (by (simp only [List.getElem?_toArray, List.getElem?_cons_succ, List.getElem?_cons_zero]); (try exact rfl)) (by kernel_rfl) (by kernel_rfl) (by kernel_rfl) (by intro _ _ _ h; exact h) (Or.inl ⟨by rfl, ?_⟩) (by assumption) ?_
  rotate_left
  · intro w hSw
    try dsimp only at hSw
    go_simp
    try with_reducible rfl
  try simp only [Act.put, List.setIfInBounds_toArray, List.set_cons_zero, List.set_cons_succ]
  refine wpAnyH_take (i := 7) (v := ?_) (by (simp only [List.getElem?_toArray, List.getElem?_cons_succ, List.getElem?_cons_zero]); (try exact rfl)) (by kernel_rfl) (by kernel_rfl) (by kernel_rfl) (by intro _ _ _ h; exact h) (Or.inl ⟨by rfl, ?_⟩) (by assumption) ?_
  rotate_left
  · intro w hSw
    try dsimp only at hSw
    go_simp
    try with_reducible rfl
  try simp only [Act.put, List.setIfInBounds_toArray, List.set_cons_zero, List.set_cons_succ]
  refine wpAnyH_ready (rs := [9]) (by kernel_rfl) (by simp) ?_
  refine AllReadyH.cons (by (simp only [List.getElem?_toArray, List.getElem?_cons_succ, List.getElem?_cons_zero]); (try exact rfl)) (fun K hK => ?_) AllReadyH.nil
  refine step_store_M rfl _ _ rfl p1 (⟨⟨0, 0, 0, 0⟩, ⟨0, 0, 0, 0⟩, 0⟩ : Mc) r0 _ rfl rfl Zu14 ?_
  intro wE hE oE bE
  have DwE : Hid (Below (w.heap.size + 2) ((w.alloc (.cells #[.int .i64 q0.u.s, .int .i64 q0.u.h, .int .i64 q0.u.y, .int .i64 q0.u.p, .int .i64 q0.t.s, .int .i64 q0.t.h, .int .i64 q0.t.y, .int .i64 q0.t.p, .int .i64 q0.a] 25)).alloc (.cells #[.int .i64 q1.k, .int .i64 q1.y] 27)) wE) := Below.trans Du14.out (bE.mono tp1)
  have PwE := Lib.hid hE
  have QwE : p1 < wE.heap.size := Nat.lt_of_lt_of_le Lu14 bE.size
  clear hE oE bE
  refine hK.out _ _ ?_ (fun hHeld => ?_)
  · try dsimp only
    exact KS.out _ DwE.out
  clear hK K
  try simp only [Act.put, List.setIfInBounds_toArray, List.set_cons_zero, List.set_cons_succ]
  refine wpAnyH_take (i := 10) (v := ?_) (by (simp only [List.getElem?_toArray, List.getElem?_cons_succ, List.getElem?_cons_zero]); (try exact rfl)) (by kernel_rfl) (by kernel_rfl) (by kernel_rfl) (by intro _ _ _ h; exact h) (Or.inl ⟨by rfl, ?_⟩) (by assumption) ?_
  rotate_left
  · intro w hSw
    try dsimp only at hSw
    go_simp
    try with_reducible rfl
  try simp only [Act.put, List.setIfInBounds_toArray, List.set_cons_zero, List.set_cons_succ]
  refine wpAnyH_done (by kernel_rfl) ?_ _
  rotate_left
  go_simp
  generalize hA : World.drew (World.alloc ((w.alloc (.cells #[.int .i64 q0.u.s, .int .i64 q0.u.h, .int .i64 q0.u.y, .int .i64 q0.u.p, .int .i64 q0.t.s, .int .i64 q0.t.h, .int .i64 q0.t.y, .int .i64 q0.t.p, .int .i64 q0.a] 25)).alloc (.cells #[.int .i64 q1.k, .int .i64 q1.y] 27)) (.cells #[.int .i64 0, .int .i64 0, .int .i64 0, .int .i64 0, .int .i64 0, .int .i64 0, .int .i64 0, .int .i64 0, .int .i64 0] 30)) = wa1
  obtain ⟨p1, hp⟩ : ∃ p, p = (((w.alloc (.cells #[.int .i64 q0.u.s, .int .i64 q0.u.h, .int .i64 q0.u.y, .int .i64 q0.u.p, .int .i64 q0.t.s, .int .i64 q0.t.h, .int .i64 q0.t.y, .int .i64 q0.t.p, .int .i64 q0.a] 25)).alloc (.cells #[.int .i64 q1.k, .int .i64 q1.y] 27))).heap.size := ⟨_, rfl⟩
  have ba : Below (World.drew ((w.alloc (.cells #[.int .i64 q0.u.s, .int .i64 q0.u.h, .int .i64 q0.u.y, .int .i64 q0.u.p, .int .i64 q0.t.s, .int .i64 q0.t.h, .int .i64 q0.t.y, .int .i64 q0.t.p, .int .i64 q0.a] 25)).alloc (.cells #[.int .i64 q1.k, .int .i64 q1.y] 27))).heap.size (World.drew ((w.alloc (.cells #[.int .i64 q0.u.s, .int .i64 q0.u.h, .int .i64 q0.u.y, .int .i64 q0.u.p, .int .i64 q0.t.s, .int .i64 q0.t.h, .int .i64 q0.t.y, .int .i64 q0.t.p, .int .i64 q0.a] 25)).alloc (.cells #[.int .i64 q1.k, .int .i64 q1.y] 27))) wa1 := by rw [← hA]; exact (Below.alloc (Below.refl _ _) (Nat.le_refl _) _ : Below _ (World.drew ((w.alloc (.cells #[.int .i64 q0.u.s, .int .i64 q0.u.h, .int .i64 q0.u.y, .int .i64 q0.u.p, .int .i64 q0.t.s, .int .i64 q0.t.h, .int .i64 q0.t.y, .int .i64 q0.t.p, .int .i64 q0.a] 25)).alloc (.cells #[.int .i64 q1.k, .int .i64 q1.y] 27))) (World.alloc (World.drew ((w.alloc (.cells #[.int .i64 q0.u.s, .int .i64 q0.u.h, .int .i64 q0.u.y, .int .i64 q0.u.p, .int .i64 q0.t.s, .int .i64 q0.t.h, .int .i64 q0.t.y, .int .i64 q0.t.p, .int .i64 q0.a] 25)).alloc (.cells #[.int .i64 q1.k, .int .i64 q1.y] 27))) _))
  have Zwa1 : wa1.heap[p1]? = some (.cells #[.int .i64 0, .int .i64 0, .int .i64 0, .int .i64 0, .int .i64 0, .int .i64 0, .int .i64 0, .int .i64 0, .int .i64 0] 30 (0, 0)) := by rw [← hA, hp]; exact heap_alloc_new (((w.alloc (.cells #[.int .i64 q0.u.s, .int .i64 q0.u.h, .int .i64 q0.u.y, .int .i64 q0.u.p, .int .i64 q0.t.s, .int .i64 q0.t.h, .int .i64 q0.t.y, .int .i64 q0.t.p, .int .i64 q0.a] 25)).alloc (.cells #[.int .i64 q1.k, .int .i64 q1.y] 27))) _
  have Lwa1 : p1 < wa1.heap.size := by rw [← hA, hp]; exact lt_alloc (((w.alloc (.cells #[.int .i64 q0.u.s, .int .i64 q0.u.h, .int .i64 q0.u.y, .int .i64 q0.u.p, .int .i64 q0.t.s, .int .i64 q0.t.h, .int .i64 q0.t.y, .int .i64 q0.t.p, .int .i64 q0.a] 25)).alloc (.cells #[.int .i64 q1.k, .int .i64 q1.y] 27))) _
  have Dwa1 : Hid (Below (w.heap.size + 2) ((w.alloc (.cells #[.int .i64 q0.u.s, .int .i64 q0.u.h, .int .i64 q0.u.y, .int .i64 q0.u.p, .int .i64 q0.t.s, .int .i64 q0.t.h, .int .i64 q0.t.y, .int .i64 q0.t.p, .int .i64 q0.a] 25)).alloc (.cells #[.int .i64 q1.k, .int .i64 q1.y] 27)) wa1) := Below.trans D0.out (ba.mono (le2 w q0 q1 D0.out))
  have tp1 : w.heap.size + 2 ≤ p1 := by rw [hp]; exact (le2 w q0 q1 D0.out : w.heap.size + 2 ≤ (World.drew ((w.alloc (.cells #[.int .i64 q0.u.s, .int .i64 q0.u.h, .int .i64 q0.u.y, .int .i64 q0.u.p, .int .i64 q0.t.s, .int .i64 q0.t.h, .int .i64 q0.t.y, .int .i64 q0.t.p, .int .i64 q0.a] 25)).alloc (.cells #[.int .i64 q1.k, .int .i64 q1.y] 27))).heap.size)
  have hp' : p1 = w.heap.size + 1 + 1 := by rw [hp]; simp
  (first | rw [← hp] | rw [← hp'])
  clear hp'
  clear hA hp ba
  (first | refine hK.out _ _ ?_ (fun hHeld => ?_) | (go_wp2_with fail; refine hK.out _ _ ?_ (fun hHeld => ?_)))
  · try dsimp only
    exact KS.out _ Dwa1.out
  clear hK K
  try simp only [Act.put, List.setIfInBounds_toArray, List.set_cons_zero, List.set_cons_succ]
  refine wpAnyH_ready (rs := [1]) (by kernel_rfl) (by simp) ?_
  refine (AllReadyH.cons (by (simp only [List.getElem?_toArray, List.getElem?_cons_succ, List.getElem?_cons_zero]); (try exact rfl)) (fun K hK => ?_) AllReadyH.nil)
  go_simp
  go_at_call 13
  refine (toMachine_blw q0 _).mono ?_
  rintro e u11 ⟨rfl, b1⟩
  have Du11 : Hid (Below (w.heap.size + 2) ((w.alloc (.cells #[.int .i64 q0.u.s, .int .i64 q0.u.h, .int .i64 q0.u.y, .int .i64 q0.u.p, .int .i64 q0.t.s, .int .i64 q0.t.h, .int .i64 q0.t.y, .int .i64 q0.t.p, .int .i64 q0.a] 25)).alloc (.cells #[.int .i64 q1.k, .int .i64 q1.y] 27)) u11) := Below.trans Dwa1.out (b1.mono (le2 w q0 q1 Dwa1.out))
  have Zu11 := (b1.block p1 Lwa1).trans Zwa1
  have Lu11 : p1 < u11.heap.size := Nat.lt_of_lt_of_le Lwa1 b1.size
  clear b1
  (first | refine hK.out _ _ ?_ (fun hHeld => ?_) | (go_wp2_with fail; refine hK.out _ _ ?_ (fun hHeld => ?_)))
  · try dsimp only
    exact KS.out _ Du11.out
  clear hK K
  try simp only [Act.put, List.setIfInBounds_toArray, List.set_cons_zero, List.set_cons_succ]
  refine wpAnyH_ready (rs := [3]) (by kernel_rfl) (by simp) ?_
  refine (AllReadyH.cons (by (simp only [List.getElem?_toArray, List.getElem?_cons_succ, List.getElem?_cons_zero]); (try exact rfl)) (fun K hK => ?_) AllReadyH.nil)
  go_simp
  go_at_call 14
  refine (toRing_blw q1 _).mono ?_
  rintro e u13 ⟨rfl, b3⟩
  have Du13 : Hid (Below (w.heap.size + 2) ((w.alloc (.cells #[.int .i64 q0.u.s, .int .i64 q0.u.h, .int .i64 q0.u.y, .int .i64 q0.u.p, .int .i64 q0.t.s, .int .i64 q0.t.h, .int .i64 q0.t.y, .int .i64 q0.t.p, .int .i64 q0.a] 25)).alloc (.cells #[.int .i64 q1.k, .int .i64 q1.y] 27)) u13) := Below.trans Du11.out (b3.mono (le2 w q0 q1 Du11.out))
  have Zu13 := (b3.block p1 Lu11).trans Zu11
  have Lu13 : p1 < u13.heap.size := Nat.lt_of_lt_of_le Lu11 b3.size
  clear b3
  (first | refine hK.out _ _ ?_ (fun hHeld => ?_) | (go_wp2_with fail; refine hK.out _ _ ?_ (fun hHeld => ?_)))
  · try dsimp only
    exact KS.out _ Du13.out
  clear hK K
  try simp only [Act.put, List.setIfInBounds_toArray, List.set_cons_zero, List.set_cons_succ]
  refine wpAnyH_ready (rs := [4]) (by kernel_rfl) (by simp) ?_
  refine (AllReadyH.cons (by (simp only [List.getElem?_toArray, List.getElem?_cons_succ, List.getElem?_cons_zero]); (try exact rfl)) (fun K hK => ?_) AllReadyH.nil)
  go_simp
  go_at_call 12
  refine (c1.out _ (HT.out _ (Below.trans (wb2 w q0 q1) (Du13.out.mono (by omega))))).mono ?_
  rintro e u14 ⟨rfl, b4⟩
  have Du14 : Hid (Below (w.heap.size + 2) ((w.alloc (.cells #[.int .i64 q0.u.s, .int .i64 q0.u.h, .int .i64 q0.u.y, .int .i64 q0.u.p, .int .i64 q0.t.s, .int .i64 q0.t.h, .int .i64 q0.t.y, .int .i64 q0.t.p, .int .i64 q0.a] 25)).alloc (.cells #[.int .i64 q1.k, .int .i64 q1.y] 27)) u14) := Below.trans Du13.out (b4.mono (le2 w q0 q1 Du13.out))
  have Zu14 := (b4.block p1 Lu13).trans Zu13
  have Lu14 : p1 < u14.heap.size := Nat.lt_of_lt_of_le Lu13 b4.size
  clear b4
  (first | refine hK.out _ _ ?_ (fun hHeld => ?_) | (go_wp2_with fail; refine hK.out _ _ ?_ (fun hHeld => ?_)))
  · try dsimp only
    exact KS.out _ Du14.out
  clear hK K
  try simp only [Act.put, List.setIfInBounds_toArray, List.set_cons_zero, List.set_cons_succ]
  refine wpAnyH_take (i := 5) (v := ?_) (by (simp only [List.getElem?_toArray, List.getElem?_cons_succ, List.getElem?_cons_zero]); (try exact rfl)) (by kernel_rfl) (by kernel_rfl) (by kernel_rfl) (by intro _ _ _ h; exact h) (Or.inl ⟨by rfl, ?_⟩) (by assumption) ?_
  rotate_left
  · intro w hSw
    try dsimp only at hSw
    go_simp
    try with_reducible rfl
  try simp only [Act.put, List.setIfInBounds_toArray, List.set_cons_zero, List.set_cons_succ]
  refine wpAnyH_take (i := 6) (v := ?_) (by (simp only [List.getElem?_toArray, List.getElem?_cons_succ, List.getElem?_cons_zero]); (try exact rfl)) (by kernel_rfl) (by kernel_rfl) (by kernel_rfl) (by intro _ _ _ h; exact h) (Or.inl ⟨by rfl, ?_⟩) (by assumption) ?_
  rotate_left
  · intro w hSw
    try dsimp only at hSw
    go_simp
    try with_reducible rfl
  try simp only [Act.put, List.setIfInBounds_toArray, List.set_cons_zero, List.set_cons_succ]
  refine wpAnyH_take (i := 7) (v := ?_) (by (simp only [List.getElem?_toArray, List.getElem?_cons_succ, List.getElem?_cons_zero]); (try exact rfl)) (by kernel_rfl) (by kernel_rfl) (by kernel_rfl) (by intro _ _ _ h; exact h) (Or.inl ⟨by rfl, ?_⟩) (by assumption) ?_
  rotate_left
  · intro w hSw
    try dsimp only at hSw
    go_simp
    try with_reducible rfl
  try simp only [Act.put, List.setIfInBounds_toArray, List.set_cons_zero, List.set_cons_succ]
  refine wpAnyH_ready (rs := [9]) (by kernel_rfl) (by simp) ?_
  refine AllReadyH.cons (by (simp only [List.getElem?_toArray, List.getElem?_cons_succ, List.getElem?_cons_zero]); (try exact rfl)) (fun K hK => ?_) AllReadyH.nil
  refine step_store_M rfl _ _ rfl p1 (⟨⟨0, 0, 0, 0⟩, ⟨0, 0, 0, 0⟩, 0⟩ : Mc) r0 _ rfl rfl Zu14 ?_
  intro wE hE oE bE
  have DwE : Hid (Below (w.heap.size + 2) ((w.alloc (.cells #[.int .i64 q0.u.s, .int .i64 q0.u.h, .int .i64 q0.u.y, .int .i64 q0.u.p, .int .i64 q0.t.s, .int .i64 q0.t.h, .int .i64 q0.t.y, .int .i64 q0.t.p, .int .i64 q0.a] 25)).alloc (.cells #[.int .i64 q1.k, .int .i64 q1.y] 27)) wE) := Below.trans Du14.out (bE.mono tp1)
  have PwE := Lib.hid hE
  have QwE : p1 < wE.heap.size := Nat.lt_of_lt_of_le Lu14 bE.size
  clear hE oE bE
  refine hK.out _ _ ?_ (fun hHeld => ?_)
  · try dsimp only
    exact KS.out _ DwE.out
  clear hK K
  try simp only [Act.put, List.setIfInBounds_toArray, List.set_cons_zero, List.set_cons_succ]
  refine wpAnyH_take (i := 10) (v := ?_) (by (simp only [List.getElem?_toArray, List.getElem?_cons_succ, List.getElem?_cons_zero]); (try exact rfl)) (by kernel_rfl) (by kernel_rfl) (by kernel_rfl) (by intro _ _ _ h; exact h) (Or.inl ⟨by rfl, ?_⟩) (by assumption) ?_
  rotate_left
  · intro w hSw
    try dsimp only at hSw
    go_simp
    try with_reducible rfl
  try simp only [Act.put, List.setIfInBounds_toArray, List.set_cons_zero, List.set_cons_succ]
  refine wpAnyH_done (by kernel_rfl) ?_ _
  rotate_left
  all_goals
    have D0 : Hid (Below (w.heap.size + 2) ((w.alloc (.cells #[.int .i64 q0.u.s, .int .i64 q0.u.h, .int .i64 q0.u.y, .int .i64 q0.u.p, .int .i64 q0.t.s, .int .i64 q0.t.h, .int .i64 q0.t.y, .int .i64 q0.t.p, .int .i64 q0.a] 25)).alloc (.cells #[.int .i64 q1.k, .int .i64 q1.y] 27)) (World.drew wE)) := DwE.out.drew
    have Y0 : Hid ((World.drew wE).heap[p1]? = some (.cells #[.int .i64 r0.u.s, .int .i64 r0.u.h, .int .i64 r0.u.y, .int .i64 r0.u.p, .int .i64 r0.t.s, .int .i64 r0.t.h, .int .i64 r0.t.y, .int .i64 r0.t.p, .int .i64 r0.a] 30 (0, 0))) := PwE.out
    have M0 : p1 < (World.drew wE).heap.size := QwE
    go_wp2_with fail
    refine wp_region_held_drew (S := fun w' => (w'.cell? ⟨w.heap.size, 0, none⟩ = some (.int .i64 q0.u.s) ∧ w'.cell? ⟨w.heap.size, 1, none⟩ = some (.int .i64 q0.u.h) ∧ w'.cell? ⟨w.heap.size, 2, none⟩ = some (.int .i64 q0.u.y) ∧ w'.cell? ⟨w.heap.size, 3, none⟩ = some (.int .i64 q0.u.p) ∧ w'.cell? ⟨w.heap.size, 4, none⟩ = some (.int .i64 q0.t.s) ∧ w'.cell? ⟨w.heap.size, 5, none⟩ = some (.int .i64 q0.t.h) ∧ w'.cell? ⟨w.heap.size, 6, none⟩ = some (.int .i64 q0.t.y) ∧ w'.cell? ⟨w.heap.size, 7, none⟩ = some (.int .i64 q0.t.p) ∧ w'.cell? ⟨w.heap.size, 8, none⟩ = some (.int .i64 q0.a) ∧ w'.cell? ⟨w.heap.size + 1, 0, none⟩ = some (.int .i64 q1.k) ∧ w'.cell? ⟨w.heap.size + 1, 1, none⟩ = some (.int .i64 q1.y))) (by kernel_rfl) (KS.out _ D0.out) (fun hHeld => ?_)
    refine wpAnyH_take (i := 0) (v := ?_) (by (simp only [List.getElem?_toArray, List.getElem?_cons_succ, List.getElem?_cons_zero]); (try exact rfl)) (by kernel_rfl) (by kernel_rfl) (by kernel_rfl) (by intro _ _ _ h; exact h) (Or.inl ⟨by rfl, ?_⟩) (by assumption) ?_
    rotate_left
    · intro w hSw
      try dsimp only at hSw
      go_simp
      try with_reducible rfl
    try simp only [Act.put, List.setIfInBounds_toArray, List.set_cons_zero, List.set_cons_succ]
    refine wpAnyH_take (i := 2) (v := ?_) (by (simp only [List.getElem?_toArray, List.getElem?_cons_succ, List.getElem?_cons_zero]); (try exact rfl)) (by kernel_rfl) (by kernel_rfl) (by kernel_rfl) (by intro _ _ _ h; exact h) (Or.inl ⟨by rfl, ?_⟩) (by assumption) ?_
    rotate_left
    · intro w hSw
      try dsimp only at hSw
      go_simp
      try with_reducible rfl
    try simp only [Act.put, List.setIfInBounds_toArray, List.set_cons_zero, List.set_cons_succ]
    refine wpAnyH_ready (rs := [1, 8]) (by kernel_rfl) (by simp) ?_
    refine (AllReadyH.cons (by (simp only [List.getElem?_toArray, List.getElem?_cons_succ, List.getElem?_cons_zero]); (try exact rfl)) (fun K hK => ?_) (AllReadyH.cons (by (simp only [List.getElem?_toArray, List.getElem?_cons_succ, List.getElem?_cons_zero]); (try exact rfl)) (fun K hK => ?_) AllReadyH.nil))
    go_simp
    go_at_call 13
    refine (toMachine_blw q0 _).mono ?_
    rintro e u21 ⟨rfl, b1⟩
    have Du21 : Hid (Below (w.heap.size + 2) ((w.alloc (.cells #[.int .i64 q0.u.s, .int .i64 q0.u.h, .int .i64 q0.u.y, .int .i64 q0.u.p, .int .i64 q0.t.s, .int .i64 q0.t.h, .int .i64 q0.t.y, .int .i64 q0.t.p, .int .i64 q0.a] 25)).alloc (.cells #[.int .i64 q1.k, .int .i64 q1.y] 27)) u21) := Below.trans D0.out (b1.mono (le2 w q0 q1 D0.out))
    have Yu21 := Lib.hid ((b1.block p1 M0).trans Y0.out)
    have Mu21 : p1 < u21.heap.size := Nat.lt_of_lt_of_le M0 b1.size
    clear b1
    (first | refine hK.out _ _ ?_ (fun hHeld => ?_) | (go_wp2_with fail; refine hK.out _ _ ?_ (fun hHeld => ?_)))
    · try dsimp only
      exact KS.out _ Du21.out
    clear hK K
    try simp only [Act.put, List.setIfInBounds_toArray, List.set_cons_zero, List.set_cons_succ]
    refine wpAnyH_ready (rs := [3, 8]) (by kernel_rfl) (by simp) ?_
    refine (AllReadyH.cons (by (simp only [List.getElem?_toArray, List.getElem?_cons_succ, List.getElem?_cons_zero]); (try exact rfl)) (fun K hK => ?_) (AllReadyH.cons (by (simp only [List.getElem?_toArray, List.getElem?_cons_succ, List.getElem?_cons_zero]); (try exact rfl)) (fun K hK => ?_) AllReadyH.nil))
    go_simp
    go_at_call 14
    refine (toRing_blw q1 _).mono ?_
    rintro e u23 ⟨rfl, b3⟩
    have Du23 : Hid (Below (w.heap.size + 2) ((w.alloc (.cells #[.int .i64 q0.u.s, .int .i64 q0.u.h, .int .i64 q0.u.y, .int .i64 q0.u.p, .int .i64 q0.t.s, .int .i64 q0.t.h, .int .i64 q0.t.y, .int .i64 q0.t.p, .int .i64 q0.a] 25)).alloc (.cells #[.int .i64 q1.k, .int .i64 q1.y] 27)) u23) := Below.trans Du21.out (b3.mono (le2 w q0 q1 Du21.out))
    have Yu23 := Lib.hid ((b3.block p1 Mu21).trans Yu21.out)
    have Mu23 : p1 < u23.heap.size := Nat.lt_of_lt_of_le Mu21 b3.size
    clear b3
    (first | refine hK.out _ _ ?_ (fun hHeld => ?_) | (go_wp2_with fail; refine hK.out _ _ ?_ (fun hHeld => ?_)))
    · try dsimp only
      exact KS.out _ Du23.out
    clear hK K
    try simp only [Act.put, List.setIfInBounds_toArray, List.set_cons_zero, List.set_cons_succ]
    refine wpAnyH_ready (rs := [4, 8]) (by kernel_rfl) (by simp) ?_
    refine (AllReadyH.cons (by (simp only [List.getElem?_toArray, List.getElem?_cons_succ, List.getElem?_cons_zero]); (try exact rfl)) (fun K hK => ?_) (AllReadyH.cons (by (simp only [List.getElem?_toArray, List.getElem?_cons_succ, List.getElem?_cons_zero]); (try exact rfl)) (fun K hK => ?_) AllReadyH.nil))
    go_simp
    go_at_call 15
    refine (c2.out _ (HT.out _ (Below.trans (wb2 w q0 q1) (Du23.out.mono (by omega))))).mono ?_
    rintro e u24 ⟨rfl, b4⟩
    have Du24 : Hid (Below (w.heap.size + 2) ((w.alloc (.cells #[.int .i64 q0.u.s, .int .i64 q0.u.h, .int .i64 q0.u.y, .int .i64 q0.u.p, .int .i64 q0.t.s, .int .i64 q0.t.h, .int .i64 q0.t.y, .int .i64 q0.t.p, .int .i64 q0.a] 25)).alloc (.cells #[.int .i64 q1.k, .int .i64 q1.y] 27)) u24) := Below.trans Du23.out (b4.mono (le2 w q0 q1 Du23.out))
    have Yu24 := Lib.hid ((b4.block p1 Mu23).trans Yu23.out)
    have Mu24 : p1 < u24.heap.size := Nat.lt_of_lt_of_le Mu23 b4.size
    clear b4
    (first | refine hK.out _ _ ?_ (fun hHeld => ?_) | (go_wp2_with fail; refine hK.out _ _ ?_ (fun hHeld => ?_)))
    · try dsimp only
      exact KS.out _ Du24.out
    clear hK K
    try simp only [Act.put, List.setIfInBounds_toArray, List.set_cons_zero, List.set_cons_succ]
    refine wpAnyH_take (i := 5) (v := ?_) (by (simp only [List.getElem?_toArray, List.getElem?_cons_succ, List.getElem?_cons_zero]); (try exact rfl)) (by kernel_rfl) (by kernel_rfl) (by kernel_rfl) (by intro _ _ _ h; exact h) (Or.inl ⟨by rfl, ?_⟩) (by assumption) ?_
    rotate_left
    · intro w hSw
      try dsimp only at hSw
      go_simp
      try with_reducible rfl
    try simp only [Act.put, List.setIfInBounds_toArray, List.set_cons_zero, List.set_cons_succ]
    refine wpAnyH_take (i := 6) (v := ?_) (by (simp only [List.getElem?_toArray, List.getElem?_cons_succ, List.getElem?_cons_zero]); (try exact rfl)) (by kernel_rfl) (by kernel_rfl) (by kernel_rfl) (by intro _ _ _ h; exact h) (Or.inl ⟨by rfl, ?_⟩) (by assumption) ?_
    rotate_left
    · intro w hSw
      try dsimp only at hSw
      go_simp
      try with_reducible rfl
    try simp only [Act.put, List.setIfInBounds_toArray, List.set_cons_zero, List.set_cons_succ]
    refine wpAnyH_take (i := 7) (v := ?_) (by (simp only [List.getElem?_toArray, List.getElem?_cons_succ, List.getElem?_cons_zero]); (try exact rfl)) (by kernel_rfl) (by kernel_rfl) (by kernel_rfl) (by intro _ _ _ h; exact h) (Or.inl ⟨by rfl, ?_⟩) (by assumption) ?_
    rotate_left
    · intro w hSw
      try dsimp only at hSw
      go_simp
      try with_reducible rfl
    try simp only [Act.put, List.setIfInBounds_toArray, List.set_cons_zero, List.set_cons_succ]
    refine wpAnyH_ready (rs := [8]) (by kernel_rfl) (by simp) ?_
    refine (AllReadyH.cons (by (simp only [List.getElem?_toArray, List.getElem?_cons_succ, List.getElem?_cons_zero]); (try exact rfl)) (fun K hK => ?_) AllReadyH.nil)
    go_simp
    generalize hA : World.alloc u24 (.cells #[.int .i64 0, .int .i64 0, .int .i64 0, .int .i64 0, .int .i64 0, .int .i64 0, .int .i64 0, .int .i64 0, .int .i64 0] 30) = wa2
    obtain ⟨p2, hp⟩ : ∃ p, p = u24.heap.size := ⟨_, rfl⟩
    have ba : Below u24.heap.size u24 wa2 := by rw [← hA]; exact Below.alloc (Below.refl _ _) (Nat.le_refl _) _
    have Zwa2 : wa2.heap[p2]? = some (.cells #[.int .i64 0, .int .i64 0, .int .i64 0, .int .i64 0, .int .i64 0, .int .i64 0, .int .i64 0, .int .i64 0, .int .i64 0] 30 (0, 0)) := by rw [← hA, hp]; exact heap_alloc_new _ _
    have Lwa2 : p2 < wa2.heap.size := by rw [← hA, hp]; exact lt_alloc _ _
    have Dwa2 : Hid (Below (w.heap.size + 2) ((w.alloc (.cells #[.int .i64 q0.u.s, .int .i64 q0.u.h, .int .i64 q0.u.y, .int .i64 q0.u.p, .int .i64 q0.t.s, .int .i64 q0.t.h, .int .i64 q0.t.y, .int .i64 q0.t.p, .int .i64 q0.a] 25)).alloc (.cells #[.int .i64 q1.k, .int .i64 q1.y] 27)) wa2) := Below.trans Du24.out (ba.mono (le2 w q0 q1 Du24.out))
    have tp2 : w.heap.size + 2 ≤ p2 := by rw [hp]; exact le2 w q0 q1 Du24.out
    have Ywa2 := Lib.hid ((ba.block p1 Mu24).trans Yu24.out)
    have Mwa2 : p1 < wa2.heap.size := Nat.lt_of_lt_of_le Mu24 ba.size
    have np : p1 ≠ p2 := by have hh := Mu24; rw [hp]; intro e; rw [e] at hh; exact Nat.lt_irrefl _ hh
    rw [← hp]
    clear hA hp ba
    (first | refine hK.out _ _ ?_ (fun hHeld => ?_) | (go_wp2_with fail; refine hK.out _ _ ?_ (fun hHeld => ?_)))
    · try dsimp only
      exact KS.out _ Dwa2.out
    clear hK K
    try simp only [Act.put, List.setIfInBounds_toArray, List.set_cons_zero, List.set_cons_succ]
    refine wpAnyH_ready (rs := [9]) (by kernel_rfl) (by simp) ?_
    refine AllReadyH.cons (by (simp only [List.getElem?_toArray, List.getElem?_cons_succ, List.getElem?_cons_zero]); (try exact rfl)) (fun K hK => ?_) AllReadyH.nil
    refine step_store_M rfl _ _ rfl p2 (⟨⟨0, 0, 0, 0⟩, ⟨0, 0, 0, 0⟩, 0⟩ : Mc) r0 _ rfl rfl Zwa2 ?_
    intro wF hE oE bE
    have DwF : Hid (Below (w.heap.size + 2) ((w.alloc (.cells #[.int .i64 q0.u.s, .int .i64 q0.u.h, .int .i64 q0.u.y, .int .i64 q0.u.p, .int .i64 q0.t.s, .int .i64 q0.t.h, .int .i64 q0.t.y, .int .i64 q0.t.p, .int .i64 q0.a] 25)).alloc (.cells #[.int .i64 q1.k, .int .i64 q1.y] 27)) wF) := Below.trans Dwa2.out (bE.mono tp2)
    have PwF := Lib.hid hE
    have QwF : p2 < wF.heap.size := Nat.lt_of_lt_of_le Lwa2 bE.size
    have YwF := Lib.hid ((oE p1 np).trans Ywa2.out)
    clear hE oE bE
    refine hK.out _ _ ?_ (fun hHeld => ?_)
    · try dsimp only
      exact KS.out _ DwF.out
    clear hK K
    try simp only [Act.put, List.setIfInBounds_toArray, List.set_cons_zero, List.set_cons_succ]
    refine wpAnyH_take (i := 10) (v := ?_) (by (simp only [List.getElem?_toArray, List.getElem?_cons_succ, List.getElem?_cons_zero]); (try exact rfl)) (by kernel_rfl) (by kernel_rfl) (by kernel_rfl) (by intro _ _ _ h; exact h) (Or.inl ⟨by rfl, ?_⟩) (by assumption) ?_
    rotate_left
    · intro w hSw
      try dsimp only at hSw
      go_simp
      try with_reducible rfl
    try simp only [Act.put, List.setIfInBounds_toArray, List.set_cons_zero, List.set_cons_succ]
    refine wpAnyH_done (by kernel_rfl) ?_ _
    rotate_left
    go_simp
    generalize hA : World.alloc u23 (.cells #[.int .i64 0, .int .i64 0, .int .i64 0, .int .i64 0, .int .i64 0, .int .i64 0, .int .i64 0, .int .i64 0, .int .i64 0] 30) = wa2
    obtain ⟨p2, hp⟩ : ∃ p, p = u23.heap.size := ⟨_, rfl⟩
    have ba : Below u23.heap.size u23 wa2 := by rw [← hA]; exact Below.alloc (Below.refl _ _) (Nat.le_refl _) _
    have Zwa2 : wa2.heap[p2]? = some (.cells #[.int .i64 0, .int .i64 0, .int .i64 0, .int .i64 0, .int .i64 0, .int .i64 0, .int .i64 0, .int .i64 0, .int .i64 0] 30 (0, 0)) := by rw [← hA, hp]; exact heap_alloc_new _ _
    have Lwa2 : p2 < wa2.heap.size := by rw [← hA, hp]; exact lt_alloc _ _
    have Dwa2 : Hid (Below (w.heap.size + 2) ((w.alloc (.cells #[.int .i64 q0.u.s, .int .i64 q0.u.h, .int .i64 q0.u.y, .int .i64 q0.u.p, .int .i64 q0.t.s, .int .i64 q0.t.h, .int .i64 q0.t.y, .int .i64 q0.t.p, .int .i64 q0.a] 25)).alloc (.cells #[.int .i64 q1.k, .int .i64 q1.y] 27)) wa2) := Below.trans Du23.out (ba.mono (le2 w q0 q1 Du23.out))
    have tp2 : w.heap.size + 2 ≤ p2 := by rw [hp]; exact le2 w q0 q1 Du23.out
    have Ywa2 := Lib.hid ((ba.block p1 Mu23).trans Yu23.out)
    have Mwa2 : p1 < wa2.heap.size := Nat.lt_of_lt_of_le Mu23 ba.size
    have np : p1 ≠ p2 := by have hh := Mu23; rw [hp]; intro e; rw [e] at hh; exact Nat.lt_irrefl _ hh
    rw [← hp]
    clear hA hp ba
    (first | refine hK.out _ _ ?_ (fun hHeld => ?_) | (go_wp2_with fail; refine hK.out _ _ ?_ (fun hHeld => ?_)))
    · try dsimp only
      exact KS.out _ Dwa2.out
    clear hK K
    try simp only [Act.put, List.setIfInBounds_toArray, List.set_cons_zero, List.set_cons_succ]
    refine wpAnyH_ready (rs := [4]) (by kernel_rfl) (by simp) ?_
    refine (AllReadyH.cons (by (simp only [List.getElem?_toArray, List.getElem?_cons_succ, List.getElem?_cons_zero]); (try exact rfl)) (fun K hK => ?_) AllReadyH.nil)
    go_simp
    go_at_call 15
    refine (c2.out _ (HT.out _ (Below.trans (wb2 w q0 q1) (Dwa2.out.mono (by omega))))).mono ?_
    rintro e u24 ⟨rfl, b4⟩
    have Du24 : Hid (Below (w.heap.size + 2) ((w.alloc (.cells #[.int .i64 q0.u.s, .int .i64 q0.u.h, .int .i64 q0.u.y, .int .i64 q0.u.p, .int .i64 q0.t.s, .int .i64 q0.t.h, .int .i64 q0.t.y, .int .i64 q0.t.p, .int .i64 q0.a] 25)).alloc (.cells #[.int .i64 q1.k, .int .i64 q1.y] 27)) u24) := Below.trans Dwa2.out (b4.mono (le2 w q0 q1 Dwa2.out))
    have Zu24 := (b4.block p2 Lwa2).trans Zwa2
    have Lu24 : p2 < u24.heap.size := Nat.lt_of_lt_of_le Lwa2 b4.size
    have Yu24 := Lib.hid ((b4.block p1 Mwa2).trans Ywa2.out)
    have Mu24 : p1 < u24.heap.size := Nat.lt_of_lt_of_le Mwa2 b4.size
    clear b4
    (first | refine hK.out _ _ ?_ (fun hHeld => ?_) | (go_wp2_with fail; refine hK.out _ _ ?_ (fun hHeld => ?_)))
    · try dsimp only
      exact KS.out _ Du24.out
    clear hK K
    try simp only [Act.put, List.setIfInBounds_toArray, List.set_cons_zero, List.set_cons_succ]
    refine wpAnyH_take (i := 5) (v := ?_) (by (simp only [List.getElem?_toArray, List.getElem?_cons_succ, List.getElem?_cons_zero]); (try exact rfl)) (by kernel_rfl) (by kernel_rfl) (by kernel_rfl) (by intro _ _ _ h; exact h) (Or.inl ⟨by rfl, ?_⟩) (by assumption) ?_
    rotate_left
    · intro w hSw
      try dsimp only at hSw
      go_simp
      try with_reducible rfl
    try simp only [Act.put, List.setIfInBounds_toArray, List.set_cons_zero, List.set_cons_succ]
    refine wpAnyH_take (i := 6) (v := ?_) (by (simp only [List.getElem?_toArray, List.getElem?_cons_succ, List.getElem?_cons_zero]); (try exact rfl)) (by kernel_rfl) (by kernel_rfl) (by kernel_rfl) (by intro _ _ _ h; exact h) (Or.inl ⟨by rfl, ?_⟩) (by assumption) ?_
    rotate_left
    · intro w hSw
      try dsimp only at hSw
      go_simp
      try with_reducible rfl
    try simp only [Act.put, List.setIfInBounds_toArray, List.set_cons_zero, List.set_cons_succ]
    refine wpAnyH_take (i := 7) (v := ?_) (by (simp only [List.getElem?_toArray, List.getElem?_cons_succ, List.getElem?_cons_zero]); (try exact rfl)) (by kernel_rfl) (by kernel_rfl) (by kernel_rfl) (by intro _ _ _ h; exact h) (Or.inl ⟨by rfl, ?_⟩) (by assumption) ?_
    rotate_left
    · intro w hSw
      try dsimp only at hSw
      go_simp
      try with_reducible rfl
    try simp only [Act.put, List.setIfInBounds_toArray, List.set_cons_zero, List.set_cons_succ]
    refine wpAnyH_ready (rs := [9]) (by kernel_rfl) (by simp) ?_
    refine AllReadyH.cons (by (simp only [List.getElem?_toArray, List.getElem?_cons_succ, List.getElem?_cons_zero]); (try exact rfl)) (fun K hK => ?_) AllReadyH.nil
    refine step_store_M rfl _ _ rfl p2 (⟨⟨0, 0, 0, 0⟩, ⟨0, 0, 0, 0⟩, 0⟩ : Mc) r0 _ rfl rfl Zu24 ?_
    intro wF hE oE bE
    have DwF : Hid (Below (w.heap.size + 2) ((w.alloc (.cells #[.int .i64 q0.u.s, .int .i64 q0.u.h, .int .i64 q0.u.y, .int .i64 q0.u.p, .int .i64 q0.t.s, .int .i64 q0.t.h, .int .i64 q0.t.y, .int .i64 q0.t.p, .int .i64 q0.a] 25)).alloc (.cells #[.int .i64 q1.k, .int .i64 q1.y] 27)) wF) := Below.trans Du24.out (bE.mono tp2)
    have PwF := Lib.hid hE
    have QwF : p2 < wF.heap.size := Nat.lt_of_lt_of_le Lu24 bE.size
    have YwF := Lib.hid ((oE p1 np).trans Yu24.out)
    clear hE oE bE
    refine hK.out _ _ ?_ (fun hHeld => ?_)
    · try dsimp only
      exact KS.out _ DwF.out
    clear hK K
    try simp only [Act.put, List.setIfInBounds_toArray, List.set_cons_zero, List.set_cons_succ]
    refine wpAnyH_take (i := 10) (v := ?_) (by (simp only [List.getElem?_toArray, List.getElem?_cons_succ, List.getElem?_cons_zero]); (try exact rfl)) (by kernel_rfl) (by kernel_rfl) (by kernel_rfl) (by intro _ _ _ h; exact h) (Or.inl ⟨by rfl, ?_⟩) (by assumption) ?_
    rotate_left
    · intro w hSw
      try dsimp only at hSw
      go_simp
      try with_reducible rfl
    try simp only [Act.put, List.setIfInBounds_toArray, List.set_cons_zero, List.set_cons_succ]
    refine wpAnyH_done (by kernel_rfl) ?_ _
    rotate_left
    go_simp
    generalize hA : World.alloc u21 (.cells #[.int .i64 0, .int .i64 0, .int .i64 0, .int .i64 0, .int .i64 0, .int .i64 0, .int .i64 0, .int .i64 0, .int .i64 0] 30) = wa2
    obtain ⟨p2, hp⟩ : ∃ p, p = u21.heap.size := ⟨_, rfl⟩
    have ba : Below u21.heap.size u21 wa2 := by rw [← hA]; exact Below.alloc (Below.refl _ _) (Nat.le_refl _) _
    have Zwa2 : wa2.heap[p2]? = some (.cells #[.int .i64 0, .int .i64 0, .int .i64 0, .int .i64 0, .int .i64 0, .int .i64 0, .int .i64 0, .int .i64 0, .int .i64 0] 30 (0, 0)) := by rw [← hA, hp]; exact heap_alloc_new _ _
    have Lwa2 : p2 < wa2.heap.size := by rw [← hA, hp]; exact lt_alloc _ _
    have Dwa2 : Hid (Below (w.heap.size + 2) ((w.alloc (.cells #[.int .i64 q0.u.s, .int .i64 q0.u.h, .int .i64 q0.u.y, .int .i64 q0.u.p, .int .i64 q0.t.s, .int .i64 q0.t.h, .int .i64 q0.t.y, .int .i64 q0.t.p, .int .i64 q0.a] 25)).alloc (.cells #[.int .i64 q1.k, .int .i64 q1.y] 27)) wa2) := Below.trans Du21.out (ba.mono (le2 w q0 q1 Du21.out))
    have tp2 : w.heap.size + 2 ≤ p2 := by rw [hp]; exact le2 w q0 q1 Du21.out
    have Ywa2 := Lib.hid ((ba.block p1 Mu21).trans Yu21.out)
    have Mwa2 : p1 < wa2.heap.size := Nat.lt_of_lt_of_le Mu21 ba.size
    have np : p1 ≠ p2 := by have hh := Mu21; rw [hp]; intro e; rw [e] at hh; exact Nat.lt_irrefl _ hh
    rw [← hp]
    clear hA hp ba
    (first | refine hK.out _ _ ?_ (fun hHeld => ?_) | (go_wp2_with fail; refine hK.out _ _ ?_ (fun hHeld => ?_)))
    · try dsimp only
      exact KS.out _ Dwa2.out
    clear hK K
    try simp only [Act.put, List.setIfInBounds_toArray, List.set_cons_zero, List.set_cons_succ]
    refine wpAnyH_ready (rs := [3]) (by kernel_rfl) (by simp) ?_
    refine (AllReadyH.cons (by (simp only [List.getElem?_toArray, List.getElem?_cons_succ, List.getElem?_cons_zero]); (try exact rfl)) (fun K hK => ?_) AllReadyH.nil)
    go_simp
    go_at_call 14
    refine (toRing_blw q1 _).mono ?_
    rintro e u23 ⟨rfl, b3⟩
    have Du23 : Hid (Below (w.heap.size + 2) ((w.alloc (.cells #[.int .i64 q0.u.s, .int .i64 q0.u.h, .int .i64 q0.u.y, .int .i64 q0.u.p, .int .i64 q0.t.s, .int .i64 q0.t.h, .int .i64 q0.t.y, .int .i64 q0.t.p, .int .i64 q0.a] 25)).alloc (.cells #[.int .i64 q1.k, .int .i64 q1.y] 27)) u23) := Below.trans Dwa2.out (b3.mono (le2 w q0 q1 Dwa2.out))
    have Zu23 := (b3.block p2 Lwa2).trans Zwa2
    have Lu23 : p2 < u23.heap.size := Nat.lt_of_lt_of_le Lwa2 b3.size
    have Yu23 := Lib.hid ((b3.block p1 Mwa2).trans Ywa2.out)
    have Mu23 : p1 < u23.heap.size := Nat.lt_of_lt_of_le Mwa2 b3.size
    clear b3
    (first | refine hK.out _ _ ?_ (fun hHeld => ?_) | (go_wp2_with fail; refine hK.out _ _ ?_ (fun hHeld => ?_)))
    · try dsimp only
      exact KS.out _ Du23.out
    clear hK K
    try simp only [Act.put, List.setIfInBounds_toArray, List.set_cons_zero, List.set_cons_succ]
    refine wpAnyH_ready (rs := [4]) (by kernel_rfl) (by simp) ?_
    refine (AllReadyH.cons (by (simp only [List.getElem?_toArray, List.getElem?_cons_succ, List.getElem?_cons_zero]); (try exact rfl)) (fun K hK => ?_) AllReadyH.nil)
    go_simp
    go_at_call 15
    refine (c2.out _ (HT.out _ (Below.trans (wb2 w q0 q1) (Du23.out.mono (by omega))))).mono ?_
    rintro e u24 ⟨rfl, b4⟩
    have Du24 : Hid (Below (w.heap.size + 2) ((w.alloc (.cells #[.int .i64 q0.u.s, .int .i64 q0.u.h, .int .i64 q0.u.y, .int .i64 q0.u.p, .int .i64 q0.t.s, .int .i64 q0.t.h, .int .i64 q0.t.y, .int .i64 q0.t.p, .int .i64 q0.a] 25)).alloc (.cells #[.int .i64 q1.k, .int .i64 q1.y] 27)) u24) := Below.trans Du23.out (b4.mono (le2 w q0 q1 Du23.out))
    have Zu24 := (b4.block p2 Lu23).trans Zu23
    have Lu24 : p2 < u24.heap.size := Nat.lt_of_lt_of_le Lu23 b4.size
    have Yu24 := Lib.hid ((b4.block p1 Mu23).trans Yu23.out)
    have Mu24 : p1 < u24.heap.size := Nat.lt_of_lt_of_le Mu23 b4.size
    clear b4
    (first | refine hK.out _ _ ?_ (fun hHeld => ?_) | (go_wp2_with fail; refine hK.out _ _ ?_ (fun hHeld => ?_)))
    · try dsimp only
      exact KS.out _ Du24.out
    clear hK K
    try simp only [Act.put, List.setIfInBounds_toArray, List.set_cons_zero, List.set_cons_succ]
    refine wpAnyH_take (i := 5) (v := ?_) (by (simp only [List.getElem?_toArray, List.getElem?_cons_succ, List.getElem?_cons_zero]); (try exact rfl)) (by kernel_rfl) (by kernel_rfl) (by kernel_rfl) (by intro _ _ _ h; exact h) (Or.inl ⟨by rfl, ?_⟩) (by assumption) ?_
    rotate_left
    · intro w hSw
      try dsimp only at hSw
      go_simp
      try with_reducible rfl
    try simp only [Act.put, List.setIfInBounds_toArray, List.set_cons_zero, List.set_cons_succ]
    refine wpAnyH_take (i := 6) (v := ?_) (by (simp only [List.getElem?_toArray, List.getElem?_cons_succ, List.getElem?_cons_zero]); (try exact rfl)) (by kernel_rfl) (by kernel_rfl) (by kernel_rfl) (by intro _ _ _ h; exact h) (Or.inl ⟨by rfl, ?_⟩) (by assumption) ?_
    rotate_left
    · intro w hSw
      try dsimp only at hSw
      go_simp
      try with_reducible rfl
    try simp only [Act.put, List.setIfInBounds_toArray, List.set_cons_zero, List.set_cons_succ]
    refine wpAnyH_take (i := 7) (v := ?_) (by (simp only [List.getElem?_toArray, List.getElem?_cons_succ, List.getElem?_cons_zero]); (try exact rfl)) (by kernel_rfl) (by kernel_rfl) (by kernel_rfl) (by intro _ _ _ h; exact h) (Or.inl ⟨by rfl, ?_⟩) (by assumption) ?_
    rotate_left
    · intro w hSw
      try dsimp only at hSw
      go_simp
      try with_reducible rfl
    try simp only [Act.put, List.setIfInBounds_toArray, List.set_cons_zero, List.set_cons_succ]
    refine wpAnyH_ready (rs := [9]) (by kernel_rfl) (by simp) ?_
    refine AllReadyH.cons (by (simp only [List.getElem?_toArray, List.getElem?_cons_succ, List.getElem?_cons_zero]); (try exact rfl)) (fun K hK => ?_) AllReadyH.nil
    refine step_store_M rfl _ _ rfl p2 (⟨⟨0, 0, 0, 0⟩, ⟨0, 0, 0, 0⟩, 0⟩ : Mc) r0 _ rfl rfl Zu24 ?_
    intro wF hE oE bE
    have DwF : Hid (Below (w.heap.size + 2) ((w.alloc (.cells #[.int .i64 q0.u.s, .int .i64 q0.u.h, .int .i64 q0.u.y, .int .i64 q0.u.p, .int .i64 q0.t.s, .int .i64 q0.t.h, .int .i64 q0.t.y, .int .i64 q0.t.p, .int .i64 q0.a] 25)).alloc (.cells #[.int .i64 q1.k, .int .i64 q1.y] 27)) wF) := Below.trans Du24.out (bE.mono tp2)
    have PwF := Lib.hid hE
    have QwF : p2 < wF.heap.size := Nat.lt_of_lt_of_le Lu24 bE.size
    have YwF := Lib.hid ((oE p1 np).trans Yu24.out)
    clear hE oE bE
    refine hK.out _ _ ?_ (fun hHeld => ?_)
    · try dsimp only
      exact KS.out _ DwF.out
    clear hK K
    try simp only [Act.put, List.setIfInBounds_toArray, List.set_cons_zero, List.set_cons_succ]
    refine wpAnyH_take (i := 10) (v := ?_) (by (simp only [List.getElem?_toArray, List.getElem?_cons_succ, List.getElem?_cons_zero]); (try exact rfl)) (by kernel_rfl) (by kernel_rfl) (by kernel_rfl) (by intro _ _ _ h; exact h) (Or.inl ⟨by rfl, ?_⟩) (by assumption) ?_
    rotate_left
    · intro w hSw
      try dsimp only at hSw
      go_simp
      try with_reducible rfl
    try simp only [Act.put, List.setIfInBounds_toArray, List.set_cons_zero, List.set_cons_succ]
    refine wpAnyH_done (by kernel_rfl) ?_ _
    rotate_left
    go_simp
    generalize hA : World.drew (World.alloc wE (.cells #[.int .i64 0, .int .i64 0, .int .i64 0, .int .i64 0, .int .i64 0, .int .i64 0, .int .i64 0, .int .i64 0, .int .i64 0] 30)) = wa2
    obtain ⟨p2, hp⟩ : ∃ p, p = (wE).heap.size := ⟨_, rfl⟩
    have ba : Below (World.drew wE).heap.size (World.drew wE) wa2 := by rw [← hA]; exact (Below.alloc (Below.refl _ _) (Nat.le_refl _) _ : Below _ (World.drew wE) (World.alloc (World.drew wE) _))
    have Zwa2 : wa2.heap[p2]? = some (.cells #[.int .i64 0, .int .i64 0, .int .i64 0, .int .i64 0, .int .i64 0, .int .i64 0, .int .i64 0, .int .i64 0, .int .i64 0] 30 (0, 0)) := by rw [← hA, hp]; exact heap_alloc_new (wE) _
    have Lwa2 : p2 < wa2.heap.size := by rw [← hA, hp]; exact lt_alloc (wE) _
    have Dwa2 : Hid (Below (w.heap.size + 2) ((w.alloc (.cells #[.int .i64 q0.u.s, .int .i64 q0.u.h, .int .i64 q0.u.y, .int .i64 q0.u.p, .int .i64 q0.t.s, .int .i64 q0.t.h, .int .i64 q0.t.y, .int .i64 q0.t.p, .int .i64 q0.a] 25)).alloc (.cells #[.int .i64 q1.k, .int .i64 q1.y] 27)) wa2) := Below.trans D0.out (ba.mono (le2 w q0 q1 D0.out))
    have tp2 : w.heap.size + 2 ≤ p2 := by rw [hp]; exact (le2 w q0 q1 D0.out : w.heap.size + 2 ≤ (World.drew wE).heap.size)
    have Ywa2 := Lib.hid ((ba.block p1 M0).trans Y0.out)
    have Mwa2 : p1 < wa2.heap.size := Nat.lt_of_lt_of_le M0 ba.size
    have np : p1 ≠ p2 := by have hh := M0; rw [hp]; intro e; rw [e] at hh; exact Nat.lt_irrefl _ hh
    rw [← hp]
    clear hA hp ba
    (first | refine hK.out _ _ ?_ (fun hHeld => ?_) | (go_wp2_with fail; refine hK.out _ _ ?_ (fun hHeld => ?_)))
    · try dsimp only
      exact KS.out _ Dwa2.out
    clear hK K
    try simp only [Act.put, List.setIfInBounds_toArray, List.set_cons_zero, List.set_cons_succ]
    refine wpAnyH_ready (rs := [1]) (by kernel_rfl) (by simp) ?_
    refine (AllReadyH.cons (by (simp only [List.getElem?_toArray, List.getElem?_cons_succ, List.getElem?_cons_zero]); (try exact rfl)) (fun K hK => ?_) AllReadyH.nil)
    go_simp
    go_at_call 13
    refine (toMachine_blw q0 _).mono ?_
    rintro e u21 ⟨rfl, b1⟩
    have Du21 : Hid (Below (w.heap.size + 2) ((w.alloc (.cells #[.int .i64 q0.u.s, .int .i64 q0.u.h, .int .i64 q0.u.y, .int .i64 q0.u.p, .int .i64 q0.t.s, .int .i64 q0.t.h, .int .i64 q0.t.y, .int .i64 q0.t.p, .int .i64 q0.a] 25)).alloc (.cells #[.int .i64 q1.k, .int .i64 q1.y] 27)) u21) := Below.trans Dwa2.out (b1.mono (le2 w q0 q1 Dwa2.out))
    have Zu21 := (b1.block p2 Lwa2).trans Zwa2
    have Lu21 : p2 < u21.heap.size := Nat.lt_of_lt_of_le Lwa2 b1.size
    have Yu21 := Lib.hid ((b1.block p1 Mwa2).trans Ywa2.out)
    have Mu21 : p1 < u21.heap.size := Nat.lt_of_lt_of_le Mwa2 b1.size
    clear b1
    (first | refine hK.out _ _ ?_ (fun hHeld => ?_) | (go_wp2_with fail; refine hK.out _ _ ?_ (fun hHeld => ?_)))
    · try dsimp only
      exact KS.out _ Du21.out
    clear hK K
    try simp only [Act.put, List.setIfInBounds_toArray, List.set_cons_zero, List.set_cons_succ]
    refine wpAnyH_ready (rs := [3]) (by kernel_rfl) (by simp) ?_
    refine (AllReadyH.cons (by (simp only [List.getElem?_toArray, List.getElem?_cons_succ, List.getElem?_cons_zero]); (try exact rfl)) (fun K hK => ?_) AllReadyH.nil)
    go_simp
    go_at_call 14
    refine (toRing_blw q1 _).mono ?_
    rintro e u23 ⟨rfl, b3⟩
    have Du23 : Hid (Below (w.heap.size + 2) ((w.alloc (.cells #[.int .i64 q0.u.s, .int .i64 q0.u.h, .int .i64 q0.u.y, .int .i64 q0.u.p, .int .i64 q0.t.s, .int .i64 q0.t.h, .int .i64 q0.t.y, .int .i64 q0.t.p, .int .i64 q0.a] 25)).alloc (.cells #[.int .i64 q1.k, .int .i64 q1.y] 27)) u23) := Below.trans Du21.out (b3.mono (le2 w q0 q1 Du21.out))
    have Zu23 := (b3.block p2 Lu21).trans Zu21
    have Lu23 : p2 < u23.heap.size := Nat.lt_of_lt_of_le Lu21 b3.size
    have Yu23 := Lib.hid ((b3.block p1 Mu21).trans Yu21.out)
    have Mu23 : p1 < u23.heap.size := Nat.lt_of_lt_of_le Mu21 b3.size
    clear b3
    (first | refine hK.out _ _ ?_ (fun hHeld => ?_) | (go_wp2_with fail; refine hK.out _ _ ?_ (fun hHeld => ?_)))
    · try dsimp only
      exact KS.out _ Du23.out
    clear hK K
    try simp only [Act.put, List.setIfInBounds_toArray, List.set_cons_zero, List.set_cons_succ]
    refine wpAnyH_ready (rs := [4]) (by kernel_rfl) (by simp) ?_
    refine (AllReadyH.cons (by (simp only [List.getElem?_toArray, List.getElem?_cons_succ, List.getElem?_cons_zero]); (try exact rfl)) (fun K hK => ?_) AllReadyH.nil)
    go_simp
    go_at_call 15
    refine (c2.out _ (HT.out _ (Below.trans (wb2 w q0 q1) (Du23.out.mono (by omega))))).mono ?_
    rintro e u24 ⟨rfl, b4⟩
    have Du24 : Hid (Below (w.heap.size + 2) ((w.alloc (.cells #[.int .i64 q0.u.s, .int .i64 q0.u.h, .int .i64 q0.u.y, .int .i64 q0.u.p, .int .i64 q0.t.s, .int .i64 q0.t.h, .int .i64 q0.t.y, .int .i64 q0.t.p, .int .i64 q0.a] 25)).alloc (.cells #[.int .i64 q1.k, .int .i64 q1.y] 27)) u24) := Below.trans Du23.out (b4.mono (le2 w q0 q1 Du23.out))
    have Zu24 := (b4.block p2 Lu23).trans Zu23
    have Lu24 : p2 < u24.heap.size := Nat.lt_of_lt_of_le Lu23 b4.size
    have Yu24 := Lib.hid ((b4.block p1 Mu23).trans Yu23.out)
    have Mu24 : p1 < u24.heap.size := Nat.lt_of_lt_of_le Mu23 b4.size
    clear b4
    (first | refine hK.out _ _ ?_ (fun hHeld => ?_) | (go_wp2_with fail; refine hK.out _ _ ?_ (fun hHeld => ?_)))
    · try dsimp only
      exact KS.out _ Du24.out
    clear hK K
    try simp only [Act.put, List.setIfInBounds_toArray, List.set_cons_zero, List.set_cons_succ]
    refine wpAnyH_take (i := 5) (v := ?_) (by (simp only [List.getElem?_toArray, List.getElem?_cons_succ, List.getElem?_cons_zero]); (try exact rfl)) (by kernel_rfl) (by kernel_rfl) (by kernel_rfl) (by intro _ _ _ h; exact h) (Or.inl ⟨by rfl, ?_⟩) (by assumption) ?_
    rotate_left
    · intro w hSw
      try dsimp only at hSw
      go_simp
      try with_reducible rfl
    try simp only [Act.put, List.setIfInBounds_toArray, List.set_cons_zero, List.set_cons_succ]
    refine wpAnyH_take (i := 6) (v := ?_) (by (simp only [List.getElem?_toArray, List.getElem?_cons_succ, List.getElem?_cons_zero]); (try exact rfl)) (by kernel_rfl) (by kernel_rfl) (by kernel_rfl) (by intro _ _ _ h; exact h) (Or.inl ⟨by rfl, ?_⟩) (by assumption) ?_
    rotate_left
    · intro w hSw
      try dsimp only at hSw
      go_simp
      try with_reducible rfl
    try simp only [Act.put, List.setIfInBounds_toArray, List.set_cons_zero, List.set_cons_succ]
    refine wpAnyH_take (i := 7) (v := ?_) (by (simp only [List.getElem?_toArray, List.getElem?_cons_succ, List.getElem?_cons_zero]); (try exact rfl)) (by kernel_rfl) (by kernel_rfl) (by kernel_rfl) (by intro _ _ _ h; exact h) (Or.inl ⟨by rfl, ?_⟩) (by assumption) ?_
    rotate_left
    · intro w hSw
      try dsimp only at hSw
      go_simp
      try with_reducible rfl
    try simp only [Act.put, List.setIfInBounds_toArray, List.set_cons_zero, List.set_cons_succ]
    refine wpAnyH_ready (rs := [9]) (by kernel_rfl) (by simp) ?_
    refine AllReadyH.cons (by (simp only [List.getElem?_toArray, List.getElem?_cons_succ, List.getElem?_cons_zero]); (try exact rfl)) (fun K hK => ?_) AllReadyH.nil
    refine step_store_M rfl _ _ rfl p2 (⟨⟨0, 0, 0, 0⟩, ⟨0, 0, 0, 0⟩, 0⟩ : Mc) r0 _ rfl rfl Zu24 ?_
    intro wF hE oE bE
    have DwF : Hid (Below (w.heap.size + 2) ((w.alloc (.cells #[.int .i64 q0.u.s, .int .i64 q0.u.h, .int .i64 q0.u.y, .int .i64 q0.u.p, .int .i64 q0.t.s, .int .i64 q0.t.h, .int .i64 q0.t.y, .int .i64 q0.t.p, .int .i64 q0.a] 25)).alloc (.cells #[.int .i64 q1.k, .int .i64 q1.y] 27)) wF) := Below.trans Du24.out (bE.mono tp2)
    have PwF := Lib.hid hE
    have QwF : p2 < wF.heap.size := Nat.lt_of_lt_of_le Lu24 bE.size
    have YwF := Lib.hid ((oE p1 np).trans Yu24.out)
    clear hE oE bE
    refine hK.out _ _ ?_ (fun hHeld => ?_)
    · try dsimp only
      exact KS.out _ DwF.out
    clear hK K
    try simp only [Act.put, List.setIfInBounds_toArray, List.set_cons_zero, List.set_cons_succ]
    refine wpAnyH_take (i := 10) (v := ?_) (by (simp only [List.getElem?_toArray, List.getElem?_cons_succ, List.getElem?_cons_zero]); (try exact rfl)) (by kernel_rfl) (by kernel_rfl) (by kernel_rfl) (by intro _ _ _ h; exact h) (Or.inl ⟨by rfl, ?_⟩) (by assumption) ?_
    rotate_left
    · intro w hSw
      try dsimp only at hSw
      go_simp
      try with_reducible rfl
    try simp only [Act.put, List.setIfInBounds_toArray, List.set_cons_zero, List.set_cons_succ]
    refine wpAnyH_done (by kernel_rfl) ?_ _
    rotate_left
  all_goals
    obtain ⟨⟨x0, x1, x2, x3, x4, x5, x6, x7, x8⟩, -, -⟩ := boxMc_at (q := r0) PwF.out
    obtain ⟨⟨y0, y1, y2, y3, y4, y5, y6, y7, y8⟩, -, -⟩ := boxMc_at (q := r0) YwF.out
    go_wp2_with fail
    refine (eqMachine_same r0 _).mono ?_
    rintro e wG ⟨rfl, bG⟩
    have BG : Hid (Below w.heap.size w wG) := Below.trans (Below.trans (wb2 w q0 q1) (DwF.out.mono (by omega))) (bG.mono (by have := le2 w q0 q1 DwF.out; omega))
    clear bG x0 x1 x2 x3 x4 x5 x6 x7 x8 y0 y1 y2 y3 y4 y5 y6 y7 y8
    go_wp2
    go_ret
    exact ⟨rfl, BG.out⟩

set_option maxRecDepth 100000 in
theorem walkFnExactBuildRing (q0 : Mc) (wq0 : WfM q0) (q1 : Rg) (wq1 : (Lit.int .i64 q1.k).wf = true ∧ (Lit.int .i64 q1.y).wf = true) (w : World) (hT : TKeys w) :
    Calls Tryd.prog 3 #[(.agg #[.int .i64 q0.u.s, .int .i64 q0.u.h, .int .i64 q0.u.y, .int .i64 q0.u.p, .int .i64 q0.t.s, .int .i64 q0.t.h, .int .i64 q0.t.y, .int .i64 q0.t.p, .int .i64 q0.a]), (.agg #[.int .i64 q1.k, .int .i64 q1.y])] w fun e w' => e = .returned (.bool true) ∧ Below w.heap.size w w' := by
  obtain ⟨r0, r1, c1, c2⟩ := exBuildRing q0 q1
  exact buildRing_law q0 q1 w TKeys (fun w' b => TKeys.later hT b)  r0 r1  c1 c2
end Go.Proofs.YtjapgbeecabkfabDoor
