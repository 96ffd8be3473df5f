/- The law of NextCourse. -/
import Derived.Test.YtkdecpnbbpmooaaSteerX
import Derived.Test.YtkdecpnbbpmooaaStoreCo
import Derived.Test.YtkdecpnbbpmooaaExKit
import Derived.Deep.RegionHeld3
import Derived.Deep.DeepCutAuto
namespace Go.Proofs.Ytkdecpnbbpmooaa
open Go.ChangeShapes Go.WideShapes Go.ChangeAt Go.RowKit
set_option linter.unusedVariables false
set_option linter.unusedSimpArgs false

theorem box_lt {w : World} {p : Nat} {o : Obj} (h : w.heap[p]? = some o) : p < w.heap.size := (Array.getElem?_eq_some_iff.1 h).1

theorem wbN_NextCourse (w : World) (q0 : Lm) (q1 : Co) : Below w.heap.size w ((w.alloc (.cells #[.int .i64 q0.m, .int .i64 q0.c] 23)).alloc (.cells #[.int .i64 q1.o, .int .i64 q1.h, .int .i64 q1.t] 29)) := by go_grown
theorem leN_NextCourse (w : World) (q0 : Lm) (q1 : Co) {B : Nat} {x : World} (h : Below B ((w.alloc (.cells #[.int .i64 q0.m, .int .i64 q0.c] 23)).alloc (.cells #[.int .i64 q1.o, .int .i64 q1.h, .int .i64 q1.t] 29)) x) : w.heap.size + 2 ≤ x.heap.size := by
  have := h.size
  simp only [World.size_alloc] at this
  omega

set_option maxRecDepth 100000 in
set_option maxHeartbeats 8000000 in
theorem nextCourse_law (q0 : Lm) (q1 : Co) (a2 : Int) (w : World) (T : World → Prop) (hT : ∀ w', Below w.heap.size w w' → T w') (r0 : Co) (r1 : Bool) 
    (c1 : Hid (∀ (w : World), T w → Calls Try.prog 18 #[(.agg #[.int .i64 q0.m, .int .i64 q0.c]), (.agg #[.int .i64 q1.o, .int .i64 q1.h, .int .i64 q1.t]), .int .i64 a2] w fun e w' => e = .returned (.tuple #[(.agg #[.int .i64 r0.o, .int .i64 r0.h, .int .i64 r0.t]), .bool r1]) ∧ Below w.heap.size w w'))
    (c2 : Hid (∀ (w : World), T w → Calls Try.prog 19 #[(.agg #[.int .i64 q0.m, .int .i64 q0.c]), (.agg #[.int .i64 q1.o, .int .i64 q1.h, .int .i64 q1.t]), .int .i64 a2] w fun e w' => e = .returned (.tuple #[(.agg #[.int .i64 r0.o, .int .i64 r0.h, .int .i64 r0.t]), .bool r1]) ∧ Below w.heap.size w w')) :
    Calls Try.prog 5 #[(.agg #[.int .i64 q0.m, .int .i64 q0.c]), (.agg #[.int .i64 q1.o, .int .i64 q1.h, .int .i64 q1.t]), .int .i64 a2] w fun e w' => e = .returned (.bool true) ∧ Below w.heap.size w w' := by
  have HT := Lib.hid hT
  clear hT
  have KS : Hid (∀ w', Below (w.heap.size + 2) ((w.alloc (.cells #[.int .i64 q0.m, .int .i64 q0.c] 23)).alloc (.cells #[.int .i64 q1.o, .int .i64 q1.h, .int .i64 q1.t] 29)) w' → (w'.cell? ⟨w.heap.size, 0, none⟩ = some (.int .i64 q0.m) ∧ w'.cell? ⟨w.heap.size, 1, none⟩ = some (.int .i64 q0.c) ∧ w'.cell? ⟨w.heap.size + 1, 0, none⟩ = some (.int .i64 q1.o) ∧ w'.cell? ⟨w.heap.size + 1, 1, none⟩ = some (.int .i64 q1.h) ∧ w'.cell? ⟨w.heap.size + 1, 2, none⟩ = some (.int .i64 q1.t))) := by
    intro w' b
    obtain ⟨⟨k0_0, k0_1⟩, -⟩ := boxLm_at ((b.block (w.heap.size) (by omega)).trans (box2_0 w _ _))
    obtain ⟨⟨k1_0, k1_1, k1_2⟩, -⟩ := boxCo_at ((b.block (w.heap.size + 1) (by omega)).trans (box2_1 w _ _))
    exact ⟨k0_0, k0_1, k1_0, k1_1, k1_2⟩
  have D0 : Hid (Below (w.heap.size + 2) ((w.alloc (.cells #[.int .i64 q0.m, .int .i64 q0.c] 23)).alloc (.cells #[.int .i64 q1.o, .int .i64 q1.h, .int .i64 q1.t] 29)) ((w.alloc (.cells #[.int .i64 q0.m, .int .i64 q0.c] 23)).alloc (.cells #[.int .i64 q1.o, .int .i64 q1.h, .int .i64 q1.t] 29)).drew) := (Below.refl _ _).drew
  go_enter Try.func5, Try.ntmps5
  go_upto_region 1 with (fail)
  go_cut [7, 8] (fun s7 s8 wx => ∃ p1_0 : Nat, s7 = .pointer (some ⟨p1_0, 0, none⟩) ∧ s8 = .bool r1 ∧ Hid (Below (w.heap.size + 2) ((w.alloc (.cells #[.int .i64 q0.m, .int .i64 q0.c] 23)).alloc (.cells #[.int .i64 q1.o, .int .i64 q1.h, .int .i64 q1.t] 29)) wx) ∧ Hid (wx.heap[p1_0]? = some (.cells #[.int .i64 r0.o, .int .i64 r0.h, .int .i64 r0.t] 31 (0, 0))) ∧ w.heap.size + 2 ≤ p1_0)
  case first =>
    go_wp2_with fail
    refine wp_region_held_drew (S := fun w' => (w'.cell? ⟨w.heap.size, 0, none⟩ = some (.int .i64 q0.m) ∧ w'.cell? ⟨w.heap.size, 1, none⟩ = some (.int .i64 q0.c) ∧ w'.cell? ⟨w.heap.size + 1, 0, none⟩ = some (.int .i64 q1.o) ∧ w'.cell? ⟨w.heap.size + 1, 1, none⟩ = some (.int .i64 q1.h) ∧ w'.cell? ⟨w.heap.size + 1, 2, none⟩ = some (.int .i64 q1.t))) (by kernel_rfl) (KS.out _ D0.out) (fun hHeld => ?_)
    refine wpAnyH_take (i := 0) (v := ?_) (by (simp only [List.getElem?_toArray, List.getElem?_cons_succ, List.getElem?_cons_zero]); (try exact rfl)) (by kernel_rfl) (by kernel_rfl) (by kernel_rfl) (by intro _ _ _ h; exact h) (Or.inl ⟨by rfl, ?_⟩) (by assumption) ?_
    rotate_left
    · intro w hSw
      try dsimp only at hSw
      go_simp
      try with_reducible rfl
    try simp only [Act.put, List.setIfInBounds_toArray, List.set_cons_zero, List.set_cons_succ]
    refine wpAnyH_take (i := 2) (v := ?_) (by (simp only [List.getElem?_toArray, List.getElem?_cons_succ, List.getElem?_cons_zero]); (try exact rfl)) (by kernel_rfl) (by kernel_rfl) (by kernel_rfl) (by intro _ _ _ h; exact h) (Or.inl ⟨by rfl, ?_⟩) (by assumption) ?_
    rotate_left
    · intro w hSw
      try dsimp only at hSw
      go_simp
      try with_reducible rfl
    try simp only [Act.put, List.setIfInBounds_toArray, List.set_cons_zero, List.set_cons_succ]
    refine wpAnyH_take (i := 4) (v := ?_) (by (simp only [List.getElem?_toArray, List.getElem?_cons_succ, List.getElem?_cons_zero]); (try exact rfl)) (by kernel_rfl) (by kernel_rfl) (by kernel_rfl) (by intro _ _ _ h; exact h) (Or.inl ⟨by rfl, ?_⟩) (by assumption) ?_
    rotate_left
    · intro w hSw
      try dsimp only at hSw
      go_simp
      try with_reducible rfl
    try simp only [Act.put, List.setIfInBounds_toArray, List.set_cons_zero, List.set_cons_succ]
    refine wpAnyH_ready (rs := [1, 9]) (by kernel_rfl) (by simp) ?_
    refine (AllReadyH.cons (by (simp only [List.getElem?_toArray, List.getElem?_cons_succ, List.getElem?_cons_zero]); (try exact rfl)) (fun K hK => ?_) (AllReadyH.cons (by (simp only [List.getElem?_toArray, List.getElem?_cons_succ, List.getElem?_cons_zero]); (try exact rfl)) (fun K hK => ?_) AllReadyH.nil))
    go_simp
    go_at_call 13
    refine (toLimits_blw q0 _).mono ?_
    rintro e u1_1 ⟨rfl, bb⟩
    have Du1_1 : Hid (Below (w.heap.size + 2) ((w.alloc (.cells #[.int .i64 q0.m, .int .i64 q0.c] 23)).alloc (.cells #[.int .i64 q1.o, .int .i64 q1.h, .int .i64 q1.t] 29)) u1_1) := Below.trans D0.out (bb.mono (leN_NextCourse w q0 q1 D0.out))
    clear bb
    (first | refine hK.out _ _ ?_ (fun hHeld => ?_) | (go_wp2_with fail; refine hK.out _ _ ?_ (fun hHeld => ?_)))
    · try dsimp only
      exact KS.out _ Du1_1.out
    clear hK K
    try simp only [Act.put, List.setIfInBounds_toArray, List.set_cons_zero, List.set_cons_succ]
    refine wpAnyH_ready (rs := [3, 9]) (by kernel_rfl) (by simp) ?_
    refine (AllReadyH.cons (by (simp only [List.getElem?_toArray, List.getElem?_cons_succ, List.getElem?_cons_zero]); (try exact rfl)) (fun K hK => ?_) (AllReadyH.cons (by (simp only [List.getElem?_toArray, List.getElem?_cons_succ, List.getElem?_cons_zero]); (try exact rfl)) (fun K hK => ?_) AllReadyH.nil))
    go_simp
    go_at_call 16
    refine (toCourse_blw q1 _).mono ?_
    rintro e u1_2 ⟨rfl, bb⟩
    have Du1_2 : Hid (Below (w.heap.size + 2) ((w.alloc (.cells #[.int .i64 q0.m, .int .i64 q0.c] 23)).alloc (.cells #[.int .i64 q1.o, .int .i64 q1.h, .int .i64 q1.t] 29)) u1_2) := Below.trans Du1_1.out (bb.mono (leN_NextCourse w q0 q1 Du1_1.out))
    clear bb
    (first | refine hK.out _ _ ?_ (fun hHeld => ?_) | (go_wp2_with fail; refine hK.out _ _ ?_ (fun hHeld => ?_)))
    · try dsimp only
      exact KS.out _ Du1_2.out
    clear hK K
    try simp only [Act.put, List.setIfInBounds_toArray, List.set_cons_zero, List.set_cons_succ]
    refine wpAnyH_ready (rs := [5, 9]) (by kernel_rfl) (by simp) ?_
    refine (AllReadyH.cons (by (simp only [List.getElem?_toArray, List.getElem?_cons_succ, List.getElem?_cons_zero]); (try exact rfl)) (fun K hK => ?_) (AllReadyH.cons (by (simp only [List.getElem?_toArray, List.getElem?_cons_succ, List.getElem?_cons_zero]); (try exact rfl)) (fun K hK => ?_) AllReadyH.nil))
    go_simp
    go_at_call 18
    refine (c1.out _ (HT.out _ (Below.trans (wbN_NextCourse w q0 q1) (Du1_2.out.mono (by omega))))).mono ?_
    rintro e u1_3 ⟨rfl, bb⟩
    have Du1_3 : Hid (Below (w.heap.size + 2) ((w.alloc (.cells #[.int .i64 q0.m, .int .i64 q0.c] 23)).alloc (.cells #[.int .i64 q1.o, .int .i64 q1.h, .int .i64 q1.t] 29)) u1_3) := Below.trans Du1_2.out (bb.mono (leN_NextCourse w q0 q1 Du1_2.out))
    clear bb
    (first | refine hK.out _ _ ?_ (fun hHeld => ?_) | (go_wp2_with fail; refine hK.out _ _ ?_ (fun hHeld => ?_)))
    · try dsimp only
      exact KS.out _ Du1_3.out
    clear hK K
    try simp only [Act.put, List.setIfInBounds_toArray, List.set_cons_zero, List.set_cons_succ]
    refine wpAnyH_take (i := 6) (v := ?_) (by (simp only [List.getElem?_toArray, List.getElem?_cons_succ, List.getElem?_cons_zero]); (try exact rfl)) (by kernel_rfl) (by kernel_rfl) (by kernel_rfl) (by intro _ _ _ h; exact h) (Or.inl ⟨by rfl, ?_⟩) (by assumption) ?_
    rotate_left
    · intro w hSw
      try dsimp only at hSw
      go_simp
      try with_reducible rfl
    try simp only [Act.put, List.setIfInBounds_toArray, List.set_cons_zero, List.set_cons_succ]
    refine wpAnyH_take (i := 7) (v := ?_) (by (simp only [List.getElem?_toArray, List.getElem?_cons_succ, List.getElem?_cons_zero]); (try exact rfl)) (by kernel_rfl) (by kernel_rfl) (by kernel_rfl) (by intro _ _ _ h; exact h) (Or.inl ⟨by rfl, ?_⟩) (by assumption) ?_
    rotate_left
    · intro w hSw
      try dsimp only at hSw
      go_simp
      try with_reducible rfl
    try simp only [Act.put, List.setIfInBounds_toArray, List.set_cons_zero, List.set_cons_succ]
    refine wpAnyH_take (i := 8) (v := ?_) (by (simp only [List.getElem?_toArray, List.getElem?_cons_succ, List.getElem?_cons_zero]); (try exact rfl)) (by kernel_rfl) (by kernel_rfl) (by kernel_rfl) (by intro _ _ _ h; exact h) (Or.inl ⟨by rfl, ?_⟩) (by assumption) ?_
    rotate_left
    · intro w hSw
      try dsimp only at hSw
      go_simp
      try with_reducible rfl
    try simp only [Act.put, List.setIfInBounds_toArray, List.set_cons_zero, List.set_cons_succ]
    refine wpAnyH_ready (rs := [9]) (by kernel_rfl) (by simp) ?_
    refine (AllReadyH.cons (by (simp only [List.getElem?_toArray, List.getElem?_cons_succ, List.getElem?_cons_zero]); (try exact rfl)) (fun K hK => ?_) AllReadyH.nil)
    go_simp
    generalize hA : World.alloc u1_3 (.cells #[.int .i64 0, .int .i64 0, .int .i64 0] 31) = a1_4
    obtain ⟨p1_0, hp⟩ : ∃ p, p = u1_3.heap.size := ⟨_, rfl⟩
    have ba : Below u1_3.heap.size u1_3 a1_4 := by rw [← hA]; exact Below.alloc (Below.refl _ _) (Nat.le_refl _) _
    have Z1_0a1_4 := Lib.hid (show a1_4.heap[p1_0]? = some (.cells #[.int .i64 0, .int .i64 0, .int .i64 0] 31 (0, 0)) from by rw [← hA, hp]; exact heap_alloc_new _ _)
    have tp1_0 : w.heap.size + 2 ≤ p1_0 := by rw [hp]; exact leN_NextCourse w q0 q1 Du1_3.out
    have Da1_4 : Hid (Below (w.heap.size + 2) ((w.alloc (.cells #[.int .i64 q0.m, .int .i64 q0.c] 23)).alloc (.cells #[.int .i64 q1.o, .int .i64 q1.h, .int .i64 q1.t] 29)) a1_4) := Below.trans Du1_3.out (ba.mono (leN_NextCourse w q0 q1 Du1_3.out))
    rw [← hp]
    clear hA hp ba
    (first | refine hK.out _ _ ?_ (fun hHeld => ?_) | (go_wp2_with fail; refine hK.out _ _ ?_ (fun hHeld => ?_)))
    · try dsimp only
      exact KS.out _ Da1_4.out
    clear hK K
    try simp only [Act.put, List.setIfInBounds_toArray, List.set_cons_zero, List.set_cons_succ]
    refine wpAnyH_ready (rs := [10]) (by kernel_rfl) (by simp) ?_
    refine AllReadyH.cons (by (simp only [List.getElem?_toArray, List.getElem?_cons_succ, List.getElem?_cons_zero]); (try exact rfl)) (fun K hK => ?_) AllReadyH.nil
    refine step_store_Co rfl _ _ rfl p1_0 (⟨0, 0, 0⟩ : Co) r0 _ rfl rfl Z1_0a1_4.out ?_
    intro e1_5 hE oE bE
    have De1_5 : Hid (Below (w.heap.size + 2) ((w.alloc (.cells #[.int .i64 q0.m, .int .i64 q0.c] 23)).alloc (.cells #[.int .i64 q1.o, .int .i64 q1.h, .int .i64 q1.t] 29)) e1_5) := Below.trans Da1_4.out (bE.mono tp1_0)
    have Z1_0e1_5 := Lib.hid hE
    clear hE oE bE
    refine hK.out _ _ ?_ (fun hHeld => ?_)
    · try dsimp only
      exact KS.out _ De1_5.out
    clear hK K
    try simp only [Act.put, List.setIfInBounds_toArray, List.set_cons_zero, List.set_cons_succ]
    refine wpAnyH_take (i := 11) (v := ?_) (by (simp only [List.getElem?_toArray, List.getElem?_cons_succ, List.getElem?_cons_zero]); (try exact rfl)) (by kernel_rfl) (by kernel_rfl) (by kernel_rfl) (by intro _ _ _ h; exact h) (Or.inl ⟨by rfl, ?_⟩) (by assumption) ?_
    rotate_left
    · intro w hSw
      try dsimp only at hSw
      go_simp
      try with_reducible rfl
    try simp only [Act.put, List.setIfInBounds_toArray, List.set_cons_zero, List.set_cons_succ]
    refine wpAnyH_done (by kernel_rfl) ?_ _
    go_wp2_with fail
    go_meet
    exact ⟨p1_0, rfl, rfl, De1_5, Z1_0e1_5, tp1_0⟩
    go_simp
    generalize hA : World.alloc u1_2 (.cells #[.int .i64 0, .int .i64 0, .int .i64 0] 31) = a1_6
    obtain ⟨p1_0, hp⟩ : ∃ p, p = u1_2.heap.size := ⟨_, rfl⟩
    have ba : Below u1_2.heap.size u1_2 a1_6 := by rw [← hA]; exact Below.alloc (Below.refl _ _) (Nat.le_refl _) _
    have Z1_0a1_6 := Lib.hid (show a1_6.heap[p1_0]? = some (.cells #[.int .i64 0, .int .i64 0, .int .i64 0] 31 (0, 0)) from by rw [← hA, hp]; exact heap_alloc_new _ _)
    have tp1_0 : w.heap.size + 2 ≤ p1_0 := by rw [hp]; exact leN_NextCourse w q0 q1 Du1_2.out
    have Da1_6 : Hid (Below (w.heap.size + 2) ((w.alloc (.cells #[.int .i64 q0.m, .int .i64 q0.c] 23)).alloc (.cells #[.int .i64 q1.o, .int .i64 q1.h, .int .i64 q1.t] 29)) a1_6) := Below.trans Du1_2.out (ba.mono (leN_NextCourse w q0 q1 Du1_2.out))
    rw [← hp]
    clear hA hp ba
    (first | refine hK.out _ _ ?_ (fun hHeld => ?_) | (go_wp2_with fail; refine hK.out _ _ ?_ (fun hHeld => ?_)))
    · try dsimp only
      exact KS.out _ Da1_6.out
    clear hK K
    try simp only [Act.put, List.setIfInBounds_toArray, List.set_cons_zero, List.set_cons_succ]
    refine wpAnyH_ready (rs := [5]) (by kernel_rfl) (by simp) ?_
    refine (AllReadyH.cons (by (simp only [List.getElem?_toArray, List.getElem?_cons_succ, List.getElem?_cons_zero]); (try exact rfl)) (fun K hK => ?_) AllReadyH.nil)
    go_simp
    go_at_call 18
    refine (c1.out _ (HT.out _ (Below.trans (wbN_NextCourse w q0 q1) (Da1_6.out.mono (by omega))))).mono ?_
    rintro e u1_7 ⟨rfl, bb⟩
    have Du1_7 : Hid (Below (w.heap.size + 2) ((w.alloc (.cells #[.int .i64 q0.m, .int .i64 q0.c] 23)).alloc (.cells #[.int .i64 q1.o, .int .i64 q1.h, .int .i64 q1.t] 29)) u1_7) := Below.trans Da1_6.out (bb.mono (leN_NextCourse w q0 q1 Da1_6.out))
    have Z1_0u1_7 := Lib.hid ((bb.block p1_0 (box_lt Z1_0a1_6.out)).trans Z1_0a1_6.out)
    clear bb
    (first | refine hK.out _ _ ?_ (fun hHeld => ?_) | (go_wp2_with fail; refine hK.out _ _ ?_ (fun hHeld => ?_)))
    · try dsimp only
      exact KS.out _ Du1_7.out
    clear hK K
    try simp only [Act.put, List.setIfInBounds_toArray, List.set_cons_zero, List.set_cons_succ]
    refine wpAnyH_take (i := 6) (v := ?_) (by (simp only [List.getElem?_toArray, List.getElem?_cons_succ, List.getElem?_cons_zero]); (try exact rfl)) (by kernel_rfl) (by kernel_rfl) (by kernel_rfl) (by intro _ _ _ h; exact h) (Or.inl ⟨by rfl, ?_⟩) (by assumption) ?_
    rotate_left
    · intro w hSw
      try dsimp only at hSw
      go_simp
      try with_reducible rfl
    try simp only [Act.put, List.setIfInBounds_toArray, List.set_cons_zero, List.set_cons_succ]
    refine wpAnyH_take (i := 7) (v := ?_) (by (simp only [List.getElem?_toArray, List.getElem?_cons_succ, List.getElem?_cons_zero]); (try exact rfl)) (by kernel_rfl) (by kernel_rfl) (by kernel_rfl) (by intro _ _ _ h; exact h) (Or.inl ⟨by rfl, ?_⟩) (by assumption) ?_
    rotate_left
    · intro w hSw
      try dsimp only at hSw
      go_simp
      try with_reducible rfl
    try simp only [Act.put, List.setIfInBounds_toArray, List.set_cons_zero, List.set_cons_succ]
    refine wpAnyH_take (i := 8) (v := ?_) (by (simp only [List.getElem?_toArray, List.getElem?_cons_succ, List.getElem?_cons_zero]); (try exact rfl)) (by kernel_rfl) (by kernel_rfl) (by kernel_rfl) (by intro _ _ _ h; exact h) (Or.inl ⟨by rfl, ?_⟩) (by assumption) ?_
    rotate_left
    · intro w hSw
      try dsimp only at hSw
      go_simp
      try with_reducible rfl
    try simp only [Act.put, List.setIfInBounds_toArray, List.set_cons_zero, List.set_cons_succ]
    refine wpAnyH_ready (rs := [10]) (by kernel_rfl) (by simp) ?_
    refine AllReadyH.cons (by (simp only [List.getElem?_toArray, List.getElem?_cons_succ, List.getElem?_cons_zero]); (try exact rfl)) (fun K hK => ?_) AllReadyH.nil
    refine step_store_Co rfl _ _ rfl p1_0 (⟨0, 0, 0⟩ : Co) r0 _ rfl rfl Z1_0u1_7.out ?_
    intro e1_8 hE oE bE
    have De1_8 : Hid (Below (w.heap.size + 2) ((w.alloc (.cells #[.int .i64 q0.m, .int .i64 q0.c] 23)).alloc (.cells #[.int .i64 q1.o, .int .i64 q1.h, .int .i64 q1.t] 29)) e1_8) := Below.trans Du1_7.out (bE.mono tp1_0)
    have Z1_0e1_8 := Lib.hid hE
    clear hE oE bE
    refine hK.out _ _ ?_ (fun hHeld => ?_)
    · try dsimp only
      exact KS.out _ De1_8.out
    clear hK K
    try simp only [Act.put, List.setIfInBounds_toArray, List.set_cons_zero, List.set_cons_succ]
    refine wpAnyH_take (i := 11) (v := ?_) (by (simp only [List.getElem?_toArray, List.getElem?_cons_succ, List.getElem?_cons_zero]); (try exact rfl)) (by kernel_rfl) (by kernel_rfl) (by kernel_rfl) (by intro _ _ _ h; exact h) (Or.inl ⟨by rfl, ?_⟩) (by assumption) ?_
    rotate_left
    · intro w hSw
      try dsimp only at hSw
      go_simp
      try with_reducible rfl
    try simp only [Act.put, List.setIfInBounds_toArray, List.set_cons_zero, List.set_cons_succ]
    refine wpAnyH_done (by kernel_rfl) ?_ _
    go_wp2_with fail
    go_meet
    exact ⟨p1_0, rfl, rfl, De1_8, Z1_0e1_8, tp1_0⟩
    go_simp
    generalize hA : World.alloc u1_1 (.cells #[.int .i64 0, .int .i64 0, .int .i64 0] 31) = a1_9
    obtain ⟨p1_0, hp⟩ : ∃ p, p = u1_1.heap.size := ⟨_, rfl⟩
    have ba : Below u1_1.heap.size u1_1 a1_9 := by rw [← hA]; exact Below.alloc (Below.refl _ _) (Nat.le_refl _) _
    have Z1_0a1_9 := Lib.hid (show a1_9.heap[p1_0]? = some (.cells #[.int .i64 0, .int .i64 0, .int .i64 0] 31 (0, 0)) from by rw [← hA, hp]; exact heap_alloc_new _ _)
    have tp1_0 : w.heap.size + 2 ≤ p1_0 := by rw [hp]; exact leN_NextCourse w q0 q1 Du1_1.out
    have Da1_9 : Hid (Below (w.heap.size + 2) ((w.alloc (.cells #[.int .i64 q0.m, .int .i64 q0.c] 23)).alloc (.cells #[.int .i64 q1.o, .int .i64 q1.h, .int .i64 q1.t] 29)) a1_9) := Below.trans Du1_1.out (ba.mono (leN_NextCourse w q0 q1 Du1_1.out))
    rw [← hp]
    clear hA hp ba
    (first | refine hK.out _ _ ?_ (fun hHeld => ?_) | (go_wp2_with fail; refine hK.out _ _ ?_ (fun hHeld => ?_)))
    · try dsimp only
      exact KS.out _ Da1_9.out
    clear hK K
    try simp only [Act.put, List.setIfInBounds_toArray, List.set_cons_zero, List.set_cons_succ]
    refine wpAnyH_ready (rs := [3]) (by kernel_rfl) (by simp) ?_
    refine (AllReadyH.cons (by (simp only [List.getElem?_toArray, List.getElem?_cons_succ, List.getElem?_cons_zero]); (try exact rfl)) (fun K hK => ?_) AllReadyH.nil)
    go_simp
    go_at_call 16
    refine (toCourse_blw q1 _).mono ?_
    rintro e u1_10 ⟨rfl, bb⟩
    have Du1_10 : Hid (Below (w.heap.size + 2) ((w.alloc (.cells #[.int .i64 q0.m, .int .i64 q0.c] 23)).alloc (.cells #[.int .i64 q1.o, .int .i64 q1.h, .int .i64 q1.t] 29)) u1_10) := Below.trans Da1_9.out (bb.mono (leN_NextCourse w q0 q1 Da1_9.out))
    have Z1_0u1_10 := Lib.hid ((bb.block p1_0 (box_lt Z1_0a1_9.out)).trans Z1_0a1_9.out)
    clear bb
    (first | refine hK.out _ _ ?_ (fun hHeld => ?_) | (go_wp2_with fail; refine hK.out _ _ ?_ (fun hHeld => ?_)))
    · try dsimp only
      exact KS.out _ Du1_10.out
    clear hK K
    try simp only [Act.put, List.setIfInBounds_toArray, List.set_cons_zero, List.set_cons_succ]
    refine wpAnyH_ready (rs := [5]) (by kernel_rfl) (by simp) ?_
    refine (AllReadyH.cons (by (simp only [List.getElem?_toArray, List.getElem?_cons_succ, List.getElem?_cons_zero]); (try exact rfl)) (fun K hK => ?_) AllReadyH.nil)
    go_simp
    go_at_call 18
    refine (c1.out _ (HT.out _ (Below.trans (wbN_NextCourse w q0 q1) (Du1_10.out.mono (by omega))))).mono ?_
    rintro e u1_11 ⟨rfl, bb⟩
    have Du1_11 : Hid (Below (w.heap.size + 2) ((w.alloc (.cells #[.int .i64 q0.m, .int .i64 q0.c] 23)).alloc (.cells #[.int .i64 q1.o, .int .i64 q1.h, .int .i64 q1.t] 29)) u1_11) := Below.trans Du1_10.out (bb.mono (leN_NextCourse w q0 q1 Du1_10.out))
    have Z1_0u1_11 := Lib.hid ((bb.block p1_0 (box_lt Z1_0u1_10.out)).trans Z1_0u1_10.out)
    clear bb
    (first | refine hK.out _ _ ?_ (fun hHeld => ?_) | (go_wp2_with fail; refine hK.out _ _ ?_ (fun hHeld => ?_)))
    · try dsimp only
      exact KS.out _ Du1_11.out
    clear hK K
    try simp only [Act.put, List.setIfInBounds_toArray, List.set_cons_zero, List.set_cons_succ]
    refine wpAnyH_take (i := 6) (v := ?_) (by (simp only [List.getElem?_toArray, List.getElem?_cons_succ, List.getElem?_cons_zero]); (try exact rfl)) (by kernel_rfl) (by kernel_rfl) (by kernel_rfl) (by intro _ _ _ h; exact h) (Or.inl ⟨by rfl, ?_⟩) (by assumption) ?_
    rotate_left
    · intro w hSw
      try dsimp only at hSw
      go_simp
      try with_reducible rfl
    try simp only [Act.put, List.setIfInBounds_toArray, List.set_cons_zero, List.set_cons_succ]
    refine wpAnyH_take (i := 7) (v := ?_) (by (simp only [List.getElem?_toArray, List.getElem?_cons_succ, List.getElem?_cons_zero]); (try exact rfl)) (by kernel_rfl) (by kernel_rfl) (by kernel_rfl) (by intro _ _ _ h; exact h) (Or.inl ⟨by rfl, ?_⟩) (by assumption) ?_
    rotate_left
    · intro w hSw
      try dsimp only at hSw
      go_simp
      try with_reducible rfl
    try simp only [Act.put, List.setIfInBounds_toArray, List.set_cons_zero, List.set_cons_succ]
    refine wpAnyH_take (i := 8) (v := ?_) (by (simp only [List.getElem?_toArray, List.getElem?_cons_succ, List.getElem?_cons_zero]); (try exact rfl)) (by kernel_rfl) (by kernel_rfl) (by kernel_rfl) (by intro _ _ _ h; exact h) (Or.inl ⟨by rfl, ?_⟩) (by assumption) ?_
    rotate_left
    · intro w hSw
      try dsimp only at hSw
      go_simp
      try with_reducible rfl
    try simp only [Act.put, List.setIfInBounds_toArray, List.set_cons_zero, List.set_cons_succ]
    refine wpAnyH_ready (rs := [10]) (by kernel_rfl) (by simp) ?_
    refine AllReadyH.cons (by (simp only [List.getElem?_toArray, List.getElem?_cons_succ, List.getElem?_cons_zero]); (try exact rfl)) (fun K hK => ?_) AllReadyH.nil
    refine step_store_Co rfl _ _ rfl p1_0 (⟨0, 0, 0⟩ : Co) r0 _ rfl rfl Z1_0u1_11.out ?_
    intro e1_12 hE oE bE
    have De1_12 : Hid (Below (w.heap.size + 2) ((w.alloc (.cells #[.int .i64 q0.m, .int .i64 q0.c] 23)).alloc (.cells #[.int .i64 q1.o, .int .i64 q1.h, .int .i64 q1.t] 29)) e1_12) := Below.trans Du1_11.out (bE.mono tp1_0)
    have Z1_0e1_12 := Lib.hid hE
    clear hE oE bE
    refine hK.out _ _ ?_ (fun hHeld => ?_)
    · try dsimp only
      exact KS.out _ De1_12.out
    clear hK K
    try simp only [Act.put, List.setIfInBounds_toArray, List.set_cons_zero, List.set_cons_succ]
    refine wpAnyH_take (i := 11) (v := ?_) (by (simp only [List.getElem?_toArray, List.getElem?_cons_succ, List.getElem?_cons_zero]); (try exact rfl)) (by kernel_rfl) (by kernel_rfl) (by kernel_rfl) (by intro _ _ _ h; exact h) (Or.inl ⟨by rfl, ?_⟩) (by assumption) ?_
    rotate_left
    · intro w hSw
      try dsimp only at hSw
      go_simp
      try with_reducible rfl
    try simp only [Act.put, List.setIfInBounds_toArray, List.set_cons_zero, List.set_cons_succ]
    refine wpAnyH_done (by kernel_rfl) ?_ _
    go_wp2_with fail
    go_meet
    exact ⟨p1_0, rfl, rfl, De1_12, Z1_0e1_12, tp1_0⟩
    go_simp
    generalize hA : World.drew (World.alloc ((w.alloc (.cells #[.int .i64 q0.m, .int .i64 q0.c] 23)).alloc (.cells #[.int .i64 q1.o, .int .i64 q1.h, .int .i64 q1.t] 29)) (.cells #[.int .i64 0, .int .i64 0, .int .i64 0] 31)) = a1_13
    obtain ⟨p1_0, hp⟩ : ∃ p, p = ((w.alloc (.cells #[.int .i64 q0.m, .int .i64 q0.c] 23)).alloc (.cells #[.int .i64 q1.o, .int .i64 q1.h, .int .i64 q1.t] 29)).heap.size := ⟨_, rfl⟩
    have ba : Below (World.drew ((w.alloc (.cells #[.int .i64 q0.m, .int .i64 q0.c] 23)).alloc (.cells #[.int .i64 q1.o, .int .i64 q1.h, .int .i64 q1.t] 29))).heap.size (World.drew ((w.alloc (.cells #[.int .i64 q0.m, .int .i64 q0.c] 23)).alloc (.cells #[.int .i64 q1.o, .int .i64 q1.h, .int .i64 q1.t] 29))) a1_13 := by rw [← hA]; exact (Below.alloc (Below.refl _ _) (Nat.le_refl _) _ : Below _ (World.drew ((w.alloc (.cells #[.int .i64 q0.m, .int .i64 q0.c] 23)).alloc (.cells #[.int .i64 q1.o, .int .i64 q1.h, .int .i64 q1.t] 29))) (World.alloc (World.drew ((w.alloc (.cells #[.int .i64 q0.m, .int .i64 q0.c] 23)).alloc (.cells #[.int .i64 q1.o, .int .i64 q1.h, .int .i64 q1.t] 29))) _))
    have Z1_0a1_13 := Lib.hid (show a1_13.heap[p1_0]? = some (.cells #[.int .i64 0, .int .i64 0, .int .i64 0] 31 (0, 0)) from by rw [← hA, hp]; exact heap_alloc_new ((w.alloc (.cells #[.int .i64 q0.m, .int .i64 q0.c] 23)).alloc (.cells #[.int .i64 q1.o, .int .i64 q1.h, .int .i64 q1.t] 29)) _)
    have tp1_0 : w.heap.size + 2 ≤ p1_0 := by rw [hp]; exact (leN_NextCourse w q0 q1 D0.out : w.heap.size + 2 ≤ (World.drew ((w.alloc (.cells #[.int .i64 q0.m, .int .i64 q0.c] 23)).alloc (.cells #[.int .i64 q1.o, .int .i64 q1.h, .int .i64 q1.t] 29))).heap.size)
    have Da1_13 : Hid (Below (w.heap.size + 2) ((w.alloc (.cells #[.int .i64 q0.m, .int .i64 q0.c] 23)).alloc (.cells #[.int .i64 q1.o, .int .i64 q1.h, .int .i64 q1.t] 29)) a1_13) := Below.trans D0.out (ba.mono (leN_NextCourse w q0 q1 D0.out))
    have hp' : p1_0 = w.heap.size + 1 + 1 := by rw [hp]; simp
    (first | rw [← hp] | rw [← hp'])
    clear hp'
    clear hA hp ba
    (first | refine hK.out _ _ ?_ (fun hHeld => ?_) | (go_wp2_with fail; refine hK.out _ _ ?_ (fun hHeld => ?_)))
    · try dsimp only
      exact KS.out _ Da1_13.out
    clear hK K
    try simp only [Act.put, List.setIfInBounds_toArray, List.set_cons_zero, List.set_cons_succ]
    refine wpAnyH_ready (rs := [1]) (by kernel_rfl) (by simp) ?_
    refine (AllReadyH.cons (by (simp only [List.getElem?_toArray, List.getElem?_cons_succ, List.getElem?_cons_zero]); (try exact rfl)) (fun K hK => ?_) AllReadyH.nil)
    go_simp
    go_at_call 13
    refine (toLimits_blw q0 _).mono ?_
    rintro e u1_14 ⟨rfl, bb⟩
    have Du1_14 : Hid (Below (w.heap.size + 2) ((w.alloc (.cells #[.int .i64 q0.m, .int .i64 q0.c] 23)).alloc (.cells #[.int .i64 q1.o, .int .i64 q1.h, .int .i64 q1.t] 29)) u1_14) := Below.trans Da1_13.out (bb.mono (leN_NextCourse w q0 q1 Da1_13.out))
    have Z1_0u1_14 := Lib.hid ((bb.block p1_0 (box_lt Z1_0a1_13.out)).trans Z1_0a1_13.out)
    clear bb
    (first | refine hK.out _ _ ?_ (fun hHeld => ?_) | (go_wp2_with fail; refine hK.out _ _ ?_ (fun hHeld => ?_)))
    · try dsimp only
      exact KS.out _ Du1_14.out
    clear hK K
    try simp only [Act.put, List.setIfInBounds_toArray, List.set_cons_zero, List.set_cons_succ]
    refine wpAnyH_ready (rs := [3]) (by kernel_rfl) (by simp) ?_
    refine (AllReadyH.cons (by (simp only [List.getElem?_toArray, List.getElem?_cons_succ, List.getElem?_cons_zero]); (try exact rfl)) (fun K hK => ?_) AllReadyH.nil)
    go_simp
    go_at_call 16
    refine (toCourse_blw q1 _).mono ?_
    rintro e u1_15 ⟨rfl, bb⟩
    have Du1_15 : Hid (Below (w.heap.size + 2) ((w.alloc (.cells #[.int .i64 q0.m, .int .i64 q0.c] 23)).alloc (.cells #[.int .i64 q1.o, .int .i64 q1.h, .int .i64 q1.t] 29)) u1_15) := Below.trans Du1_14.out (bb.mono (leN_NextCourse w q0 q1 Du1_14.out))
    have Z1_0u1_15 := Lib.hid ((bb.block p1_0 (box_lt Z1_0u1_14.out)).trans Z1_0u1_14.out)
    clear bb
    (first | refine hK.out _ _ ?_ (fun hHeld => ?_) | (go_wp2_with fail; refine hK.out _ _ ?_ (fun hHeld => ?_)))
    · try dsimp only
      exact KS.out _ Du1_15.out
    clear hK K
    try simp only [Act.put, List.setIfInBounds_toArray, List.set_cons_zero, List.set_cons_succ]
    refine wpAnyH_ready (rs := [5]) (by kernel_rfl) (by simp) ?_
    refine (AllReadyH.cons (by (simp only [List.getElem?_toArray, List.getElem?_cons_succ, List.getElem?_cons_zero]); (try exact rfl)) (fun K hK => ?_) AllReadyH.nil)
    go_simp
    go_at_call 18
    refine (c1.out _ (HT.out _ (Below.trans (wbN_NextCourse w q0 q1) (Du1_15.out.mono (by omega))))).mono ?_
    rintro e u1_16 ⟨rfl, bb⟩
    have Du1_16 : Hid (Below (w.heap.size + 2) ((w.alloc (.cells #[.int .i64 q0.m, .int .i64 q0.c] 23)).alloc (.cells #[.int .i64 q1.o, .int .i64 q1.h, .int .i64 q1.t] 29)) u1_16) := Below.trans Du1_15.out (bb.mono (leN_NextCourse w q0 q1 Du1_15.out))
    have Z1_0u1_16 := Lib.hid ((bb.block p1_0 (box_lt Z1_0u1_15.out)).trans Z1_0u1_15.out)
    clear bb
    (first | refine hK.out _ _ ?_ (fun hHeld => ?_) | (go_wp2_with fail; refine hK.out _ _ ?_ (fun hHeld => ?_)))
    · try dsimp only
      exact KS.out _ Du1_16.out
    clear hK K
    try simp only [Act.put, List.setIfInBounds_toArray, List.set_cons_zero, List.set_cons_succ]
    refine wpAnyH_take (i := 6) (v := ?_) (by (simp only [List.getElem?_toArray, List.getElem?_cons_succ, List.getElem?_cons_zero]); (try exact rfl)) (by kernel_rfl) (by kernel_rfl) (by kernel_rfl) (by intro _ _ _ h; exact h) (Or.inl ⟨by rfl, ?_⟩) (by assumption) ?_
    rotate_left
    · intro w hSw
      try dsimp only at hSw
      go_simp
      try with_reducible rfl
    try simp only [Act.put, List.setIfInBounds_toArray, List.set_cons_zero, List.set_cons_succ]
    refine wpAnyH_take (i := 7) (v := ?_) (by (simp only [List.getElem?_toArray, List.getElem?_cons_succ, List.getElem?_cons_zero]); (try exact rfl)) (by kernel_rfl) (by kernel_rfl) (by kernel_rfl) (by intro _ _ _ h; exact h) (Or.inl ⟨by rfl, ?_⟩) (by assumption) ?_
    rotate_left
    · intro w hSw
      try dsimp only at hSw
      go_simp
      try with_reducible rfl
    try simp only [Act.put, List.setIfInBounds_toArray, List.set_cons_zero, List.set_cons_succ]
    refine wpAnyH_take (i := 8) (v := ?_) (by (simp only [List.getElem?_toArray, List.getElem?_cons_succ, List.getElem?_cons_zero]); (try exact rfl)) (by kernel_rfl) (by kernel_rfl) (by kernel_rfl) (by intro _ _ _ h; exact h) (Or.inl ⟨by rfl, ?_⟩) (by assumption) ?_
    rotate_left
    · intro w hSw
      try dsimp only at hSw
      go_simp
      try with_reducible rfl
    try simp only [Act.put, List.setIfInBounds_toArray, List.set_cons_zero, List.set_cons_succ]
    refine wpAnyH_ready (rs := [10]) (by kernel_rfl) (by simp) ?_
    refine AllReadyH.cons (by (simp only [List.getElem?_toArray, List.getElem?_cons_succ, List.getElem?_cons_zero]); (try exact rfl)) (fun K hK => ?_) AllReadyH.nil
    refine step_store_Co rfl _ _ rfl p1_0 (⟨0, 0, 0⟩ : Co) r0 _ rfl rfl Z1_0u1_16.out ?_
    intro e1_17 hE oE bE
    have De1_17 : Hid (Below (w.heap.size + 2) ((w.alloc (.cells #[.int .i64 q0.m, .int .i64 q0.c] 23)).alloc (.cells #[.int .i64 q1.o, .int .i64 q1.h, .int .i64 q1.t] 29)) e1_17) := Below.trans Du1_16.out (bE.mono tp1_0)
    have Z1_0e1_17 := Lib.hid hE
    clear hE oE bE
    refine hK.out _ _ ?_ (fun hHeld => ?_)
    · try dsimp only
      exact KS.out _ De1_17.out
    clear hK K
    try simp only [Act.put, List.setIfInBounds_toArray, List.set_cons_zero, List.set_cons_succ]
    refine wpAnyH_take (i := 11) (v := ?_) (by (simp only [List.getElem?_toArray, List.getElem?_cons_succ, List.getElem?_cons_zero]); (try exact rfl)) (by kernel_rfl) (by kernel_rfl) (by kernel_rfl) (by intro _ _ _ h; exact h) (Or.inl ⟨by rfl, ?_⟩) (by assumption) ?_
    rotate_left
    · intro w hSw
      try dsimp only at hSw
      go_simp
      try with_reducible rfl
    try simp only [Act.put, List.setIfInBounds_toArray, List.set_cons_zero, List.set_cons_succ]
    refine wpAnyH_done (by kernel_rfl) ?_ _
    go_wp2_with fail
    go_meet
    exact ⟨p1_0, rfl, rfl, De1_17, Z1_0e1_17, tp1_0⟩
  case rest =>
    clear D0
    obtain ⟨p1_0, rfl, rfl, DC1, C1_0, tp1_0⟩ := hcut
    obtain ⟨wm, hwm⟩ : ∃ x, x = wc := ⟨_, rfl⟩
    rw [← hwm] at DC1 C1_0
    rw [← hwm]
    clear hwm
    have D0 : Hid (Below (w.heap.size + 2) ((w.alloc (.cells #[.int .i64 q0.m, .int .i64 q0.c] 23)).alloc (.cells #[.int .i64 q1.o, .int .i64 q1.h, .int .i64 q1.t] 29)) (World.drew wm)) := DC1.out.drew
    have Z1_00 : Hid ((World.drew wm).heap[p1_0]? = some (.cells #[.int .i64 r0.o, .int .i64 r0.h, .int .i64 r0.t] 31 (0, 0))) := C1_0.out
    clear DC1 C1_0
    go_upto_region 2 with (fail)
    go_cut [9, 10] (fun s9 s10 wx => ∃ p2_0 : Nat, s9 = .pointer (some ⟨p2_0, 0, none⟩) ∧ s10 = .bool r1 ∧ Hid (Below (w.heap.size + 2) ((w.alloc (.cells #[.int .i64 q0.m, .int .i64 q0.c] 23)).alloc (.cells #[.int .i64 q1.o, .int .i64 q1.h, .int .i64 q1.t] 29)) wx) ∧ Hid (wx.heap[p2_0]? = some (.cells #[.int .i64 r0.o, .int .i64 r0.h, .int .i64 r0.t] 31 (0, 0))) ∧ Hid (wx.heap[p1_0]? = some (.cells #[.int .i64 r0.o, .int .i64 r0.h, .int .i64 r0.t] 31 (0, 0))) ∧ w.heap.size + 2 ≤ p2_0)
    case first =>
      go_wp2_with fail
      refine wp_region_held_drew (S := fun w' => (w'.cell? ⟨w.heap.size, 0, none⟩ = some (.int .i64 q0.m) ∧ w'.cell? ⟨w.heap.size, 1, none⟩ = some (.int .i64 q0.c) ∧ w'.cell? ⟨w.heap.size + 1, 0, none⟩ = some (.int .i64 q1.o) ∧ w'.cell? ⟨w.heap.size + 1, 1, none⟩ = some (.int .i64 q1.h) ∧ w'.cell? ⟨w.heap.size + 1, 2, none⟩ = some (.int .i64 q1.t))) (by kernel_rfl) (KS.out _ D0.out) (fun hHeld => ?_)
      refine wpAnyH_take (i := 0) (v := ?_) (by (simp only [List.getElem?_toArray, List.getElem?_cons_succ, List.getElem?_cons_zero]); (try exact rfl)) (by kernel_rfl) (by kernel_rfl) (by kernel_rfl) (by intro _ _ _ h; exact h) (Or.inl ⟨by rfl, ?_⟩) (by assumption) ?_
      rotate_left
      · intro w hSw
        try dsimp only at hSw
        go_simp
        try with_reducible rfl
      try simp only [Act.put, List.setIfInBounds_toArray, List.set_cons_zero, List.set_cons_succ]
      refine wpAnyH_take (i := 2) (v := ?_) (by (simp only [List.getElem?_toArray, List.getElem?_cons_succ, List.getElem?_cons_zero]); (try exact rfl)) (by kernel_rfl) (by kernel_rfl) (by kernel_rfl) (by intro _ _ _ h; exact h) (Or.inl ⟨by rfl, ?_⟩) (by assumption) ?_
      rotate_left
      · intro w hSw
        try dsimp only at hSw
        go_simp
        try with_reducible rfl
      try simp only [Act.put, List.setIfInBounds_toArray, List.set_cons_zero, List.set_cons_succ]
      refine wpAnyH_take (i := 4) (v := ?_) (by (simp only [List.getElem?_toArray, List.getElem?_cons_succ, List.getElem?_cons_zero]); (try exact rfl)) (by kernel_rfl) (by kernel_rfl) (by kernel_rfl) (by intro _ _ _ h; exact h) (Or.inl ⟨by rfl, ?_⟩) (by assumption) ?_
      rotate_left
      · intro w hSw
        try dsimp only at hSw
        go_simp
        try with_reducible rfl
      try simp only [Act.put, List.setIfInBounds_toArray, List.set_cons_zero, List.set_cons_succ]
      refine wpAnyH_ready (rs := [1, 9]) (by kernel_rfl) (by simp) ?_
      refine (AllReadyH.cons (by (simp only [List.getElem?_toArray, List.getElem?_cons_succ, List.getElem?_cons_zero]); (try exact rfl)) (fun K hK => ?_) (AllReadyH.cons (by (simp only [List.getElem?_toArray, List.getElem?_cons_succ, List.getElem?_cons_zero]); (try exact rfl)) (fun K hK => ?_) AllReadyH.nil))
      go_simp
      go_at_call 13
      refine (toLimits_blw q0 _).mono ?_
      rintro e u2_1 ⟨rfl, bb⟩
      have Du2_1 : Hid (Below (w.heap.size + 2) ((w.alloc (.cells #[.int .i64 q0.m, .int .i64 q0.c] 23)).alloc (.cells #[.int .i64 q1.o, .int .i64 q1.h, .int .i64 q1.t] 29)) u2_1) := Below.trans D0.out (bb.mono (leN_NextCourse w q0 q1 D0.out))
      have Z1_0u2_1 := Lib.hid ((bb.block p1_0 (box_lt Z1_00.out)).trans Z1_00.out)
      clear bb
      (first | refine hK.out _ _ ?_ (fun hHeld => ?_) | (go_wp2_with fail; refine hK.out _ _ ?_ (fun hHeld => ?_)))
      · try dsimp only
        exact KS.out _ Du2_1.out
      clear hK K
      try simp only [Act.put, List.setIfInBounds_toArray, List.set_cons_zero, List.set_cons_succ]
      refine wpAnyH_ready (rs := [3, 9]) (by kernel_rfl) (by simp) ?_
      refine (AllReadyH.cons (by (simp only [List.getElem?_toArray, List.getElem?_cons_succ, List.getElem?_cons_zero]); (try exact rfl)) (fun K hK => ?_) (AllReadyH.cons (by (simp only [List.getElem?_toArray, List.getElem?_cons_succ, List.getElem?_cons_zero]); (try exact rfl)) (fun K hK => ?_) AllReadyH.nil))
      go_simp
      go_at_call 16
      refine (toCourse_blw q1 _).mono ?_
      rintro e u2_2 ⟨rfl, bb⟩
      have Du2_2 : Hid (Below (w.heap.size + 2) ((w.alloc (.cells #[.int .i64 q0.m, .int .i64 q0.c] 23)).alloc (.cells #[.int .i64 q1.o, .int .i64 q1.h, .int .i64 q1.t] 29)) u2_2) := Below.trans Du2_1.out (bb.mono (leN_NextCourse w q0 q1 Du2_1.out))
      have Z1_0u2_2 := Lib.hid ((bb.block p1_0 (box_lt Z1_0u2_1.out)).trans Z1_0u2_1.out)
      clear bb
      (first | refine hK.out _ _ ?_ (fun hHeld => ?_) | (go_wp2_with fail; refine hK.out _ _ ?_ (fun hHeld => ?_)))
      · try dsimp only
        exact KS.out _ Du2_2.out
      clear hK K
      try simp only [Act.put, List.setIfInBounds_toArray, List.set_cons_zero, List.set_cons_succ]
      refine wpAnyH_ready (rs := [5, 9]) (by kernel_rfl) (by simp) ?_
      refine (AllReadyH.cons (by (simp only [List.getElem?_toArray, List.getElem?_cons_succ, List.getElem?_cons_zero]); (try exact rfl)) (fun K hK => ?_) (AllReadyH.cons (by (simp only [List.getElem?_toArray, List.getElem?_cons_succ, List.getElem?_cons_zero]); (try exact rfl)) (fun K hK => ?_) AllReadyH.nil))
      go_simp
      go_at_call 19
      refine (c2.out _ (HT.out _ (Below.trans (wbN_NextCourse w q0 q1) (Du2_2.out.mono (by omega))))).mono ?_
      rintro e u2_3 ⟨rfl, bb⟩
      have Du2_3 : Hid (Below (w.heap.size + 2) ((w.alloc (.cells #[.int .i64 q0.m, .int .i64 q0.c] 23)).alloc (.cells #[.int .i64 q1.o, .int .i64 q1.h, .int .i64 q1.t] 29)) u2_3) := Below.trans Du2_2.out (bb.mono (leN_NextCourse w q0 q1 Du2_2.out))
      have Z1_0u2_3 := Lib.hid ((bb.block p1_0 (box_lt Z1_0u2_2.out)).trans Z1_0u2_2.out)
      clear bb
      (first | refine hK.out _ _ ?_ (fun hHeld => ?_) | (go_wp2_with fail; refine hK.out _ _ ?_ (fun hHeld => ?_)))
      · try dsimp only
        exact KS.out _ Du2_3.out
      clear hK K
      try simp only [Act.put, List.setIfInBounds_toArray, List.set_cons_zero, List.set_cons_succ]
      refine wpAnyH_take (i := 6) (v := ?_) (by (simp only [List.getElem?_toArray, List.getElem?_cons_succ, List.getElem?_cons_zero]); (try exact rfl)) (by kernel_rfl) (by kernel_rfl) (by kernel_rfl) (by intro _ _ _ h; exact h) (Or.inl ⟨by rfl, ?_⟩) (by assumption) ?_
      rotate_left
      · intro w hSw
        try dsimp only at hSw
        go_simp
        try with_reducible rfl
      try simp only [Act.put, List.setIfInBounds_toArray, List.set_cons_zero, List.set_cons_succ]
      refine wpAnyH_take (i := 7) (v := ?_) (by (simp only [List.getElem?_toArray, List.getElem?_cons_succ, List.getElem?_cons_zero]); (try exact rfl)) (by kernel_rfl) (by kernel_rfl) (by kernel_rfl) (by intro _ _ _ h; exact h) (Or.inl ⟨by rfl, ?_⟩) (by assumption) ?_
      rotate_left
      · intro w hSw
        try dsimp only at hSw
        go_simp
        try with_reducible rfl
      try simp only [Act.put, List.setIfInBounds_toArray, List.set_cons_zero, List.set_cons_succ]
      refine wpAnyH_take (i := 8) (v := ?_) (by (simp only [List.getElem?_toArray, List.getElem?_cons_succ, List.getElem?_cons_zero]); (try exact rfl)) (by kernel_rfl) (by kernel_rfl) (by kernel_rfl) (by intro _ _ _ h; exact h) (Or.inl ⟨by rfl, ?_⟩) (by assumption) ?_
      rotate_left
      · intro w hSw
        try dsimp only at hSw
        go_simp
        try with_reducible rfl
      try simp only [Act.put, List.setIfInBounds_toArray, List.set_cons_zero, List.set_cons_succ]
      refine wpAnyH_ready (rs := [9]) (by kernel_rfl) (by simp) ?_
      refine (AllReadyH.cons (by (simp only [List.getElem?_toArray, List.getElem?_cons_succ, List.getElem?_cons_zero]); (try exact rfl)) (fun K hK => ?_) AllReadyH.nil)
      go_simp
      generalize hA : World.alloc u2_3 (.cells #[.int .i64 0, .int .i64 0, .int .i64 0] 31) = a2_4
      obtain ⟨p2_0, hp⟩ : ∃ p, p = u2_3.heap.size := ⟨_, rfl⟩
      have ba : Below u2_3.heap.size u2_3 a2_4 := by rw [← hA]; exact Below.alloc (Below.refl _ _) (Nat.le_refl _) _
      have Z2_0a2_4 := Lib.hid (show a2_4.heap[p2_0]? = some (.cells #[.int .i64 0, .int .i64 0, .int .i64 0] 31 (0, 0)) from by rw [← hA, hp]; exact heap_alloc_new _ _)
      have tp2_0 : w.heap.size + 2 ≤ p2_0 := by rw [hp]; exact leN_NextCourse w q0 q1 Du2_3.out
      have np1_0_p2_0 : p1_0 ≠ p2_0 := by have hh := box_lt Z1_0u2_3.out; rw [hp]; intro e; rw [e] at hh; exact Nat.lt_irrefl _ hh
      have Da2_4 : Hid (Below (w.heap.size + 2) ((w.alloc (.cells #[.int .i64 q0.m, .int .i64 q0.c] 23)).alloc (.cells #[.int .i64 q1.o, .int .i64 q1.h, .int .i64 q1.t] 29)) a2_4) := Below.trans Du2_3.out (ba.mono (leN_NextCourse w q0 q1 Du2_3.out))
      have Z1_0a2_4 := Lib.hid ((ba.block p1_0 (box_lt Z1_0u2_3.out)).trans Z1_0u2_3.out)
      rw [← hp]
      clear hA hp ba
      (first | refine hK.out _ _ ?_ (fun hHeld => ?_) | (go_wp2_with fail; refine hK.out _ _ ?_ (fun hHeld => ?_)))
      · try dsimp only
        exact KS.out _ Da2_4.out
      clear hK K
      try simp only [Act.put, List.setIfInBounds_toArray, List.set_cons_zero, List.set_cons_succ]
      refine wpAnyH_ready (rs := [10]) (by kernel_rfl) (by simp) ?_
      refine AllReadyH.cons (by (simp only [List.getElem?_toArray, List.getElem?_cons_succ, List.getElem?_cons_zero]); (try exact rfl)) (fun K hK => ?_) AllReadyH.nil
      refine step_store_Co rfl _ _ rfl p2_0 (⟨0, 0, 0⟩ : Co) r0 _ rfl rfl Z2_0a2_4.out ?_
      intro e2_5 hE oE bE
      have De2_5 : Hid (Below (w.heap.size + 2) ((w.alloc (.cells #[.int .i64 q0.m, .int .i64 q0.c] 23)).alloc (.cells #[.int .i64 q1.o, .int .i64 q1.h, .int .i64 q1.t] 29)) e2_5) := Below.trans Da2_4.out (bE.mono tp2_0)
      have Z2_0e2_5 := Lib.hid hE
      have Z1_0e2_5 := Lib.hid ((oE p1_0 (by first | assumption | exact Ne.symm (by assumption))).trans Z1_0a2_4.out)
      clear hE oE bE
      refine hK.out _ _ ?_ (fun hHeld => ?_)
      · try dsimp only
        exact KS.out _ De2_5.out
      clear hK K
      try simp only [Act.put, List.setIfInBounds_toArray, List.set_cons_zero, List.set_cons_succ]
      refine wpAnyH_take (i := 11) (v := ?_) (by (simp only [List.getElem?_toArray, List.getElem?_cons_succ, List.getElem?_cons_zero]); (try exact rfl)) (by kernel_rfl) (by kernel_rfl) (by kernel_rfl) (by intro _ _ _ h; exact h) (Or.inl ⟨by rfl, ?_⟩) (by assumption) ?_
      rotate_left
      · intro w hSw
        try dsimp only at hSw
        go_simp
        try with_reducible rfl
      try simp only [Act.put, List.setIfInBounds_toArray, List.set_cons_zero, List.set_cons_succ]
      refine wpAnyH_done (by kernel_rfl) ?_ _
      go_wp2_with fail
      go_meet
      exact ⟨p2_0, rfl, rfl, De2_5, Z2_0e2_5, Z1_0e2_5, tp2_0⟩
      go_simp
      generalize hA : World.alloc u2_2 (.cells #[.int .i64 0, .int .i64 0, .int .i64 0] 31) = a2_6
      obtain ⟨p2_0, hp⟩ : ∃ p, p = u2_2.heap.size := ⟨_, rfl⟩
      have ba : Below u2_2.heap.size u2_2 a2_6 := by rw [← hA]; exact Below.alloc (Below.refl _ _) (Nat.le_refl _) _
      have Z2_0a2_6 := Lib.hid (show a2_6.heap[p2_0]? = some (.cells #[.int .i64 0, .int .i64 0, .int .i64 0] 31 (0, 0)) from by rw [← hA, hp]; exact heap_alloc_new _ _)
      have tp2_0 : w.heap.size + 2 ≤ p2_0 := by rw [hp]; exact leN_NextCourse w q0 q1 Du2_2.out
      have np1_0_p2_0 : p1_0 ≠ p2_0 := by have hh := box_lt Z1_0u2_2.out; rw [hp]; intro e; rw [e] at hh; exact Nat.lt_irrefl _ hh
      have Da2_6 : Hid (Below (w.heap.size + 2) ((w.alloc (.cells #[.int .i64 q0.m, .int .i64 q0.c] 23)).alloc (.cells #[.int .i64 q1.o, .int .i64 q1.h, .int .i64 q1.t] 29)) a2_6) := Below.trans Du2_2.out (ba.mono (leN_NextCourse w q0 q1 Du2_2.out))
      have Z1_0a2_6 := Lib.hid ((ba.block p1_0 (box_lt Z1_0u2_2.out)).trans Z1_0u2_2.out)
      rw [← hp]
      clear hA hp ba
      (first | refine hK.out _ _ ?_ (fun hHeld => ?_) | (go_wp2_with fail; refine hK.out _ _ ?_ (fun hHeld => ?_)))
      · try dsimp only
        exact KS.out _ Da2_6.out
      clear hK K
      try simp only [Act.put, List.setIfInBounds_toArray, List.set_cons_zero, List.set_cons_succ]
      refine wpAnyH_ready (rs := [5]) (by kernel_rfl) (by simp) ?_
      refine (AllReadyH.cons (by (simp only [List.getElem?_toArray, List.getElem?_cons_succ, List.getElem?_cons_zero]); (try exact rfl)) (fun K hK => ?_) AllReadyH.nil)
      go_simp
      go_at_call 19
      refine (c2.out _ (HT.out _ (Below.trans (wbN_NextCourse w q0 q1) (Da2_6.out.mono (by omega))))).mono ?_
      rintro e u2_7 ⟨rfl, bb⟩
      have Du2_7 : Hid (Below (w.heap.size + 2) ((w.alloc (.cells #[.int .i64 q0.m, .int .i64 q0.c] 23)).alloc (.cells #[.int .i64 q1.o, .int .i64 q1.h, .int .i64 q1.t] 29)) u2_7) := Below.trans Da2_6.out (bb.mono (leN_NextCourse w q0 q1 Da2_6.out))
      have Z1_0u2_7 := Lib.hid ((bb.block p1_0 (box_lt Z1_0a2_6.out)).trans Z1_0a2_6.out)
      have Z2_0u2_7 := Lib.hid ((bb.block p2_0 (box_lt Z2_0a2_6.out)).trans Z2_0a2_6.out)
      clear bb
      (first | refine hK.out _ _ ?_ (fun hHeld => ?_) | (go_wp2_with fail; refine hK.out _ _ ?_ (fun hHeld => ?_)))
      · try dsimp only
        exact KS.out _ Du2_7.out
      clear hK K
      try simp only [Act.put, List.setIfInBounds_toArray, List.set_cons_zero, List.set_cons_succ]
      refine wpAnyH_take (i := 6) (v := ?_) (by (simp only [List.getElem?_toArray, List.getElem?_cons_succ, List.getElem?_cons_zero]); (try exact rfl)) (by kernel_rfl) (by kernel_rfl) (by kernel_rfl) (by intro _ _ _ h; exact h) (Or.inl ⟨by rfl, ?_⟩) (by assumption) ?_
      rotate_left
      · intro w hSw
        try dsimp only at hSw
        go_simp
        try with_reducible rfl
      try simp only [Act.put, List.setIfInBounds_toArray, List.set_cons_zero, List.set_cons_succ]
      refine wpAnyH_take (i := 7) (v := ?_) (by (simp only [List.getElem?_toArray, List.getElem?_cons_succ, List.getElem?_cons_zero]); (try exact rfl)) (by kernel_rfl) (by kernel_rfl) (by kernel_rfl) (by intro _ _ _ h; exact h) (Or.inl ⟨by rfl, ?_⟩) (by assumption) ?_
      rotate_left
      · intro w hSw
        try dsimp only at hSw
        go_simp
        try with_reducible rfl
      try simp only [Act.put, List.setIfInBounds_toArray, List.set_cons_zero, List.set_cons_succ]
      refine wpAnyH_take (i := 8) (v := ?_) (by (simp only [List.getElem?_toArray, List.getElem?_cons_succ, List.getElem?_cons_zero]); (try exact rfl)) (by kernel_rfl) (by kernel_rfl) (by kernel_rfl) (by intro _ _ _ h; exact h) (Or.inl ⟨by rfl, ?_⟩) (by assumption) ?_
      rotate_left
      · intro w hSw
        try dsimp only at hSw
        go_simp
        try with_reducible rfl
      try simp only [Act.put, List.setIfInBounds_toArray, List.set_cons_zero, List.set_cons_succ]
      refine wpAnyH_ready (rs := [10]) (by kernel_rfl) (by simp) ?_
      refine AllReadyH.cons (by (simp only [List.getElem?_toArray, List.getElem?_cons_succ, List.getElem?_cons_zero]); (try exact rfl)) (fun K hK => ?_) AllReadyH.nil
      refine step_store_Co rfl _ _ rfl p2_0 (⟨0, 0, 0⟩ : Co) r0 _ rfl rfl Z2_0u2_7.out ?_
      intro e2_8 hE oE bE
      have De2_8 : Hid (Below (w.heap.size + 2) ((w.alloc (.cells #[.int .i64 q0.m, .int .i64 q0.c] 23)).alloc (.cells #[.int .i64 q1.o, .int .i64 q1.h, .int .i64 q1.t] 29)) e2_8) := Below.trans Du2_7.out (bE.mono tp2_0)
      have Z2_0e2_8 := Lib.hid hE
      have Z1_0e2_8 := Lib.hid ((oE p1_0 (by first | assumption | exact Ne.symm (by assumption))).trans Z1_0u2_7.out)
      clear hE oE bE
      refine hK.out _ _ ?_ (fun hHeld => ?_)
      · try dsimp only
        exact KS.out _ De2_8.out
      clear hK K
      try simp only [Act.put, List.setIfInBounds_toArray, List.set_cons_zero, List.set_cons_succ]
      refine wpAnyH_take (i := 11) (v := ?_) (by (simp only [List.getElem?_toArray, List.getElem?_cons_succ, List.getElem?_cons_zero]); (try exact rfl)) (by kernel_rfl) (by kernel_rfl) (by kernel_rfl) (by intro _ _ _ h; exact h) (Or.inl ⟨by rfl, ?_⟩) (by assumption) ?_
      rotate_left
      · intro w hSw
        try dsimp only at hSw
        go_simp
        try with_reducible rfl
      try simp only [Act.put, List.setIfInBounds_toArray, List.set_cons_zero, List.set_cons_succ]
      refine wpAnyH_done (by kernel_rfl) ?_ _
      go_wp2_with fail
      go_meet
      exact ⟨p2_0, rfl, rfl, De2_8, Z2_0e2_8, Z1_0e2_8, tp2_0⟩
      go_simp
      generalize hA : World.alloc u2_1 (.cells #[.int .i64 0, .int .i64 0, .int .i64 0] 31) = a2_9
      obtain ⟨p2_0, hp⟩ : ∃ p, p = u2_1.heap.size := ⟨_, rfl⟩
      have ba : Below u2_1.heap.size u2_1 a2_9 := by rw [← hA]; exact Below.alloc (Below.refl _ _) (Nat.le_refl _) _
      have Z2_0a2_9 := Lib.hid (show a2_9.heap[p2_0]? = some (.cells #[.int .i64 0, .int .i64 0, .int .i64 0] 31 (0, 0)) from by rw [← hA, hp]; exact heap_alloc_new _ _)
      have tp2_0 : w.heap.size + 2 ≤ p2_0 := by rw [hp]; exact leN_NextCourse w q0 q1 Du2_1.out
      have np1_0_p2_0 : p1_0 ≠ p2_0 := by have hh := box_lt Z1_0u2_1.out; rw [hp]; intro e; rw [e] at hh; exact Nat.lt_irrefl _ hh
      have Da2_9 : Hid (Below (w.heap.size + 2) ((w.alloc (.cells #[.int .i64 q0.m, .int .i64 q0.c] 23)).alloc (.cells #[.int .i64 q1.o, .int .i64 q1.h, .int .i64 q1.t] 29)) a2_9) := Below.trans Du2_1.out (ba.mono (leN_NextCourse w q0 q1 Du2_1.out))
      have Z1_0a2_9 := Lib.hid ((ba.block p1_0 (box_lt Z1_0u2_1.out)).trans Z1_0u2_1.out)
      rw [← hp]
      clear hA hp ba
      (first | refine hK.out _ _ ?_ (fun hHeld => ?_) | (go_wp2_with fail; refine hK.out _ _ ?_ (fun hHeld => ?_)))
      · try dsimp only
        exact KS.out _ Da2_9.out
      clear hK K
      try simp only [Act.put, List.setIfInBounds_toArray, List.set_cons_zero, List.set_cons_succ]
      refine wpAnyH_ready (rs := [3]) (by kernel_rfl) (by simp) ?_
      refine (AllReadyH.cons (by (simp only [List.getElem?_toArray, List.getElem?_cons_succ, List.getElem?_cons_zero]); (try exact rfl)) (fun K hK => ?_) AllReadyH.nil)
      go_simp
      go_at_call 16
      refine (toCourse_blw q1 _).mono ?_
      rintro e u2_10 ⟨rfl, bb⟩
      have Du2_10 : Hid (Below (w.heap.size + 2) ((w.alloc (.cells #[.int .i64 q0.m, .int .i64 q0.c] 23)).alloc (.cells #[.int .i64 q1.o, .int .i64 q1.h, .int .i64 q1.t] 29)) u2_10) := Below.trans Da2_9.out (bb.mono (leN_NextCourse w q0 q1 Da2_9.out))
      have Z1_0u2_10 := Lib.hid ((bb.block p1_0 (box_lt Z1_0a2_9.out)).trans Z1_0a2_9.out)
      have Z2_0u2_10 := Lib.hid ((bb.block p2_0 (box_lt Z2_0a2_9.out)).trans Z2_0a2_9.out)
      clear bb
      (first | refine hK.out _ _ ?_ (fun hHeld => ?_) | (go_wp2_with fail; refine hK.out _ _ ?_ (fun hHeld => ?_)))
      · try dsimp only
        exact KS.out _ Du2_10.out
      clear hK K
      try simp only [Act.put, List.setIfInBounds_toArray, List.set_cons_zero, List.set_cons_succ]
      refine wpAnyH_ready (rs := [5]) (by kernel_rfl) (by simp) ?_
      refine (AllReadyH.cons (by (simp only [List.getElem?_toArray, List.getElem?_cons_succ, List.getElem?_cons_zero]); (try exact rfl)) (fun K hK => ?_) AllReadyH.nil)
      go_simp
      go_at_call 19
      refine (c2.out _ (HT.out _ (Below.trans (wbN_NextCourse w q0 q1) (Du2_10.out.mono (by omega))))).mono ?_
      rintro e u2_11 ⟨rfl, bb⟩
      have Du2_11 : Hid (Below (w.heap.size + 2) ((w.alloc (.cells #[.int .i64 q0.m, .int .i64 q0.c] 23)).alloc (.cells #[.int .i64 q1.o, .int .i64 q1.h, .int .i64 q1.t] 29)) u2_11) := Below.trans Du2_10.out (bb.mono (leN_NextCourse w q0 q1 Du2_10.out))
      have Z1_0u2_11 := Lib.hid ((bb.block p1_0 (box_lt Z1_0u2_10.out)).trans Z1_0u2_10.out)
      have Z2_0u2_11 := Lib.hid ((bb.block p2_0 (box_lt Z2_0u2_10.out)).trans Z2_0u2_10.out)
      clear bb
      (first | refine hK.out _ _ ?_ (fun hHeld => ?_) | (go_wp2_with fail; refine hK.out _ _ ?_ (fun hHeld => ?_)))
      · try dsimp only
        exact KS.out _ Du2_11.out
      clear hK K
      try simp only [Act.put, List.setIfInBounds_toArray, List.set_cons_zero, List.set_cons_succ]
      refine wpAnyH_take (i := 6) (v := ?_) (by (simp only [List.getElem?_toArray, List.getElem?_cons_succ, List.getElem?_cons_zero]); (try exact rfl)) (by kernel_rfl) (by kernel_rfl) (by kernel_rfl) (by intro _ _ _ h; exact h) (Or.inl ⟨by rfl, ?_⟩) (by assumption) ?_
      rotate_left
      · intro w hSw
        try dsimp only at hSw
        go_simp
        try with_reducible rfl
      try simp only [Act.put, List.setIfInBounds_toArray, List.set_cons_zero, List.set_cons_succ]
      refine wpAnyH_take (i := 7) (v := ?_) (by (simp only [List.getElem?_toArray, List.getElem?_cons_succ, List.getElem?_cons_zero]); (try exact rfl)) (by kernel_rfl) (by kernel_rfl) (by kernel_rfl) (by intro _ _ _ h; exact h) (Or.inl ⟨by rfl, ?_⟩) (by assumption) ?_
      rotate_left
      · intro w hSw
        try dsimp only at hSw
        go_simp
        try with_reducible rfl
      try simp only [Act.put, List.setIfInBounds_toArray, List.set_cons_zero, List.set_cons_succ]
      refine wpAnyH_take (i := 8) (v := ?_) (by (simp only [List.getElem?_toArray, List.getElem?_cons_succ, List.getElem?_cons_zero]); (try exact rfl)) (by kernel_rfl) (by kernel_rfl) (by kernel_rfl) (by intro _ _ _ h; exact h) (Or.inl ⟨by rfl, ?_⟩) (by assumption) ?_
      rotate_left
      · intro w hSw
        try dsimp only at hSw
        go_simp
        try with_reducible rfl
      try simp only [Act.put, List.setIfInBounds_toArray, List.set_cons_zero, List.set_cons_succ]
      refine wpAnyH_ready (rs := [10]) (by kernel_rfl) (by simp) ?_
      refine AllReadyH.cons (by (simp only [List.getElem?_toArray, List.getElem?_cons_succ, List.getElem?_cons_zero]); (try exact rfl)) (fun K hK => ?_) AllReadyH.nil
      refine step_store_Co rfl _ _ rfl p2_0 (⟨0, 0, 0⟩ : Co) r0 _ rfl rfl Z2_0u2_11.out ?_
      intro e2_12 hE oE bE
      have De2_12 : Hid (Below (w.heap.size + 2) ((w.alloc (.cells #[.int .i64 q0.m, .int .i64 q0.c] 23)).alloc (.cells #[.int .i64 q1.o, .int .i64 q1.h, .int .i64 q1.t] 29)) e2_12) := Below.trans Du2_11.out (bE.mono tp2_0)
      have Z2_0e2_12 := Lib.hid hE
      have Z1_0e2_12 := Lib.hid ((oE p1_0 (by first | assumption | exact Ne.symm (by assumption))).trans Z1_0u2_11.out)
      clear hE oE bE
      refine hK.out _ _ ?_ (fun hHeld => ?_)
      · try dsimp only
        exact KS.out _ De2_12.out
      clear hK K
      try simp only [Act.put, List.setIfInBounds_toArray, List.set_cons_zero, List.set_cons_succ]
      refine wpAnyH_take (i := 11) (v := ?_) (by (simp only [List.getElem?_toArray, List.getElem?_cons_succ, List.getElem?_cons_zero]); (try exact rfl)) (by kernel_rfl) (by kernel_rfl) (by kernel_rfl) (by intro _ _ _ h; exact h) (Or.inl ⟨by rfl, ?_⟩) (by assumption) ?_
      rotate_left
      · intro w hSw
        try dsimp only at hSw
        go_simp
        try with_reducible rfl
      try simp only [Act.put, List.setIfInBounds_toArray, List.set_cons_zero, List.set_cons_succ]
      refine wpAnyH_done (by kernel_rfl) ?_ _
      go_wp2_with fail
      go_meet
      exact ⟨p2_0, rfl, rfl, De2_12, Z2_0e2_12, Z1_0e2_12, tp2_0⟩
      go_simp
      generalize hA : World.drew (World.alloc wm (.cells #[.int .i64 0, .int .i64 0, .int .i64 0] 31)) = a2_13
      obtain ⟨p2_0, hp⟩ : ∃ p, p = wm.heap.size := ⟨_, rfl⟩
      have ba : Below (World.drew wm).heap.size (World.drew wm) a2_13 := by rw [← hA]; exact (Below.alloc (Below.refl _ _) (Nat.le_refl _) _ : Below _ (World.drew wm) (World.alloc (World.drew wm) _))
      have Z2_0a2_13 := Lib.hid (show a2_13.heap[p2_0]? = some (.cells #[.int .i64 0, .int .i64 0, .int .i64 0] 31 (0, 0)) from by rw [← hA, hp]; exact heap_alloc_new wm _)
      have tp2_0 : w.heap.size + 2 ≤ p2_0 := by rw [hp]; exact (leN_NextCourse w q0 q1 D0.out : w.heap.size + 2 ≤ (World.drew wm).heap.size)
      have np1_0_p2_0 : p1_0 ≠ p2_0 := by have hh := box_lt Z1_00.out; rw [hp]; intro e; rw [e] at hh; exact Nat.lt_irrefl _ hh
      have Da2_13 : Hid (Below (w.heap.size + 2) ((w.alloc (.cells #[.int .i64 q0.m, .int .i64 q0.c] 23)).alloc (.cells #[.int .i64 q1.o, .int .i64 q1.h, .int .i64 q1.t] 29)) a2_13) := Below.trans D0.out (ba.mono (leN_NextCourse w q0 q1 D0.out))
      have Z1_0a2_13 := Lib.hid ((ba.block p1_0 (box_lt Z1_00.out)).trans Z1_00.out)
      rw [← hp]
      clear hA hp ba
      (first | refine hK.out _ _ ?_ (fun hHeld => ?_) | (go_wp2_with fail; refine hK.out _ _ ?_ (fun hHeld => ?_)))
      · try dsimp only
        exact KS.out _ Da2_13.out
      clear hK K
      try simp only [Act.put, List.setIfInBounds_toArray, List.set_cons_zero, List.set_cons_succ]
      refine wpAnyH_ready (rs := [1]) (by kernel_rfl) (by simp) ?_
      refine (AllReadyH.cons (by (simp only [List.getElem?_toArray, List.getElem?_cons_succ, List.getElem?_cons_zero]); (try exact rfl)) (fun K hK => ?_) AllReadyH.nil)
      go_simp
      go_at_call 13
      refine (toLimits_blw q0 _).mono ?_
      rintro e u2_14 ⟨rfl, bb⟩
      have Du2_14 : Hid (Below (w.heap.size + 2) ((w.alloc (.cells #[.int .i64 q0.m, .int .i64 q0.c] 23)).alloc (.cells #[.int .i64 q1.o, .int .i64 q1.h, .int .i64 q1.t] 29)) u2_14) := Below.trans Da2_13.out (bb.mono (leN_NextCourse w q0 q1 Da2_13.out))
      have Z1_0u2_14 := Lib.hid ((bb.block p1_0 (box_lt Z1_0a2_13.out)).trans Z1_0a2_13.out)
      have Z2_0u2_14 := Lib.hid ((bb.block p2_0 (box_lt Z2_0a2_13.out)).trans Z2_0a2_13.out)
      clear bb
      (first | refine hK.out _ _ ?_ (fun hHeld => ?_) | (go_wp2_with fail; refine hK.out _ _ ?_ (fun hHeld => ?_)))
      · try dsimp only
        exact KS.out _ Du2_14.out
      clear hK K
      try simp only [Act.put, List.setIfInBounds_toArray, List.set_cons_zero, List.set_cons_succ]
      refine wpAnyH_ready (rs := [3]) (by kernel_rfl) (by simp) ?_
      refine (AllReadyH.cons (by (simp only [List.getElem?_toArray, List.getElem?_cons_succ, List.getElem?_cons_zero]); (try exact rfl)) (fun K hK => ?_) AllReadyH.nil)
      go_simp
      go_at_call 16
      refine (toCourse_blw q1 _).mono ?_
      rintro e u2_15 ⟨rfl, bb⟩
      have Du2_15 : Hid (Below (w.heap.size + 2) ((w.alloc (.cells #[.int .i64 q0.m, .int .i64 q0.c] 23)).alloc (.cells #[.int .i64 q1.o, .int .i64 q1.h, .int .i64 q1.t] 29)) u2_15) := Below.trans Du2_14.out (bb.mono (leN_NextCourse w q0 q1 Du2_14.out))
      have Z1_0u2_15 := Lib.hid ((bb.block p1_0 (box_lt Z1_0u2_14.out)).trans Z1_0u2_14.out)
      have Z2_0u2_15 := Lib.hid ((bb.block p2_0 (box_lt Z2_0u2_14.out)).trans Z2_0u2_14.out)
      clear bb
      (first | refine hK.out _ _ ?_ (fun hHeld => ?_) | (go_wp2_with fail; refine hK.out _ _ ?_ (fun hHeld => ?_)))
      · try dsimp only
        exact KS.out _ Du2_15.out
      clear hK K
      try simp only [Act.put, List.setIfInBounds_toArray, List.set_cons_zero, List.set_cons_succ]
      refine wpAnyH_ready (rs := [5]) (by kernel_rfl) (by simp) ?_
      refine (AllReadyH.cons (by (simp only [List.getElem?_toArray, List.getElem?_cons_succ, List.getElem?_cons_zero]); (try exact rfl)) (fun K hK => ?_) AllReadyH.nil)
      go_simp
      go_at_call 19
      refine (c2.out _ (HT.out _ (Below.trans (wbN_NextCourse w q0 q1) (Du2_15.out.mono (by omega))))).mono ?_
      rintro e u2_16 ⟨rfl, bb⟩
      have Du2_16 : Hid (Below (w.heap.size + 2) ((w.alloc (.cells #[.int .i64 q0.m, .int .i64 q0.c] 23)).alloc (.cells #[.int .i64 q1.o, .int .i64 q1.h, .int .i64 q1.t] 29)) u2_16) := Below.trans Du2_15.out (bb.mono (leN_NextCourse w q0 q1 Du2_15.out))
      have Z1_0u2_16 := Lib.hid ((bb.block p1_0 (box_lt Z1_0u2_15.out)).trans Z1_0u2_15.out)
      have Z2_0u2_16 := Lib.hid ((bb.block p2_0 (box_lt Z2_0u2_15.out)).trans Z2_0u2_15.out)
      clear bb
      (first | refine hK.out _ _ ?_ (fun hHeld => ?_) | (go_wp2_with fail; refine hK.out _ _ ?_ (fun hHeld => ?_)))
      · try dsimp only
        exact KS.out _ Du2_16.out
      clear hK K
      try simp only [Act.put, List.setIfInBounds_toArray, List.set_cons_zero, List.set_cons_succ]
      refine wpAnyH_take (i := 6) (v := ?_) (by (simp only [List.getElem?_toArray, List.getElem?_cons_succ, List.getElem?_cons_zero]); (try exact rfl)) (by kernel_rfl) (by kernel_rfl) (by kernel_rfl) (by intro _ _ _ h; exact h) (Or.inl ⟨by rfl, ?_⟩) (by assumption) ?_
      rotate_left
      · intro w hSw
        try dsimp only at hSw
        go_simp
        try with_reducible rfl
      try simp only [Act.put, List.setIfInBounds_toArray, List.set_cons_zero, List.set_cons_succ]
      refine wpAnyH_take (i := 7) (v := ?_) (by (simp only [List.getElem?_toArray, List.getElem?_cons_succ, List.getElem?_cons_zero]); (try exact rfl)) (by kernel_rfl) (by kernel_rfl) (by kernel_rfl) (by intro _ _ _ h; exact h) (Or.inl ⟨by rfl, ?_⟩) (by assumption) ?_
      rotate_left
      · intro w hSw
        try dsimp only at hSw
        go_simp
        try with_reducible rfl
      try simp only [Act.put, List.setIfInBounds_toArray, List.set_cons_zero, List.set_cons_succ]
      refine wpAnyH_take (i := 8) (v := ?_) (by (simp only [List.getElem?_toArray, List.getElem?_cons_succ, List.getElem?_cons_zero]); (try exact rfl)) (by kernel_rfl) (by kernel_rfl) (by kernel_rfl) (by intro _ _ _ h; exact h) (Or.inl ⟨by rfl, ?_⟩) (by assumption) ?_
      rotate_left
      · intro w hSw
        try dsimp only at hSw
        go_simp
        try with_reducible rfl
      try simp only [Act.put, List.setIfInBounds_toArray, List.set_cons_zero, List.set_cons_succ]
      refine wpAnyH_ready (rs := [10]) (by kernel_rfl) (by simp) ?_
      refine AllReadyH.cons (by (simp only [List.getElem?_toArray, List.getElem?_cons_succ, List.getElem?_cons_zero]); (try exact rfl)) (fun K hK => ?_) AllReadyH.nil
      refine step_store_Co rfl _ _ rfl p2_0 (⟨0, 0, 0⟩ : Co) r0 _ rfl rfl Z2_0u2_16.out ?_
      intro e2_17 hE oE bE
      have De2_17 : Hid (Below (w.heap.size + 2) ((w.alloc (.cells #[.int .i64 q0.m, .int .i64 q0.c] 23)).alloc (.cells #[.int .i64 q1.o, .int .i64 q1.h, .int .i64 q1.t] 29)) e2_17) := Below.trans Du2_16.out (bE.mono tp2_0)
      have Z2_0e2_17 := Lib.hid hE
      have Z1_0e2_17 := Lib.hid ((oE p1_0 (by first | assumption | exact Ne.symm (by assumption))).trans Z1_0u2_16.out)
      clear hE oE bE
      refine hK.out _ _ ?_ (fun hHeld => ?_)
      · try dsimp only
        exact KS.out _ De2_17.out
      clear hK K
      try simp only [Act.put, List.setIfInBounds_toArray, List.set_cons_zero, List.set_cons_succ]
      refine wpAnyH_take (i := 11) (v := ?_) (by (simp only [List.getElem?_toArray, List.getElem?_cons_succ, List.getElem?_cons_zero]); (try exact rfl)) (by kernel_rfl) (by kernel_rfl) (by kernel_rfl) (by intro _ _ _ h; exact h) (Or.inl ⟨by rfl, ?_⟩) (by assumption) ?_
      rotate_left
      · intro w hSw
        try dsimp only at hSw
        go_simp
        try with_reducible rfl
      try simp only [Act.put, List.setIfInBounds_toArray, List.set_cons_zero, List.set_cons_succ]
      refine wpAnyH_done (by kernel_rfl) ?_ _
      go_wp2_with fail
      go_meet
      exact ⟨p2_0, rfl, rfl, De2_17, Z2_0e2_17, Z1_0e2_17, tp2_0⟩
    case rest =>
      clear D0 Z1_00
      obtain ⟨p2_0, rfl, rfl, DC2, C2_0, X1_0, tp2_0⟩ := hcut
      obtain ⟨wm2, hwm⟩ : ∃ x, x = wc := ⟨_, rfl⟩
      rw [← hwm] at DC2 C2_0 X1_0
      rw [← hwm]
      clear hwm KS c1 c2
      have EE : Hid (Below w.heap.size w wm2) := Below.trans (wbN_NextCourse w q0 q1) (DC2.out.mono (by omega))
      clear DC2
      obtain ⟨⟨x0, x1, x2⟩, -, -⟩ := boxCo_at (q := r0) X1_0.out
      obtain ⟨⟨y0, y1, y2⟩, -, -⟩ := boxCo_at (q := r0) C2_0.out
      go_wp2_with fail
      refine (eqCourse_blw r0 _).mono ?_
      rintro e wq0 ⟨rfl, bG⟩
      have EE' : Hid (Below w.heap.size w wq0) := EE.out.trans (bG.mono EE.out.size)
      clear bG EE x0 x1 x2 y0 y1 y2 X1_0 C2_0 
      have EE := EE'
      clear EE'
      go_wp2
      go_ret
      exact ⟨rfl, EE.out⟩

set_option maxRecDepth 100000 in
theorem walkFnExactNextCourse (q0 : Lm) (wq0 : (Lit.int .i64 q0.m).wf = true ∧ (Lit.int .i64 q0.c).wf = true) (q1 : Co) (wq1 : (Lit.int .i64 q1.o).wf = true ∧ (Lit.int .i64 q1.h).wf = true ∧ (Lit.int .i64 q1.t).wf = true) (a2 : Int) (wa2 : (Lit.int .i64 a2).wf = true) (w : World) :
    Calls Try.prog 5 #[(.agg #[.int .i64 q0.m, .int .i64 q0.c]), (.agg #[.int .i64 q1.o, .int .i64 q1.h, .int .i64 q1.t]), .int .i64 a2] w fun e w' => e = .returned (.bool true) ∧ Below w.heap.size w w' := by
  obtain ⟨r0, r1, c1, c2⟩ := exNextCourse q0 q1 a2
  exact nextCourse_law q0 q1 a2 w (fun _ => True) (fun _ _ => trivial)  r0 r1  c1 c2
end Go.Proofs.Ytkdecpnbbpmooaa
