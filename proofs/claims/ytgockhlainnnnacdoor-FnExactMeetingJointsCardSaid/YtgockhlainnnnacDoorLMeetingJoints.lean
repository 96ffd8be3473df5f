/- The law of MeetingJoints. -/
import Derived.Test.YtgockhlainnnnacDoorRingD2
import Derived.Test.YtgockhlainnnnacDoorExKit
import Derived.Deep.RegionHeld3
namespace Go.Proofs.YtgockhlainnnnacDoor
open Go.ChangeShapes Go.WideShapes Go.ChangeAt Go.RowKit
set_option linter.unusedVariables false
set_option linter.unusedSimpArgs false

set_option maxRecDepth 100000 in
set_option maxHeartbeats 8000000 in
theorem meetingJoints_law (q0 : Rg) (q1 : Rg) (w : World) (T : World → Prop) (hT : ∀ w', Below w.heap.size w w' → T w') (ys0 : List Int) (r1 : Bool) (ly0 : ys0.length ≤ 1048576)
    (c1 : Hid (∀ (w : World), T w → Calls Tryd.prog 19 #[(.agg #[.int .i64 q0.k, .int .i64 q0.y]), (.agg #[.int .i64 q1.k, .int .i64 q1.y])] w fun e w' => ∃ u0, e = .returned (.tuple #[u0, .bool r1]) ∧ OwnI w' w.heap.size u0 ys0 ∧ Below w.heap.size w w'))
    (c2 : Hid (∀ (w : World), T w → Calls Tryd.prog 20 #[(.agg #[.int .i64 q0.k, .int .i64 q0.y]), (.agg #[.int .i64 q1.k, .int .i64 q1.y])] w fun e w' => ∃ u0, e = .returned (.tuple #[u0, .bool r1]) ∧ OwnI w' w.heap.size u0 ys0 ∧ Below w.heap.size w w')) :
    Calls Tryd.prog 5 #[(.agg #[.int .i64 q0.k, .int .i64 q0.y]), (.agg #[.int .i64 q1.k, .int .i64 q1.y])] w fun e w' => e = .returned (.bool true) ∧ Below w.heap.size w w' := by
  have HT := Lib.hid hT
  have LY0 := Lib.hid ly0
  clear hT ly0
  go_enter Tryd.func5, Tryd.ntmps5
  have KS1 : Hid (∀ w', Below (w.heap.size + 2) ((w.alloc (.cells #[.int .i64 q0.k, .int .i64 q0.y] 32)).alloc (.cells #[.int .i64 q1.k, .int .i64 q1.y] 32)) w' → (w'.cell? ⟨w.heap.size, 0, none⟩ = some (.int .i64 q0.k) ∧ w'.cell? ⟨w.heap.size, 1, none⟩ = some (.int .i64 q0.y) ∧ w'.cell? ⟨w.heap.size + 1, 0, none⟩ = some (.int .i64 q1.k) ∧ w'.cell? ⟨w.heap.size + 1, 1, none⟩ = some (.int .i64 q1.y))) := by
    intro w' b
    obtain ⟨⟨k0_0, k0_1⟩, -⟩ := boxRg_at ((b.block (w.heap.size) (by omega)).trans (box2_0 w _ _))
    obtain ⟨⟨k1_0, k1_1⟩, -⟩ := boxRg_at ((b.block (w.heap.size + 1) (by omega)).trans (box2_1 w _ _))
    exact ⟨k0_0, k0_1, k1_0, k1_1⟩
  go_wp2_with fail
  go_region_held3 (fun w' => (w'.cell? ⟨w.heap.size, 0, none⟩ = some (.int .i64 q0.k) ∧ w'.cell? ⟨w.heap.size, 1, none⟩ = some (.int .i64 q0.y) ∧ w'.cell? ⟨w.heap.size + 1, 0, none⟩ = some (.int .i64 q1.k) ∧ w'.cell? ⟨w.heap.size + 1, 1, none⟩ = some (.int .i64 q1.y)))
    (first | exact KS1.out _ D4.out | exact KS1.out _ D3.out | exact KS1.out _ D2.out | exact KS1.out _ (Below.refl _ _).drew)
    (first
      | (go_at_call 19; refine (c1.out _ (HT.out _ (Below.trans (by go_grown) (D3.out.mono (by omega))))).mono ?_; rintro e w4 ⟨vw0, rfl, ow0, b4⟩; have D4 : Hid (Below (w.heap.size + 2) ((w.alloc (.cells #[.int .i64 q0.k, .int .i64 q0.y] 32)).alloc (.cells #[.int .i64 q1.k, .int .i64 q1.y] 32)) w4) := D3.out.trans (b4.mono (by have e := D3.out.size; first | exact e | (simp only [World.size_alloc] at e; exact e))))
      | (go_at_call 14; (first | with_reducible refine (toRing_blw q0 _).mono ?_ | with_reducible refine (toRing_blw q1 _).mono ?_); rintro e w3 ⟨rfl, b3⟩; have D3 : Hid (Below (w.heap.size + 2) ((w.alloc (.cells #[.int .i64 q0.k, .int .i64 q0.y] 32)).alloc (.cells #[.int .i64 q1.k, .int .i64 q1.y] 32)) w3) := D2.out.trans (b3.mono (by have e := D2.out.size; first | exact e | (simp only [World.size_alloc] at e; exact e))))
      | (go_at_call 14; (first | with_reducible refine (toRing_blw q0 _).mono ?_ | with_reducible refine (toRing_blw q1 _).mono ?_); rintro e w2 ⟨rfl, b2⟩; have D2 : Hid (Below (w.heap.size + 2) ((w.alloc (.cells #[.int .i64 q0.k, .int .i64 q0.y] 32)).alloc (.cells #[.int .i64 q1.k, .int .i64 q1.y] 32)) w2) := (Below.refl _ _).drew.trans (b2.mono (by simp))))
  have zz4 := D3.out.size
  have bb4 : Below (w.heap.size + 2) ((w.alloc (.cells #[.int .i64 q0.k, .int .i64 q0.y] 32)).alloc (.cells #[.int .i64 q1.k, .int .i64 q1.y] 32)) w4 := D4.out
  have dd4 := D4.out
  have OOw0 := Lib.hid (ow0.mono (show (w.heap.size + 2) ≤ w3.heap.size by have e := D3.out.size; first | exact e | (simp only [World.size_alloc] at e; exact e)))
  clear KS1 zz4 D2 D3 D4 ow0
  clear bb4
  have y4 : w.heap.size + 2 ≤ w4.heap.size := by have e := dd4.size; simp only [World.size_alloc] at e; omega
  have E4 : Hid (Below w.heap.size w w4) := Below.trans (by go_grown) (dd4.mono (by omega))
  have N0_4 := Lib.hid ((dd4.block (w.heap.size) (by omega)).trans (box2_0 w _ _))
  have N1_4 := Lib.hid ((dd4.block (w.heap.size + 1) (by omega)).trans (box2_1 w _ _))
  clear dd4
  have Ow0_4 := Lib.hid OOw0.out
  have LRw0 := Lib.hid Ow0_4.out.lt
  clear OOw0
  have KS5 : Hid (∀ w', Below w4.heap.size w4 w' → (w'.cell? ⟨w.heap.size, 0, none⟩ = some (.int .i64 q0.k) ∧ w'.cell? ⟨w.heap.size, 1, none⟩ = some (.int .i64 q0.y) ∧ w'.cell? ⟨w.heap.size + 1, 0, none⟩ = some (.int .i64 q1.k) ∧ w'.cell? ⟨w.heap.size + 1, 1, none⟩ = some (.int .i64 q1.y))) := by
    intro w' b
    obtain ⟨⟨k0_0, k0_1⟩, -⟩ := boxRg_at ((b.block (w.heap.size) (by omega)).trans (N0_4.out))
    obtain ⟨⟨k1_0, k1_1⟩, -⟩ := boxRg_at ((b.block (w.heap.size + 1) (by omega)).trans (N1_4.out))
    exact ⟨k0_0, k0_1, k1_0, k1_1⟩
  go_wp2_with fail
  go_region_held3 (fun w' => (w'.cell? ⟨w.heap.size, 0, none⟩ = some (.int .i64 q0.k) ∧ w'.cell? ⟨w.heap.size, 1, none⟩ = some (.int .i64 q0.y) ∧ w'.cell? ⟨w.heap.size + 1, 0, none⟩ = some (.int .i64 q1.k) ∧ w'.cell? ⟨w.heap.size + 1, 1, none⟩ = some (.int .i64 q1.y)))
    (first | exact KS5.out _ D8.out | exact KS5.out _ D7.out | exact KS5.out _ D6.out | exact KS5.out _ (Below.refl _ _).drew)
    (first
      | (go_at_call 20; refine (c2.out _ (HT.out _ (E4.out.trans (D7.out.mono (by omega))))).mono ?_; rintro e w8 ⟨vg0, rfl, og0, b8⟩; have D8 : Hid (Below w4.heap.size w4 w8) := D7.out.trans (b8.mono (by have e := D7.out.size; first | exact e | (simp only [World.size_alloc] at e; exact e))))
      | (go_at_call 14; (first | with_reducible refine (toRing_blw q0 _).mono ?_ | with_reducible refine (toRing_blw q1 _).mono ?_); rintro e w7 ⟨rfl, b7⟩; have D7 : Hid (Below w4.heap.size w4 w7) := D6.out.trans (b7.mono (by have e := D6.out.size; first | exact e | (simp only [World.size_alloc] at e; exact e))))
      | (go_at_call 14; (first | with_reducible refine (toRing_blw q0 _).mono ?_ | with_reducible refine (toRing_blw q1 _).mono ?_); rintro e w6 ⟨rfl, b6⟩; have D6 : Hid (Below w4.heap.size w4 w6) := (Below.refl _ _).drew.trans (b6.mono (by simp))))
  have zz8 := D7.out.size
  have dd8 := D8.out
  have OOg0 := Lib.hid (og0.mono (show w4.heap.size ≤ w7.heap.size by have e := D7.out.size; first | exact e | (simp only [World.size_alloc] at e; exact e)))
  clear KS5 zz8 D6 D7 D8 og0
  have z8 : w4.heap.size ≤ w8.heap.size := dd8.size
  have y8 : w.heap.size + 2 ≤ w8.heap.size := by omega
  have E8 : Hid (Below w.heap.size w w8) := E4.out.trans (dd8.mono (by omega))
  have N0_8 := Lib.hid ((dd8.block (w.heap.size) (by omega)).trans N0_4.out)
  have N1_8 := Lib.hid ((dd8.block (w.heap.size + 1) (by omega)).trans N1_4.out)
  have Ow0_8 := Lib.hid (Ow0_4.out.later dd8)
  clear dd8 E4 N0_4 N1_4 Ow0_4
  have Og0_8 := Lib.hid OOg0.out
  have LRg0 := Lib.hid Og0_8.out.lt
  clear OOg0
  go_wp2_with fail
  refine (eqInt64S_same _ _ ys0 _ ((Og0_8.out).rd) ((Ow0_8.out).rd) (by have := LY0.out; omega)).mono ?_
  rintro e w9 ⟨rfl, b9⟩
  have z9 : w8.heap.size ≤ w9.heap.size := b9.size
  have y9 : w.heap.size + 2 ≤ w9.heap.size := by omega
  have E9 : Hid (Below w.heap.size w w9) := E8.out.trans (b9.mono (by omega))
  have N0_9 := Lib.hid ((b9.block (w.heap.size) (by omega)).trans N0_8.out)
  have N1_9 := Lib.hid ((b9.block (w.heap.size + 1) (by omega)).trans N1_8.out)
  have Ow0_9 := Lib.hid (Ow0_8.out.later b9)
  have Og0_9 := Lib.hid (Og0_8.out.later b9)
  clear b9 E8 N0_8 N1_8 Ow0_8 Og0_8
  go_wp2_with fail
  refine (markInts_any _ ys0 _ _ Og0_9.out (by have := LY0.out; omega) (1) (by omega) (by have := LY0.out; omega)).mono ?_
  rintro e w10 ⟨rfl, o10, g10_⟩
  have z10 : w9.heap.size ≤ w10.heap.size := g10_.size
  have y10 : w.heap.size + 2 ≤ w10.heap.size := by omega
  have E10 : Hid (Below w.heap.size w w10) := E9.out.grown g10_ (by omega) (fun c h => by have := LRg0.out c h; omega)
  have N0_10 := Lib.hid ((g10_.block (w.heap.size) (by omega) (fun h => by have := LRg0.out _ h.symm; omega)).trans N0_9.out)
  have N1_10 := Lib.hid ((g10_.block (w.heap.size + 1) (by omega) (fun h => by have := LRg0.out _ h.symm; omega)).trans N1_9.out)
  have Ow0_10 := Lib.hid (Ow0_9.out.kept g10_ (own_far _ _ (fun c h1 h2 => by have e1 := LRw0.out c h1; have e2 := LRg0.out c h2; omega)))
  clear g10_ E9 N0_9 N1_9 Ow0_9 Og0_9
  have Og0_10 := Lib.hid o10
  clear o10
  have mneg74 : ¬ (1 + (ys0.length : Int) < 0) := by omega
  go_wp2_with fail
  refine (heldInts_any _ ys0.length (1) _ ((Og0_10.out).rd) (by have := LY0.out; omega) (by omega) (by have := LY0.out; omega)).mono ?_
  rintro e w' ⟨rfl, rfl⟩
  have KS11 : Hid (∀ w', Below w10.heap.size w10 w' → (w'.cell? ⟨w.heap.size, 0, none⟩ = some (.int .i64 q0.k) ∧ w'.cell? ⟨w.heap.size, 1, none⟩ = some (.int .i64 q0.y) ∧ w'.cell? ⟨w.heap.size + 1, 0, none⟩ = some (.int .i64 q1.k) ∧ w'.cell? ⟨w.heap.size + 1, 1, none⟩ = some (.int .i64 q1.y))) := by
    intro w' b
    obtain ⟨⟨k0_0, k0_1⟩, -⟩ := boxRg_at ((b.block (w.heap.size) (by omega)).trans (N0_10.out))
    obtain ⟨⟨k1_0, k1_1⟩, -⟩ := boxRg_at ((b.block (w.heap.size + 1) (by omega)).trans (N1_10.out))
    exact ⟨k0_0, k0_1, k1_0, k1_1⟩
  go_wp2_with fail
  go_region_held3 (fun w' => (w'.cell? ⟨w.heap.size, 0, none⟩ = some (.int .i64 q0.k) ∧ w'.cell? ⟨w.heap.size, 1, none⟩ = some (.int .i64 q0.y) ∧ w'.cell? ⟨w.heap.size + 1, 0, none⟩ = some (.int .i64 q1.k) ∧ w'.cell? ⟨w.heap.size + 1, 1, none⟩ = some (.int .i64 q1.y)))
    (first | exact KS11.out _ D14.out | exact KS11.out _ D13.out | exact KS11.out _ D12.out | exact KS11.out _ (Below.refl _ _).drew)
    (first
      | (go_at_call 20; refine (c2.out _ (HT.out _ (E10.out.trans (D13.out.mono (by omega))))).mono ?_; rintro e w14 ⟨vh0, rfl, oh0, b14⟩; have D14 : Hid (Below w10.heap.size w10 w14) := D13.out.trans (b14.mono (by have e := D13.out.size; first | exact e | (simp only [World.size_alloc] at e; exact e))))
      | (go_at_call 14; (first | with_reducible refine (toRing_blw q0 _).mono ?_ | with_reducible refine (toRing_blw q1 _).mono ?_); rintro e w13 ⟨rfl, b13⟩; have D13 : Hid (Below w10.heap.size w10 w13) := D12.out.trans (b13.mono (by have e := D12.out.size; first | exact e | (simp only [World.size_alloc] at e; exact e))))
      | (go_at_call 14; (first | with_reducible refine (toRing_blw q0 _).mono ?_ | with_reducible refine (toRing_blw q1 _).mono ?_); rintro e w12 ⟨rfl, b12⟩; have D12 : Hid (Below w10.heap.size w10 w12) := (Below.refl _ _).drew.trans (b12.mono (by simp))))
  have zz14 := D13.out.size
  have dd14 := D14.out
  have OOh0 := Lib.hid (oh0.mono (show w10.heap.size ≤ w13.heap.size by have e := D13.out.size; first | exact e | (simp only [World.size_alloc] at e; exact e)))
  clear KS11 zz14 D12 D13 D14 oh0
  have z14 : w10.heap.size ≤ w14.heap.size := dd14.size
  have y14 : w.heap.size + 2 ≤ w14.heap.size := by omega
  have E14 : Hid (Below w.heap.size w w14) := E10.out.trans (dd14.mono (by omega))
  have N0_14 := Lib.hid ((dd14.block (w.heap.size) (by omega)).trans N0_10.out)
  have N1_14 := Lib.hid ((dd14.block (w.heap.size + 1) (by omega)).trans N1_10.out)
  have Ow0_14 := Lib.hid (Ow0_10.out.later dd14)
  have Og0_14 := Lib.hid (Og0_10.out.later dd14)
  clear dd14 E10 N0_10 N1_10 Ow0_10 Og0_10
  have Oh0_14 := Lib.hid OOh0.out
  have LRh0 := Lib.hid Oh0_14.out.lt
  clear OOh0
  go_wp2_with fail
  refine (eqInt64S_same _ _ ys0 _ ((Oh0_14.out).rd) ((Ow0_14.out).rd) (by have := LY0.out; omega)).mono ?_
  rintro e w15 ⟨rfl, b15⟩
  have z15 : w14.heap.size ≤ w15.heap.size := b15.size
  have y15 : w.heap.size + 2 ≤ w15.heap.size := by omega
  have E15 : Hid (Below w.heap.size w w15) := E14.out.trans (b15.mono (by omega))
  have N0_15 := Lib.hid ((b15.block (w.heap.size) (by omega)).trans N0_14.out)
  have N1_15 := Lib.hid ((b15.block (w.heap.size + 1) (by omega)).trans N1_14.out)
  have Ow0_15 := Lib.hid (Ow0_14.out.later b15)
  have Og0_15 := Lib.hid (Og0_14.out.later b15)
  have Oh0_15 := Lib.hid (Oh0_14.out.later b15)
  clear b15 E14 N0_14 N1_14 Ow0_14 Og0_14 Oh0_14
  go_wp2_with fail
  refine (heldInts_any _ ys0.length (1) _ ((Og0_15.out).rd) (by have := LY0.out; omega) (by omega) (by have := LY0.out; omega)).mono ?_
  rintro e w' ⟨rfl, rfl⟩
  go_wp2
  go_ret
  exact ⟨rfl, E15.out⟩

set_option maxRecDepth 100000 in
theorem walkFnExactMeetingJoints (q0 : Rg) (wq0 : (Lit.int .i64 q0.k).wf = true ∧ (Lit.int .i64 q0.y).wf = true) (q1 : Rg) (wq1 : (Lit.int .i64 q1.k).wf = true ∧ (Lit.int .i64 q1.y).wf = true) (w : World) (hT : TDebL w) :
    Calls Tryd.prog 5 #[(.agg #[.int .i64 q0.k, .int .i64 q0.y]), (.agg #[.int .i64 q1.k, .int .i64 q1.y])] w fun e w' => e = .returned (.bool true) ∧ Below w.heap.size w w' := by
  obtain ⟨ys0, r1, ly0, c1, c2⟩ := exMeetingJoints q0 q1
  exact meetingJoints_law q0 q1 w TDebL (fun w' b => TDebL.later hT b)  ys0 r1 ly0 c1 c2
end Go.Proofs.YtgockhlainnnnacDoor
