/- The law of JointsOf. -/
import Derived.Test.YtgockhlainnnnacDoorRingD
import Derived.Test.YtgockhlainnnnacDoorExKit
import Derived.Deep.RegionHeld3
namespace Go.Proofs.YtgockhlainnnnacDoor
open Go.ChangeShapes Go.WideShapes Go.ChangeAt Go.RowKit
set_option linter.unusedVariables false
set_option linter.unusedSimpArgs false

set_option maxRecDepth 100000 in
set_option maxHeartbeats 8000000 in
theorem jointsOf_law (q0 : Rg) (w : World) (T : World → Prop) (hT : ∀ w', Below w.heap.size w w' → T w') (ys0 : List Int) (r1 : Bool) (ly0 : ys0.length ≤ 1048576)
    (c1 : Hid (∀ (w : World), T w → Calls Tryd.prog 13 #[(.agg #[.int .i64 q0.k, .int .i64 q0.y])] w fun e w' => ∃ u0, e = .returned (.tuple #[u0, .bool r1]) ∧ OwnI w' w.heap.size u0 ys0 ∧ Below w.heap.size w w'))
    (c2 : Hid (∀ (w : World), T w → Calls Tryd.prog 15 #[(.agg #[.int .i64 q0.k, .int .i64 q0.y])] w fun e w' => ∃ u0, e = .returned (.tuple #[u0, .bool r1]) ∧ OwnI w' w.heap.size u0 ys0 ∧ Below w.heap.size w w')) :
    Calls Tryd.prog 4 #[(.agg #[.int .i64 q0.k, .int .i64 q0.y])] w fun e w' => e = .returned (.bool true) ∧ Below w.heap.size w w' := by
  have HT := Lib.hid hT
  have LY0 := Lib.hid ly0
  clear hT ly0
  go_enter Tryd.func4, Tryd.ntmps4
  go_wp2_with fail
  refine (toRing_blw q0 _).mono ?_
  rintro e w1 ⟨rfl, b1⟩
  have y1 : w.heap.size + 1 ≤ w1.heap.size := by have e := b1.size; simp only [World.size_alloc] at e; omega
  have E1 : Hid (Below w.heap.size w w1) := Below.trans (by go_grown) (b1.mono (by simp only [World.size_alloc]; omega))
  have N0_1 := Lib.hid ((b1.block (w.heap.size) (by simp only [World.size_alloc]; omega)).trans (box1_0 w _))
  clear b1
  go_wp2_with fail
  refine (c1.out _ (HT.out _ E1.out)).mono ?_
  rintro e w2 ⟨vw0, rfl, ow0, b2⟩
  have z2 : w1.heap.size ≤ w2.heap.size := b2.size
  have y2 : w.heap.size + 1 ≤ w2.heap.size := by omega
  have E2 : Hid (Below w.heap.size w w2) := E1.out.trans (b2.mono (by omega))
  have N0_2 := Lib.hid ((b2.block (w.heap.size) (by omega)).trans N0_1.out)
  clear b2 E1 N0_1
  have Ow0_2 := Lib.hid ow0
  have LRw0 := Lib.hid Ow0_2.out.lt
  clear ow0
  obtain ⟨⟨k0_0, k0_1⟩, -⟩ := boxRg_at N0_2.out
  go_wp2_with fail
  refine (toRing_blw q0 _).mono ?_
  rintro e w3 ⟨rfl, b3⟩
  clear k0_0 k0_1
  have z3 : w2.heap.size ≤ w3.heap.size := b3.size
  have y3 : w.heap.size + 1 ≤ w3.heap.size := by omega
  have E3 : Hid (Below w.heap.size w w3) := E2.out.trans (b3.mono (by omega))
  have N0_3 := Lib.hid ((b3.block (w.heap.size) (by omega)).trans N0_2.out)
  have Ow0_3 := Lib.hid (Ow0_2.out.later b3)
  clear b3 E2 N0_2 Ow0_2
  go_wp2_with fail
  refine (c2.out _ (HT.out _ E3.out)).mono ?_
  rintro e w4 ⟨vg0, rfl, og0, b4⟩
  have z4 : w3.heap.size ≤ w4.heap.size := b4.size
  have y4 : w.heap.size + 1 ≤ w4.heap.size := by omega
  have E4 : Hid (Below w.heap.size w w4) := E3.out.trans (b4.mono (by omega))
  have N0_4 := Lib.hid ((b4.block (w.heap.size) (by omega)).trans N0_3.out)
  have Ow0_4 := Lib.hid (Ow0_3.out.later b4)
  clear b4 E3 N0_3 Ow0_3
  have Og0_4 := Lib.hid og0
  have LRg0 := Lib.hid Og0_4.out.lt
  clear og0
  go_wp2_with fail
  refine (eqInt64S_same _ _ ys0 _ ((Og0_4.out).rd) ((Ow0_4.out).rd) (by have := LY0.out; omega)).mono ?_
  rintro e w5 ⟨rfl, b5⟩
  have z5 : w4.heap.size ≤ w5.heap.size := b5.size
  have y5 : w.heap.size + 1 ≤ w5.heap.size := by omega
  have E5 : Hid (Below w.heap.size w w5) := E4.out.trans (b5.mono (by omega))
  have N0_5 := Lib.hid ((b5.block (w.heap.size) (by omega)).trans N0_4.out)
  have Ow0_5 := Lib.hid (Ow0_4.out.later b5)
  have Og0_5 := Lib.hid (Og0_4.out.later b5)
  clear b5 E4 N0_4 Ow0_4 Og0_4
  go_wp2_with fail
  refine (markInts_any _ ys0 _ _ Og0_5.out (by have := LY0.out; omega) (1) (by omega) (by have := LY0.out; omega)).mono ?_
  rintro e w6 ⟨rfl, o6, g6_⟩
  have z6 : w5.heap.size ≤ w6.heap.size := g6_.size
  have y6 : w.heap.size + 1 ≤ w6.heap.size := by omega
  have E6 : Hid (Below w.heap.size w w6) := E5.out.grown g6_ (by omega) (fun c h => by have := LRg0.out c h; omega)
  have N0_6 := Lib.hid ((g6_.block (w.heap.size) (by omega) (fun h => by have := LRg0.out _ h.symm; omega)).trans N0_5.out)
  have Ow0_6 := Lib.hid (Ow0_5.out.kept g6_ (own_far _ _ (fun c h1 h2 => by have e1 := LRw0.out c h1; have e2 := LRg0.out c h2; omega)))
  clear g6_ E5 N0_5 Ow0_5 Og0_5
  have Og0_6 := Lib.hid o6
  clear o6
  have mneg69 : ¬ (1 + (ys0.length : Int) < 0) := by omega
  go_wp2_with fail
  refine (heldInts_any _ ys0.length (1) _ ((Og0_6.out).rd) (by have := LY0.out; omega) (by omega) (by have := LY0.out; omega)).mono ?_
  rintro e w' ⟨rfl, rfl⟩
  obtain ⟨⟨k0_0, k0_1⟩, -⟩ := boxRg_at N0_6.out
  go_wp2_with fail
  refine (toRing_blw q0 _).mono ?_
  rintro e w7 ⟨rfl, b7⟩
  clear k0_0 k0_1
  have z7 : w6.heap.size ≤ w7.heap.size := b7.size
  have y7 : w.heap.size + 1 ≤ w7.heap.size := by omega
  have E7 : Hid (Below w.heap.size w w7) := E6.out.trans (b7.mono (by omega))
  have N0_7 := Lib.hid ((b7.block (w.heap.size) (by omega)).trans N0_6.out)
  have Ow0_7 := Lib.hid (Ow0_6.out.later b7)
  have Og0_7 := Lib.hid (Og0_6.out.later b7)
  clear b7 E6 N0_6 Ow0_6 Og0_6
  go_wp2_with fail
  refine (c2.out _ (HT.out _ E7.out)).mono ?_
  rintro e w8 ⟨vh0, rfl, oh0, b8⟩
  have z8 : w7.heap.size ≤ w8.heap.size := b8.size
  have y8 : w.heap.size + 1 ≤ w8.heap.size := by omega
  have E8 : Hid (Below w.heap.size w w8) := E7.out.trans (b8.mono (by omega))
  have N0_8 := Lib.hid ((b8.block (w.heap.size) (by omega)).trans N0_7.out)
  have Ow0_8 := Lib.hid (Ow0_7.out.later b8)
  have Og0_8 := Lib.hid (Og0_7.out.later b8)
  clear b8 E7 N0_7 Ow0_7 Og0_7
  have Oh0_8 := Lib.hid oh0
  have LRh0 := Lib.hid Oh0_8.out.lt
  clear oh0
  go_wp2_with fail
  refine (eqInt64S_same _ _ ys0 _ ((Oh0_8.out).rd) ((Ow0_8.out).rd) (by have := LY0.out; omega)).mono ?_
  rintro e w9 ⟨rfl, b9⟩
  have z9 : w8.heap.size ≤ w9.heap.size := b9.size
  have y9 : w.heap.size + 1 ≤ w9.heap.size := by omega
  have E9 : Hid (Below w.heap.size w w9) := E8.out.trans (b9.mono (by omega))
  have N0_9 := Lib.hid ((b9.block (w.heap.size) (by omega)).trans N0_8.out)
  have Ow0_9 := Lib.hid (Ow0_8.out.later b9)
  have Og0_9 := Lib.hid (Og0_8.out.later b9)
  have Oh0_9 := Lib.hid (Oh0_8.out.later b9)
  clear b9 E8 N0_8 Ow0_8 Og0_8 Oh0_8
  go_wp2_with fail
  refine (heldInts_any _ ys0.length (1) _ ((Og0_9.out).rd) (by have := LY0.out; omega) (by omega) (by have := LY0.out; omega)).mono ?_
  rintro e w' ⟨rfl, rfl⟩
  go_wp2
  go_ret
  exact ⟨rfl, E9.out⟩

set_option maxRecDepth 100000 in
theorem walkFnExactJointsOf (q0 : Rg) (wq0 : (Lit.int .i64 q0.k).wf = true ∧ (Lit.int .i64 q0.y).wf = true) (w : World) (hT : TDebL w) :
    Calls Tryd.prog 4 #[(.agg #[.int .i64 q0.k, .int .i64 q0.y])] w fun e w' => e = .returned (.bool true) ∧ Below w.heap.size w w' := by
  obtain ⟨ys0, r1, ly0, c1, c2⟩ := exJointsOf q0
  exact jointsOf_law q0 w TDebL (fun w' b => TDebL.later hT b)  ys0 r1 ly0 c1 c2
end Go.Proofs.YtgockhlainnnnacDoor
