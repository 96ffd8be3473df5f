/- The law of TroughOf. -/
import Derived.Test.YtonblcbdmblpbabTrI
import Derived.Test.YtonblcbdmblpbabExKit
import Derived.Deep.RegionHeld3
namespace Go.Proofs.Ytonblcbdmblpbab
open Go.ChangeShapes Go.WideShapes Go.ChangeAt Go.RowKit
set_option linter.unusedVariables false
set_option linter.unusedSimpArgs false

set_option maxRecDepth 100000 in
set_option maxHeartbeats 8000000 in
theorem troughOf_law (a0 : Int) (a1 : Int) (w : World) (T : World → Prop) (hT : ∀ w', Below w.heap.size w w' → T w') (ys0 : List Int) (r1 : Bool) (ly0 : ys0.length ≤ 1048576)
    (c1 : Hid (∀ (w : World), T w → Calls Try.prog 24 #[.int .i64 a0, .int .i64 a1] w fun e w' => ∃ u0, e = .returned (.tuple #[u0, .bool r1]) ∧ OwnI w' w.heap.size u0 ys0 ∧ Below w.heap.size w w'))
    (c2 : Hid (∀ (w : World), T w → Calls Try.prog 25 #[.int .i64 a0, .int .i64 a1] w fun e w' => ∃ u0, e = .returned (.tuple #[u0, .bool r1]) ∧ OwnI w' w.heap.size u0 ys0 ∧ Below w.heap.size w w')) :
    Calls Try.prog 5 #[.int .i64 a0, .int .i64 a1] w fun e w' => e = .returned (.bool true) ∧ Below w.heap.size w w' := by
  have HT := Lib.hid hT
  have LY0 := Lib.hid ly0
  clear hT ly0
  go_enter Try.func5, Try.ntmps5
  go_wp2_with fail
  refine (c1.out _ (HT.out _ (by go_grown))).mono ?_
  rintro e w1 ⟨vw0, rfl, ow0, b1⟩
  have y1 : w.heap.size ≤ w1.heap.size := b1.size
  have E1 : Hid (Below w.heap.size w w1) := b1
  clear b1
  have Ow0_1 := Lib.hid ow0
  have LRw0 := Lib.hid Ow0_1.out.lt
  clear ow0
  go_wp2_with fail
  refine (c2.out _ (HT.out _ E1.out)).mono ?_
  rintro e w2 ⟨vg0, rfl, og0, b2⟩
  have z2 : w1.heap.size ≤ w2.heap.size := b2.size
  have y2 : w.heap.size ≤ w2.heap.size := by omega
  have E2 : Hid (Below w.heap.size w w2) := E1.out.trans (b2.mono (by omega))
  have Ow0_2 := Lib.hid (Ow0_1.out.later b2)
  clear b2 E1 Ow0_1
  have Og0_2 := Lib.hid og0
  have LRg0 := Lib.hid Og0_2.out.lt
  clear og0
  go_wp2_with fail
  refine (eqInt64S_same _ _ ys0 _ ((Og0_2.out).rd) ((Ow0_2.out).rd) (by have := LY0.out; omega)).mono ?_
  rintro e w3 ⟨rfl, b3⟩
  have z3 : w2.heap.size ≤ w3.heap.size := b3.size
  have y3 : w.heap.size ≤ w3.heap.size := by omega
  have E3 : Hid (Below w.heap.size w w3) := E2.out.trans (b3.mono (by omega))
  have Ow0_3 := Lib.hid (Ow0_2.out.later b3)
  have Og0_3 := Lib.hid (Og0_2.out.later b3)
  clear b3 E2 Ow0_2 Og0_2
  go_wp2_with fail
  refine (markInts_any _ ys0 _ _ Og0_3.out (by have := LY0.out; omega) (1) (by omega) (by have := LY0.out; omega)).mono ?_
  rintro e w4 ⟨rfl, o4, g4_⟩
  have z4 : w3.heap.size ≤ w4.heap.size := g4_.size
  have y4 : w.heap.size ≤ w4.heap.size := by omega
  have E4 : Hid (Below w.heap.size w w4) := E3.out.grown g4_ (by omega) (fun c h => by have := LRg0.out c h; omega)
  have Ow0_4 := Lib.hid (Ow0_3.out.kept g4_ (own_far _ _ (fun c h1 h2 => by have e1 := LRw0.out c h1; have e2 := LRg0.out c h2; omega)))
  clear g4_ E3 Ow0_3 Og0_3
  have Og0_4 := Lib.hid o4
  clear o4
  have mneg48 : ¬ (1 + (ys0.length : Int) < 0) := by omega
  go_wp2_with fail
  refine (heldInts_any _ ys0.length (1) _ ((Og0_4.out).rd) (by have := LY0.out; omega) (by omega) (by have := LY0.out; omega)).mono ?_
  rintro e w' ⟨rfl, rfl⟩
  go_wp2_with fail
  refine (c2.out _ (HT.out _ E4.out)).mono ?_
  rintro e w5 ⟨vh0, rfl, oh0, b5⟩
  have z5 : w4.heap.size ≤ w5.heap.size := b5.size
  have y5 : w.heap.size ≤ w5.heap.size := by omega
  have E5 : Hid (Below w.heap.size w w5) := E4.out.trans (b5.mono (by omega))
  have Ow0_5 := Lib.hid (Ow0_4.out.later b5)
  have Og0_5 := Lib.hid (Og0_4.out.later b5)
  clear b5 E4 Ow0_4 Og0_4
  have Oh0_5 := Lib.hid oh0
  have LRh0 := Lib.hid Oh0_5.out.lt
  clear oh0
  go_wp2_with fail
  refine (eqInt64S_same _ _ ys0 _ ((Oh0_5.out).rd) ((Ow0_5.out).rd) (by have := LY0.out; omega)).mono ?_
  rintro e w6 ⟨rfl, b6⟩
  have z6 : w5.heap.size ≤ w6.heap.size := b6.size
  have y6 : w.heap.size ≤ w6.heap.size := by omega
  have E6 : Hid (Below w.heap.size w w6) := E5.out.trans (b6.mono (by omega))
  have Ow0_6 := Lib.hid (Ow0_5.out.later b6)
  have Og0_6 := Lib.hid (Og0_5.out.later b6)
  have Oh0_6 := Lib.hid (Oh0_5.out.later b6)
  clear b6 E5 Ow0_5 Og0_5 Oh0_5
  go_wp2_with fail
  refine (heldInts_any _ ys0.length (1) _ ((Og0_6.out).rd) (by have := LY0.out; omega) (by omega) (by have := LY0.out; omega)).mono ?_
  rintro e w' ⟨rfl, rfl⟩
  go_wp2
  go_ret
  exact ⟨rfl, E6.out⟩

set_option maxRecDepth 100000 in
theorem walkFnExactTroughOf (a0 : Int) (wa0 : (Lit.int .i64 a0).wf = true) (a1 : Int) (wa1 : (Lit.int .i64 a1).wf = true) (w : World) :
    Calls Try.prog 5 #[.int .i64 a0, .int .i64 a1] w fun e w' => e = .returned (.bool true) ∧ Below w.heap.size w w' := by
  obtain ⟨ys0, r1, ly0, c1, c2⟩ := exTroughOf a0 a1
  exact troughOf_law a0 a1 w (fun _ => True) (fun _ _ => trivial)  ys0 r1 ly0 c1 c2
end Go.Proofs.Ytonblcbdmblpbab
