/- The law of ReadyBy. -/
import Derived.Test.YtmdddjhlfpmgdaaWorkI
import Derived.Test.YtmdddjhlfpmgdaaExKit
import Derived.Deep.RegionHeld3
namespace Go.Proofs.Ytmdddjhlfpmgdaa
open Go.ChangeShapes Go.WideShapes Go.ChangeAt Go.RowKit
set_option linter.unusedVariables false
set_option linter.unusedSimpArgs false

set_option maxRecDepth 100000 in
set_option maxHeartbeats 8000000 in
theorem readyBy_law (q0 : Wk) (a1 : Int) (w : World) (T : World → Prop) (hT : ∀ w', Below w.heap.size w w' → T w') (r0 : Int) (r1 : Bool) 
    (c1 : Hid (∀ (w : World), T w → Calls Try.prog 19 #[(.agg #[.int .i64 q0.m, .int .i64 q0.c, .int .i64 q0.u]), .int .i64 a1] w fun e w' => e = .returned (.tuple #[.int .i64 r0, .bool r1]) ∧ Below w.heap.size w w'))
    (c2 : Hid (∀ (w : World), T w → Calls Try.prog 20 #[(.agg #[.int .i64 q0.m, .int .i64 q0.c, .int .i64 q0.u]), .int .i64 a1] w fun e w' => e = .returned (.tuple #[.int .i64 r0, .bool r1]) ∧ Below w.heap.size w w')) :
    Calls Try.prog 5 #[(.agg #[.int .i64 q0.m, .int .i64 q0.c, .int .i64 q0.u]), .int .i64 a1] w fun e w' => e = .returned (.bool true) ∧ Below w.heap.size w w' := by
  have HT := Lib.hid hT
  clear hT
  go_enter Try.func5, Try.ntmps5
  go_wp2_with fail
  refine (toWorks_blw q0 _).mono ?_
  rintro e w1 ⟨rfl, b1⟩
  have y1 : w.heap.size + 1 ≤ w1.heap.size := by have e := b1.size; simp only [World.size_alloc] at e; omega
  have E1 : Hid (Below w.heap.size w w1) := Below.trans (by go_grown) (b1.mono (by simp only [World.size_alloc]; omega))
  have N0_1 := Lib.hid ((b1.block (w.heap.size) (by simp only [World.size_alloc]; omega)).trans (box1_0 w _))
  clear b1
  go_wp2_with fail
  refine (c1.out _ (HT.out _ E1.out)).mono ?_
  rintro e w2 ⟨rfl, b2⟩
  have z2 : w1.heap.size ≤ w2.heap.size := b2.size
  have y2 : w.heap.size + 1 ≤ w2.heap.size := by omega
  have E2 : Hid (Below w.heap.size w w2) := E1.out.trans (b2.mono (by omega))
  have N0_2 := Lib.hid ((b2.block (w.heap.size) (by omega)).trans N0_1.out)
  clear b2 E1 N0_1
  obtain ⟨⟨k0_0, k0_1, k0_2⟩, -⟩ := boxWk_at N0_2.out
  go_wp2_with fail
  refine (toWorks_blw q0 _).mono ?_
  rintro e w3 ⟨rfl, b3⟩
  clear k0_0 k0_1 k0_2
  have z3 : w2.heap.size ≤ w3.heap.size := b3.size
  have y3 : w.heap.size + 1 ≤ w3.heap.size := by omega
  have E3 : Hid (Below w.heap.size w w3) := E2.out.trans (b3.mono (by omega))
  have N0_3 := Lib.hid ((b3.block (w.heap.size) (by omega)).trans N0_2.out)
  clear b3 E2 N0_2
  go_wp2_with fail
  refine (c2.out _ (HT.out _ E3.out)).mono ?_
  rintro e w4 ⟨rfl, b4⟩
  have z4 : w3.heap.size ≤ w4.heap.size := b4.size
  have y4 : w.heap.size + 1 ≤ w4.heap.size := by omega
  have E4 : Hid (Below w.heap.size w w4) := E3.out.trans (b4.mono (by omega))
  have N0_4 := Lib.hid ((b4.block (w.heap.size) (by omega)).trans N0_3.out)
  clear b4 E3 N0_3
  go_wp2
  go_ret
  exact ⟨rfl, E4.out⟩

set_option maxRecDepth 100000 in
theorem walkFnExactReadyBy (q0 : Wk) (wq0 : (Lit.int .i64 q0.m).wf = true ∧ (Lit.int .i64 q0.c).wf = true ∧ (Lit.int .i64 q0.u).wf = true) (a1 : Int) (wa1 : (Lit.int .i64 a1).wf = true) (w : World) :
    Calls Try.prog 5 #[(.agg #[.int .i64 q0.m, .int .i64 q0.c, .int .i64 q0.u]), .int .i64 a1] w fun e w' => e = .returned (.bool true) ∧ Below w.heap.size w w' := by
  obtain ⟨r0, r1, c1, c2⟩ := exReadyBy q0 a1
  exact readyBy_law q0 a1 w (fun _ => True) (fun _ _ => trivial)  r0 r1  c1 c2
end Go.Proofs.Ytmdddjhlfpmgdaa
