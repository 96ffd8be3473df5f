/- The law of MachineText. -/
import Derived.Test.YthhnnkgfnhggbabDoorMachT
import Derived.Test.YthhnnkgfnhggbabDoorExKit
import Derived.Deep.RegionHeld3
namespace Go.Proofs.YthhnnkgfnhggbabDoor
open Go.ChangeShapes Go.WideShapes Go.ChangeAt Go.RowKit
set_option linter.unusedVariables false
set_option linter.unusedSimpArgs false

set_option maxRecDepth 100000 in
set_option maxHeartbeats 8000000 in
theorem machineText_law (q0 : Mc) (w : World) (T : World → Prop) (hT : ∀ w', Below w.heap.size w w' → T w') (r0 : ByteArray) (r1 : Bool) 
    (c1 : Hid (∀ (w : World), T w → Calls Tryd.prog 38 #[(.agg #[.int .i64 q0.u.s, .int .i64 q0.u.h, .int .i64 q0.u.y, .int .i64 q0.u.p, .int .i64 q0.t.s, .int .i64 q0.t.h, .int .i64 q0.t.y, .int .i64 q0.t.p, .int .i64 q0.a])] w fun e w' => e = .returned (.tuple #[.string r0, .bool r1]) ∧ Below w.heap.size w w'))
    (c2 : Hid (∀ (w : World), T w → Calls Tryd.prog 40 #[(.agg #[.int .i64 q0.u.s, .int .i64 q0.u.h, .int .i64 q0.u.y, .int .i64 q0.u.p, .int .i64 q0.t.s, .int .i64 q0.t.h, .int .i64 q0.t.y, .int .i64 q0.t.p, .int .i64 q0.a])] w fun e w' => e = .returned (.tuple #[.string r0, .bool r1]) ∧ Below w.heap.size w w')) :
    Calls Tryd.prog 9 #[(.agg #[.int .i64 q0.u.s, .int .i64 q0.u.h, .int .i64 q0.u.y, .int .i64 q0.u.p, .int .i64 q0.t.s, .int .i64 q0.t.h, .int .i64 q0.t.y, .int .i64 q0.t.p, .int .i64 q0.a])] w fun e w' => e = .returned (.bool true) ∧ Below w.heap.size w w' := by
  have HT := Lib.hid hT
  clear hT
  go_enter Tryd.func9, Tryd.ntmps9
  go_wp2_with fail
  refine (toMachine_blw q0 _).mono ?_
  rintro e w1 ⟨rfl, b1⟩
  have y1 : w.heap.size + 1 ≤ w1.heap.size := by have e := b1.size; simp only [World.size_alloc] at e; omega
  have E1 : Hid (Below w.heap.size w w1) := Below.trans (by go_grown) (b1.mono (by simp only [World.size_alloc]; omega))
  have N0_1 := Lib.hid ((b1.block (w.heap.size) (by simp only [World.size_alloc]; omega)).trans (box1_0 w _))
  clear b1
  go_wp2_with fail
  refine (c1.out _ (HT.out _ E1.out)).mono ?_
  rintro e w2 ⟨rfl, b2⟩
  have z2 : w1.heap.size ≤ w2.heap.size := b2.size
  have y2 : w.heap.size + 1 ≤ w2.heap.size := by omega
  have E2 : Hid (Below w.heap.size w w2) := E1.out.trans (b2.mono (by omega))
  have N0_2 := Lib.hid ((b2.block (w.heap.size) (by omega)).trans N0_1.out)
  clear b2 E1 N0_1
  obtain ⟨⟨k0_0, k0_1, k0_2, k0_3, k0_4, k0_5, k0_6, k0_7, k0_8⟩, -⟩ := boxMc_at N0_2.out
  go_wp2_with fail
  refine (toMachine_blw q0 _).mono ?_
  rintro e w3 ⟨rfl, b3⟩
  clear k0_0 k0_1 k0_2 k0_3 k0_4 k0_5 k0_6 k0_7 k0_8
  have z3 : w2.heap.size ≤ w3.heap.size := b3.size
  have y3 : w.heap.size + 1 ≤ w3.heap.size := by omega
  have E3 : Hid (Below w.heap.size w w3) := E2.out.trans (b3.mono (by omega))
  have N0_3 := Lib.hid ((b3.block (w.heap.size) (by omega)).trans N0_2.out)
  clear b3 E2 N0_2
  go_wp2_with fail
  refine (c2.out _ (HT.out _ E3.out)).mono ?_
  rintro e w4 ⟨rfl, b4⟩
  have z4 : w3.heap.size ≤ w4.heap.size := b4.size
  have y4 : w.heap.size + 1 ≤ w4.heap.size := by omega
  have E4 : Hid (Below w.heap.size w w4) := E3.out.trans (b4.mono (by omega))
  have N0_4 := Lib.hid ((b4.block (w.heap.size) (by omega)).trans N0_3.out)
  clear b4 E3 N0_3
  go_wp2
  go_ret
  exact ⟨rfl, E4.out⟩

set_option maxRecDepth 100000 in
theorem walkFnExactMachineText (q0 : Mc) (wq0 : WfM q0) (w : World) (hT : TDec w) :
    Calls Tryd.prog 9 #[(.agg #[.int .i64 q0.u.s, .int .i64 q0.u.h, .int .i64 q0.u.y, .int .i64 q0.u.p, .int .i64 q0.t.s, .int .i64 q0.t.h, .int .i64 q0.t.y, .int .i64 q0.t.p, .int .i64 q0.a])] w fun e w' => e = .returned (.bool true) ∧ Below w.heap.size w w' := by
  obtain ⟨r0, r1, c1, c2⟩ := exMachineText q0
  exact machineText_law q0 w TDec (fun w' b => TDec.later hT b)  r0 r1  c1 c2
end Go.Proofs.YthhnnkgfnhggbabDoor
