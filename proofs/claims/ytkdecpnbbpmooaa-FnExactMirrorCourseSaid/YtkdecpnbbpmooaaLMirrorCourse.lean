/- The law of MirrorCourse. -/
import Derived.Test.YtkdecpnbbpmooaaSteerM2
import Derived.Test.YtkdecpnbbpmooaaExKit
import Derived.Deep.RegionHeld3
namespace Go.Proofs.Ytkdecpnbbpmooaa
open Go.ChangeShapes Go.WideShapes Go.ChangeAt Go.RowKit
set_option linter.unusedVariables false
set_option linter.unusedSimpArgs false

set_option maxRecDepth 100000 in
set_option maxHeartbeats 8000000 in
theorem mirrorCourse_law (q0 : Co) (w : World) (T : World → Prop) (hT : ∀ w', Below w.heap.size w w' → T w') (r0 : Co) 
    (c1 : Hid (∀ (w : World), T w → Calls Try.prog 32 #[(.agg #[.int .i64 q0.o, .int .i64 q0.h, .int .i64 q0.t])] w fun e w' => e = .returned ((.agg #[.int .i64 r0.o, .int .i64 r0.h, .int .i64 r0.t])) ∧ Below w.heap.size w w'))
    (c2 : Hid (∀ (w : World), T w → Calls Try.prog 33 #[(.agg #[.int .i64 q0.o, .int .i64 q0.h, .int .i64 q0.t])] w fun e w' => e = .returned ((.agg #[.int .i64 r0.o, .int .i64 r0.h, .int .i64 r0.t])) ∧ Below w.heap.size w w')) :
    Calls Try.prog 8 #[(.agg #[.int .i64 q0.o, .int .i64 q0.h, .int .i64 q0.t])] w fun e w' => e = .returned (.bool true) ∧ Below w.heap.size w w' := by
  have HT := Lib.hid hT
  clear hT
  go_enter Try.func8, Try.ntmps8
  go_wp2_with fail
  refine (toCourse_blw q0 _).mono ?_
  rintro e w1 ⟨rfl, b1⟩
  have y1 : w.heap.size + 1 ≤ w1.heap.size := by have e := b1.size; simp only [World.size_alloc] at e; omega
  have E1 : Hid (Below w.heap.size w w1) := Below.trans (by go_grown) (b1.mono (by simp only [World.size_alloc]; omega))
  have N0_1 := Lib.hid ((b1.block (w.heap.size) (by simp only [World.size_alloc]; omega)).trans (box1_0 w _))
  clear b1
  go_wp2_with fail
  refine (c1.out _ (HT.out _ E1.out)).mono ?_
  rintro e w2 ⟨rfl, b2⟩
  have z2 : w1.heap.size ≤ w2.heap.size := b2.size
  have y2 : w.heap.size + 1 ≤ w2.heap.size := by omega
  have E2 : Hid (Below w.heap.size w w2) := E1.out.trans (b2.mono (by omega))
  have N0_2 := Lib.hid ((b2.block (w.heap.size) (by omega)).trans N0_1.out)
  clear b2 E1 N0_1
  obtain ⟨⟨k0_0, k0_1, k0_2⟩, -⟩ := boxCo_at N0_2.out
  have nz0 : ¬ w.heap.size = w2.heap.size := by omega
  have nl0 : w.heap.size < w2.heap.size := by omega
  go_wp2_with fail
  generalize hx3 : w2.alloc (.cells #[.int .i64 r0.o, .int .i64 r0.h, .int .i64 r0.t] 31) = w3
  have bb3 : Below w2.heap.size w2 w3 := by rw [← hx3]; go_grown
  have zb3 : w3.heap.size = w2.heap.size + 1 := by rw [← hx3]; simp
  have nb3 : w3.heap[w2.heap.size]? = some (.cells #[.int .i64 r0.o, .int .i64 r0.h, .int .i64 r0.t] 31 (0, 0)) := by rw [← hx3]; exact heap_alloc_new _ _
  clear hx3 k0_0 k0_1 k0_2 nz0 nl0
  have z3 : w2.heap.size ≤ w3.heap.size := bb3.size
  have y3 : w.heap.size + 1 ≤ w3.heap.size := by omega
  have E3 : Hid (Below w.heap.size w w3) := E2.out.trans (bb3.mono (by omega))
  have N0_3 := Lib.hid ((bb3.block (w.heap.size) (by omega)).trans N0_2.out)
  clear bb3 E2 N0_2
  have NBw0_3 := Lib.hid nb3
  clear nb3
  refine (toCourse_blw q0 _).mono ?_
  rintro e w4 ⟨rfl, b4⟩
  have z4 : w3.heap.size ≤ w4.heap.size := b4.size
  have y4 : w.heap.size + 1 ≤ w4.heap.size := by omega
  have E4 : Hid (Below w.heap.size w w4) := E3.out.trans (b4.mono (by omega))
  have N0_4 := Lib.hid ((b4.block (w.heap.size) (by omega)).trans N0_3.out)
  have NBw0_4 := Lib.hid ((b4.block (w2.heap.size) (by omega)).trans NBw0_3.out)
  clear NBw0_3
  clear b4 E3 N0_3
  go_wp2_with fail
  refine (c2.out _ (HT.out _ E4.out)).mono ?_
  rintro e w5 ⟨rfl, b5⟩
  have z5 : w4.heap.size ≤ w5.heap.size := b5.size
  have y5 : w.heap.size + 1 ≤ w5.heap.size := by omega
  have E5 : Hid (Below w.heap.size w w5) := E4.out.trans (b5.mono (by omega))
  have N0_5 := Lib.hid ((b5.block (w.heap.size) (by omega)).trans N0_4.out)
  have NBw0_5 := Lib.hid ((b5.block (w2.heap.size) (by omega)).trans NBw0_4.out)
  clear NBw0_4
  clear b5 E4 N0_4
  obtain ⟨⟨kx0_0, kx0_1, kx0_2⟩, -⟩ := boxCo_at NBw0_5.out
  have nzw : ¬ w2.heap.size = w5.heap.size := by omega
  have nlw : w2.heap.size < w5.heap.size := by omega
  go_wp2_with fail
  generalize hx6 : w5.alloc (.cells #[.int .i64 r0.o, .int .i64 r0.h, .int .i64 r0.t] 31) = w6
  have bb6 : Below w5.heap.size w5 w6 := by rw [← hx6]; go_grown
  have zb6 : w6.heap.size = w5.heap.size + 1 := by rw [← hx6]; simp
  have nb6 : w6.heap[w5.heap.size]? = some (.cells #[.int .i64 r0.o, .int .i64 r0.h, .int .i64 r0.t] 31 (0, 0)) := by rw [← hx6]; exact heap_alloc_new _ _
  clear hx6 nlw kx0_0 kx0_1 kx0_2 nzw
  have z6 : w5.heap.size ≤ w6.heap.size := bb6.size
  have y6 : w.heap.size + 1 ≤ w6.heap.size := by omega
  have E6 : Hid (Below w.heap.size w w6) := E5.out.trans (bb6.mono (by omega))
  have N0_6 := Lib.hid ((bb6.block (w.heap.size) (by omega)).trans N0_5.out)
  have NBw0_6 := Lib.hid ((bb6.block (w2.heap.size) (by omega)).trans NBw0_5.out)
  clear NBw0_5
  clear bb6 E5 N0_5
  have NBg0_6 := Lib.hid nb6
  clear nb6
  refine (eqCourse_blw r0 _).mono ?_
  rintro e w7 ⟨rfl, b7⟩
  have z7 : w6.heap.size ≤ w7.heap.size := b7.size
  have y7 : w.heap.size + 1 ≤ w7.heap.size := by omega
  have E7 : Hid (Below w.heap.size w w7) := E6.out.trans (b7.mono (by omega))
  have N0_7 := Lib.hid ((b7.block (w.heap.size) (by omega)).trans N0_6.out)
  have NBw0_7 := Lib.hid ((b7.block (w2.heap.size) (by omega)).trans NBw0_6.out)
  have NBg0_7 := Lib.hid ((b7.block (w5.heap.size) (by omega)).trans NBg0_6.out)
  clear NBw0_6 NBg0_6
  clear b7 E6 N0_6
  go_wp2
  go_ret
  exact ⟨rfl, E7.out⟩

set_option maxRecDepth 100000 in
theorem walkFnExactMirrorCourse (q0 : Co) (wq0 : (Lit.int .i64 q0.o).wf = true ∧ (Lit.int .i64 q0.h).wf = true ∧ (Lit.int .i64 q0.t).wf = true) (w : World) :
    Calls Try.prog 8 #[(.agg #[.int .i64 q0.o, .int .i64 q0.h, .int .i64 q0.t])] w fun e w' => e = .returned (.bool true) ∧ Below w.heap.size w w' := by
  obtain ⟨r0, c1, c2⟩ := exMirrorCourse q0
  exact mirrorCourse_law q0 w (fun _ => True) (fun _ _ => trivial)  r0  c1 c2
end Go.Proofs.Ytkdecpnbbpmooaa
