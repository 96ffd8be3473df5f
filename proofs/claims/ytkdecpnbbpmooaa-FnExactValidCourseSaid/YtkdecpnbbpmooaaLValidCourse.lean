/- The law of ValidCourse. -/
import Derived.Test.YtkdecpnbbpmooaaSteerX
import Derived.Test.YtkdecpnbbpmooaaExKit
import Derived.Deep.RegionHeld3
namespace Go.Proofs.Ytkdecpnbbpmooaa
open Go.ChangeShapes Go.WideShapes Go.ChangeAt Go.RowKit
set_option linter.unusedVariables false
set_option linter.unusedSimpArgs false

set_option maxRecDepth 100000 in
set_option maxHeartbeats 8000000 in
theorem validCourse_law (q0 : Lm) (q1 : Co) (w : World) (T : World → Prop) (hT : ∀ w', Below w.heap.size w w' → T w') (r0 : Bool) 
    (c1 : Hid (∀ (w : World), T w → Calls Try.prog 15 #[(.agg #[.int .i64 q0.m, .int .i64 q0.c]), (.agg #[.int .i64 q1.o, .int .i64 q1.h, .int .i64 q1.t])] w fun e w' => e = .returned (.bool r0) ∧ Below w.heap.size w w'))
    (c2 : Hid (∀ (w : World), T w → Calls Try.prog 17 #[(.agg #[.int .i64 q0.m, .int .i64 q0.c]), (.agg #[.int .i64 q1.o, .int .i64 q1.h, .int .i64 q1.t])] w fun e w' => e = .returned (.bool r0) ∧ Below w.heap.size w w')) :
    Calls Try.prog 4 #[(.agg #[.int .i64 q0.m, .int .i64 q0.c]), (.agg #[.int .i64 q1.o, .int .i64 q1.h, .int .i64 q1.t])] w fun e w' => e = .returned (.bool true) ∧ Below w.heap.size w w' := by
  have HT := Lib.hid hT
  clear hT
  go_enter Try.func4, Try.ntmps4
  have KS1 : Hid (∀ w', Below (w.heap.size + 2) ((w.alloc (.cells #[.int .i64 q0.m, .int .i64 q0.c] 23)).alloc (.cells #[.int .i64 q1.o, .int .i64 q1.h, .int .i64 q1.t] 29)) w' → (w'.cell? ⟨w.heap.size, 0, none⟩ = some (.int .i64 q0.m) ∧ w'.cell? ⟨w.heap.size, 1, none⟩ = some (.int .i64 q0.c) ∧ w'.cell? ⟨w.heap.size + 1, 0, none⟩ = some (.int .i64 q1.o) ∧ w'.cell? ⟨w.heap.size + 1, 1, none⟩ = some (.int .i64 q1.h) ∧ w'.cell? ⟨w.heap.size + 1, 2, none⟩ = some (.int .i64 q1.t))) := by
    intro w' b
    obtain ⟨⟨k0_0, k0_1⟩, -⟩ := boxLm_at ((b.block (w.heap.size) (by omega)).trans (box2_0 w _ _))
    obtain ⟨⟨k1_0, k1_1, k1_2⟩, -⟩ := boxCo_at ((b.block (w.heap.size + 1) (by omega)).trans (box2_1 w _ _))
    exact ⟨k0_0, k0_1, k1_0, k1_1, k1_2⟩
  go_wp2_with fail
  go_region_held3 (fun w' => (w'.cell? ⟨w.heap.size, 0, none⟩ = some (.int .i64 q0.m) ∧ w'.cell? ⟨w.heap.size, 1, none⟩ = some (.int .i64 q0.c) ∧ w'.cell? ⟨w.heap.size + 1, 0, none⟩ = some (.int .i64 q1.o) ∧ w'.cell? ⟨w.heap.size + 1, 1, none⟩ = some (.int .i64 q1.h) ∧ w'.cell? ⟨w.heap.size + 1, 2, none⟩ = some (.int .i64 q1.t)))
    (first | exact KS1.out _ D4.out | exact KS1.out _ D3.out | exact KS1.out _ D2.out | exact KS1.out _ (Below.refl _ _).drew)
    (first
      | (go_at_call 15; refine (c1.out _ (HT.out _ (Below.trans (by go_grown) (D3.out.mono (by omega))))).mono ?_; rintro e w4 ⟨rfl, b4⟩; have D4 : Hid (Below (w.heap.size + 2) ((w.alloc (.cells #[.int .i64 q0.m, .int .i64 q0.c] 23)).alloc (.cells #[.int .i64 q1.o, .int .i64 q1.h, .int .i64 q1.t] 29)) w4) := D3.out.trans (b4.mono (by have e := D3.out.size; first | exact e | (simp only [World.size_alloc] at e; exact e))))
      | (go_at_call 16; (first | with_reducible refine (toCourse_blw q1 _).mono ?_); rintro e w3 ⟨rfl, b3⟩; have D3 : Hid (Below (w.heap.size + 2) ((w.alloc (.cells #[.int .i64 q0.m, .int .i64 q0.c] 23)).alloc (.cells #[.int .i64 q1.o, .int .i64 q1.h, .int .i64 q1.t] 29)) w3) := D2.out.trans (b3.mono (by have e := D2.out.size; first | exact e | (simp only [World.size_alloc] at e; exact e))))
      | (go_at_call 13; (first | with_reducible refine (toLimits_blw q0 _).mono ?_); rintro e w2 ⟨rfl, b2⟩; have D2 : Hid (Below (w.heap.size + 2) ((w.alloc (.cells #[.int .i64 q0.m, .int .i64 q0.c] 23)).alloc (.cells #[.int .i64 q1.o, .int .i64 q1.h, .int .i64 q1.t] 29)) w2) := (Below.refl _ _).drew.trans (b2.mono (by simp))))
  have zz4 := D3.out.size
  have bb4 : Below (w.heap.size + 2) ((w.alloc (.cells #[.int .i64 q0.m, .int .i64 q0.c] 23)).alloc (.cells #[.int .i64 q1.o, .int .i64 q1.h, .int .i64 q1.t] 29)) w4 := D4.out
  have dd4 := D4.out
  clear KS1 zz4 D2 D3 D4
  clear bb4
  have y4 : w.heap.size + 2 ≤ w4.heap.size := by have e := dd4.size; simp only [World.size_alloc] at e; omega
  have E4 : Hid (Below w.heap.size w w4) := Below.trans (by go_grown) (dd4.mono (by omega))
  have N0_4 := Lib.hid ((dd4.block (w.heap.size) (by omega)).trans (box2_0 w _ _))
  have N1_4 := Lib.hid ((dd4.block (w.heap.size + 1) (by omega)).trans (box2_1 w _ _))
  clear dd4
  have KS5 : Hid (∀ w', Below w4.heap.size w4 w' → (w'.cell? ⟨w.heap.size, 0, none⟩ = some (.int .i64 q0.m) ∧ w'.cell? ⟨w.heap.size, 1, none⟩ = some (.int .i64 q0.c) ∧ w'.cell? ⟨w.heap.size + 1, 0, none⟩ = some (.int .i64 q1.o) ∧ w'.cell? ⟨w.heap.size + 1, 1, none⟩ = some (.int .i64 q1.h) ∧ w'.cell? ⟨w.heap.size + 1, 2, none⟩ = some (.int .i64 q1.t))) := by
    intro w' b
    obtain ⟨⟨k0_0, k0_1⟩, -⟩ := boxLm_at ((b.block (w.heap.size) (by omega)).trans (N0_4.out))
    obtain ⟨⟨k1_0, k1_1, k1_2⟩, -⟩ := boxCo_at ((b.block (w.heap.size + 1) (by omega)).trans (N1_4.out))
    exact ⟨k0_0, k0_1, k1_0, k1_1, k1_2⟩
  go_wp2_with fail
  go_region_held3 (fun w' => (w'.cell? ⟨w.heap.size, 0, none⟩ = some (.int .i64 q0.m) ∧ w'.cell? ⟨w.heap.size, 1, none⟩ = some (.int .i64 q0.c) ∧ w'.cell? ⟨w.heap.size + 1, 0, none⟩ = some (.int .i64 q1.o) ∧ w'.cell? ⟨w.heap.size + 1, 1, none⟩ = some (.int .i64 q1.h) ∧ w'.cell? ⟨w.heap.size + 1, 2, none⟩ = some (.int .i64 q1.t)))
    (first | exact KS5.out _ D8.out | exact KS5.out _ D7.out | exact KS5.out _ D6.out | exact KS5.out _ (Below.refl _ _).drew)
    (first
      | (go_at_call 17; refine (c2.out _ (HT.out _ (E4.out.trans (D7.out.mono (by omega))))).mono ?_; rintro e w8 ⟨rfl, b8⟩; have D8 : Hid (Below w4.heap.size w4 w8) := D7.out.trans (b8.mono (by have e := D7.out.size; first | exact e | (simp only [World.size_alloc] at e; exact e))))
      | (go_at_call 16; (first | with_reducible refine (toCourse_blw q1 _).mono ?_); rintro e w7 ⟨rfl, b7⟩; have D7 : Hid (Below w4.heap.size w4 w7) := D6.out.trans (b7.mono (by have e := D6.out.size; first | exact e | (simp only [World.size_alloc] at e; exact e))))
      | (go_at_call 13; (first | with_reducible refine (toLimits_blw q0 _).mono ?_); rintro e w6 ⟨rfl, b6⟩; have D6 : Hid (Below w4.heap.size w4 w6) := (Below.refl _ _).drew.trans (b6.mono (by simp))))
  have zz8 := D7.out.size
  have dd8 := D8.out
  clear KS5 zz8 D6 D7 D8
  have z8 : w4.heap.size ≤ w8.heap.size := dd8.size
  have y8 : w.heap.size + 2 ≤ w8.heap.size := by omega
  have E8 : Hid (Below w.heap.size w w8) := E4.out.trans (dd8.mono (by omega))
  have N0_8 := Lib.hid ((dd8.block (w.heap.size) (by omega)).trans N0_4.out)
  have N1_8 := Lib.hid ((dd8.block (w.heap.size + 1) (by omega)).trans N1_4.out)
  clear dd8 E4 N0_4 N1_4
  go_wp2
  go_ret
  exact ⟨rfl, E8.out⟩

set_option maxRecDepth 100000 in
theorem walkFnExactValidCourse (q0 : Lm) (wq0 : (Lit.int .i64 q0.m).wf = true ∧ (Lit.int .i64 q0.c).wf = true) (q1 : Co) (wq1 : (Lit.int .i64 q1.o).wf = true ∧ (Lit.int .i64 q1.h).wf = true ∧ (Lit.int .i64 q1.t).wf = true) (w : World) :
    Calls Try.prog 4 #[(.agg #[.int .i64 q0.m, .int .i64 q0.c]), (.agg #[.int .i64 q1.o, .int .i64 q1.h, .int .i64 q1.t])] w fun e w' => e = .returned (.bool true) ∧ Below w.heap.size w w' := by
  obtain ⟨r0, c1, c2⟩ := exValidCourse q0 q1
  exact validCourse_law q0 q1 w (fun _ => True) (fun _ _ => trivial)  r0  c1 c2
end Go.Proofs.Ytkdecpnbbpmooaa
