/- The law of LatestStart. -/
import Derived.Test.YtmdddjhlfpmgdaaWorkZ
import Derived.Test.YtmdddjhlfpmgdaaExKit
import Derived.Deep.RegionHeld3
namespace Go.Proofs.Ytmdddjhlfpmgdaa
open Go.ChangeShapes Go.WideShapes Go.ChangeAt Go.RowKit
set_option linter.unusedVariables false
set_option linter.unusedSimpArgs false

set_option maxRecDepth 100000 in
set_option maxHeartbeats 8000000 in
theorem latestStart_law (q0 : Wk) (s1 : Option Addr) (p1 : Nat) (xs1 : List Od) (w : World) (T : World → Prop) (hT : ∀ w', Below w.heap.size w w' → T w') (hc1 : RdS 2 encOd w (.slice s1 xs1.length p1) xs1) (lz : xs1.length ≤ 1048576) (r0 : Int) (r1 : Bool) 
    (c1 : Hid (∀ (w : World) (v1 : Value), T w → RdS 2 encOd w v1 xs1 → Calls Try.prog 29 #[(.agg #[.int .i64 q0.m, .int .i64 q0.c, .int .i64 q0.u]), v1] w fun e w' => e = .returned (.tuple #[.int .i64 r0, .bool r1]) ∧ Below w.heap.size w w'))
    (c2 : Hid (∀ (w : World) (v1 : Value), T w → RdS 2 encOd w v1 xs1 → Calls Try.prog 30 #[(.agg #[.int .i64 q0.m, .int .i64 q0.c, .int .i64 q0.u]), v1] w fun e w' => e = .returned (.tuple #[.int .i64 r0, .bool r1]) ∧ Below w.heap.size w w')) :
    Calls Try.prog 8 #[(.agg #[.int .i64 q0.m, .int .i64 q0.c, .int .i64 q0.u]), .slice s1 xs1.length p1] w fun e w' => e = .returned (.bool true) ∧ Below w.heap.size w w' := by
  have HT := Lib.hid hT
  have H1 := Lib.hid hc1
  have LZ := Lib.hid lz
  have s1z := Lib.hid (fun w => szOrderS_any s1 xs1.length p1 (1048576) (by omega) (by omega) (by omega) w)
  rw [if_pos (show (xs1.length : Int) ≤ 1048576 by omega)] at s1z
  have g1 : ¬ (1048576 - (xs1.length : Int) < 0) := by omega
  clear hT hc1 lz
  go_enter Try.func8, Try.ntmps8
  go_wp2_with fail
  refine (s1z.out _).mono ?_
  rintro e w' ⟨rfl, rfl⟩
  go_wp2_with fail
  refine (toWorks_blw q0 _).mono ?_
  rintro e w1 ⟨rfl, b1⟩
  have y1 : w.heap.size + 1 ≤ w1.heap.size := by have e := b1.size; simp only [World.size_alloc] at e; omega
  have E1 : Hid (Below w.heap.size w w1) := Below.trans (by go_grown) (b1.mono (by simp only [World.size_alloc]; omega))
  have N0_1 := Lib.hid ((b1.block (w.heap.size) (by simp only [World.size_alloc]; omega)).trans (box1_0 w _))
  clear b1
  go_wp2_with fail
  refine (toOrderS_any _ xs1 _ (H1.out.later E1.out) (by have := LZ.out; omega)).mono ?_
  rintro e w2 ⟨va1, rfl, o2, b2⟩
  have z2 : w1.heap.size ≤ w2.heap.size := b2.size
  have y2 : w.heap.size + 1 ≤ w2.heap.size := by omega
  have E2 : Hid (Below w.heap.size w w2) := E1.out.trans (b2.mono (by omega))
  have N0_2 := Lib.hid ((b2.block (w.heap.size) (by omega)).trans N0_1.out)
  clear b2 E1 N0_1
  have Oa1_2 := Lib.hid o2
  have LRa1 := Lib.hid Oa1_2.out.lt
  clear o2
  go_wp2_with fail
  refine (c1.out _ _ (HT.out _ E2.out) ((Oa1_2.out).rd encOd_len)).mono ?_
  rintro e w3 ⟨rfl, b3⟩
  have z3 : w2.heap.size ≤ w3.heap.size := b3.size
  have y3 : w.heap.size + 1 ≤ w3.heap.size := by omega
  have E3 : Hid (Below w.heap.size w w3) := E2.out.trans (b3.mono (by omega))
  have N0_3 := Lib.hid ((b3.block (w.heap.size) (by omega)).trans N0_2.out)
  have Oa1_3 := Lib.hid (Oa1_2.out.later b3)
  clear b3 E2 N0_2 Oa1_2
  clear Oa1_3 LRa1
  go_wp2_with fail
  refine (toOrderS_any _ xs1 _ (H1.out.later E3.out) (by have := LZ.out; omega)).mono ?_
  rintro e w4 ⟨vx1, rfl, o4, b4⟩
  have z4 : w3.heap.size ≤ w4.heap.size := b4.size
  have y4 : w.heap.size + 1 ≤ w4.heap.size := by omega
  have E4 : Hid (Below w.heap.size w w4) := E3.out.trans (b4.mono (by omega))
  have N0_4 := Lib.hid ((b4.block (w.heap.size) (by omega)).trans N0_3.out)
  clear b4 E3 N0_3
  have Ox1_4 := Lib.hid o4
  have LRx1 := Lib.hid Ox1_4.out.lt
  clear o4
  obtain ⟨⟨k0_0, k0_1, k0_2⟩, -⟩ := boxWk_at N0_4.out
  go_wp2_with fail
  refine (toWorks_blw q0 _).mono ?_
  rintro e w5 ⟨rfl, b5⟩
  clear k0_0 k0_1 k0_2
  have z5 : w4.heap.size ≤ w5.heap.size := b5.size
  have y5 : w.heap.size + 1 ≤ w5.heap.size := by omega
  have E5 : Hid (Below w.heap.size w w5) := E4.out.trans (b5.mono (by omega))
  have N0_5 := Lib.hid ((b5.block (w.heap.size) (by omega)).trans N0_4.out)
  have Ox1_5 := Lib.hid (Ox1_4.out.later b5)
  clear b5 E4 N0_4 Ox1_4
  go_wp2_with fail
  refine (c2.out _ _ (HT.out _ E5.out) ((Ox1_5.out).rd encOd_len)).mono ?_
  rintro e w6 ⟨rfl, b6⟩
  have z6 : w5.heap.size ≤ w6.heap.size := b6.size
  have y6 : w.heap.size + 1 ≤ w6.heap.size := by omega
  have E6 : Hid (Below w.heap.size w w6) := E5.out.trans (b6.mono (by omega))
  have N0_6 := Lib.hid ((b6.block (w.heap.size) (by omega)).trans N0_5.out)
  have Ox1_6 := Lib.hid (Ox1_5.out.later b6)
  clear b6 E5 N0_5 Ox1_5
  go_wp2_with fail
  refine (toOrderS_any _ xs1 _ (H1.out.later E6.out) (by have := LZ.out; omega)).mono ?_
  rintro e w7 ⟨vt1, rfl, o7, b7⟩
  have z7 : w6.heap.size ≤ w7.heap.size := b7.size
  have y7 : w.heap.size + 1 ≤ w7.heap.size := by omega
  have E7 : Hid (Below w.heap.size w w7) := E6.out.trans (b7.mono (by omega))
  have N0_7 := Lib.hid ((b7.block (w.heap.size) (by omega)).trans N0_6.out)
  have Ox1_7 := Lib.hid (Ox1_6.out.later b7)
  clear b7 E6 N0_6 Ox1_6
  have Ot1_7 := Lib.hid o7
  have LRt1 := Lib.hid Ot1_7.out.lt
  clear o7
  go_wp2_with fail
  refine (eqOrderS_same _ _ xs1 _ ((Ox1_7.out).rd encOd_len) ((Ot1_7.out).rd encOd_len) (by have := LZ.out; omega)).mono ?_
  rintro e w8 ⟨rfl, b8⟩
  have z8 : w7.heap.size ≤ w8.heap.size := b8.size
  have y8 : w.heap.size + 1 ≤ w8.heap.size := by omega
  have E8 : Hid (Below w.heap.size w w8) := E7.out.trans (b8.mono (by omega))
  have N0_8 := Lib.hid ((b8.block (w.heap.size) (by omega)).trans N0_7.out)
  have Ox1_8 := Lib.hid (Ox1_7.out.later b8)
  have Ot1_8 := Lib.hid (Ot1_7.out.later b8)
  clear b8 E7 N0_7 Ox1_7 Ot1_7
  clear Ot1_8 LRt1
  go_wp2
  go_ret
  exact ⟨rfl, E8.out⟩

set_option maxRecDepth 100000 in
theorem walkFnExactLatestStart (w : World) (q0 : Wk) (wq0 : (Lit.int .i64 q0.m).wf = true ∧ (Lit.int .i64 q0.c).wf = true ∧ (Lit.int .i64 q0.u).wf = true) (s1 : Option Addr) (p1 : Nat) (xs1 : List Od) (hc1 : RdS 2 encOd w (.slice s1 xs1.length p1) xs1) (hl1 : xs1.length ≤ maxLen) (wc1 : ∀ y ∈ xs1, WfL encOd y) :
    Calls Try.prog 8 #[(.agg #[.int .i64 q0.m, .int .i64 q0.c, .int .i64 q0.u]), .slice s1 xs1.length p1] w fun e w' => e = .returned (.bool true) ∧ Below w.heap.size w w' := by
  by_cases lz : xs1.length ≤ 1048576
  · obtain ⟨r0, r1, c1, c2⟩ := exLatestStart q0 xs1 lz
    exact latestStart_law q0 s1 p1 xs1 w (fun _ => True) (fun _ _ => trivial) hc1 lz r0 r1  c1 c2
  · have s0 := Lib.hid (fun w => szOrderS_any s1 xs1.length p1 1048576 (by omega) (by omega) (by unfold maxLen at hl1; omega) w)
    rw [if_neg (show ¬ (xs1.length : Int) ≤ 1048576 by omega)] at s0
    clear hc1 lz hl1 wc1
    go_enter Try.func8, Try.ntmps8
    go_wp2_with fail
    refine (s0.out _).mono ?_
    rintro e w1 ⟨rfl, rfl⟩
    go_wp2
    go_ret
    exact ⟨rfl, by go_grown⟩
end Go.Proofs.Ytmdddjhlfpmgdaa
