/- The law of ShortDays. -/
import Derived.Test.YtmdddjhlfpmgdaaWorkX
import Derived.Test.YtmdddjhlfpmgdaaExKit
import Derived.Deep.RegionHeld3
namespace Go.Proofs.Ytmdddjhlfpmgdaa
open Go.ChangeShapes Go.WideShapes Go.ChangeAt Go.RowKit
set_option linter.unusedVariables false
set_option linter.unusedSimpArgs false

set_option maxRecDepth 100000 in
set_option maxHeartbeats 8000000 in
theorem shortDays_law (q0 : Wk) (s1 : Option Addr) (p1 : Nat) (xs1 : List Od) (w : World) (T : World → Prop) (hT : ∀ w', Below w.heap.size w w' → T w') (hc1 : RdS 2 encOd w (.slice s1 xs1.length p1) xs1) (lz : xs1.length ≤ 1048576) (ys0 : List Int) (r1 : Bool) (ly0 : ys0.length ≤ 1048576)
    (c1 : Hid (∀ (w : World) (v1 : Value), T w → RdS 2 encOd w v1 xs1 → Calls Try.prog 21 #[(.agg #[.int .i64 q0.m, .int .i64 q0.c, .int .i64 q0.u]), v1] w fun e w' => ∃ u0, e = .returned (.tuple #[u0, .bool r1]) ∧ OwnI w' w.heap.size u0 ys0 ∧ Below w.heap.size w w'))
    (c2 : Hid (∀ (w : World) (v1 : Value), T w → RdS 2 encOd w v1 xs1 → Calls Try.prog 22 #[(.agg #[.int .i64 q0.m, .int .i64 q0.c, .int .i64 q0.u]), v1] w fun e w' => ∃ u0, e = .returned (.tuple #[u0, .bool r1]) ∧ OwnI w' w.heap.size u0 ys0 ∧ Below w.heap.size w w')) :
    Calls Try.prog 6 #[(.agg #[.int .i64 q0.m, .int .i64 q0.c, .int .i64 q0.u]), .slice s1 xs1.length p1] w fun e w' => e = .returned (.bool true) ∧ Below w.heap.size w w' := by
  have HT := Lib.hid hT
  have H1 := Lib.hid hc1
  have LZ := Lib.hid lz
  have LY0 := Lib.hid ly0
  have s1z := Lib.hid (fun w => szOrderS_any s1 xs1.length p1 (1048576) (by omega) (by omega) (by omega) w)
  rw [if_pos (show (xs1.length : Int) ≤ 1048576 by omega)] at s1z
  have g1 : ¬ (1048576 - (xs1.length : Int) < 0) := by omega
  clear hT hc1 lz ly0
  go_enter Try.func6, Try.ntmps6
  go_wp2_with fail
  refine (s1z.out _).mono ?_
  rintro e w' ⟨rfl, rfl⟩
  go_wp2_with fail
  refine (toWorks_blw q0 _).mono ?_
  rintro e w1 ⟨rfl, b1⟩
  have y1 : w.heap.size + 1 ≤ w1.heap.size := by have e := b1.size; simp only [World.size_alloc] at e; omega
  have E1 : Hid (Below w.heap.size w w1) := Below.trans (by go_grown) (b1.mono (by simp only [World.size_alloc]; omega))
  have N0_1 := Lib.hid ((b1.block (w.heap.size) (by simp only [World.size_alloc]; omega)).trans (box1_0 w _))
  clear b1
  go_wp2_with fail
  refine (toOrderS_any _ xs1 _ (H1.out.later E1.out) (by have := LZ.out; omega)).mono ?_
  rintro e w2 ⟨va1, rfl, o2, b2⟩
  have z2 : w1.heap.size ≤ w2.heap.size := b2.size
  have y2 : w.heap.size + 1 ≤ w2.heap.size := by omega
  have E2 : Hid (Below w.heap.size w w2) := E1.out.trans (b2.mono (by omega))
  have N0_2 := Lib.hid ((b2.block (w.heap.size) (by omega)).trans N0_1.out)
  clear b2 E1 N0_1
  have Oa1_2 := Lib.hid o2
  have LRa1 := Lib.hid Oa1_2.out.lt
  clear o2
  go_wp2_with fail
  refine (c1.out _ _ (HT.out _ E2.out) ((Oa1_2.out).rd encOd_len)).mono ?_
  rintro e w3 ⟨vw0, rfl, ow0, b3⟩
  have z3 : w2.heap.size ≤ w3.heap.size := b3.size
  have y3 : w.heap.size + 1 ≤ w3.heap.size := by omega
  have E3 : Hid (Below w.heap.size w w3) := E2.out.trans (b3.mono (by omega))
  have N0_3 := Lib.hid ((b3.block (w.heap.size) (by omega)).trans N0_2.out)
  have Oa1_3 := Lib.hid (Oa1_2.out.later b3)
  clear b3 E2 N0_2 Oa1_2
  have Ow0_3 := Lib.hid ow0
  have LRw0 := Lib.hid Ow0_3.out.lt
  clear ow0
  clear Oa1_3 LRa1
  go_wp2_with fail
  refine (toOrderS_any _ xs1 _ (H1.out.later E3.out) (by have := LZ.out; omega)).mono ?_
  rintro e w4 ⟨vx1, rfl, o4, b4⟩
  have z4 : w3.heap.size ≤ w4.heap.size := b4.size
  have y4 : w.heap.size + 1 ≤ w4.heap.size := by omega
  have E4 : Hid (Below w.heap.size w w4) := E3.out.trans (b4.mono (by omega))
  have N0_4 := Lib.hid ((b4.block (w.heap.size) (by omega)).trans N0_3.out)
  have Ow0_4 := Lib.hid (Ow0_3.out.later b4)
  clear b4 E3 N0_3 Ow0_3
  have Ox1_4 := Lib.hid o4
  have LRx1 := Lib.hid Ox1_4.out.lt
  clear o4
  obtain ⟨⟨k0_0, k0_1, k0_2⟩, -⟩ := boxWk_at N0_4.out
  go_wp2_with fail
  refine (toWorks_blw q0 _).mono ?_
  rintro e w5 ⟨rfl, b5⟩
  clear k0_0 k0_1 k0_2
  have z5 : w4.heap.size ≤ w5.heap.size := b5.size
  have y5 : w.heap.size + 1 ≤ w5.heap.size := by omega
  have E5 : Hid (Below w.heap.size w w5) := E4.out.trans (b5.mono (by omega))
  have N0_5 := Lib.hid ((b5.block (w.heap.size) (by omega)).trans N0_4.out)
  have Ow0_5 := Lib.hid (Ow0_4.out.later b5)
  have Ox1_5 := Lib.hid (Ox1_4.out.later b5)
  clear b5 E4 N0_4 Ow0_4 Ox1_4
  go_wp2_with fail
  refine (c2.out _ _ (HT.out _ E5.out) ((Ox1_5.out).rd encOd_len)).mono ?_
  rintro e w6 ⟨vg0, rfl, og0, b6⟩
  have z6 : w5.heap.size ≤ w6.heap.size := b6.size
  have y6 : w.heap.size + 1 ≤ w6.heap.size := by omega
  have E6 : Hid (Below w.heap.size w w6) := E5.out.trans (b6.mono (by omega))
  have N0_6 := Lib.hid ((b6.block (w.heap.size) (by omega)).trans N0_5.out)
  have Ow0_6 := Lib.hid (Ow0_5.out.later b6)
  have Ox1_6 := Lib.hid (Ox1_5.out.later b6)
  clear b6 E5 N0_5 Ow0_5 Ox1_5
  have Og0_6 := Lib.hid og0
  have LRg0 := Lib.hid Og0_6.out.lt
  clear og0
  go_wp2_with fail
  refine (eqInt64S_same _ _ ys0 _ ((Og0_6.out).rd) ((Ow0_6.out).rd) (by have := LY0.out; omega)).mono ?_
  rintro e w7 ⟨rfl, b7⟩
  have z7 : w6.heap.size ≤ w7.heap.size := b7.size
  have y7 : w.heap.size + 1 ≤ w7.heap.size := by omega
  have E7 : Hid (Below w.heap.size w w7) := E6.out.trans (b7.mono (by omega))
  have N0_7 := Lib.hid ((b7.block (w.heap.size) (by omega)).trans N0_6.out)
  have Ow0_7 := Lib.hid (Ow0_6.out.later b7)
  have Ox1_7 := Lib.hid (Ox1_6.out.later b7)
  have Og0_7 := Lib.hid (Og0_6.out.later b7)
  clear b7 E6 N0_6 Ow0_6 Ox1_6 Og0_6
  go_wp2_with fail
  refine (toOrderS_any _ xs1 _ (H1.out.later E7.out) (by have := LZ.out; omega)).mono ?_
  rintro e w8 ⟨vt1, rfl, o8, b8⟩
  have z8 : w7.heap.size ≤ w8.heap.size := b8.size
  have y8 : w.heap.size + 1 ≤ w8.heap.size := by omega
  have E8 : Hid (Below w.heap.size w w8) := E7.out.trans (b8.mono (by omega))
  have N0_8 := Lib.hid ((b8.block (w.heap.size) (by omega)).trans N0_7.out)
  have Ow0_8 := Lib.hid (Ow0_7.out.later b8)
  have Ox1_8 := Lib.hid (Ox1_7.out.later b8)
  have Og0_8 := Lib.hid (Og0_7.out.later b8)
  clear b8 E7 N0_7 Ow0_7 Ox1_7 Og0_7
  have Ot1_8 := Lib.hid o8
  have LRt1 := Lib.hid Ot1_8.out.lt
  clear o8
  go_wp2_with fail
  refine (eqOrderS_same _ _ xs1 _ ((Ox1_8.out).rd encOd_len) ((Ot1_8.out).rd encOd_len) (by have := LZ.out; omega)).mono ?_
  rintro e w9 ⟨rfl, b9⟩
  have z9 : w8.heap.size ≤ w9.heap.size := b9.size
  have y9 : w.heap.size + 1 ≤ w9.heap.size := by omega
  have E9 : Hid (Below w.heap.size w w9) := E8.out.trans (b9.mono (by omega))
  have N0_9 := Lib.hid ((b9.block (w.heap.size) (by omega)).trans N0_8.out)
  have Ow0_9 := Lib.hid (Ow0_8.out.later b9)
  have Ox1_9 := Lib.hid (Ox1_8.out.later b9)
  have Og0_9 := Lib.hid (Og0_8.out.later b9)
  have Ot1_9 := Lib.hid (Ot1_8.out.later b9)
  clear b9 E8 N0_8 Ow0_8 Ox1_8 Og0_8 Ot1_8
  clear Ot1_9 LRt1
  go_wp2_with fail
  refine (markOrderS_any _ xs1 _ _ Ox1_9.out (by have := LZ.out; omega) (1) (by omega) (by have := LZ.out; omega)).mono ?_
  rintro e w10 ⟨rfl, o10, g10_⟩
  have z10 : w9.heap.size ≤ w10.heap.size := g10_.size
  have y10 : w.heap.size + 1 ≤ w10.heap.size := by omega
  have E10 : Hid (Below w.heap.size w w10) := E9.out.grown g10_ (by omega) (fun c h => by have := LRx1.out c h; omega)
  have N0_10 := Lib.hid ((g10_.block (w.heap.size) (by omega) (fun h => by have := LRx1.out _ h.symm; omega)).trans N0_9.out)
  have Ow0_10 := Lib.hid (Ow0_9.out.kept g10_ (own_far _ _ (fun c h1 h2 => by have e1 := LRw0.out c h1; have e2 := LRx1.out c h2; omega)))
  have Og0_10 := Lib.hid (Og0_9.out.kept g10_ (own_far _ _ (fun c h1 h2 => by have e1 := LRg0.out c h1; have e2 := LRx1.out c h2; omega)))
  clear g10_ E9 N0_9 Ow0_9 Ox1_9 Og0_9
  have Ox1_10 := Lib.hid o10
  clear o10
  clear Ox1_10 LRx1
  have kneg : ¬ (1 + 2 * (xs1.length : Int) < 0) := by omega
  go_wp2_with fail
  refine (eqInt64S_same _ _ ys0 _ ((Og0_10.out).rd) ((Ow0_10.out).rd) (by have := LY0.out; omega)).mono ?_
  rintro e w11 ⟨rfl, b11⟩
  have z11 : w10.heap.size ≤ w11.heap.size := b11.size
  have y11 : w.heap.size + 1 ≤ w11.heap.size := by omega
  have E11 : Hid (Below w.heap.size w w11) := E10.out.trans (b11.mono (by omega))
  have N0_11 := Lib.hid ((b11.block (w.heap.size) (by omega)).trans N0_10.out)
  have Ow0_11 := Lib.hid (Ow0_10.out.later b11)
  have Og0_11 := Lib.hid (Og0_10.out.later b11)
  clear b11 E10 N0_10 Ow0_10 Og0_10
  clear kneg
  go_wp2_with fail
  refine (markInts_any _ ys0 _ _ Og0_11.out (by have := LY0.out; omega) (1) (by omega) (by have := LY0.out; omega)).mono ?_
  rintro e w12 ⟨rfl, o12, g12_⟩
  have z12 : w11.heap.size ≤ w12.heap.size := g12_.size
  have y12 : w.heap.size + 1 ≤ w12.heap.size := by omega
  have E12 : Hid (Below w.heap.size w w12) := E11.out.grown g12_ (by omega) (fun c h => by have := LRg0.out c h; omega)
  have N0_12 := Lib.hid ((g12_.block (w.heap.size) (by omega) (fun h => by have := LRg0.out _ h.symm; omega)).trans N0_11.out)
  have Ow0_12 := Lib.hid (Ow0_11.out.kept g12_ (own_far _ _ (fun c h1 h2 => by have e1 := LRw0.out c h1; have e2 := LRg0.out c h2; omega)))
  clear g12_ E11 N0_11 Ow0_11 Og0_11
  have Og0_12 := Lib.hid o12
  clear o12
  have mneg155 : ¬ (1 + (ys0.length : Int) < 0) := by omega
  go_wp2_with fail
  refine (heldInts_any _ ys0.length (1) _ ((Og0_12.out).rd) (by have := LY0.out; omega) (by omega) (by have := LY0.out; omega)).mono ?_
  rintro e w' ⟨rfl, rfl⟩
  obtain ⟨⟨k0_0, k0_1, k0_2⟩, -⟩ := boxWk_at N0_12.out
  go_wp2_with fail
  refine (toWorks_blw q0 _).mono ?_
  rintro e w13 ⟨rfl, b13⟩
  clear k0_0 k0_1 k0_2
  have z13 : w12.heap.size ≤ w13.heap.size := b13.size
  have y13 : w.heap.size + 1 ≤ w13.heap.size := by omega
  have E13 : Hid (Below w.heap.size w w13) := E12.out.trans (b13.mono (by omega))
  have N0_13 := Lib.hid ((b13.block (w.heap.size) (by omega)).trans N0_12.out)
  have Ow0_13 := Lib.hid (Ow0_12.out.later b13)
  have Og0_13 := Lib.hid (Og0_12.out.later b13)
  clear b13 E12 N0_12 Ow0_12 Og0_12
  go_wp2_with fail
  refine (toOrderS_any _ xs1 _ (H1.out.later E13.out) (by have := LZ.out; omega)).mono ?_
  rintro e w14 ⟨vb1, rfl, o14, b14⟩
  have z14 : w13.heap.size ≤ w14.heap.size := b14.size
  have y14 : w.heap.size + 1 ≤ w14.heap.size := by omega
  have E14 : Hid (Below w.heap.size w w14) := E13.out.trans (b14.mono (by omega))
  have N0_14 := Lib.hid ((b14.block (w.heap.size) (by omega)).trans N0_13.out)
  have Ow0_14 := Lib.hid (Ow0_13.out.later b14)
  have Og0_14 := Lib.hid (Og0_13.out.later b14)
  clear b14 E13 N0_13 Ow0_13 Og0_13
  have Ob1_14 := Lib.hid o14
  have LRb1 := Lib.hid Ob1_14.out.lt
  clear o14
  go_wp2_with fail
  refine (c2.out _ _ (HT.out _ E14.out) ((Ob1_14.out).rd encOd_len)).mono ?_
  rintro e w15 ⟨vh0, rfl, oh0, b15⟩
  have z15 : w14.heap.size ≤ w15.heap.size := b15.size
  have y15 : w.heap.size + 1 ≤ w15.heap.size := by omega
  have E15 : Hid (Below w.heap.size w w15) := E14.out.trans (b15.mono (by omega))
  have N0_15 := Lib.hid ((b15.block (w.heap.size) (by omega)).trans N0_14.out)
  have Ow0_15 := Lib.hid (Ow0_14.out.later b15)
  have Og0_15 := Lib.hid (Og0_14.out.later b15)
  have Ob1_15 := Lib.hid (Ob1_14.out.later b15)
  clear b15 E14 N0_14 Ow0_14 Og0_14 Ob1_14
  have Oh0_15 := Lib.hid oh0
  have LRh0 := Lib.hid Oh0_15.out.lt
  clear oh0
  clear Ob1_15 LRb1
  go_wp2_with fail
  refine (eqInt64S_same _ _ ys0 _ ((Oh0_15.out).rd) ((Ow0_15.out).rd) (by have := LY0.out; omega)).mono ?_
  rintro e w16 ⟨rfl, b16⟩
  have z16 : w15.heap.size ≤ w16.heap.size := b16.size
  have y16 : w.heap.size + 1 ≤ w16.heap.size := by omega
  have E16 : Hid (Below w.heap.size w w16) := E15.out.trans (b16.mono (by omega))
  have N0_16 := Lib.hid ((b16.block (w.heap.size) (by omega)).trans N0_15.out)
  have Ow0_16 := Lib.hid (Ow0_15.out.later b16)
  have Og0_16 := Lib.hid (Og0_15.out.later b16)
  have Oh0_16 := Lib.hid (Oh0_15.out.later b16)
  clear b16 E15 N0_15 Ow0_15 Og0_15 Oh0_15
  go_wp2_with fail
  refine (heldInts_any _ ys0.length (1) _ ((Og0_16.out).rd) (by have := LY0.out; omega) (by omega) (by have := LY0.out; omega)).mono ?_
  rintro e w' ⟨rfl, rfl⟩
  go_wp2
  go_ret
  exact ⟨rfl, E16.out⟩

set_option maxRecDepth 100000 in
theorem walkFnExactShortDays (w : World) (q0 : Wk) (wq0 : (Lit.int .i64 q0.m).wf = true ∧ (Lit.int .i64 q0.c).wf = true ∧ (Lit.int .i64 q0.u).wf = true) (s1 : Option Addr) (p1 : Nat) (xs1 : List Od) (hc1 : RdS 2 encOd w (.slice s1 xs1.length p1) xs1) (hl1 : xs1.length ≤ maxLen) (wc1 : ∀ y ∈ xs1, WfL encOd y) :
    Calls Try.prog 6 #[(.agg #[.int .i64 q0.m, .int .i64 q0.c, .int .i64 q0.u]), .slice s1 xs1.length p1] w fun e w' => e = .returned (.bool true) ∧ Below w.heap.size w w' := by
  by_cases lz : xs1.length ≤ 1048576
  · obtain ⟨ys0, r1, ly0, c1, c2⟩ := exShortDays q0 xs1 lz
    exact shortDays_law q0 s1 p1 xs1 w (fun _ => True) (fun _ _ => trivial) hc1 lz ys0 r1 ly0 c1 c2
  · have s0 := Lib.hid (fun w => szOrderS_any s1 xs1.length p1 1048576 (by omega) (by omega) (by unfold maxLen at hl1; omega) w)
    rw [if_neg (show ¬ (xs1.length : Int) ≤ 1048576 by omega)] at s0
    clear hc1 lz hl1 wc1
    go_enter Try.func6, Try.ntmps6
    go_wp2_with fail
    refine (s0.out _).mono ?_
    rintro e w1 ⟨rfl, rfl⟩
    go_wp2
    go_ret
    exact ⟨rfl, by go_grown⟩
end Go.Proofs.Ytmdddjhlfpmgdaa
