/- The law of AxisOf. -/
import Derived.Test.YthhnnkgfnhggbaaAxisE
import Derived.Test.YthhnnkgfnhggbaaExKit
import Derived.Test.YthhnnkgfnhggbaaSzPs
import Derived.Deep.RegionHeld3
namespace Go.Proofs.Ythhnnkgfnhggbaa
open Go.ChangeShapes Go.WideShapes Go.ChangeAt Go.RowKit
set_option linter.unusedVariables false
set_option linter.unusedSimpArgs false

set_option maxRecDepth 100000 in
set_option maxHeartbeats 8000000 in
theorem axisOf_law (s0 : Option Addr) (p0 : Nat) (xs0 : List Ps) (w : World) (T : World → Prop) (hT : ∀ w', Below w.heap.size w w' → T w') (hc0 : RdS 4 encPs w (.slice s0 xs0.length p0) xs0) (lz : xs0.length ≤ 1048576) (r0 : Ps) (ys0 : List Cv) (r1 : Bool) (ly0 : ys0.length ≤ 1048576)
    (c1 : Hid (∀ (w : World) (v0 : Value), T w → (∃ B, OwnS 25 4 encPs w B v0 xs0) → Calls Try.prog 28 #[v0] w fun e w' => ∃ u0, e = .returned (.tuple #[(.agg #[.int .i64 r0.s, .int .i64 r0.h, .int .i64 r0.y, .int .i64 r0.p, u0]), .bool r1]) ∧ OwnS 46 3 encCv w' w.heap.size u0 ys0 ∧ Below w.heap.size w w'))
    (c2 : Hid (∀ (w : World) (v0 : Value), T w → (∃ B, OwnS 25 4 encPs w B v0 xs0) → Calls Try.prog 16 #[v0] w fun e w' => ∃ u0, e = .returned (.tuple #[(.agg #[.int .i64 r0.s, .int .i64 r0.h, .int .i64 r0.y, .int .i64 r0.p, u0]), .bool r1]) ∧ OwnS 46 3 encCv w' w.heap.size u0 ys0 ∧ Below w.heap.size w w')) :
    Calls Try.prog 6 #[.slice s0 xs0.length p0] w fun e w' => e = .returned (.bool true) ∧ Below w.heap.size w w' := by
  have HT := Lib.hid hT
  have H0 := Lib.hid hc0
  have LZ := Lib.hid lz
  have LY0 := Lib.hid ly0
  have s0z := Lib.hid (fun w => szPoseS_any s0 xs0.length p0 (1048576) (by omega) (by omega) (by omega) w)
  rw [if_pos (show (xs0.length : Int) ≤ 1048576 by omega)] at s0z
  have g0 : ¬ (1048576 - (xs0.length : Int) < 0) := by omega
  clear hT hc0 lz ly0
  go_enter Try.func6, Try.ntmps6
  go_wp2_with fail
  refine (s0z.out _).mono ?_
  rintro e w' ⟨rfl, rfl⟩
  go_wp2_with fail
  refine (toPoseS_any _ xs0 _ H0.out (by have := LZ.out; omega)).mono ?_
  rintro e w1 ⟨va0, rfl, o1, b1⟩
  have y1 : w.heap.size ≤ w1.heap.size := b1.size
  have E1 : Hid (Below w.heap.size w w1) := b1
  clear b1
  have Oa0_1 := Lib.hid o1
  have LRa0 := Lib.hid Oa0_1.out.lt
  clear o1
  go_wp2_with fail
  refine (c1.out _ _ (HT.out _ E1.out) ⟨_, Oa0_1.out⟩).mono ?_
  rintro e w2 ⟨vw0, rfl, ow0, b2⟩
  have z2 : w1.heap.size ≤ w2.heap.size := b2.size
  have y2 : w.heap.size ≤ w2.heap.size := by omega
  have E2 : Hid (Below w.heap.size w w2) := E1.out.trans (b2.mono (by omega))
  have Oa0_2 := Lib.hid (Oa0_1.out.later b2)
  clear b2 E1 Oa0_1
  obtain ⟨aw0, cw0, rfl⟩ := ow0.form
  have Ow0_2 := Lib.hid ow0
  have LRw0 := Lib.hid Ow0_2.out.lt
  clear ow0
  go_wp2_with fail
  generalize hx3 : w2.alloc (.cells #[.int .i64 r0.s, .int .i64 r0.h, .int .i64 r0.y, .int .i64 r0.p, .slice aw0 ys0.length cw0] 28) = w3
  have bb3 : Below w2.heap.size w2 w3 := by rw [← hx3]; go_grown
  have zb3 : w3.heap.size = w2.heap.size + 1 := by rw [← hx3]; simp
  have nb3 : w3.heap[w2.heap.size]? = some (.cells #[.int .i64 r0.s, .int .i64 r0.h, .int .i64 r0.y, .int .i64 r0.p, .slice aw0 ys0.length cw0] 28 (0, 0)) := by rw [← hx3]; exact heap_alloc_new _ _
  clear hx3 
  have z3 : w2.heap.size ≤ w3.heap.size := bb3.size
  have y3 : w.heap.size ≤ w3.heap.size := by omega
  have E3 : Hid (Below w.heap.size w w3) := E2.out.trans (bb3.mono (by omega))
  have Oa0_3 := Lib.hid (Oa0_2.out.later bb3)
  have Ow0_3 := Lib.hid (Ow0_2.out.later bb3)
  clear bb3 E2 Oa0_2 Ow0_2
  have NBw0_3 := Lib.hid nb3
  clear nb3
  clear Oa0_3 LRa0
  refine (toPoseS_any _ xs0 _ (H0.out.later E3.out) (by have := LZ.out; omega)).mono ?_
  rintro e w4 ⟨vx0, rfl, o4, b4⟩
  have z4 : w3.heap.size ≤ w4.heap.size := b4.size
  have y4 : w.heap.size ≤ w4.heap.size := by omega
  have E4 : Hid (Below w.heap.size w w4) := E3.out.trans (b4.mono (by omega))
  have Ow0_4 := Lib.hid (Ow0_3.out.later b4)
  have NBw0_4 := Lib.hid ((b4.block (w2.heap.size) (by omega)).trans NBw0_3.out)
  clear NBw0_3
  clear b4 E3 Ow0_3
  have Ox0_4 := Lib.hid o4
  have LRx0 := Lib.hid Ox0_4.out.lt
  clear o4
  go_wp2_with fail
  refine (c2.out _ _ (HT.out _ E4.out) ⟨_, Ox0_4.out⟩).mono ?_
  rintro e w5 ⟨vg0, rfl, og0, b5⟩
  have z5 : w4.heap.size ≤ w5.heap.size := b5.size
  have y5 : w.heap.size ≤ w5.heap.size := by omega
  have E5 : Hid (Below w.heap.size w w5) := E4.out.trans (b5.mono (by omega))
  have Ow0_5 := Lib.hid (Ow0_4.out.later b5)
  have Ox0_5 := Lib.hid (Ox0_4.out.later b5)
  have NBw0_5 := Lib.hid ((b5.block (w2.heap.size) (by omega)).trans NBw0_4.out)
  clear NBw0_4
  clear b5 E4 Ow0_4 Ox0_4
  obtain ⟨ag0, cg0, rfl⟩ := og0.form
  have Og0_5 := Lib.hid og0
  have LRg0 := Lib.hid Og0_5.out.lt
  clear og0
  obtain ⟨⟨kx0_0, kx0_1, kx0_2, kx0_3, kx0_4⟩, -⟩ := boxA_at NBw0_5.out
  have nzw : ¬ w2.heap.size = w5.heap.size := by omega
  have nlw : w2.heap.size < w5.heap.size := by omega
  go_wp2_with fail
  generalize hx6 : w5.alloc (.cells #[.int .i64 r0.s, .int .i64 r0.h, .int .i64 r0.y, .int .i64 r0.p, .slice ag0 ys0.length cg0] 28) = w6
  have bb6 : Below w5.heap.size w5 w6 := by rw [← hx6]; go_grown
  have zb6 : w6.heap.size = w5.heap.size + 1 := by rw [← hx6]; simp
  have nb6 : w6.heap[w5.heap.size]? = some (.cells #[.int .i64 r0.s, .int .i64 r0.h, .int .i64 r0.y, .int .i64 r0.p, .slice ag0 ys0.length cg0] 28 (0, 0)) := by rw [← hx6]; exact heap_alloc_new _ _
  clear hx6 nlw kx0_0 kx0_1 kx0_2 kx0_3 kx0_4 nzw
  have z6 : w5.heap.size ≤ w6.heap.size := bb6.size
  have y6 : w.heap.size ≤ w6.heap.size := by omega
  have E6 : Hid (Below w.heap.size w w6) := E5.out.trans (bb6.mono (by omega))
  have Ow0_6 := Lib.hid (Ow0_5.out.later bb6)
  have Ox0_6 := Lib.hid (Ox0_5.out.later bb6)
  have Og0_6 := Lib.hid (Og0_5.out.later bb6)
  have NBw0_6 := Lib.hid ((bb6.block (w2.heap.size) (by omega)).trans NBw0_5.out)
  clear NBw0_5
  clear bb6 E5 Ow0_5 Ox0_5 Og0_5
  have NBg0_6 := Lib.hid nb6
  clear nb6
  refine (eqAxis_same r0 _ _ ys0 _ (Og0_6.out.rd encCv_len) (Ow0_6.out.rd encCv_len) LY0.out).mono ?_
  rintro e w7 ⟨rfl, b7⟩
  have z7 : w6.heap.size ≤ w7.heap.size := b7.size
  have y7 : w.heap.size ≤ w7.heap.size := by omega
  have E7 : Hid (Below w.heap.size w w7) := E6.out.trans (b7.mono (by omega))
  have Ow0_7 := Lib.hid (Ow0_6.out.later b7)
  have Ox0_7 := Lib.hid (Ox0_6.out.later b7)
  have Og0_7 := Lib.hid (Og0_6.out.later b7)
  have NBw0_7 := Lib.hid ((b7.block (w2.heap.size) (by omega)).trans NBw0_6.out)
  have NBg0_7 := Lib.hid ((b7.block (w5.heap.size) (by omega)).trans NBg0_6.out)
  clear NBw0_6 NBg0_6
  clear b7 E6 Ow0_6 Ox0_6 Og0_6
  go_wp2_with fail
  refine (toPoseS_any _ xs0 _ (H0.out.later E7.out) (by have := LZ.out; omega)).mono ?_
  rintro e w8 ⟨vt0, rfl, o8, b8⟩
  have z8 : w7.heap.size ≤ w8.heap.size := b8.size
  have y8 : w.heap.size ≤ w8.heap.size := by omega
  have E8 : Hid (Below w.heap.size w w8) := E7.out.trans (b8.mono (by omega))
  have Ow0_8 := Lib.hid (Ow0_7.out.later b8)
  have Ox0_8 := Lib.hid (Ox0_7.out.later b8)
  have Og0_8 := Lib.hid (Og0_7.out.later b8)
  have NBw0_8 := Lib.hid ((b8.block (w2.heap.size) (by omega)).trans NBw0_7.out)
  have NBg0_8 := Lib.hid ((b8.block (w5.heap.size) (by omega)).trans NBg0_7.out)
  clear NBw0_7 NBg0_7
  clear b8 E7 Ow0_7 Ox0_7 Og0_7
  have Ot0_8 := Lib.hid o8
  have LRt0 := Lib.hid Ot0_8.out.lt
  clear o8
  go_wp2_with fail
  refine (eqPoseS_same _ _ xs0 _ ((Ox0_8.out).rd encPs_len) ((Ot0_8.out).rd encPs_len) (by have := LZ.out; omega)).mono ?_
  rintro e w9 ⟨rfl, b9⟩
  have z9 : w8.heap.size ≤ w9.heap.size := b9.size
  have y9 : w.heap.size ≤ w9.heap.size := by omega
  have E9 : Hid (Below w.heap.size w w9) := E8.out.trans (b9.mono (by omega))
  have Ow0_9 := Lib.hid (Ow0_8.out.later b9)
  have Ox0_9 := Lib.hid (Ox0_8.out.later b9)
  have Og0_9 := Lib.hid (Og0_8.out.later b9)
  have Ot0_9 := Lib.hid (Ot0_8.out.later b9)
  have NBw0_9 := Lib.hid ((b9.block (w2.heap.size) (by omega)).trans NBw0_8.out)
  have NBg0_9 := Lib.hid ((b9.block (w5.heap.size) (by omega)).trans NBg0_8.out)
  clear NBw0_8 NBg0_8
  clear b9 E8 Ow0_8 Ox0_8 Og0_8 Ot0_8
  clear Ot0_9 LRt0
  go_wp2_with fail
  refine (markPoseS_any _ xs0 _ _ Ox0_9.out (by have := LZ.out; omega) (1) (by omega) (by have := LZ.out; omega)).mono ?_
  rintro e w10 ⟨rfl, o10, g10_⟩
  have z10 : w9.heap.size ≤ w10.heap.size := g10_.size
  have y10 : w.heap.size ≤ w10.heap.size := by omega
  have E10 : Hid (Below w.heap.size w w10) := E9.out.grown g10_ (by omega) (fun c h => by have := LRx0.out c h; omega)
  have Ow0_10 := Lib.hid (Ow0_9.out.kept g10_ (own_far _ _ (fun c h1 h2 => by have e1 := LRw0.out c h1; have e2 := LRx0.out c h2; omega)))
  have Og0_10 := Lib.hid (Og0_9.out.kept g10_ (own_far _ _ (fun c h1 h2 => by have e1 := LRg0.out c h1; have e2 := LRx0.out c h2; omega)))
  have NBw0_10 := Lib.hid ((g10_.block (w2.heap.size) (by omega) (fun h => by have := LRx0.out _ h.symm; omega)).trans NBw0_9.out)
  have NBg0_10 := Lib.hid ((g10_.block (w5.heap.size) (by omega) (fun h => by have := LRx0.out _ h.symm; omega)).trans NBg0_9.out)
  clear NBw0_9 NBg0_9
  clear g10_ E9 Ow0_9 Ox0_9 Og0_9
  have Ox0_10 := Lib.hid o10
  clear o10
  clear Ox0_10 LRx0
  have kneg : ¬ (1 + 4 * (xs0.length : Int) < 0) := by omega
  obtain ⟨⟨kx0_0, kx0_1, kx0_2, kx0_3, kx0_4⟩, -⟩ := boxA_at NBg0_10.out
  obtain ⟨⟨ky0_0, ky0_1, ky0_2, ky0_3, ky0_4⟩, -⟩ := boxA_at NBw0_10.out
  go_wp2_with fail
  refine (eqAxis_same r0 _ _ ys0 _ (Og0_10.out.rd encCv_len) (Ow0_10.out.rd encCv_len) LY0.out).mono ?_
  rintro e w11 ⟨rfl, b11⟩
  clear kx0_0 kx0_1 kx0_2 kx0_3 kx0_4 ky0_0 ky0_1 ky0_2 ky0_3 ky0_4
  have z11 : w10.heap.size ≤ w11.heap.size := b11.size
  have y11 : w.heap.size ≤ w11.heap.size := by omega
  have E11 : Hid (Below w.heap.size w w11) := E10.out.trans (b11.mono (by omega))
  have Ow0_11 := Lib.hid (Ow0_10.out.later b11)
  have Og0_11 := Lib.hid (Og0_10.out.later b11)
  have NBw0_11 := Lib.hid ((b11.block (w2.heap.size) (by omega)).trans NBw0_10.out)
  have NBg0_11 := Lib.hid ((b11.block (w5.heap.size) (by omega)).trans NBg0_10.out)
  clear NBw0_10 NBg0_10
  clear b11 E10 Ow0_10 Og0_10
  clear kneg
  obtain ⟨⟨kg0, kg1, kg2, kg3, kg4⟩, -⟩ := boxA_at NBg0_11.out
  go_wp2_with fail
  refine (markAxis_any r0 _ ys0 _ _ Og0_11.out (by have := LY0.out; omega) (1) (by omega) (by have := LY0.out; omega)).mono ?_
  rintro e w12 ⟨rfl, o12, g12_⟩
  clear kg0 kg1 kg2 kg3 kg4
  have z12 : w11.heap.size ≤ w12.heap.size := g12_.size
  have y12 : w.heap.size ≤ w12.heap.size := by omega
  have E12 : Hid (Below w.heap.size w w12) := E11.out.grown g12_ (by omega) (fun c h => by have := LRg0.out c h; omega)
  have Ow0_12 := Lib.hid (Ow0_11.out.kept g12_ (own_far _ _ (fun c h1 h2 => by have e1 := LRw0.out c h1; have e2 := LRg0.out c h2; omega)))
  have NBw0_12 := Lib.hid ((g12_.block (w2.heap.size) (by omega) (fun h => by have := LRg0.out _ h.symm; omega)).trans NBw0_11.out)
  have NBg0_12 := Lib.hid ((g12_.block (w5.heap.size) (by omega) (fun h => by have := LRg0.out _ h.symm; omega)).trans NBg0_11.out)
  clear NBw0_11 NBg0_11
  clear g12_ E11 Ow0_11 Og0_11
  have Og0_12 := Lib.hid o12
  clear o12
  have mneg186 : ¬ (1 + 3 * (ys0.length : Int) < 0) := by omega
  obtain ⟨⟨kg0, kg1, kg2, kg3, kg4⟩, -⟩ := boxA_at NBg0_12.out
  go_wp2_with fail
  refine (heldAxis_any r0 _ ys0.length (1) _ ((Og0_12.out).rd encCv_len) (by have := LY0.out; omega) (by omega) (by have := LY0.out; omega)).mono ?_
  rintro e w13 ⟨rfl, b13⟩
  clear kg0 kg1 kg2 kg3 kg4
  have z13 : w12.heap.size ≤ w13.heap.size := b13.size
  have y13 : w.heap.size ≤ w13.heap.size := by omega
  have E13 : Hid (Below w.heap.size w w13) := E12.out.trans (b13.mono (by omega))
  have Ow0_13 := Lib.hid (Ow0_12.out.later b13)
  have Og0_13 := Lib.hid (Og0_12.out.later b13)
  have NBw0_13 := Lib.hid ((b13.block (w2.heap.size) (by omega)).trans NBw0_12.out)
  have NBg0_13 := Lib.hid ((b13.block (w5.heap.size) (by omega)).trans NBg0_12.out)
  clear NBw0_12 NBg0_12
  clear b13 E12 Ow0_12 Og0_12
  go_wp2_with fail
  refine (toPoseS_any _ xs0 _ (H0.out.later E13.out) (by have := LZ.out; omega)).mono ?_
  rintro e w14 ⟨vb0, rfl, o14, b14⟩
  have z14 : w13.heap.size ≤ w14.heap.size := b14.size
  have y14 : w.heap.size ≤ w14.heap.size := by omega
  have E14 : Hid (Below w.heap.size w w14) := E13.out.trans (b14.mono (by omega))
  have Ow0_14 := Lib.hid (Ow0_13.out.later b14)
  have Og0_14 := Lib.hid (Og0_13.out.later b14)
  have NBw0_14 := Lib.hid ((b14.block (w2.heap.size) (by omega)).trans NBw0_13.out)
  have NBg0_14 := Lib.hid ((b14.block (w5.heap.size) (by omega)).trans NBg0_13.out)
  clear NBw0_13 NBg0_13
  clear b14 E13 Ow0_13 Og0_13
  have Ob0_14 := Lib.hid o14
  have LRb0 := Lib.hid Ob0_14.out.lt
  clear o14
  go_wp2_with fail
  refine (c2.out _ _ (HT.out _ E14.out) ⟨_, Ob0_14.out⟩).mono ?_
  rintro e w15 ⟨vh0, rfl, oh0, b15⟩
  have z15 : w14.heap.size ≤ w15.heap.size := b15.size
  have y15 : w.heap.size ≤ w15.heap.size := by omega
  have E15 : Hid (Below w.heap.size w w15) := E14.out.trans (b15.mono (by omega))
  have Ow0_15 := Lib.hid (Ow0_14.out.later b15)
  have Og0_15 := Lib.hid (Og0_14.out.later b15)
  have Ob0_15 := Lib.hid (Ob0_14.out.later b15)
  have NBw0_15 := Lib.hid ((b15.block (w2.heap.size) (by omega)).trans NBw0_14.out)
  have NBg0_15 := Lib.hid ((b15.block (w5.heap.size) (by omega)).trans NBg0_14.out)
  clear NBw0_14 NBg0_14
  clear b15 E14 Ow0_14 Og0_14 Ob0_14
  obtain ⟨ah0, ch0, rfl⟩ := oh0.form
  have Oh0_15 := Lib.hid oh0
  have LRh0 := Lib.hid Oh0_15.out.lt
  clear oh0
  obtain ⟨⟨kx0_0, kx0_1, kx0_2, kx0_3, kx0_4⟩, -⟩ := boxA_at NBw0_15.out
  have nzw : ¬ w2.heap.size = w15.heap.size := by omega
  have nlw : w2.heap.size < w15.heap.size := by omega
  go_wp2_with fail
  generalize hx16 : w15.alloc (.cells #[.int .i64 r0.s, .int .i64 r0.h, .int .i64 r0.y, .int .i64 r0.p, .slice ah0 ys0.length ch0] 28) = w16
  have bb16 : Below w15.heap.size w15 w16 := by rw [← hx16]; go_grown
  have zb16 : w16.heap.size = w15.heap.size + 1 := by rw [← hx16]; simp
  have nb16 : w16.heap[w15.heap.size]? = some (.cells #[.int .i64 r0.s, .int .i64 r0.h, .int .i64 r0.y, .int .i64 r0.p, .slice ah0 ys0.length ch0] 28 (0, 0)) := by rw [← hx16]; exact heap_alloc_new _ _
  clear hx16 nlw kx0_0 kx0_1 kx0_2 kx0_3 kx0_4 nzw
  have z16 : w15.heap.size ≤ w16.heap.size := bb16.size
  have y16 : w.heap.size ≤ w16.heap.size := by omega
  have E16 : Hid (Below w.heap.size w w16) := E15.out.trans (bb16.mono (by omega))
  have Ow0_16 := Lib.hid (Ow0_15.out.later bb16)
  have Og0_16 := Lib.hid (Og0_15.out.later bb16)
  have Ob0_16 := Lib.hid (Ob0_15.out.later bb16)
  have Oh0_16 := Lib.hid (Oh0_15.out.later bb16)
  have NBw0_16 := Lib.hid ((bb16.block (w2.heap.size) (by omega)).trans NBw0_15.out)
  have NBg0_16 := Lib.hid ((bb16.block (w5.heap.size) (by omega)).trans NBg0_15.out)
  clear NBw0_15 NBg0_15
  clear bb16 E15 Ow0_15 Og0_15 Ob0_15 Oh0_15
  have NBh0_16 := Lib.hid nb16
  clear nb16
  clear Ob0_16 LRb0
  refine (eqAxis_same r0 _ _ ys0 _ (Oh0_16.out.rd encCv_len) (Ow0_16.out.rd encCv_len) LY0.out).mono ?_
  rintro e w17 ⟨rfl, b17⟩
  have z17 : w16.heap.size ≤ w17.heap.size := b17.size
  have y17 : w.heap.size ≤ w17.heap.size := by omega
  have E17 : Hid (Below w.heap.size w w17) := E16.out.trans (b17.mono (by omega))
  have Ow0_17 := Lib.hid (Ow0_16.out.later b17)
  have Og0_17 := Lib.hid (Og0_16.out.later b17)
  have Oh0_17 := Lib.hid (Oh0_16.out.later b17)
  have NBw0_17 := Lib.hid ((b17.block (w2.heap.size) (by omega)).trans NBw0_16.out)
  have NBg0_17 := Lib.hid ((b17.block (w5.heap.size) (by omega)).trans NBg0_16.out)
  have NBh0_17 := Lib.hid ((b17.block (w15.heap.size) (by omega)).trans NBh0_16.out)
  clear NBw0_16 NBg0_16 NBh0_16
  clear b17 E16 Ow0_16 Og0_16 Oh0_16
  obtain ⟨⟨kg0, kg1, kg2, kg3, kg4⟩, -⟩ := boxA_at NBg0_17.out
  go_wp2_with fail
  refine (heldAxis_any r0 _ ys0.length (1) _ ((Og0_17.out).rd encCv_len) (by have := LY0.out; omega) (by omega) (by have := LY0.out; omega)).mono ?_
  rintro e w18 ⟨rfl, b18⟩
  clear kg0 kg1 kg2 kg3 kg4
  have z18 : w17.heap.size ≤ w18.heap.size := b18.size
  have y18 : w.heap.size ≤ w18.heap.size := by omega
  have E18 : Hid (Below w.heap.size w w18) := E17.out.trans (b18.mono (by omega))
  have Ow0_18 := Lib.hid (Ow0_17.out.later b18)
  have Og0_18 := Lib.hid (Og0_17.out.later b18)
  have Oh0_18 := Lib.hid (Oh0_17.out.later b18)
  have NBw0_18 := Lib.hid ((b18.block (w2.heap.size) (by omega)).trans NBw0_17.out)
  have NBg0_18 := Lib.hid ((b18.block (w5.heap.size) (by omega)).trans NBg0_17.out)
  have NBh0_18 := Lib.hid ((b18.block (w15.heap.size) (by omega)).trans NBh0_17.out)
  clear NBw0_17 NBg0_17 NBh0_17
  clear b18 E17 Ow0_17 Og0_17 Oh0_17
  go_wp2
  go_ret
  exact ⟨rfl, E18.out⟩

set_option maxRecDepth 100000 in
theorem walkFnExactAxisOf (w : World) (s0 : Option Addr) (p0 : Nat) (xs0 : List Ps) (hc0 : RdS 4 encPs w (.slice s0 xs0.length p0) xs0) (hl0 : xs0.length ≤ maxLen) (wc0 : ∀ y ∈ xs0, WfL encPs y) :
    Calls Try.prog 6 #[.slice s0 xs0.length p0] w fun e w' => e = .returned (.bool true) ∧ Below w.heap.size w w' := by
  by_cases lz : xs0.length ≤ 1048576
  · obtain ⟨r0, ys0, r1, ly0, c1, c2⟩ := exAxisOf xs0 lz
    exact axisOf_law s0 p0 xs0 w (fun _ => True) (fun _ _ => trivial) hc0 lz r0 ys0 r1 ly0 c1 c2
  · have s0 := Lib.hid (fun w => szPoseS_any s0 xs0.length p0 1048576 (by omega) (by omega) (by unfold maxLen at hl0; omega) w)
    rw [if_neg (show ¬ (xs0.length : Int) ≤ 1048576 by omega)] at s0
    clear hc0 lz hl0 wc0
    go_enter Try.func6, Try.ntmps6
    go_wp2_with fail
    refine (s0.out _).mono ?_
    rintro e w1 ⟨rfl, rfl⟩
    go_wp2
    go_ret
    exact ⟨rfl, by go_grown⟩
end Go.Proofs.Ythhnnkgfnhggbaa
