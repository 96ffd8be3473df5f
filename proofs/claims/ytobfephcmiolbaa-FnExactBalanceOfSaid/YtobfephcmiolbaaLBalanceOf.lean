/- The law of BalanceOf. -/
import Derived.Test.YtobfephcmiolbaaMuckD
import Derived.Test.YtobfephcmiolbaaExKit
import Derived.Deep.RegionHeld3
namespace Go.Proofs.Ytobfephcmiolbaa
open Go.ChangeShapes Go.WideShapes Go.ChangeAt Go.RowKit
set_option linter.unusedVariables false
set_option linter.unusedSimpArgs false

set_option maxRecDepth 100000 in
set_option maxHeartbeats 8000000 in
theorem balanceOf_law (s0 : Option Addr) (p0 : Nat) (xs0 : List Int) (s1 : Option Addr) (p1 : Nat) (xs1 : List Int) (w : World) (T : World → Prop) (hT : ∀ w', Below w.heap.size w w' → T w') (hc0 : RdI w (.slice s0 xs0.length p0) xs0) (hc1 : RdI w (.slice s1 xs1.length p1) xs1) (lz : xs0.length ≤ 1048576 ∧ xs1.length ≤ 1048576) (ys0 : List Int) (r1 : Bool) (ly0 : ys0.length ≤ 1048576)
    (c1 : Hid (∀ (w : World) (v0 : Value) (v1 : Value), T w → RdI w v0 xs0 → RdI w v1 xs1 → Calls Try.prog 27 #[v0, v1] w fun e w' => ∃ u0, e = .returned (.tuple #[u0, .bool r1]) ∧ OwnI w' w.heap.size u0 ys0 ∧ Below w.heap.size w w'))
    (c2 : Hid (∀ (w : World) (v0 : Value) (v1 : Value), T w → RdI w v0 xs0 → RdI w v1 xs1 → Calls Try.prog 29 #[v0, v1] w fun e w' => ∃ u0, e = .returned (.tuple #[u0, .bool r1]) ∧ OwnI w' w.heap.size u0 ys0 ∧ Below w.heap.size w w')) :
    Calls Try.prog 6 #[.slice s0 xs0.length p0, .slice s1 xs1.length p1] w fun e w' => e = .returned (.bool true) ∧ Below w.heap.size w w' := by
  have HT := Lib.hid hT
  have H0 := Lib.hid hc0
  have H1 := Lib.hid hc1
  have LZ := Lib.hid lz
  have LY0 := Lib.hid ly0
  have g0 : ¬ ((1048576 : Int) < xs0.length) := by omega
  have g1 : ¬ ((1048576 : Int) < xs1.length) := by omega
  clear hT hc0 hc1 lz ly0
  go_enter Try.func6, Try.ntmps6
  go_wp2_with fail
  refine (toInts_any _ xs0 _ H0.out (by have := LZ.out; omega)).mono ?_
  rintro e w1 ⟨va0, rfl, o1, b1⟩
  have y1 : w.heap.size ≤ w1.heap.size := b1.size
  have E1 : Hid (Below w.heap.size w w1) := b1
  clear b1
  have Oa0_1 := Lib.hid o1
  have LRa0 := Lib.hid Oa0_1.out.lt
  clear o1
  go_wp2_with fail
  refine (toInts_any _ xs1 _ (H1.out.later E1.out) (by have := LZ.out; omega)).mono ?_
  rintro e w2 ⟨va1, rfl, o2, b2⟩
  have z2 : w1.heap.size ≤ w2.heap.size := b2.size
  have y2 : w.heap.size ≤ w2.heap.size := by omega
  have E2 : Hid (Below w.heap.size w w2) := E1.out.trans (b2.mono (by omega))
  have Oa0_2 := Lib.hid (Oa0_1.out.later b2)
  clear b2 E1 Oa0_1
  have Oa1_2 := Lib.hid o2
  have LRa1 := Lib.hid Oa1_2.out.lt
  clear o2
  go_wp2_with fail
  refine (c1.out _ _ _ (HT.out _ E2.out) ((Oa0_2.out).rd) ((Oa1_2.out).rd)).mono ?_
  rintro e w3 ⟨vw0, rfl, ow0, b3⟩
  have z3 : w2.heap.size ≤ w3.heap.size := b3.size
  have y3 : w.heap.size ≤ w3.heap.size := by omega
  have E3 : Hid (Below w.heap.size w w3) := E2.out.trans (b3.mono (by omega))
  have Oa0_3 := Lib.hid (Oa0_2.out.later b3)
  have Oa1_3 := Lib.hid (Oa1_2.out.later b3)
  clear b3 E2 Oa0_2 Oa1_2
  have Ow0_3 := Lib.hid ow0
  have LRw0 := Lib.hid Ow0_3.out.lt
  clear ow0
  clear Oa0_3 LRa0
  clear Oa1_3 LRa1
  go_wp2_with fail
  refine (toInts_any _ xs0 _ (H0.out.later E3.out) (by have := LZ.out; omega)).mono ?_
  rintro e w4 ⟨vx0, rfl, o4, b4⟩
  have z4 : w3.heap.size ≤ w4.heap.size := b4.size
  have y4 : w.heap.size ≤ w4.heap.size := by omega
  have E4 : Hid (Below w.heap.size w w4) := E3.out.trans (b4.mono (by omega))
  have Ow0_4 := Lib.hid (Ow0_3.out.later b4)
  clear b4 E3 Ow0_3
  have Ox0_4 := Lib.hid o4
  have LRx0 := Lib.hid Ox0_4.out.lt
  clear o4
  go_wp2_with fail
  refine (toInts_any _ xs1 _ (H1.out.later E4.out) (by have := LZ.out; omega)).mono ?_
  rintro e w5 ⟨vx1, rfl, o5, b5⟩
  have z5 : w4.heap.size ≤ w5.heap.size := b5.size
  have y5 : w.heap.size ≤ w5.heap.size := by omega
  have E5 : Hid (Below w.heap.size w w5) := E4.out.trans (b5.mono (by omega))
  have Ow0_5 := Lib.hid (Ow0_4.out.later b5)
  have Ox0_5 := Lib.hid (Ox0_4.out.later b5)
  clear b5 E4 Ow0_4 Ox0_4
  have Ox1_5 := Lib.hid o5
  have LRx1 := Lib.hid Ox1_5.out.lt
  clear o5
  go_wp2_with fail
  refine (c2.out _ _ _ (HT.out _ E5.out) ((Ox0_5.out).rd) ((Ox1_5.out).rd)).mono ?_
  rintro e w6 ⟨vg0, rfl, og0, b6⟩
  have z6 : w5.heap.size ≤ w6.heap.size := b6.size
  have y6 : w.heap.size ≤ w6.heap.size := by omega
  have E6 : Hid (Below w.heap.size w w6) := E5.out.trans (b6.mono (by omega))
  have Ow0_6 := Lib.hid (Ow0_5.out.later b6)
  have Ox0_6 := Lib.hid (Ox0_5.out.later b6)
  have Ox1_6 := Lib.hid (Ox1_5.out.later b6)
  clear b6 E5 Ow0_5 Ox0_5 Ox1_5
  have Og0_6 := Lib.hid og0
  have LRg0 := Lib.hid Og0_6.out.lt
  clear og0
  go_wp2_with fail
  refine (eqInt64S_same _ _ ys0 _ ((Og0_6.out).rd) ((Ow0_6.out).rd) (by have := LY0.out; omega)).mono ?_
  rintro e w7 ⟨rfl, b7⟩
  have z7 : w6.heap.size ≤ w7.heap.size := b7.size
  have y7 : w.heap.size ≤ w7.heap.size := by omega
  have E7 : Hid (Below w.heap.size w w7) := E6.out.trans (b7.mono (by omega))
  have Ow0_7 := Lib.hid (Ow0_6.out.later b7)
  have Ox0_7 := Lib.hid (Ox0_6.out.later b7)
  have Ox1_7 := Lib.hid (Ox1_6.out.later b7)
  have Og0_7 := Lib.hid (Og0_6.out.later b7)
  clear b7 E6 Ow0_6 Ox0_6 Ox1_6 Og0_6
  go_wp2_with fail
  refine (toInts_any _ xs0 _ (H0.out.later E7.out) (by have := LZ.out; omega)).mono ?_
  rintro e w8 ⟨vt0, rfl, o8, b8⟩
  have z8 : w7.heap.size ≤ w8.heap.size := b8.size
  have y8 : w.heap.size ≤ w8.heap.size := by omega
  have E8 : Hid (Below w.heap.size w w8) := E7.out.trans (b8.mono (by omega))
  have Ow0_8 := Lib.hid (Ow0_7.out.later b8)
  have Ox0_8 := Lib.hid (Ox0_7.out.later b8)
  have Ox1_8 := Lib.hid (Ox1_7.out.later b8)
  have Og0_8 := Lib.hid (Og0_7.out.later b8)
  clear b8 E7 Ow0_7 Ox0_7 Ox1_7 Og0_7
  have Ot0_8 := Lib.hid o8
  have LRt0 := Lib.hid Ot0_8.out.lt
  clear o8
  go_wp2_with fail
  refine (eqInt64S_same _ _ xs0 _ ((Ox0_8.out).rd) ((Ot0_8.out).rd) (by have := LZ.out; omega)).mono ?_
  rintro e w9 ⟨rfl, b9⟩
  have z9 : w8.heap.size ≤ w9.heap.size := b9.size
  have y9 : w.heap.size ≤ w9.heap.size := by omega
  have E9 : Hid (Below w.heap.size w w9) := E8.out.trans (b9.mono (by omega))
  have Ow0_9 := Lib.hid (Ow0_8.out.later b9)
  have Ox0_9 := Lib.hid (Ox0_8.out.later b9)
  have Ox1_9 := Lib.hid (Ox1_8.out.later b9)
  have Og0_9 := Lib.hid (Og0_8.out.later b9)
  have Ot0_9 := Lib.hid (Ot0_8.out.later b9)
  clear b9 E8 Ow0_8 Ox0_8 Ox1_8 Og0_8 Ot0_8
  clear Ot0_9 LRt0
  go_wp2_with fail
  refine (toInts_any _ xs1 _ (H1.out.later E9.out) (by have := LZ.out; omega)).mono ?_
  rintro e w10 ⟨vt1, rfl, o10, b10⟩
  have z10 : w9.heap.size ≤ w10.heap.size := b10.size
  have y10 : w.heap.size ≤ w10.heap.size := by omega
  have E10 : Hid (Below w.heap.size w w10) := E9.out.trans (b10.mono (by omega))
  have Ow0_10 := Lib.hid (Ow0_9.out.later b10)
  have Ox0_10 := Lib.hid (Ox0_9.out.later b10)
  have Ox1_10 := Lib.hid (Ox1_9.out.later b10)
  have Og0_10 := Lib.hid (Og0_9.out.later b10)
  clear b10 E9 Ow0_9 Ox0_9 Ox1_9 Og0_9
  have Ot1_10 := Lib.hid o10
  have LRt1 := Lib.hid Ot1_10.out.lt
  clear o10
  go_wp2_with fail
  refine (eqInt64S_same _ _ xs1 _ ((Ox1_10.out).rd) ((Ot1_10.out).rd) (by have := LZ.out; omega)).mono ?_
  rintro e w11 ⟨rfl, b11⟩
  have z11 : w10.heap.size ≤ w11.heap.size := b11.size
  have y11 : w.heap.size ≤ w11.heap.size := by omega
  have E11 : Hid (Below w.heap.size w w11) := E10.out.trans (b11.mono (by omega))
  have Ow0_11 := Lib.hid (Ow0_10.out.later b11)
  have Ox0_11 := Lib.hid (Ox0_10.out.later b11)
  have Ox1_11 := Lib.hid (Ox1_10.out.later b11)
  have Og0_11 := Lib.hid (Og0_10.out.later b11)
  have Ot1_11 := Lib.hid (Ot1_10.out.later b11)
  clear b11 E10 Ow0_10 Ox0_10 Ox1_10 Og0_10 Ot1_10
  clear Ot1_11 LRt1
  go_wp2_with fail
  refine (markInts_any _ xs0 _ _ Ox0_11.out (by have := LZ.out; omega) (1) (by omega) (by have := LZ.out; omega)).mono ?_
  rintro e w12 ⟨rfl, o12, g12_⟩
  have z12 : w11.heap.size ≤ w12.heap.size := g12_.size
  have y12 : w.heap.size ≤ w12.heap.size := by omega
  have E12 : Hid (Below w.heap.size w w12) := E11.out.grown g12_ (by omega) (fun c h => by have := LRx0.out c h; omega)
  have Ow0_12 := Lib.hid (Ow0_11.out.kept g12_ (own_far _ _ (fun c h1 h2 => by have e1 := LRw0.out c h1; have e2 := LRx0.out c h2; omega)))
  have Ox1_12 := Lib.hid (Ox1_11.out.kept g12_ (own_far _ _ (fun c h1 h2 => by have e1 := LRx1.out c h1; have e2 := LRx0.out c h2; omega)))
  have Og0_12 := Lib.hid (Og0_11.out.kept g12_ (own_far _ _ (fun c h1 h2 => by have e1 := LRg0.out c h1; have e2 := LRx0.out c h2; omega)))
  clear g12_ E11 Ow0_11 Ox0_11 Ox1_11 Og0_11
  have Ox0_12 := Lib.hid o12
  clear o12
  clear Ox0_12 LRx0
  go_wp2_with fail
  refine (markInts_any _ xs1 _ _ Ox1_12.out (by have := LZ.out; omega) (1 + (xs0.length : Int)) (by omega) (by have := LZ.out; omega)).mono ?_
  rintro e w13 ⟨rfl, o13, g13_⟩
  have z13 : w12.heap.size ≤ w13.heap.size := g13_.size
  have y13 : w.heap.size ≤ w13.heap.size := by omega
  have E13 : Hid (Below w.heap.size w w13) := E12.out.grown g13_ (by omega) (fun c h => by have := LRx1.out c h; omega)
  have Ow0_13 := Lib.hid (Ow0_12.out.kept g13_ (own_far _ _ (fun c h1 h2 => by have e1 := LRw0.out c h1; have e2 := LRx1.out c h2; omega)))
  have Og0_13 := Lib.hid (Og0_12.out.kept g13_ (own_far _ _ (fun c h1 h2 => by have e1 := LRg0.out c h1; have e2 := LRx1.out c h2; omega)))
  clear g13_ E12 Ow0_12 Ox1_12 Og0_12
  have Ox1_13 := Lib.hid o13
  clear o13
  clear Ox1_13 LRx1
  have kneg : ¬ (1 + (xs0.length : Int) + (xs1.length : Int) < 0) := by omega
  go_wp2_with fail
  refine (eqInt64S_same _ _ ys0 _ ((Og0_13.out).rd) ((Ow0_13.out).rd) (by have := LY0.out; omega)).mono ?_
  rintro e w14 ⟨rfl, b14⟩
  have z14 : w13.heap.size ≤ w14.heap.size := b14.size
  have y14 : w.heap.size ≤ w14.heap.size := by omega
  have E14 : Hid (Below w.heap.size w w14) := E13.out.trans (b14.mono (by omega))
  have Ow0_14 := Lib.hid (Ow0_13.out.later b14)
  have Og0_14 := Lib.hid (Og0_13.out.later b14)
  clear b14 E13 Ow0_13 Og0_13
  clear kneg
  go_wp2_with fail
  refine (markInts_any _ ys0 _ _ Og0_14.out (by have := LY0.out; omega) (1) (by omega) (by have := LY0.out; omega)).mono ?_
  rintro e w15 ⟨rfl, o15, g15_⟩
  have z15 : w14.heap.size ≤ w15.heap.size := g15_.size
  have y15 : w.heap.size ≤ w15.heap.size := by omega
  have E15 : Hid (Below w.heap.size w w15) := E14.out.grown g15_ (by omega) (fun c h => by have := LRg0.out c h; omega)
  have Ow0_15 := Lib.hid (Ow0_14.out.kept g15_ (own_far _ _ (fun c h1 h2 => by have e1 := LRw0.out c h1; have e2 := LRg0.out c h2; omega)))
  clear g15_ E14 Ow0_14 Og0_14
  have Og0_15 := Lib.hid o15
  clear o15
  have mneg195 : ¬ (1 + (ys0.length : Int) < 0) := by omega
  go_wp2_with fail
  refine (heldInts_any _ ys0.length (1) _ ((Og0_15.out).rd) (by have := LY0.out; omega) (by omega) (by have := LY0.out; omega)).mono ?_
  rintro e w' ⟨rfl, rfl⟩
  go_wp2_with fail
  refine (toInts_any _ xs0 _ (H0.out.later E15.out) (by have := LZ.out; omega)).mono ?_
  rintro e w16 ⟨vb0, rfl, o16, b16⟩
  have z16 : w15.heap.size ≤ w16.heap.size := b16.size
  have y16 : w.heap.size ≤ w16.heap.size := by omega
  have E16 : Hid (Below w.heap.size w w16) := E15.out.trans (b16.mono (by omega))
  have Ow0_16 := Lib.hid (Ow0_15.out.later b16)
  have Og0_16 := Lib.hid (Og0_15.out.later b16)
  clear b16 E15 Ow0_15 Og0_15
  have Ob0_16 := Lib.hid o16
  have LRb0 := Lib.hid Ob0_16.out.lt
  clear o16
  go_wp2_with fail
  refine (toInts_any _ xs1 _ (H1.out.later E16.out) (by have := LZ.out; omega)).mono ?_
  rintro e w17 ⟨vb1, rfl, o17, b17⟩
  have z17 : w16.heap.size ≤ w17.heap.size := b17.size
  have y17 : w.heap.size ≤ w17.heap.size := by omega
  have E17 : Hid (Below w.heap.size w w17) := E16.out.trans (b17.mono (by omega))
  have Ow0_17 := Lib.hid (Ow0_16.out.later b17)
  have Og0_17 := Lib.hid (Og0_16.out.later b17)
  have Ob0_17 := Lib.hid (Ob0_16.out.later b17)
  clear b17 E16 Ow0_16 Og0_16 Ob0_16
  have Ob1_17 := Lib.hid o17
  have LRb1 := Lib.hid Ob1_17.out.lt
  clear o17
  go_wp2_with fail
  refine (c2.out _ _ _ (HT.out _ E17.out) ((Ob0_17.out).rd) ((Ob1_17.out).rd)).mono ?_
  rintro e w18 ⟨vh0, rfl, oh0, b18⟩
  have z18 : w17.heap.size ≤ w18.heap.size := b18.size
  have y18 : w.heap.size ≤ w18.heap.size := by omega
  have E18 : Hid (Below w.heap.size w w18) := E17.out.trans (b18.mono (by omega))
  have Ow0_18 := Lib.hid (Ow0_17.out.later b18)
  have Og0_18 := Lib.hid (Og0_17.out.later b18)
  have Ob0_18 := Lib.hid (Ob0_17.out.later b18)
  have Ob1_18 := Lib.hid (Ob1_17.out.later b18)
  clear b18 E17 Ow0_17 Og0_17 Ob0_17 Ob1_17
  have Oh0_18 := Lib.hid oh0
  have LRh0 := Lib.hid Oh0_18.out.lt
  clear oh0
  clear Ob0_18 LRb0
  clear Ob1_18 LRb1
  go_wp2_with fail
  refine (eqInt64S_same _ _ ys0 _ ((Oh0_18.out).rd) ((Ow0_18.out).rd) (by have := LY0.out; omega)).mono ?_
  rintro e w19 ⟨rfl, b19⟩
  have z19 : w18.heap.size ≤ w19.heap.size := b19.size
  have y19 : w.heap.size ≤ w19.heap.size := by omega
  have E19 : Hid (Below w.heap.size w w19) := E18.out.trans (b19.mono (by omega))
  have Ow0_19 := Lib.hid (Ow0_18.out.later b19)
  have Og0_19 := Lib.hid (Og0_18.out.later b19)
  have Oh0_19 := Lib.hid (Oh0_18.out.later b19)
  clear b19 E18 Ow0_18 Og0_18 Oh0_18
  go_wp2_with fail
  refine (heldInts_any _ ys0.length (1) _ ((Og0_19.out).rd) (by have := LY0.out; omega) (by omega) (by have := LY0.out; omega)).mono ?_
  rintro e w' ⟨rfl, rfl⟩
  go_wp2
  go_ret
  exact ⟨rfl, E19.out⟩

set_option maxRecDepth 100000 in
theorem walkFnExactBalanceOf (w : World) (s0 : Option Addr) (len0 p0 : Nat) (z0 : List Int) (w0 : IsRow .i64 w s0 len0 p0 z0) (s1 : Option Addr) (len1 p1 : Nat) (z1 : List Int) (w1 : IsRow .i64 w s1 len1 p1 z1) :
    Calls Try.prog 6 #[.slice s0 len0 p0, .slice s1 len1 p1] w fun e w' => e = .returned (.bool true) ∧ Below w.heap.size w w' := by
  have m0 := w0.len_le
  obtain ⟨hc0, hz0⟩ := w0.rd
  obtain ⟨xs0, hxs0⟩ : ∃ xs, xs = z0.take len0 := ⟨_, rfl⟩
  rw [← hxs0] at hc0 hz0
  clear hxs0 w0
  subst hz0
  have m1 := w1.len_le
  obtain ⟨hc1, hz1⟩ := w1.rd
  obtain ⟨xs1, hxs1⟩ : ∃ xs, xs = z1.take len1 := ⟨_, rfl⟩
  rw [← hxs1] at hc1 hz1
  clear hxs1 w1
  subst hz1
  by_cases lz : xs0.length ≤ 1048576 ∧ xs1.length ≤ 1048576
  · obtain ⟨ys0, r1, ly0, c1, c2⟩ := exBalanceOf xs0 xs1 lz
    exact balanceOf_law s0 p0 xs0 s1 p1 xs1 w (fun _ => True) (fun _ _ => trivial) hc0 hc1 lz ys0 r1 ly0 c1 c2
  · clear hc0 hc1
    by_cases l0 : (1048576 : Int) < xs0.length
    · clear lz
      go_enter Try.func6, Try.ntmps6
      go_wp2
      go_ret
      exact ⟨rfl, by go_grown⟩
    by_cases l1 : (1048576 : Int) < xs1.length
    · clear lz
      go_enter Try.func6, Try.ntmps6
      go_wp2
      go_ret
      exact ⟨rfl, by go_grown⟩
    exact absurd (by omega) lz
end Go.Proofs.Ytobfephcmiolbaa
