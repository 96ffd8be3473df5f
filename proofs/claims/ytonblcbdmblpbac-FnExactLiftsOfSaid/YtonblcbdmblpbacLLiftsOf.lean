/- The law of LiftsOf. -/
import Derived.Test.YtonblcbdmblpbacLiftX
import Derived.Test.YtonblcbdmblpbacExKit
import Derived.Deep.RegionHeld3
namespace Go.Proofs.Ytonblcbdmblpbac
open Go.ChangeShapes Go.WideShapes Go.ChangeAt Go.RowKit
set_option linter.unusedVariables false
set_option linter.unusedSimpArgs false

set_option maxRecDepth 100000 in
set_option maxHeartbeats 8000000 in
theorem liftsOf_law (s0 : Option Addr) (p0 : Nat) (xs0 : List Int) (w : World) (T : World → Prop) (hT : ∀ w', Below w.heap.size w w' → T w') (hc0 : RdI w (.slice s0 xs0.length p0) xs0) (lz : xs0.length ≤ 1048576) (ys0 : List Int) (r1 : Bool) (ly0 : ys0.length ≤ 1048576)
    (c1 : Hid (∀ (w : World) (v0 : Value), T w → RdI w v0 xs0 → Calls Try.prog 7 #[v0] w fun e w' => ∃ u0, e = .returned (.tuple #[u0, .bool r1]) ∧ OwnI w' w.heap.size u0 ys0 ∧ Below w.heap.size w w'))
    (c2 : Hid (∀ (w : World) (v0 : Value), T w → RdI w v0 xs0 → Calls Try.prog 9 #[v0] w fun e w' => ∃ u0, e = .returned (.tuple #[u0, .bool r1]) ∧ OwnI w' w.heap.size u0 ys0 ∧ Below w.heap.size w w')) :
    Calls Try.prog 3 #[.slice s0 xs0.length p0] w fun e w' => e = .returned (.bool true) ∧ Below w.heap.size w w' := by
  have HT := Lib.hid hT
  have H0 := Lib.hid hc0
  have LZ := Lib.hid lz
  have LY0 := Lib.hid ly0
  have g0 : ¬ ((1048576 : Int) < xs0.length) := by omega
  clear hT hc0 lz ly0
  go_enter Try.func3, Try.ntmps3
  go_wp2_with fail
  refine (toInts_any _ xs0 _ H0.out (by have := LZ.out; omega)).mono ?_
  rintro e w1 ⟨va0, rfl, o1, b1⟩
  have y1 : w.heap.size ≤ w1.heap.size := b1.size
  have E1 : Hid (Below w.heap.size w w1) := b1
  clear b1
  have Oa0_1 := Lib.hid o1
  have LRa0 := Lib.hid Oa0_1.out.lt
  clear o1
  go_wp2_with fail
  refine (c1.out _ _ (HT.out _ E1.out) ((Oa0_1.out).rd)).mono ?_
  rintro e w2 ⟨vw0, rfl, ow0, b2⟩
  have z2 : w1.heap.size ≤ w2.heap.size := b2.size
  have y2 : w.heap.size ≤ w2.heap.size := by omega
  have E2 : Hid (Below w.heap.size w w2) := E1.out.trans (b2.mono (by omega))
  have Oa0_2 := Lib.hid (Oa0_1.out.later b2)
  clear b2 E1 Oa0_1
  have Ow0_2 := Lib.hid ow0
  have LRw0 := Lib.hid Ow0_2.out.lt
  clear ow0
  clear Oa0_2 LRa0
  go_wp2_with fail
  refine (toInts_any _ xs0 _ (H0.out.later E2.out) (by have := LZ.out; omega)).mono ?_
  rintro e w3 ⟨vx0, rfl, o3, b3⟩
  have z3 : w2.heap.size ≤ w3.heap.size := b3.size
  have y3 : w.heap.size ≤ w3.heap.size := by omega
  have E3 : Hid (Below w.heap.size w w3) := E2.out.trans (b3.mono (by omega))
  have Ow0_3 := Lib.hid (Ow0_2.out.later b3)
  clear b3 E2 Ow0_2
  have Ox0_3 := Lib.hid o3
  have LRx0 := Lib.hid Ox0_3.out.lt
  clear o3
  go_wp2_with fail
  refine (c2.out _ _ (HT.out _ E3.out) ((Ox0_3.out).rd)).mono ?_
  rintro e w4 ⟨vg0, rfl, og0, b4⟩
  have z4 : w3.heap.size ≤ w4.heap.size := b4.size
  have y4 : w.heap.size ≤ w4.heap.size := by omega
  have E4 : Hid (Below w.heap.size w w4) := E3.out.trans (b4.mono (by omega))
  have Ow0_4 := Lib.hid (Ow0_3.out.later b4)
  have Ox0_4 := Lib.hid (Ox0_3.out.later b4)
  clear b4 E3 Ow0_3 Ox0_3
  have Og0_4 := Lib.hid og0
  have LRg0 := Lib.hid Og0_4.out.lt
  clear og0
  go_wp2_with fail
  refine (eqInt64S_same _ _ ys0 _ ((Og0_4.out).rd) ((Ow0_4.out).rd) (by have := LY0.out; omega)).mono ?_
  rintro e w5 ⟨rfl, b5⟩
  have z5 : w4.heap.size ≤ w5.heap.size := b5.size
  have y5 : w.heap.size ≤ w5.heap.size := by omega
  have E5 : Hid (Below w.heap.size w w5) := E4.out.trans (b5.mono (by omega))
  have Ow0_5 := Lib.hid (Ow0_4.out.later b5)
  have Ox0_5 := Lib.hid (Ox0_4.out.later b5)
  have Og0_5 := Lib.hid (Og0_4.out.later b5)
  clear b5 E4 Ow0_4 Ox0_4 Og0_4
  go_wp2_with fail
  refine (toInts_any _ xs0 _ (H0.out.later E5.out) (by have := LZ.out; omega)).mono ?_
  rintro e w6 ⟨vt0, rfl, o6, b6⟩
  have z6 : w5.heap.size ≤ w6.heap.size := b6.size
  have y6 : w.heap.size ≤ w6.heap.size := by omega
  have E6 : Hid (Below w.heap.size w w6) := E5.out.trans (b6.mono (by omega))
  have Ow0_6 := Lib.hid (Ow0_5.out.later b6)
  have Ox0_6 := Lib.hid (Ox0_5.out.later b6)
  have Og0_6 := Lib.hid (Og0_5.out.later b6)
  clear b6 E5 Ow0_5 Ox0_5 Og0_5
  have Ot0_6 := Lib.hid o6
  have LRt0 := Lib.hid Ot0_6.out.lt
  clear o6
  go_wp2_with fail
  refine (eqInt64S_same _ _ xs0 _ ((Ox0_6.out).rd) ((Ot0_6.out).rd) (by have := LZ.out; omega)).mono ?_
  rintro e w7 ⟨rfl, b7⟩
  have z7 : w6.heap.size ≤ w7.heap.size := b7.size
  have y7 : w.heap.size ≤ w7.heap.size := by omega
  have E7 : Hid (Below w.heap.size w w7) := E6.out.trans (b7.mono (by omega))
  have Ow0_7 := Lib.hid (Ow0_6.out.later b7)
  have Ox0_7 := Lib.hid (Ox0_6.out.later b7)
  have Og0_7 := Lib.hid (Og0_6.out.later b7)
  have Ot0_7 := Lib.hid (Ot0_6.out.later b7)
  clear b7 E6 Ow0_6 Ox0_6 Og0_6 Ot0_6
  clear Ot0_7 LRt0
  go_wp2_with fail
  refine (markInts_any _ xs0 _ _ Ox0_7.out (by have := LZ.out; omega) (1) (by omega) (by have := LZ.out; omega)).mono ?_
  rintro e w8 ⟨rfl, o8, g8_⟩
  have z8 : w7.heap.size ≤ w8.heap.size := g8_.size
  have y8 : w.heap.size ≤ w8.heap.size := by omega
  have E8 : Hid (Below w.heap.size w w8) := E7.out.grown g8_ (by omega) (fun c h => by have := LRx0.out c h; omega)
  have Ow0_8 := Lib.hid (Ow0_7.out.kept g8_ (own_far _ _ (fun c h1 h2 => by have e1 := LRw0.out c h1; have e2 := LRx0.out c h2; omega)))
  have Og0_8 := Lib.hid (Og0_7.out.kept g8_ (own_far _ _ (fun c h1 h2 => by have e1 := LRg0.out c h1; have e2 := LRx0.out c h2; omega)))
  clear g8_ E7 Ow0_7 Ox0_7 Og0_7
  have Ox0_8 := Lib.hid o8
  clear o8
  clear Ox0_8 LRx0
  have kneg : ¬ (1 + (xs0.length : Int) < 0) := by omega
  go_wp2_with fail
  refine (eqInt64S_same _ _ ys0 _ ((Og0_8.out).rd) ((Ow0_8.out).rd) (by have := LY0.out; omega)).mono ?_
  rintro e w9 ⟨rfl, b9⟩
  have z9 : w8.heap.size ≤ w9.heap.size := b9.size
  have y9 : w.heap.size ≤ w9.heap.size := by omega
  have E9 : Hid (Below w.heap.size w w9) := E8.out.trans (b9.mono (by omega))
  have Ow0_9 := Lib.hid (Ow0_8.out.later b9)
  have Og0_9 := Lib.hid (Og0_8.out.later b9)
  clear b9 E8 Ow0_8 Og0_8
  clear kneg
  go_wp2_with fail
  refine (markInts_any _ ys0 _ _ Og0_9.out (by have := LY0.out; omega) (1) (by omega) (by have := LY0.out; omega)).mono ?_
  rintro e w10 ⟨rfl, o10, g10_⟩
  have z10 : w9.heap.size ≤ w10.heap.size := g10_.size
  have y10 : w.heap.size ≤ w10.heap.size := by omega
  have E10 : Hid (Below w.heap.size w w10) := E9.out.grown g10_ (by omega) (fun c h => by have := LRg0.out c h; omega)
  have Ow0_10 := Lib.hid (Ow0_9.out.kept g10_ (own_far _ _ (fun c h1 h2 => by have e1 := LRw0.out c h1; have e2 := LRg0.out c h2; omega)))
  clear g10_ E9 Ow0_9 Og0_9
  have Og0_10 := Lib.hid o10
  clear o10
  have mneg124 : ¬ (1 + (ys0.length : Int) < 0) := by omega
  go_wp2_with fail
  refine (heldInts_any _ ys0.length (1) _ ((Og0_10.out).rd) (by have := LY0.out; omega) (by omega) (by have := LY0.out; omega)).mono ?_
  rintro e w' ⟨rfl, rfl⟩
  go_wp2_with fail
  refine (toInts_any _ xs0 _ (H0.out.later E10.out) (by have := LZ.out; omega)).mono ?_
  rintro e w11 ⟨vb0, rfl, o11, b11⟩
  have z11 : w10.heap.size ≤ w11.heap.size := b11.size
  have y11 : w.heap.size ≤ w11.heap.size := by omega
  have E11 : Hid (Below w.heap.size w w11) := E10.out.trans (b11.mono (by omega))
  have Ow0_11 := Lib.hid (Ow0_10.out.later b11)
  have Og0_11 := Lib.hid (Og0_10.out.later b11)
  clear b11 E10 Ow0_10 Og0_10
  have Ob0_11 := Lib.hid o11
  have LRb0 := Lib.hid Ob0_11.out.lt
  clear o11
  go_wp2_with fail
  refine (c2.out _ _ (HT.out _ E11.out) ((Ob0_11.out).rd)).mono ?_
  rintro e w12 ⟨vh0, rfl, oh0, b12⟩
  have z12 : w11.heap.size ≤ w12.heap.size := b12.size
  have y12 : w.heap.size ≤ w12.heap.size := by omega
  have E12 : Hid (Below w.heap.size w w12) := E11.out.trans (b12.mono (by omega))
  have Ow0_12 := Lib.hid (Ow0_11.out.later b12)
  have Og0_12 := Lib.hid (Og0_11.out.later b12)
  have Ob0_12 := Lib.hid (Ob0_11.out.later b12)
  clear b12 E11 Ow0_11 Og0_11 Ob0_11
  have Oh0_12 := Lib.hid oh0
  have LRh0 := Lib.hid Oh0_12.out.lt
  clear oh0
  clear Ob0_12 LRb0
  go_wp2_with fail
  refine (eqInt64S_same _ _ ys0 _ ((Oh0_12.out).rd) ((Ow0_12.out).rd) (by have := LY0.out; omega)).mono ?_
  rintro e w13 ⟨rfl, b13⟩
  have z13 : w12.heap.size ≤ w13.heap.size := b13.size
  have y13 : w.heap.size ≤ w13.heap.size := by omega
  have E13 : Hid (Below w.heap.size w w13) := E12.out.trans (b13.mono (by omega))
  have Ow0_13 := Lib.hid (Ow0_12.out.later b13)
  have Og0_13 := Lib.hid (Og0_12.out.later b13)
  have Oh0_13 := Lib.hid (Oh0_12.out.later b13)
  clear b13 E12 Ow0_12 Og0_12 Oh0_12
  go_wp2_with fail
  refine (heldInts_any _ ys0.length (1) _ ((Og0_13.out).rd) (by have := LY0.out; omega) (by omega) (by have := LY0.out; omega)).mono ?_
  rintro e w' ⟨rfl, rfl⟩
  go_wp2
  go_ret
  exact ⟨rfl, E13.out⟩

set_option maxRecDepth 100000 in
theorem walkFnExactLiftsOf (w : World) (s0 : Option Addr) (len0 p0 : Nat) (z0 : List Int) (w0 : IsRow .i64 w s0 len0 p0 z0) :
    Calls Try.prog 3 #[.slice s0 len0 p0] w fun e w' => e = .returned (.bool true) ∧ Below w.heap.size w w' := by
  have m0 := w0.len_le
  obtain ⟨hc0, hz0⟩ := w0.rd
  obtain ⟨xs0, hxs0⟩ : ∃ xs, xs = z0.take len0 := ⟨_, rfl⟩
  rw [← hxs0] at hc0 hz0
  clear hxs0 w0
  subst hz0
  by_cases lz : xs0.length ≤ 1048576
  · obtain ⟨ys0, r1, ly0, c1, c2⟩ := exLiftsOf xs0 lz
    exact liftsOf_law s0 p0 xs0 w (fun _ => True) (fun _ _ => trivial) hc0 lz ys0 r1 ly0 c1 c2
  · have hl' : (1048576 : Int) < xs0.length := by omega
    clear lz hc0
    go_enter Try.func3, Try.ntmps3
    go_wp2
    go_ret
    exact ⟨rfl, by go_grown⟩
end Go.Proofs.Ytonblcbdmblpbac
