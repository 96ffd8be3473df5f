/- The law of IsLifted. -/
import Derived.Test.YtonblcbdmblpbacIsLX
import Derived.Test.YtonblcbdmblpbacExKit
import Derived.Deep.RegionHeld3
namespace Go.Proofs.Ytonblcbdmblpbac
open Go.ChangeShapes Go.WideShapes Go.ChangeAt Go.RowKit
set_option linter.unusedVariables false
set_option linter.unusedSimpArgs false

set_option maxRecDepth 100000 in
set_option maxHeartbeats 8000000 in
theorem isLifted_law (s0 : Option Addr) (p0 : Nat) (xs0 : List Int) (s1 : Option Addr) (p1 : Nat) (xs1 : List Int) (w : World) (T : World → Prop) (hT : ∀ w', Below w.heap.size w w' → T w') (hc0 : RdI w (.slice s0 xs0.length p0) xs0) (hc1 : RdI w (.slice s1 xs1.length p1) xs1) (lz : xs0.length ≤ 1048576 ∧ xs1.length ≤ 1048576) (r0 : Bool) 
    (c1 : Hid (∀ (w : World) (v0 : Value) (v1 : Value), T w → RdI w v0 xs0 → RdI w v1 xs1 → Calls Try.prog 13 #[v0, v1] w fun e w' => e = .returned (.bool r0) ∧ Below w.heap.size w w'))
    (c2 : Hid (∀ (w : World) (v0 : Value) (v1 : Value), T w → RdI w v0 xs0 → RdI w v1 xs1 → Calls Try.prog 14 #[v0, v1] w fun e w' => e = .returned (.bool r0) ∧ Below w.heap.size w w')) :
    Calls Try.prog 4 #[.slice s0 xs0.length p0, .slice s1 xs1.length p1] w fun e w' => e = .returned (.bool true) ∧ Below w.heap.size w w' := by
  have HT := Lib.hid hT
  have H0 := Lib.hid hc0
  have H1 := Lib.hid hc1
  have LZ := Lib.hid lz
  have g0 : ¬ ((1048576 : Int) < xs0.length) := by omega
  have g1 : ¬ ((1048576 : Int) < xs1.length) := by omega
  clear hT hc0 hc1 lz
  go_enter Try.func4, Try.ntmps4
  go_wp2_with fail
  refine (toInts_any _ xs0 _ H0.out (by have := LZ.out; omega)).mono ?_
  rintro e w1 ⟨va0, rfl, o1, b1⟩
  have y1 : w.heap.size ≤ w1.heap.size := b1.size
  have E1 : Hid (Below w.heap.size w w1) := b1
  clear b1
  have Oa0_1 := Lib.hid o1
  have LRa0 := Lib.hid Oa0_1.out.lt
  clear o1
  go_wp2_with fail
  refine (toInts_any _ xs1 _ (H1.out.later E1.out) (by have := LZ.out; omega)).mono ?_
  rintro e w2 ⟨va1, rfl, o2, b2⟩
  have z2 : w1.heap.size ≤ w2.heap.size := b2.size
  have y2 : w.heap.size ≤ w2.heap.size := by omega
  have E2 : Hid (Below w.heap.size w w2) := E1.out.trans (b2.mono (by omega))
  have Oa0_2 := Lib.hid (Oa0_1.out.later b2)
  clear b2 E1 Oa0_1
  have Oa1_2 := Lib.hid o2
  have LRa1 := Lib.hid Oa1_2.out.lt
  clear o2
  go_wp2_with fail
  refine (c1.out _ _ _ (HT.out _ E2.out) ((Oa0_2.out).rd) ((Oa1_2.out).rd)).mono ?_
  rintro e w3 ⟨rfl, b3⟩
  have z3 : w2.heap.size ≤ w3.heap.size := b3.size
  have y3 : w.heap.size ≤ w3.heap.size := by omega
  have E3 : Hid (Below w.heap.size w w3) := E2.out.trans (b3.mono (by omega))
  have Oa0_3 := Lib.hid (Oa0_2.out.later b3)
  have Oa1_3 := Lib.hid (Oa1_2.out.later b3)
  clear b3 E2 Oa0_2 Oa1_2
  clear Oa0_3 LRa0
  clear Oa1_3 LRa1
  go_wp2_with fail
  refine (toInts_any _ xs0 _ (H0.out.later E3.out) (by have := LZ.out; omega)).mono ?_
  rintro e w4 ⟨vx0, rfl, o4, b4⟩
  have z4 : w3.heap.size ≤ w4.heap.size := b4.size
  have y4 : w.heap.size ≤ w4.heap.size := by omega
  have E4 : Hid (Below w.heap.size w w4) := E3.out.trans (b4.mono (by omega))
  clear b4 E3
  have Ox0_4 := Lib.hid o4
  have LRx0 := Lib.hid Ox0_4.out.lt
  clear o4
  go_wp2_with fail
  refine (toInts_any _ xs1 _ (H1.out.later E4.out) (by have := LZ.out; omega)).mono ?_
  rintro e w5 ⟨vx1, rfl, o5, b5⟩
  have z5 : w4.heap.size ≤ w5.heap.size := b5.size
  have y5 : w.heap.size ≤ w5.heap.size := by omega
  have E5 : Hid (Below w.heap.size w w5) := E4.out.trans (b5.mono (by omega))
  have Ox0_5 := Lib.hid (Ox0_4.out.later b5)
  clear b5 E4 Ox0_4
  have Ox1_5 := Lib.hid o5
  have LRx1 := Lib.hid Ox1_5.out.lt
  clear o5
  go_wp2_with fail
  refine (c2.out _ _ _ (HT.out _ E5.out) ((Ox0_5.out).rd) ((Ox1_5.out).rd)).mono ?_
  rintro e w6 ⟨rfl, b6⟩
  have z6 : w5.heap.size ≤ w6.heap.size := b6.size
  have y6 : w.heap.size ≤ w6.heap.size := by omega
  have E6 : Hid (Below w.heap.size w w6) := E5.out.trans (b6.mono (by omega))
  have Ox0_6 := Lib.hid (Ox0_5.out.later b6)
  have Ox1_6 := Lib.hid (Ox1_5.out.later b6)
  clear b6 E5 Ox0_5 Ox1_5
  go_wp2_with fail
  refine (toInts_any _ xs0 _ (H0.out.later E6.out) (by have := LZ.out; omega)).mono ?_
  rintro e w7 ⟨vt0, rfl, o7, b7⟩
  have z7 : w6.heap.size ≤ w7.heap.size := b7.size
  have y7 : w.heap.size ≤ w7.heap.size := by omega
  have E7 : Hid (Below w.heap.size w w7) := E6.out.trans (b7.mono (by omega))
  have Ox0_7 := Lib.hid (Ox0_6.out.later b7)
  have Ox1_7 := Lib.hid (Ox1_6.out.later b7)
  clear b7 E6 Ox0_6 Ox1_6
  have Ot0_7 := Lib.hid o7
  have LRt0 := Lib.hid Ot0_7.out.lt
  clear o7
  go_wp2_with fail
  refine (eqInt64S_same _ _ xs0 _ ((Ox0_7.out).rd) ((Ot0_7.out).rd) (by have := LZ.out; omega)).mono ?_
  rintro e w8 ⟨rfl, b8⟩
  have z8 : w7.heap.size ≤ w8.heap.size := b8.size
  have y8 : w.heap.size ≤ w8.heap.size := by omega
  have E8 : Hid (Below w.heap.size w w8) := E7.out.trans (b8.mono (by omega))
  have Ox0_8 := Lib.hid (Ox0_7.out.later b8)
  have Ox1_8 := Lib.hid (Ox1_7.out.later b8)
  have Ot0_8 := Lib.hid (Ot0_7.out.later b8)
  clear b8 E7 Ox0_7 Ox1_7 Ot0_7
  clear Ot0_8 LRt0
  go_wp2_with fail
  refine (toInts_any _ xs1 _ (H1.out.later E8.out) (by have := LZ.out; omega)).mono ?_
  rintro e w9 ⟨vt1, rfl, o9, b9⟩
  have z9 : w8.heap.size ≤ w9.heap.size := b9.size
  have y9 : w.heap.size ≤ w9.heap.size := by omega
  have E9 : Hid (Below w.heap.size w w9) := E8.out.trans (b9.mono (by omega))
  have Ox0_9 := Lib.hid (Ox0_8.out.later b9)
  have Ox1_9 := Lib.hid (Ox1_8.out.later b9)
  clear b9 E8 Ox0_8 Ox1_8
  have Ot1_9 := Lib.hid o9
  have LRt1 := Lib.hid Ot1_9.out.lt
  clear o9
  go_wp2_with fail
  refine (eqInt64S_same _ _ xs1 _ ((Ox1_9.out).rd) ((Ot1_9.out).rd) (by have := LZ.out; omega)).mono ?_
  rintro e w10 ⟨rfl, b10⟩
  have z10 : w9.heap.size ≤ w10.heap.size := b10.size
  have y10 : w.heap.size ≤ w10.heap.size := by omega
  have E10 : Hid (Below w.heap.size w w10) := E9.out.trans (b10.mono (by omega))
  have Ox0_10 := Lib.hid (Ox0_9.out.later b10)
  have Ox1_10 := Lib.hid (Ox1_9.out.later b10)
  have Ot1_10 := Lib.hid (Ot1_9.out.later b10)
  clear b10 E9 Ox0_9 Ox1_9 Ot1_9
  clear Ot1_10 LRt1
  go_wp2
  go_ret
  exact ⟨rfl, E10.out⟩

set_option maxRecDepth 100000 in
theorem walkFnExactIsLifted (w : World) (s0 : Option Addr) (len0 p0 : Nat) (z0 : List Int) (w0 : IsRow .i64 w s0 len0 p0 z0) (s1 : Option Addr) (len1 p1 : Nat) (z1 : List Int) (w1 : IsRow .i64 w s1 len1 p1 z1) :
    Calls Try.prog 4 #[.slice s0 len0 p0, .slice s1 len1 p1] w fun e w' => e = .returned (.bool true) ∧ Below w.heap.size w w' := by
  have m0 := w0.len_le
  obtain ⟨hc0, hz0⟩ := w0.rd
  obtain ⟨xs0, hxs0⟩ : ∃ xs, xs = z0.take len0 := ⟨_, rfl⟩
  rw [← hxs0] at hc0 hz0
  clear hxs0 w0
  subst hz0
  have m1 := w1.len_le
  obtain ⟨hc1, hz1⟩ := w1.rd
  obtain ⟨xs1, hxs1⟩ : ∃ xs, xs = z1.take len1 := ⟨_, rfl⟩
  rw [← hxs1] at hc1 hz1
  clear hxs1 w1
  subst hz1
  by_cases lz : xs0.length ≤ 1048576 ∧ xs1.length ≤ 1048576
  · obtain ⟨r0, c1, c2⟩ := exIsLifted xs0 xs1 lz
    exact isLifted_law s0 p0 xs0 s1 p1 xs1 w (fun _ => True) (fun _ _ => trivial) hc0 hc1 lz r0  c1 c2
  · clear hc0 hc1
    by_cases l0 : (1048576 : Int) < xs0.length
    · clear lz
      go_enter Try.func4, Try.ntmps4
      go_wp2
      go_ret
      exact ⟨rfl, by go_grown⟩
    by_cases l1 : (1048576 : Int) < xs1.length
    · clear lz
      go_enter Try.func4, Try.ntmps4
      go_wp2
      go_ret
      exact ⟨rfl, by go_grown⟩
    exact absurd (by omega) lz
end Go.Proofs.Ytonblcbdmblpbac
