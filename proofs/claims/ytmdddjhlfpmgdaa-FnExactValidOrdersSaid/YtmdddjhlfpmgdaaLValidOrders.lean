/- The law of ValidOrders. -/
import Derived.Test.YtmdddjhlfpmgdaaWorkM
import Derived.Test.YtmdddjhlfpmgdaaExKit
import Derived.Deep.RegionHeld3
namespace Go.Proofs.Ytmdddjhlfpmgdaa
open Go.ChangeShapes Go.WideShapes Go.ChangeAt Go.RowKit
set_option linter.unusedVariables false
set_option linter.unusedSimpArgs false

set_option maxRecDepth 100000 in
set_option maxHeartbeats 8000000 in
theorem validOrders_law (s0 : Option Addr) (p0 : Nat) (xs0 : List Od) (w : World) (T : World → Prop) (hT : ∀ w', Below w.heap.size w w' → T w') (hc0 : RdS 2 encOd w (.slice s0 xs0.length p0) xs0) (lz : xs0.length ≤ 1048576) (r0 : Bool) 
    (c1 : Hid (∀ (w : World) (v0 : Value), T w → RdS 2 encOd w v0 xs0 → Calls Try.prog 12 #[v0] w fun e w' => e = .returned (.bool r0) ∧ Below w.heap.size w w'))
    (c2 : Hid (∀ (w : World) (v0 : Value), T w → RdS 2 encOd w v0 xs0 → Calls Try.prog 14 #[v0] w fun e w' => e = .returned (.bool r0) ∧ Below w.heap.size w w')) :
    Calls Try.prog 3 #[.slice s0 xs0.length p0] w fun e w' => e = .returned (.bool true) ∧ Below w.heap.size w w' := by
  have HT := Lib.hid hT
  have H0 := Lib.hid hc0
  have LZ := Lib.hid lz
  have s0z := Lib.hid (fun w => szOrderS_any s0 xs0.length p0 (1048576) (by omega) (by omega) (by omega) w)
  rw [if_pos (show (xs0.length : Int) ≤ 1048576 by omega)] at s0z
  have g0 : ¬ (1048576 - (xs0.length : Int) < 0) := by omega
  clear hT hc0 lz
  go_enter Try.func3, Try.ntmps3
  go_wp2_with fail
  refine (s0z.out _).mono ?_
  rintro e w' ⟨rfl, rfl⟩
  go_wp2_with fail
  refine (toOrderS_any _ xs0 _ H0.out (by have := LZ.out; omega)).mono ?_
  rintro e w1 ⟨va0, rfl, o1, b1⟩
  have y1 : w.heap.size ≤ w1.heap.size := b1.size
  have E1 : Hid (Below w.heap.size w w1) := b1
  clear b1
  have Oa0_1 := Lib.hid o1
  have LRa0 := Lib.hid Oa0_1.out.lt
  clear o1
  go_wp2_with fail
  refine (c1.out _ _ (HT.out _ E1.out) ((Oa0_1.out).rd encOd_len)).mono ?_
  rintro e w2 ⟨rfl, b2⟩
  have z2 : w1.heap.size ≤ w2.heap.size := b2.size
  have y2 : w.heap.size ≤ w2.heap.size := by omega
  have E2 : Hid (Below w.heap.size w w2) := E1.out.trans (b2.mono (by omega))
  have Oa0_2 := Lib.hid (Oa0_1.out.later b2)
  clear b2 E1 Oa0_1
  clear Oa0_2 LRa0
  go_wp2_with fail
  refine (toOrderS_any _ xs0 _ (H0.out.later E2.out) (by have := LZ.out; omega)).mono ?_
  rintro e w3 ⟨vx0, rfl, o3, b3⟩
  have z3 : w2.heap.size ≤ w3.heap.size := b3.size
  have y3 : w.heap.size ≤ w3.heap.size := by omega
  have E3 : Hid (Below w.heap.size w w3) := E2.out.trans (b3.mono (by omega))
  clear b3 E2
  have Ox0_3 := Lib.hid o3
  have LRx0 := Lib.hid Ox0_3.out.lt
  clear o3
  go_wp2_with fail
  refine (c2.out _ _ (HT.out _ E3.out) ((Ox0_3.out).rd encOd_len)).mono ?_
  rintro e w4 ⟨rfl, b4⟩
  have z4 : w3.heap.size ≤ w4.heap.size := b4.size
  have y4 : w.heap.size ≤ w4.heap.size := by omega
  have E4 : Hid (Below w.heap.size w w4) := E3.out.trans (b4.mono (by omega))
  have Ox0_4 := Lib.hid (Ox0_3.out.later b4)
  clear b4 E3 Ox0_3
  go_wp2_with fail
  refine (toOrderS_any _ xs0 _ (H0.out.later E4.out) (by have := LZ.out; omega)).mono ?_
  rintro e w5 ⟨vt0, rfl, o5, b5⟩
  have z5 : w4.heap.size ≤ w5.heap.size := b5.size
  have y5 : w.heap.size ≤ w5.heap.size := by omega
  have E5 : Hid (Below w.heap.size w w5) := E4.out.trans (b5.mono (by omega))
  have Ox0_5 := Lib.hid (Ox0_4.out.later b5)
  clear b5 E4 Ox0_4
  have Ot0_5 := Lib.hid o5
  have LRt0 := Lib.hid Ot0_5.out.lt
  clear o5
  go_wp2_with fail
  refine (eqOrderS_same _ _ xs0 _ ((Ox0_5.out).rd encOd_len) ((Ot0_5.out).rd encOd_len) (by have := LZ.out; omega)).mono ?_
  rintro e w6 ⟨rfl, b6⟩
  have z6 : w5.heap.size ≤ w6.heap.size := b6.size
  have y6 : w.heap.size ≤ w6.heap.size := by omega
  have E6 : Hid (Below w.heap.size w w6) := E5.out.trans (b6.mono (by omega))
  have Ox0_6 := Lib.hid (Ox0_5.out.later b6)
  have Ot0_6 := Lib.hid (Ot0_5.out.later b6)
  clear b6 E5 Ox0_5 Ot0_5
  clear Ot0_6 LRt0
  go_wp2
  go_ret
  exact ⟨rfl, E6.out⟩

set_option maxRecDepth 100000 in
theorem walkFnExactValidOrders (w : World) (s0 : Option Addr) (p0 : Nat) (xs0 : List Od) (hc0 : RdS 2 encOd w (.slice s0 xs0.length p0) xs0) (hl0 : xs0.length ≤ maxLen) (wc0 : ∀ y ∈ xs0, WfL encOd y) :
    Calls Try.prog 3 #[.slice s0 xs0.length p0] w fun e w' => e = .returned (.bool true) ∧ Below w.heap.size w w' := by
  by_cases lz : xs0.length ≤ 1048576
  · obtain ⟨r0, c1, c2⟩ := exValidOrders xs0 lz
    exact validOrders_law s0 p0 xs0 w (fun _ => True) (fun _ _ => trivial) hc0 lz r0  c1 c2
  · have s0 := Lib.hid (fun w => szOrderS_any s0 xs0.length p0 1048576 (by omega) (by omega) (by unfold maxLen at hl0; omega) w)
    rw [if_neg (show ¬ (xs0.length : Int) ≤ 1048576 by omega)] at s0
    clear hc0 lz hl0 wc0
    go_enter Try.func3, Try.ntmps3
    go_wp2_with fail
    refine (s0.out _).mono ?_
    rintro e w1 ⟨rfl, rfl⟩
    go_wp2
    go_ret
    exact ⟨rfl, by go_grown⟩
end Go.Proofs.Ytmdddjhlfpmgdaa
