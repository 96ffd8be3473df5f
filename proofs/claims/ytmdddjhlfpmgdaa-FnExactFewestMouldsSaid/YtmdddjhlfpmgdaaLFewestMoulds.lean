/- The law of FewestMoulds. -/
import Derived.Test.YtmdddjhlfpmgdaaWorkY
import Derived.Test.YtmdddjhlfpmgdaaExKit
import Derived.Deep.RegionHeld3
namespace Go.Proofs.Ytmdddjhlfpmgdaa
open Go.ChangeShapes Go.WideShapes Go.ChangeAt Go.RowKit
set_option linter.unusedVariables false
set_option linter.unusedSimpArgs false

set_option maxRecDepth 100000 in
set_option maxHeartbeats 8000000 in
theorem fewestMoulds_law (a0 : Int) (a1 : Int) (s2 : Option Addr) (p2 : Nat) (xs2 : List Od) (w : World) (T : World → Prop) (hT : ∀ w', Below w.heap.size w w' → T w') (hc2 : RdS 2 encOd w (.slice s2 xs2.length p2) xs2) (lz : xs2.length ≤ 1048576) (r0 : Int) (r1 : Int) (r2 : Bool) 
    (c1 : Hid (∀ (w : World) (v2 : Value), T w → RdS 2 encOd w v2 xs2 → Calls Try.prog 27 #[.int .i64 a0, .int .i64 a1, v2] w fun e w' => e = .returned (.tuple #[.int .i64 r0, .int .i64 r1, .bool r2]) ∧ Below w.heap.size w w'))
    (c2 : Hid (∀ (w : World) (v2 : Value), T w → RdS 2 encOd w v2 xs2 → Calls Try.prog 28 #[.int .i64 a0, .int .i64 a1, v2] w fun e w' => e = .returned (.tuple #[.int .i64 r0, .int .i64 r1, .bool r2]) ∧ Below w.heap.size w w')) :
    Calls Try.prog 7 #[.int .i64 a0, .int .i64 a1, .slice s2 xs2.length p2] w fun e w' => e = .returned (.bool true) ∧ Below w.heap.size w w' := by
  have HT := Lib.hid hT
  have H2 := Lib.hid hc2
  have LZ := Lib.hid lz
  have s2z := Lib.hid (fun w => szOrderS_any s2 xs2.length p2 (1048576) (by omega) (by omega) (by omega) w)
  rw [if_pos (show (xs2.length : Int) ≤ 1048576 by omega)] at s2z
  have g2 : ¬ (1048576 - (xs2.length : Int) < 0) := by omega
  clear hT hc2 lz
  go_enter Try.func7, Try.ntmps7
  go_wp2_with fail
  refine (s2z.out _).mono ?_
  rintro e w' ⟨rfl, rfl⟩
  go_wp2_with fail
  refine (toOrderS_any _ xs2 _ H2.out (by have := LZ.out; omega)).mono ?_
  rintro e w1 ⟨va2, rfl, o1, b1⟩
  have y1 : w.heap.size ≤ w1.heap.size := b1.size
  have E1 : Hid (Below w.heap.size w w1) := b1
  clear b1
  have Oa2_1 := Lib.hid o1
  have LRa2 := Lib.hid Oa2_1.out.lt
  clear o1
  go_wp2_with fail
  refine (c1.out _ _ (HT.out _ E1.out) ((Oa2_1.out).rd encOd_len)).mono ?_
  rintro e w2 ⟨rfl, b2⟩
  have z2 : w1.heap.size ≤ w2.heap.size := b2.size
  have y2 : w.heap.size ≤ w2.heap.size := by omega
  have E2 : Hid (Below w.heap.size w w2) := E1.out.trans (b2.mono (by omega))
  have Oa2_2 := Lib.hid (Oa2_1.out.later b2)
  clear b2 E1 Oa2_1
  clear Oa2_2 LRa2
  go_wp2_with fail
  refine (toOrderS_any _ xs2 _ (H2.out.later E2.out) (by have := LZ.out; omega)).mono ?_
  rintro e w3 ⟨vx2, rfl, o3, b3⟩
  have z3 : w2.heap.size ≤ w3.heap.size := b3.size
  have y3 : w.heap.size ≤ w3.heap.size := by omega
  have E3 : Hid (Below w.heap.size w w3) := E2.out.trans (b3.mono (by omega))
  clear b3 E2
  have Ox2_3 := Lib.hid o3
  have LRx2 := Lib.hid Ox2_3.out.lt
  clear o3
  go_wp2_with fail
  refine (c2.out _ _ (HT.out _ E3.out) ((Ox2_3.out).rd encOd_len)).mono ?_
  rintro e w4 ⟨rfl, b4⟩
  have z4 : w3.heap.size ≤ w4.heap.size := b4.size
  have y4 : w.heap.size ≤ w4.heap.size := by omega
  have E4 : Hid (Below w.heap.size w w4) := E3.out.trans (b4.mono (by omega))
  have Ox2_4 := Lib.hid (Ox2_3.out.later b4)
  clear b4 E3 Ox2_3
  go_wp2_with fail
  refine (toOrderS_any _ xs2 _ (H2.out.later E4.out) (by have := LZ.out; omega)).mono ?_
  rintro e w5 ⟨vt2, rfl, o5, b5⟩
  have z5 : w4.heap.size ≤ w5.heap.size := b5.size
  have y5 : w.heap.size ≤ w5.heap.size := by omega
  have E5 : Hid (Below w.heap.size w w5) := E4.out.trans (b5.mono (by omega))
  have Ox2_5 := Lib.hid (Ox2_4.out.later b5)
  clear b5 E4 Ox2_4
  have Ot2_5 := Lib.hid o5
  have LRt2 := Lib.hid Ot2_5.out.lt
  clear o5
  go_wp2_with fail
  refine (eqOrderS_same _ _ xs2 _ ((Ox2_5.out).rd encOd_len) ((Ot2_5.out).rd encOd_len) (by have := LZ.out; omega)).mono ?_
  rintro e w6 ⟨rfl, b6⟩
  have z6 : w5.heap.size ≤ w6.heap.size := b6.size
  have y6 : w.heap.size ≤ w6.heap.size := by omega
  have E6 : Hid (Below w.heap.size w w6) := E5.out.trans (b6.mono (by omega))
  have Ox2_6 := Lib.hid (Ox2_5.out.later b6)
  have Ot2_6 := Lib.hid (Ot2_5.out.later b6)
  clear b6 E5 Ox2_5 Ot2_5
  clear Ot2_6 LRt2
  go_wp2
  go_ret
  exact ⟨rfl, E6.out⟩

set_option maxRecDepth 100000 in
theorem walkFnExactFewestMoulds (w : World) (a0 : Int) (wa0 : (Lit.int .i64 a0).wf = true) (a1 : Int) (wa1 : (Lit.int .i64 a1).wf = true) (s2 : Option Addr) (p2 : Nat) (xs2 : List Od) (hc2 : RdS 2 encOd w (.slice s2 xs2.length p2) xs2) (hl2 : xs2.length ≤ maxLen) (wc2 : ∀ y ∈ xs2, WfL encOd y) :
    Calls Try.prog 7 #[.int .i64 a0, .int .i64 a1, .slice s2 xs2.length p2] w fun e w' => e = .returned (.bool true) ∧ Below w.heap.size w w' := by
  by_cases lz : xs2.length ≤ 1048576
  · obtain ⟨r0, r1, r2, c1, c2⟩ := exFewestMoulds a0 a1 xs2 lz
    exact fewestMoulds_law a0 a1 s2 p2 xs2 w (fun _ => True) (fun _ _ => trivial) hc2 lz r0 r1 r2  c1 c2
  · have s0 := Lib.hid (fun w => szOrderS_any s2 xs2.length p2 1048576 (by omega) (by omega) (by unfold maxLen at hl2; omega) w)
    rw [if_neg (show ¬ (xs2.length : Int) ≤ 1048576 by omega)] at s0
    clear hc2 lz hl2 wc2
    go_enter Try.func7, Try.ntmps7
    go_wp2_with fail
    refine (s0.out _).mono ?_
    rintro e w1 ⟨rfl, rfl⟩
    go_wp2
    go_ret
    exact ⟨rfl, by go_grown⟩
end Go.Proofs.Ytmdddjhlfpmgdaa
