/- The law of TubeText. (Written by tools/txlaw.py.) -/
import Derived.Test.YthhnnkgfnhggbabDoorTubeTE
import Derived.Test.YthhnnkgfnhggbabDoorExKit
namespace Go.Proofs.YthhnnkgfnhggbabDoor
open Go.ChangeShapes Go.WideShapes Go.ChangeAt Go.RowKit
set_option linter.unusedVariables false
set_option linter.unusedSimpArgs false

set_option maxRecDepth 100000 in
set_option maxHeartbeats 4000000 in
theorem tubeText_law (a : Option Addr) (cap : Nat) (xs : List Rg) (hl : xs.length ≤ 1048576) (w : World) (h : RdS 2 encRg w (.slice a xs.length cap) xs) (hT : TDec w) (A : ByteArray) (b : Bool)
    (CS : Hid (∀ v w, RdS 2 encRg w v xs → Calls Tryd.prog 34 #[v] w fun e w' => e = .returned (.tuple #[.string A, .bool b]) ∧ Below w.heap.size w w'))
    (CI : Hid (∀ v w, RdS 2 encRg w v xs → TDec w → Calls Tryd.prog 35 #[v] w fun e w' => e = .returned (.tuple #[.string A, .bool b]) ∧ Below w.heap.size w w')) :
    Calls Tryd.prog 7 #[.slice a xs.length cap] w fun e w' => e = .returned (.bool true) ∧ Below w.heap.size w w' := by
  have H := Lib.hid h
  have HZ := Lib.hid hl
  have HT := Lib.hid hT
  have s0z := Lib.hid (fun w => szRingS_any a xs.length cap 1048576 (by omega) (by omega) (by omega) w)
  rw [if_pos (show (xs.length : Int) ≤ 1048576 by omega)] at s0z
  have g0 : ¬ (1048576 - (xs.length : Int) < 0) := by omega
  clear h hl hT
  go_enter Tryd.func7, Tryd.ntmps7
  go_wp2_with fail
  refine (s0z.out _).mono ?_
  rintro e w' ⟨rfl, rfl⟩
  go_wp2_with fail
  refine (toRingS_any _ xs w H.out (by have := HZ.out; omega)).mono ?_
  rintro e x1 ⟨v1, rfl, o1, e1⟩
  have O1 := Lib.hid (o1.rd encRg_len)
  have E1 := Lib.hid e1
  have hsz1 := e1.size
  clear o1 e1
  go_wp2_with fail
  refine (CS.out v1 x1 O1.out).mono ?_
  rintro e y1 ⟨rfl, b1⟩
  have E1' : Hid (Below w.heap.size w y1) := E1.out.trans (b1.mono hsz1)
  have hsy := E1'.out.size
  clear b1 O1 E1 CS
  go_wp2_with fail
  refine (toRingS_any _ xs y1 (H.out.later E1'.out) (by have := HZ.out; omega)).mono ?_
  rintro e x2 ⟨v2, rfl, o2, e2⟩
  have O2 := Lib.hid (o2.rd encRg_len)
  have E2 : Hid (Below w.heap.size w x2) := E1'.out.trans (e2.mono hsy)
  have hsz2 := E2.out.size
  clear o2 e2 E1'
  go_wp2_with fail
  refine (CI.out v2 x2 O2.out (HT.out.later E2.out)).mono ?_
  rintro e x3 ⟨rfl, e3⟩
  have O2' := Lib.hid (O2.out.later e3)
  have E3 : Hid (Below w.heap.size w x3) := E2.out.trans (e3.mono hsz2)
  have hsz3 := E3.out.size
  clear e3 CI O2 E2
  go_wp2_with fail
  refine (toRingS_any _ xs x3 (H.out.later E3.out) (by have := HZ.out; omega)).mono ?_
  rintro e x4 ⟨v4, rfl, o4, e4⟩
  have O4 := Lib.hid (o4.rd encRg_len)
  have O2'' := Lib.hid (O2'.out.later e4)
  have E4 : Hid (Below w.heap.size w x4) := E3.out.trans (e4.mono hsz3)
  have hsz4 := E4.out.size
  clear o4 e4
  go_wp2_with fail
  refine (eqRingS_same v2 v4 xs x4 O2''.out O4.out (by have := HZ.out; omega)).mono ?_
  rintro e x5 ⟨rfl, b5⟩
  have E5 : Hid (Below w.heap.size w x5) := E4.out.trans (b5.mono hsz4)
  clear b5
  go_wp2_with fail
  go_ret
  exact ⟨rfl, E5.out⟩

set_option maxRecDepth 100000 in
theorem walkFnExactTubeText (w : World) (s0 : Option Addr) (p0 : Nat) (xs0 : List Rg) (hc0 : RdS 2 encRg w (.slice s0 xs0.length p0) xs0) (hl0 : xs0.length ≤ maxLen) (wc0 : ∀ y ∈ xs0, WfL encRg y) (hT : TDec w) :
    Calls Tryd.prog 7 #[.slice s0 xs0.length p0] w fun e w' => e = .returned (.bool true) ∧ Below w.heap.size w w' := by
  by_cases lz : xs0.length ≤ 1048576
  · obtain ⟨A, b, c1, c2⟩ := exTubeText xs0 lz
    exact tubeText_law s0 p0 xs0 lz w hc0 hT A b c1 c2
  · have s0 := Lib.hid (fun w => szRingS_any s0 xs0.length p0 1048576 (by omega) (by omega) (by unfold maxLen at hl0; omega) w)
    rw [if_neg (show ¬ (xs0.length : Int) ≤ 1048576 by omega)] at s0
    clear hc0 lz hl0 wc0 hT
    go_enter Tryd.func7, Tryd.ntmps7
    go_wp2_with fail
    refine (s0.out _).mono ?_
    rintro e w1 ⟨rfl, rfl⟩
    go_wp2
    go_ret
    exact ⟨rfl, by go_grown⟩
end Go.Proofs.YthhnnkgfnhggbabDoor
