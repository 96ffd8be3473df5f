/- Walks of NextPose. -/
import Derived.Test.YthhnnkgfnhggbaaPose
namespace Go.Proofs.Ythhnnkgfnhggbaa
open Go.ChangeShapes Go.WideShapes Go.ChangeAt Go.RowKit
set_option linter.unusedVariables false
set_option linter.unusedSimpArgs false

def CanP (q : Ps) (b r : Int) : Prop := OkP q ∧ OkTurn b ∧ OkTurn r ∧ OkP (stepP q b r)
def noP : Ps := ⟨0, 0, 0, 0⟩

set_option maxHeartbeats 1000000 in
theorem l02Turn_any (b r : Int) (v : Bool) (hv : v = true ↔ OkTurn b ∧ OkTurn r) (w : World) :
    Calls Try.prog 61 #[.int .i64 b, .int .i64 r] w fun e w' => e = .returned (.bool v) ∧ w = w' := by
  by_cases h1 : OkTurn b
  · have c1 := Lib.hid (fun w => in_any b (-12) 12 true ⟨fun _ => h1, fun _ => rfl⟩ w)
    have c2 := Lib.hid (fun w => in_any r (-12) 12 v ⟨fun e => (hv.mp e).2, fun e => hv.mpr ⟨h1, e⟩⟩ w)
    clear hv h1
    go_enter Try.func61, Try.ntmps61
    go_wp2_with fail
    refine (c1.out _).mono ?_
    rintro e w' ⟨rfl, rfl⟩
    go_wp2_with fail
    refine (c2.out _).mono ?_
    rintro e w' ⟨rfl, rfl⟩
    go_wp2
    go_ret
    exact ⟨rfl, rfl⟩
  · obtain rfl := b_false hv fun h => h1 h.1
    have c1 := Lib.hid (fun w => in_any b (-12) 12 false ⟨fun h => (by cases h), fun h => absurd h h1⟩ w)
    clear hv h1
    go_enter Try.func61, Try.ntmps61
    go_wp2_with fail
    refine (c1.out _).mono ?_
    rintro e w' ⟨rfl, rfl⟩
    go_wp2
    go_ret
    exact ⟨rfl, rfl⟩

set_option maxHeartbeats 2000000 in
theorem implNext_yes (q : Ps) (b r : Int) (h1 : OkP q) (h2 : OkTurn b) (h3 : OkTurn r) (h4 : OkP (stepP q b r)) (w : World) :
    Calls Try.prog 20 #[(.agg #[.int .i64 q.s, .int .i64 q.h, .int .i64 q.y, .int .i64 q.p]), .int .i64 b, .int .i64 r] w fun e w' => e = .returned (.tuple #[(.agg #[.int .i64 (stepP q b r).s, .int .i64 (stepP q b r).h, .int .i64 (stepP q b r).y, .int .i64 (stepP q b r).p]), .bool true]) ∧ Below w.heap.size w w' := by
  have c1 := Lib.hid (fun w => implPose_any q true ⟨fun _ => h1, fun _ => rfl⟩ w)
  have c2 := Lib.hid (fun w => isTurn_any b true ⟨fun _ => h2, fun _ => rfl⟩ w)
  have c3 := Lib.hid (fun w => isTurn_any r true ⟨fun _ => h3, fun _ => rfl⟩ w)
  have c4 := Lib.hid (fun w => next_any q b r (h1.room h2 h3) w)
  have c5 := Lib.hid (fun w => implPose_any (stepP q b r) true ⟨fun _ => h4, fun _ => rfl⟩ w)
  clear h1 h2 h3 h4
  generalize stepP q b r = o at *
  go_enter Try.func20, Try.ntmps20
  go_wp2_with fail
  refine (c1.out _).mono ?_
  rintro e w1 ⟨rfl, rfl⟩
  go_wp2_with fail
  refine (c2.out _).mono ?_
  rintro e w1 ⟨rfl, rfl⟩
  go_wp2_with fail
  refine (c3.out _).mono ?_
  rintro e w1 ⟨rfl, rfl⟩
  go_wp2_with fail
  refine (c4.out _).mono ?_
  rintro e w1 ⟨rfl, rfl⟩
  go_wp2_with fail
  refine (c5.out _).mono ?_
  rintro e w1 ⟨rfl, rfl⟩
  go_wp2
  go_returns
  exact ⟨rfl, by go_grown⟩

set_option maxHeartbeats 2000000 in
theorem implNext_no1 (q : Ps) (b r : Int) (h1 : ¬ OkP q) (w : World) :
    Calls Try.prog 20 #[(.agg #[.int .i64 q.s, .int .i64 q.h, .int .i64 q.y, .int .i64 q.p]), .int .i64 b, .int .i64 r] w fun e w' => e = .returned (.tuple #[(.agg #[.int .i64 noP.s, .int .i64 noP.h, .int .i64 noP.y, .int .i64 noP.p]), .bool false]) ∧ Below w.heap.size w w' := by
  have c1 := Lib.hid (fun w => implPose_any q false ⟨fun h => (by cases h), fun h => absurd h h1⟩ w)
  clear h1
  go_enter Try.func20, Try.ntmps20
  go_wp2_with fail
  refine (c1.out _).mono ?_
  rintro e w1 ⟨rfl, rfl⟩
  go_wp2
  go_returns
  exact ⟨rfl, by go_grown⟩

set_option maxHeartbeats 2000000 in
theorem implNext_no2 (q : Ps) (b r : Int) (h1 : OkP q) (h2 : ¬ OkTurn b) (w : World) :
    Calls Try.prog 20 #[(.agg #[.int .i64 q.s, .int .i64 q.h, .int .i64 q.y, .int .i64 q.p]), .int .i64 b, .int .i64 r] w fun e w' => e = .returned (.tuple #[(.agg #[.int .i64 noP.s, .int .i64 noP.h, .int .i64 noP.y, .int .i64 noP.p]), .bool false]) ∧ Below w.heap.size w w' := by
  have c1 := Lib.hid (fun w => implPose_any q true ⟨fun _ => h1, fun _ => rfl⟩ w)
  have c2 := Lib.hid (fun w => isTurn_any b false ⟨fun h => (by cases h), fun h => absurd h h2⟩ w)
  clear h1 h2
  go_enter Try.func20, Try.ntmps20
  go_wp2_with fail
  refine (c1.out _).mono ?_
  rintro e w1 ⟨rfl, rfl⟩
  go_wp2_with fail
  refine (c2.out _).mono ?_
  rintro e w1 ⟨rfl, rfl⟩
  go_wp2
  go_returns
  exact ⟨rfl, by go_grown⟩

set_option maxHeartbeats 2000000 in
theorem implNext_no2b (q : Ps) (b r : Int) (h1 : OkP q) (h2 : OkTurn b) (h3 : ¬ OkTurn r) (w : World) :
    Calls Try.prog 20 #[(.agg #[.int .i64 q.s, .int .i64 q.h, .int .i64 q.y, .int .i64 q.p]), .int .i64 b, .int .i64 r] w fun e w' => e = .returned (.tuple #[(.agg #[.int .i64 noP.s, .int .i64 noP.h, .int .i64 noP.y, .int .i64 noP.p]), .bool false]) ∧ Below w.heap.size w w' := by
  have c1 := Lib.hid (fun w => implPose_any q true ⟨fun _ => h1, fun _ => rfl⟩ w)
  have c2 := Lib.hid (fun w => isTurn_any b true ⟨fun _ => h2, fun _ => rfl⟩ w)
  have c3 := Lib.hid (fun w => isTurn_any r false ⟨fun h => (by cases h), fun h => absurd h h3⟩ w)
  clear h1 h2 h3
  go_enter Try.func20, Try.ntmps20
  go_wp2_with fail
  refine (c1.out _).mono ?_
  rintro e w1 ⟨rfl, rfl⟩
  go_wp2_with fail
  refine (c2.out _).mono ?_
  rintro e w1 ⟨rfl, rfl⟩
  go_wp2_with fail
  refine (c3.out _).mono ?_
  rintro e w1 ⟨rfl, rfl⟩
  go_wp2
  go_returns
  exact ⟨rfl, by go_grown⟩

set_option maxHeartbeats 2000000 in
theorem implNext_no3 (q : Ps) (b r : Int) (h1 : OkP q) (h2 : OkTurn b) (h3 : OkTurn r) (h4 : ¬ OkP (stepP q b r)) (w : World) :
    Calls Try.prog 20 #[(.agg #[.int .i64 q.s, .int .i64 q.h, .int .i64 q.y, .int .i64 q.p]), .int .i64 b, .int .i64 r] w fun e w' => e = .returned (.tuple #[(.agg #[.int .i64 noP.s, .int .i64 noP.h, .int .i64 noP.y, .int .i64 noP.p]), .bool false]) ∧ Below w.heap.size w w' := by
  have c1 := Lib.hid (fun w => implPose_any q true ⟨fun _ => h1, fun _ => rfl⟩ w)
  have c2 := Lib.hid (fun w => isTurn_any b true ⟨fun _ => h2, fun _ => rfl⟩ w)
  have c3 := Lib.hid (fun w => isTurn_any r true ⟨fun _ => h3, fun _ => rfl⟩ w)
  have c4 := Lib.hid (fun w => next_any q b r (h1.room h2 h3) w)
  have c5 := Lib.hid (fun w => implPose_any (stepP q b r) false ⟨fun h => (by cases h), fun h => absurd h h4⟩ w)
  clear h1 h2 h3 h4
  generalize stepP q b r = o at *
  go_enter Try.func20, Try.ntmps20
  go_wp2_with fail
  refine (c1.out _).mono ?_
  rintro e w1 ⟨rfl, rfl⟩
  go_wp2_with fail
  refine (c2.out _).mono ?_
  rintro e w1 ⟨rfl, rfl⟩
  go_wp2_with fail
  refine (c3.out _).mono ?_
  rintro e w1 ⟨rfl, rfl⟩
  go_wp2_with fail
  refine (c4.out _).mono ?_
  rintro e w1 ⟨rfl, rfl⟩
  go_wp2_with fail
  refine (c5.out _).mono ?_
  rintro e w1 ⟨rfl, rfl⟩
  go_wp2
  go_returns
  exact ⟨rfl, by go_grown⟩

theorem implNext_no (q : Ps) (b r : Int) (h : ¬ CanP q b r) (w : World) :
    Calls Try.prog 20 #[(.agg #[.int .i64 q.s, .int .i64 q.h, .int .i64 q.y, .int .i64 q.p]), .int .i64 b, .int .i64 r] w fun e w' => e = .returned (.tuple #[(.agg #[.int .i64 noP.s, .int .i64 noP.h, .int .i64 noP.y, .int .i64 noP.p]), .bool false]) ∧ Below w.heap.size w w' := by
  by_cases h1 : OkP q
  · by_cases h2 : OkTurn b
    · by_cases h3 : OkTurn r
      · exact implNext_no3 q b r h1 h2 h3 (fun e => h ⟨h1, h2, h3, e⟩) w
      · exact implNext_no2b q b r h1 h2 h3 w
    · exact implNext_no2 q b r h1 h2 w
  · exact implNext_no1 q b r h1 w

end Go.Proofs.Ythhnnkgfnhggbaa
