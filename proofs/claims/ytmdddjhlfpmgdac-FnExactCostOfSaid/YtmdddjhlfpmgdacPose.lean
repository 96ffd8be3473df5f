/- Walks of the functions over poses. -/
import Derived.Test.YtmdddjhlfpmgdacWithin
import Derived.Handy
namespace Go.Proofs.Ytmdddjhlfpmgdac
open Go.ChangeShapes Go.WideShapes Go.ChangeAt Go.RowKit
set_option linter.unusedVariables false
set_option linter.unusedSimpArgs false

/-- A pose: side, height, yaw, pitch. -/
structure Ps where
  s : Int
  h : Int
  y : Int
  p : Int

theorem Ps.eq {a b : Ps} (h1 : a.s = b.s) (h2 : a.h = b.h) (h3 : a.y = b.y) (h4 : a.p = b.p) : a = b := by
  cases a; cases b; simp_all

def OkOff (n : Int) : Prop := -100000 ≤ n ∧ n ≤ 100000
def OkHead (n : Int) : Prop := -400 ≤ n ∧ n ≤ 400
def OkTurn (n : Int) : Prop := -12 ≤ n ∧ n ≤ 12
def OkP (q : Ps) : Prop := OkOff q.s ∧ OkOff q.h ∧ OkHead q.y ∧ OkHead q.p
def stepP (q : Ps) (b r : Int) : Ps := ⟨q.s + q.y, q.h + q.p, q.y + b, q.p + r⟩
/-- Every field is an int64. -/
def WfP (q : Ps) : Prop := (Lit.int .i64 q.s).wf = true ∧ (Lit.int .i64 q.h).wf = true ∧ (Lit.int .i64 q.y).wf = true ∧ (Lit.int .i64 q.p).wf = true

theorem isOffset_any (n : Int) (b : Bool) (hb : b = true ↔ OkOff n) (w : World) :
    Calls Try.prog 112 #[.int .i64 n] w fun e w' => e = .returned (.bool b) ∧ w = w' := by
  have HB := Lib.hid hb
  clear hb
  go_enter Try.func112, Try.ntmps112
  go_wp2_with fail
  refine (within_any n (-100000) 100000 b HB.out w).mono ?_
  rintro e w' ⟨rfl, rfl⟩
  go_wp2
  go_ret
  exact ⟨rfl, rfl⟩

theorem isHeading_any (n : Int) (b : Bool) (hb : b = true ↔ OkHead n) (w : World) :
    Calls Try.prog 113 #[.int .i64 n] w fun e w' => e = .returned (.bool b) ∧ w = w' := by
  have HB := Lib.hid hb
  clear hb
  go_enter Try.func113, Try.ntmps113
  go_wp2_with fail
  refine (within_any n (-400) 400 b HB.out w).mono ?_
  rintro e w' ⟨rfl, rfl⟩
  go_wp2
  go_ret
  exact ⟨rfl, rfl⟩

theorem isTurn_any (n : Int) (b : Bool) (hb : b = true ↔ OkTurn n) (w : World) :
    Calls Try.prog 114 #[.int .i64 n] w fun e w' => e = .returned (.bool b) ∧ w = w' := by
  have HB := Lib.hid hb
  clear hb
  go_enter Try.func114, Try.ntmps114
  go_wp2_with fail
  refine (within_any n (-12) 12 b HB.out w).mono ?_
  rintro e w' ⟨rfl, rfl⟩
  go_wp2
  go_ret
  exact ⟨rfl, rfl⟩

set_option maxHeartbeats 1000000 in
theorem l02Pose_any (q : Ps) (b : Bool) (hb : b = true ↔ OkP q) (w : World) :
    Calls Try.prog 83 #[(.agg #[.int .i64 q.s, .int .i64 q.h, .int .i64 q.y, .int .i64 q.p])] w fun e w' => e = .returned (.bool b) ∧ w' = w.alloc (.cells #[.int .i64 q.s, .int .i64 q.h, .int .i64 q.y, .int .i64 q.p] 46) := by
  by_cases h1 : OkOff q.s
  · by_cases h2 : OkOff q.h
    · by_cases h3 : OkHead q.y
      · by_cases h4 : OkHead q.p
        · obtain rfl : b = true := hb.mpr ⟨h1, h2, h3, h4⟩
          have c1 := Lib.hid (fun w => in_any q.s (-100000) 100000 true ⟨fun _ => h1, fun _ => rfl⟩ w)
          have c2 := Lib.hid (fun w => in_any q.h (-100000) 100000 true ⟨fun _ => h2, fun _ => rfl⟩ w)
          have c3 := Lib.hid (fun w => in_any q.y (-400) 400 true ⟨fun _ => h3, fun _ => rfl⟩ w)
          have c4 := Lib.hid (fun w => in_any q.p (-400) 400 true ⟨fun _ => h4, fun _ => rfl⟩ w)
          clear hb h1 h2 h3 h4
          go_enter Try.func83, Try.ntmps83
          go_wp2_with fail
          refine (c1.out _).mono ?_
          rintro e w' ⟨rfl, rfl⟩
          go_wp2_with fail
          refine (c2.out _).mono ?_
          rintro e w' ⟨rfl, rfl⟩
          go_wp2_with fail
          refine (c3.out _).mono ?_
          rintro e w' ⟨rfl, rfl⟩
          go_wp2_with fail
          refine (c4.out _).mono ?_
          rintro e w' ⟨rfl, rfl⟩
          go_wp2
          go_ret
          exact ⟨rfl, rfl⟩
        · obtain rfl : b = false := b_false hb fun h => h4 h.2.2.2
          have c1 := Lib.hid (fun w => in_any q.s (-100000) 100000 true ⟨fun _ => h1, fun _ => rfl⟩ w)
          have c2 := Lib.hid (fun w => in_any q.h (-100000) 100000 true ⟨fun _ => h2, fun _ => rfl⟩ w)
          have c3 := Lib.hid (fun w => in_any q.y (-400) 400 true ⟨fun _ => h3, fun _ => rfl⟩ w)
          have c4 := Lib.hid (fun w => in_any q.p (-400) 400 false ⟨fun h => (by cases h), fun h => absurd h h4⟩ w)
          clear hb h1 h2 h3 h4
          go_enter Try.func83, Try.ntmps83
          go_wp2_with fail
          refine (c1.out _).mono ?_
          rintro e w' ⟨rfl, rfl⟩
          go_wp2_with fail
          refine (c2.out _).mono ?_
          rintro e w' ⟨rfl, rfl⟩
          go_wp2_with fail
          refine (c3.out _).mono ?_
          rintro e w' ⟨rfl, rfl⟩
          go_wp2_with fail
          refine (c4.out _).mono ?_
          rintro e w' ⟨rfl, rfl⟩
          go_wp2
          go_ret
          exact ⟨rfl, rfl⟩
      · obtain rfl : b = false := b_false hb fun h => h3 h.2.2.1
        have c1 := Lib.hid (fun w => in_any q.s (-100000) 100000 true ⟨fun _ => h1, fun _ => rfl⟩ w)
        have c2 := Lib.hid (fun w => in_any q.h (-100000) 100000 true ⟨fun _ => h2, fun _ => rfl⟩ w)
        have c3 := Lib.hid (fun w => in_any q.y (-400) 400 false ⟨fun h => (by cases h), fun h => absurd h h3⟩ w)
        clear hb h1 h2 h3
        go_enter Try.func83, Try.ntmps83
        go_wp2_with fail
        refine (c1.out _).mono ?_
        rintro e w' ⟨rfl, rfl⟩
        go_wp2_with fail
        refine (c2.out _).mono ?_
        rintro e w' ⟨rfl, rfl⟩
        go_wp2_with fail
        refine (c3.out _).mono ?_
        rintro e w' ⟨rfl, rfl⟩
        go_wp2
        go_ret
        exact ⟨rfl, rfl⟩
    · obtain rfl : b = false := b_false hb fun h => h2 h.2.1
      have c1 := Lib.hid (fun w => in_any q.s (-100000) 100000 true ⟨fun _ => h1, fun _ => rfl⟩ w)
      have c2 := Lib.hid (fun w => in_any q.h (-100000) 100000 false ⟨fun h => (by cases h), fun h => absurd h h2⟩ w)
      clear hb h1 h2
      go_enter Try.func83, Try.ntmps83
      go_wp2_with fail
      refine (c1.out _).mono ?_
      rintro e w' ⟨rfl, rfl⟩
      go_wp2_with fail
      refine (c2.out _).mono ?_
      rintro e w' ⟨rfl, rfl⟩
      go_wp2
      go_ret
      exact ⟨rfl, rfl⟩
  · obtain rfl : b = false := b_false hb fun h => h1 h.1
    have c1 := Lib.hid (fun w => in_any q.s (-100000) 100000 false ⟨fun h => (by cases h), fun h => absurd h h1⟩ w)
    clear hb h1
    go_enter Try.func83, Try.ntmps83
    go_wp2_with fail
    refine (c1.out _).mono ?_
    rintro e w' ⟨rfl, rfl⟩
    go_wp2
    go_ret
    exact ⟨rfl, rfl⟩

set_option maxHeartbeats 1000000 in
theorem implPose_any (q : Ps) (b : Bool) (hb : b = true ↔ OkP q) (w : World) :
    Calls Try.prog 90 #[(.agg #[.int .i64 q.s, .int .i64 q.h, .int .i64 q.y, .int .i64 q.p])] w fun e w' => e = .returned (.bool b) ∧ w' = w.alloc (.cells #[.int .i64 q.s, .int .i64 q.h, .int .i64 q.y, .int .i64 q.p] 46) := by
  by_cases h1 : OkOff q.s
  · by_cases h2 : OkOff q.h
    · by_cases h3 : OkHead q.y
      · by_cases h4 : OkHead q.p
        · obtain rfl : b = true := hb.mpr ⟨h1, h2, h3, h4⟩
          have c1 := Lib.hid (fun w => isOffset_any q.s true ⟨fun _ => h1, fun _ => rfl⟩ w)
          have c2 := Lib.hid (fun w => isOffset_any q.h true ⟨fun _ => h2, fun _ => rfl⟩ w)
          have c3 := Lib.hid (fun w => isHeading_any q.y true ⟨fun _ => h3, fun _ => rfl⟩ w)
          have c4 := Lib.hid (fun w => isHeading_any q.p true ⟨fun _ => h4, fun _ => rfl⟩ w)
          clear hb h1 h2 h3 h4
          go_enter Try.func90, Try.ntmps90
          go_wp2_with fail
          refine (c1.out _).mono ?_
          rintro e w' ⟨rfl, rfl⟩
          go_wp2_with fail
          refine (c2.out _).mono ?_
          rintro e w' ⟨rfl, rfl⟩
          go_wp2_with fail
          refine (c3.out _).mono ?_
          rintro e w' ⟨rfl, rfl⟩
          go_wp2_with fail
          refine (c4.out _).mono ?_
          rintro e w' ⟨rfl, rfl⟩
          go_wp2
          go_ret
          exact ⟨rfl, rfl⟩
        · obtain rfl : b = false := b_false hb fun h => h4 h.2.2.2
          have c1 := Lib.hid (fun w => isOffset_any q.s true ⟨fun _ => h1, fun _ => rfl⟩ w)
          have c2 := Lib.hid (fun w => isOffset_any q.h true ⟨fun _ => h2, fun _ => rfl⟩ w)
          have c3 := Lib.hid (fun w => isHeading_any q.y true ⟨fun _ => h3, fun _ => rfl⟩ w)
          have c4 := Lib.hid (fun w => isHeading_any q.p false ⟨fun h => (by cases h), fun h => absurd h h4⟩ w)
          clear hb h1 h2 h3 h4
          go_enter Try.func90, Try.ntmps90
          go_wp2_with fail
          refine (c1.out _).mono ?_
          rintro e w' ⟨rfl, rfl⟩
          go_wp2_with fail
          refine (c2.out _).mono ?_
          rintro e w' ⟨rfl, rfl⟩
          go_wp2_with fail
          refine (c3.out _).mono ?_
          rintro e w' ⟨rfl, rfl⟩
          go_wp2_with fail
          refine (c4.out _).mono ?_
          rintro e w' ⟨rfl, rfl⟩
          go_wp2
          go_ret
          exact ⟨rfl, rfl⟩
      · obtain rfl : b = false := b_false hb fun h => h3 h.2.2.1
        have c1 := Lib.hid (fun w => isOffset_any q.s true ⟨fun _ => h1, fun _ => rfl⟩ w)
        have c2 := Lib.hid (fun w => isOffset_any q.h true ⟨fun _ => h2, fun _ => rfl⟩ w)
        have c3 := Lib.hid (fun w => isHeading_any q.y false ⟨fun h => (by cases h), fun h => absurd h h3⟩ w)
        clear hb h1 h2 h3
        go_enter Try.func90, Try.ntmps90
        go_wp2_with fail
        refine (c1.out _).mono ?_
        rintro e w' ⟨rfl, rfl⟩
        go_wp2_with fail
        refine (c2.out _).mono ?_
        rintro e w' ⟨rfl, rfl⟩
        go_wp2_with fail
        refine (c3.out _).mono ?_
        rintro e w' ⟨rfl, rfl⟩
        go_wp2
        go_ret
        exact ⟨rfl, rfl⟩
    · obtain rfl : b = false := b_false hb fun h => h2 h.2.1
      have c1 := Lib.hid (fun w => isOffset_any q.s true ⟨fun _ => h1, fun _ => rfl⟩ w)
      have c2 := Lib.hid (fun w => isOffset_any q.h false ⟨fun h => (by cases h), fun h => absurd h h2⟩ w)
      clear hb h1 h2
      go_enter Try.func90, Try.ntmps90
      go_wp2_with fail
      refine (c1.out _).mono ?_
      rintro e w' ⟨rfl, rfl⟩
      go_wp2_with fail
      refine (c2.out _).mono ?_
      rintro e w' ⟨rfl, rfl⟩
      go_wp2
      go_ret
      exact ⟨rfl, rfl⟩
  · obtain rfl : b = false := b_false hb fun h => h1 h.1
    have c1 := Lib.hid (fun w => isOffset_any q.s false ⟨fun h => (by cases h), fun h => absurd h h1⟩ w)
    clear hb h1
    go_enter Try.func90, Try.ntmps90
    go_wp2_with fail
    refine (c1.out _).mono ?_
    rintro e w' ⟨rfl, rfl⟩
    go_wp2
    go_ret
    exact ⟨rfl, rfl⟩


/-- The sums of a step stay int64s. -/
structure Room (q : Ps) (b r : Int) : Prop where
  s : -9223372036854775808 ≤ q.s + q.y ∧ q.s + q.y ≤ 9223372036854775807
  h : -9223372036854775808 ≤ q.h + q.p ∧ q.h + q.p ≤ 9223372036854775807
  y : -9223372036854775808 ≤ q.y + b ∧ q.y + b ≤ 9223372036854775807
  p : -9223372036854775808 ≤ q.p + r ∧ q.p + r ≤ 9223372036854775807

theorem OkP.room {q : Ps} {b r : Int} (h : OkP q) (hb : OkTurn b) (hr : OkTurn r) : Room q b r := by
  obtain ⟨⟨_, _⟩, ⟨_, _⟩, ⟨_, _⟩, ⟨_, _⟩⟩ := h
  obtain ⟨_, _⟩ := hb
  obtain ⟨_, _⟩ := hr
  constructor <;> constructor <;> omega

set_option maxHeartbeats 1000000 in
theorem l02Next_any (q : Ps) (b r : Int) (h : Room q b r) (w : World) :
    Calls Try.prog 85 #[(.agg #[.int .i64 q.s, .int .i64 q.h, .int .i64 q.y, .int .i64 q.p]), .int .i64 b, .int .i64 r] w fun e w' => e = .returned (.agg #[.int .i64 (stepP q b r).s, .int .i64 (stepP q b r).h, .int .i64 (stepP q b r).y, .int .i64 (stepP q b r).p]) ∧ w' = (w.alloc (.cells #[.int .i64 q.s, .int .i64 q.h, .int .i64 q.y, .int .i64 q.p] 46)).alloc (.cells #[.int .i64 (stepP q b r).s, .int .i64 (stepP q b r).h, .int .i64 (stepP q b r).y, .int .i64 (stepP q b r).p] 46) := by
  obtain ⟨h1, h2, h3, h4⟩ := h
  have q1 : IntKind.i64.wrap (q.s + q.y) = q.s + q.y := IntWalk.i64_in _ (by omega)
  have q2 : IntKind.i64.wrap (q.h + q.p) = q.h + q.p := IntWalk.i64_in _ (by omega)
  have q3 : IntKind.i64.wrap (q.y + b) = q.y + b := IntWalk.i64_in _ (by omega)
  have q4 : IntKind.i64.wrap (q.p + r) = q.p + r := IntWalk.i64_in _ (by omega)
  clear h1 h2 h3 h4
  go_enter Try.func85, Try.ntmps85
  go_wp2
  go_returns
  exact ⟨rfl, rfl⟩

set_option maxHeartbeats 1000000 in
theorem next_any (q : Ps) (b r : Int) (h : Room q b r) (w : World) :
    Calls Try.prog 100 #[(.agg #[.int .i64 q.s, .int .i64 q.h, .int .i64 q.y, .int .i64 q.p]), .int .i64 b, .int .i64 r] w fun e w' => e = .returned (.agg #[.int .i64 (stepP q b r).s, .int .i64 (stepP q b r).h, .int .i64 (stepP q b r).y, .int .i64 (stepP q b r).p]) ∧ w' = (w.alloc (.cells #[.int .i64 q.s, .int .i64 q.h, .int .i64 q.y, .int .i64 q.p] 46)).alloc (.cells #[.int .i64 (stepP q b r).s, .int .i64 (stepP q b r).h, .int .i64 (stepP q b r).y, .int .i64 (stepP q b r).p] 46) := by
  obtain ⟨h1, h2, h3, h4⟩ := h
  have q1 : IntKind.i64.wrap (q.s + q.y) = q.s + q.y := IntWalk.i64_in _ (by omega)
  have q2 : IntKind.i64.wrap (q.h + q.p) = q.h + q.p := IntWalk.i64_in _ (by omega)
  have q3 : IntKind.i64.wrap (q.y + b) = q.y + b := IntWalk.i64_in _ (by omega)
  have q4 : IntKind.i64.wrap (q.p + r) = q.p + r := IntWalk.i64_in _ (by omega)
  clear h1 h2 h3 h4
  go_enter Try.func100, Try.ntmps100
  go_wp2
  go_returns
  exact ⟨rfl, rfl⟩

set_option maxHeartbeats 1000000 in
theorem toPose_any (q : Ps) (w : World) :
    Calls Try.prog 53 #[(.agg #[.int .i64 q.s, .int .i64 q.h, .int .i64 q.y, .int .i64 q.p])] w fun e w' => e = .returned (.agg #[.int .i64 q.s, .int .i64 q.h, .int .i64 q.y, .int .i64 q.p]) ∧ w' = ((w.alloc (.cells #[.int .i64 q.s, .int .i64 q.h, .int .i64 q.y, .int .i64 q.p] 41)).alloc (.cells #[.int .i64 q.s, .int .i64 q.h, .int .i64 q.y, .int .i64 q.p] 46)).alloc (.cells #[.int .i64 q.s, .int .i64 q.h, .int .i64 q.y, .int .i64 q.p] 46) := by
  go_enter Try.func53, Try.ntmps53
  go_wp2
  go_returns
  exact ⟨rfl, rfl⟩
set_option maxHeartbeats 1000000 in
theorem eqPose_same (q : Ps) (w : World) :
    Calls Try.prog 58 #[(.agg #[.int .i64 q.s, .int .i64 q.h, .int .i64 q.y, .int .i64 q.p]), (.agg #[.int .i64 q.s, .int .i64 q.h, .int .i64 q.y, .int .i64 q.p])] w fun e w' => e = .returned (.bool true) ∧ w' = (w.alloc (.cells #[.int .i64 q.s, .int .i64 q.h, .int .i64 q.y, .int .i64 q.p] 46)).alloc (.cells #[.int .i64 q.s, .int .i64 q.h, .int .i64 q.y, .int .i64 q.p] 46) := by
  go_enter Try.func58, Try.ntmps58
  go_wp2
  go_ret
  exact ⟨rfl, rfl⟩
end Go.Proofs.Ytmdddjhlfpmgdac
