/- MeetingJoints and NextKeys on both sides. -/
import Derived.Test.YtgockhlainnnnacDoorRingD
import Derived.Test.YtgockhlainnnnacDoorExKit
namespace Go.Proofs.YtgockhlainnnnacDoor
open Go.ChangeShapes Go.WideShapes Go.ChangeAt Go.RowKit
set_option linter.unusedVariables false
set_option linter.unusedSimpArgs false

set_option maxHeartbeats 2000000 in
theorem implMeeting_yes (q r : Rg) (h : OkR q) (h2 : OkR r) : GivesI 20 #[(.agg #[.int .i64 q.k, .int .i64 q.y]), (.agg #[.int .i64 r.k, .int .i64 r.y])] (meetL q.y r.y) true := by
  intro w T
  have c1 := Lib.hid (fun w => implRing_any q true ⟨fun _ => h, fun _ => rfl⟩ w)
  have c2 := Lib.hid (fun w => implRing_any r true ⟨fun _ => h2, fun _ => rfl⟩ w)
  have c3 := Lib.hid (fun w => meeting_any q r h h2 _ rfl w)
  have c4 := Lib.hid (fun w T => list_any _ (mM_u16 q.y r.y h.2 h2.2) 16 (meetL q.y r.y) (meet_chain q.y r.y h.2 h2.2) (meetL_len _ _) w T)
  obtain ⟨m, hm⟩ : ∃ m, bits BinOp.and IntKind.u16 (jM q.y) (jM r.y) = m := ⟨_, rfl⟩
  rw [hm] at c3 c4
  clear hm
  have HT := Lib.hid T
  clear h h2 T
  go_enter Tryd.func20, Tryd.ntmps20
  go_wp2_with fail
  refine (c1.out _).mono ?_
  rintro e w1 ⟨rfl, b1⟩
  have z1 := b1.size
  simp only [World.size_alloc] at z1
  have N1 := Lib.hid ((b1.block w.heap.size (by simp only [World.size_alloc]; omega)).trans (heap_alloc2_old w _ _))
  have M1 := Lib.hid ((b1.block (w.heap.size + 1) (by simp only [World.size_alloc]; omega)).trans (heap_alloc2_new w _ _))
  have B1 : Hid (Below w.heap.size w w1) := Below.trans (by go_grown) (b1.mono (by simp only [World.size_alloc]; omega))
  clear b1
  obtain ⟨⟨k2, k3⟩, -⟩ := boxRg_at M1.out
  go_wp2_with fail
  refine (c2.out _).mono ?_
  rintro e w2 ⟨rfl, b2⟩
  have z2 := b2.size
  have N2 := Lib.hid ((b2.block w.heap.size (by omega)).trans N1.out)
  have M2 := Lib.hid ((b2.block (w.heap.size + 1) (by omega)).trans M1.out)
  have B2 : Hid (Below w.heap.size w w2) := B1.out.trans (b2.mono (by omega))
  clear b2 k2 k3 B1 N1 M1
  obtain ⟨⟨k0, k1⟩, -⟩ := boxRg_at N2.out
  obtain ⟨⟨k2, k3⟩, -⟩ := boxRg_at M2.out
  go_wp2_with fail
  refine (c3.out _).mono ?_
  rintro e w3 ⟨rfl, b3⟩
  have z3 := b3.size
  have B3 : Hid (Below w.heap.size w w3) := B2.out.trans (b3.mono (by omega))
  clear b3 k0 k1 k2 k3 B2 N2 M2
  go_wp2_with fail
  refine (c4.out _ (HT.out.later B3.out)).mono ?_
  rintro e w4 ⟨v4, rfl, o4, b4⟩
  have O4 : Hid (OwnI w4 w.heap.size v4 (meetL q.y r.y)) := o4.mono (by omega)
  have B4 : Hid (Below w.heap.size w w4) := B3.out.trans (b4.mono (by omega))
  clear o4 b4
  go_wp2
  go_ret2
  exact ⟨_, rfl, O4.out, B4.out⟩

set_option maxHeartbeats 2000000 in
theorem implMeeting_no1 (q r : Rg) (h : ¬ OkR q) : GivesI 20 #[(.agg #[.int .i64 q.k, .int .i64 q.y]), (.agg #[.int .i64 r.k, .int .i64 r.y])] [] false := by
  intro w T
  have c1 := Lib.hid (fun w => implRing_any q false ⟨fun e => (by cases e), fun e => absurd e h⟩ w)
  have HT := Lib.hid T
  clear h T
  go_enter Tryd.func20, Tryd.ntmps20
  go_wp2_with fail
  refine (c1.out _).mono ?_
  rintro e w1 ⟨rfl, b1⟩
  have z1 := b1.size
  simp only [World.size_alloc] at z1
  have N1 := Lib.hid ((b1.block w.heap.size (by simp only [World.size_alloc]; omega)).trans (heap_alloc2_old w _ _))
  have M1 := Lib.hid ((b1.block (w.heap.size + 1) (by simp only [World.size_alloc]; omega)).trans (heap_alloc2_new w _ _))
  have B1 : Hid (Below w.heap.size w w1) := Below.trans (by go_grown) (b1.mono (by simp only [World.size_alloc]; omega))
  clear b1
  go_wp2
  go_ret2
  exact ⟨_, rfl, OwnI.nil' _ _, B1.out⟩

set_option maxHeartbeats 2000000 in
theorem implMeeting_no2 (q r : Rg) (h : OkR q) (h2 : ¬ OkR r) : GivesI 20 #[(.agg #[.int .i64 q.k, .int .i64 q.y]), (.agg #[.int .i64 r.k, .int .i64 r.y])] [] false := by
  intro w T
  have c1 := Lib.hid (fun w => implRing_any q true ⟨fun _ => h, fun _ => rfl⟩ w)
  have c2 := Lib.hid (fun w => implRing_any r false ⟨fun e => (by cases e), fun e => absurd e h2⟩ w)
  have HT := Lib.hid T
  clear h h2 T
  go_enter Tryd.func20, Tryd.ntmps20
  go_wp2_with fail
  refine (c1.out _).mono ?_
  rintro e w1 ⟨rfl, b1⟩
  have z1 := b1.size
  simp only [World.size_alloc] at z1
  have N1 := Lib.hid ((b1.block w.heap.size (by simp only [World.size_alloc]; omega)).trans (heap_alloc2_old w _ _))
  have M1 := Lib.hid ((b1.block (w.heap.size + 1) (by simp only [World.size_alloc]; omega)).trans (heap_alloc2_new w _ _))
  have B1 : Hid (Below w.heap.size w w1) := Below.trans (by go_grown) (b1.mono (by simp only [World.size_alloc]; omega))
  clear b1
  obtain ⟨⟨k2, k3⟩, -⟩ := boxRg_at M1.out
  go_wp2_with fail
  refine (c2.out _).mono ?_
  rintro e w2 ⟨rfl, b2⟩
  have z2 := b2.size
  have N2 := Lib.hid ((b2.block w.heap.size (by omega)).trans N1.out)
  have M2 := Lib.hid ((b2.block (w.heap.size + 1) (by omega)).trans M1.out)
  have B2 : Hid (Below w.heap.size w w2) := B1.out.trans (b2.mono (by omega))
  clear b2 k2 k3 B1 N1 M1
  go_wp2
  go_ret2
  exact ⟨_, rfl, OwnI.nil' _ _, B2.out⟩

set_option maxHeartbeats 2000000 in
theorem specMeeting_yes (q r : Rg) (h : OkR q) (h2 : OkR r) : GivesI 19 #[(.agg #[.int .i64 q.k, .int .i64 q.y]), (.agg #[.int .i64 r.k, .int .i64 r.y])] (meetL q.y r.y) true := by
  intro w T
  have c1 := Lib.hid (fun w => l03Is_any q true ⟨fun _ => h, fun _ => rfl⟩ w)
  have c2 := Lib.hid (fun w => l03Is_any r true ⟨fun _ => h2, fun _ => rfl⟩ w)
  have c3 := Lib.hid (fun w => l03Meet_any q.y r.y h.2 h2.2 w)
  have HT := Lib.hid T
  clear h h2 T
  go_enter Tryd.func19, Tryd.ntmps19
  go_wp2_with fail
  refine (c1.out _).mono ?_
  rintro e w1 ⟨rfl, b1⟩
  have z1 := b1.size
  simp only [World.size_alloc] at z1
  have N1 := Lib.hid ((b1.block w.heap.size (by simp only [World.size_alloc]; omega)).trans (heap_alloc2_old w _ _))
  have M1 := Lib.hid ((b1.block (w.heap.size + 1) (by simp only [World.size_alloc]; omega)).trans (heap_alloc2_new w _ _))
  have B1 : Hid (Below w.heap.size w w1) := Below.trans (by go_grown) (b1.mono (by simp only [World.size_alloc]; omega))
  clear b1
  obtain ⟨⟨k2, k3⟩, -⟩ := boxRg_at M1.out
  go_wp2_with fail
  refine (c2.out _).mono ?_
  rintro e w2 ⟨rfl, b2⟩
  have z2 := b2.size
  have N2 := Lib.hid ((b2.block w.heap.size (by omega)).trans N1.out)
  have M2 := Lib.hid ((b2.block (w.heap.size + 1) (by omega)).trans M1.out)
  have B2 : Hid (Below w.heap.size w w2) := B1.out.trans (b2.mono (by omega))
  clear b2 k2 k3 B1 N1 M1
  obtain ⟨⟨k0, k1⟩, -⟩ := boxRg_at N2.out
  obtain ⟨⟨k2, k3⟩, -⟩ := boxRg_at M2.out
  go_wp2_with fail
  refine (c3.out _).mono ?_
  rintro e w4 ⟨v4, rfl, o4, b4⟩
  have O4 : Hid (OwnI w4 w.heap.size v4 (meetL q.y r.y)) := o4.mono (by omega)
  have B4 : Hid (Below w.heap.size w w4) := B2.out.trans (b4.mono (by omega))
  clear o4 b4 k0 k1 k2 k3
  go_wp2
  go_ret2
  exact ⟨_, rfl, O4.out, B4.out⟩

set_option maxHeartbeats 2000000 in
theorem specMeeting_no1 (q r : Rg) (h : ¬ OkR q) : GivesI 19 #[(.agg #[.int .i64 q.k, .int .i64 q.y]), (.agg #[.int .i64 r.k, .int .i64 r.y])] [] false := by
  intro w T
  have c1 := Lib.hid (fun w => l03Is_any q false ⟨fun e => (by cases e), fun e => absurd e h⟩ w)
  have HT := Lib.hid T
  clear h T
  go_enter Tryd.func19, Tryd.ntmps19
  go_wp2_with fail
  refine (c1.out _).mono ?_
  rintro e w1 ⟨rfl, b1⟩
  have z1 := b1.size
  simp only [World.size_alloc] at z1
  have N1 := Lib.hid ((b1.block w.heap.size (by simp only [World.size_alloc]; omega)).trans (heap_alloc2_old w _ _))
  have M1 := Lib.hid ((b1.block (w.heap.size + 1) (by simp only [World.size_alloc]; omega)).trans (heap_alloc2_new w _ _))
  have B1 : Hid (Below w.heap.size w w1) := Below.trans (by go_grown) (b1.mono (by simp only [World.size_alloc]; omega))
  clear b1
  go_wp2
  go_ret2
  exact ⟨_, rfl, OwnI.nil' _ _, B1.out⟩

set_option maxHeartbeats 2000000 in
theorem specMeeting_no2 (q r : Rg) (h : OkR q) (h2 : ¬ OkR r) : GivesI 19 #[(.agg #[.int .i64 q.k, .int .i64 q.y]), (.agg #[.int .i64 r.k, .int .i64 r.y])] [] false := by
  intro w T
  have c1 := Lib.hid (fun w => l03Is_any q true ⟨fun _ => h, fun _ => rfl⟩ w)
  have c2 := Lib.hid (fun w => l03Is_any r false ⟨fun e => (by cases e), fun e => absurd e h2⟩ w)
  have HT := Lib.hid T
  clear h h2 T
  go_enter Tryd.func19, Tryd.ntmps19
  go_wp2_with fail
  refine (c1.out _).mono ?_
  rintro e w1 ⟨rfl, b1⟩
  have z1 := b1.size
  simp only [World.size_alloc] at z1
  have N1 := Lib.hid ((b1.block w.heap.size (by simp only [World.size_alloc]; omega)).trans (heap_alloc2_old w _ _))
  have M1 := Lib.hid ((b1.block (w.heap.size + 1) (by simp only [World.size_alloc]; omega)).trans (heap_alloc2_new w _ _))
  have B1 : Hid (Below w.heap.size w w1) := Below.trans (by go_grown) (b1.mono (by simp only [World.size_alloc]; omega))
  clear b1
  obtain ⟨⟨k2, k3⟩, -⟩ := boxRg_at M1.out
  go_wp2_with fail
  refine (c2.out _).mono ?_
  rintro e w2 ⟨rfl, b2⟩
  have z2 := b2.size
  have N2 := Lib.hid ((b2.block w.heap.size (by omega)).trans N1.out)
  have M2 := Lib.hid ((b2.block (w.heap.size + 1) (by omega)).trans M1.out)
  have B2 : Hid (Below w.heap.size w w2) := B1.out.trans (b2.mono (by omega))
  clear b2 k2 k3 B1 N1 M1
  go_wp2
  go_ret2
  exact ⟨_, rfl, OwnI.nil' _ _, B2.out⟩

theorem exMeetingJoints (q r : Rg) : ∃ (ys : List Int) (b : Bool), ys.length ≤ 1048576 ∧
    Hid (∀ (w : World), TDebL w → Calls Tryd.prog 19 #[(.agg #[.int .i64 q.k, .int .i64 q.y]), (.agg #[.int .i64 r.k, .int .i64 r.y])] w fun e w' => ∃ u0, e = .returned (.tuple #[u0, .bool b]) ∧ OwnI w' w.heap.size u0 ys ∧ Below w.heap.size w w') ∧
    Hid (∀ (w : World), TDebL w → Calls Tryd.prog 20 #[(.agg #[.int .i64 q.k, .int .i64 q.y]), (.agg #[.int .i64 r.k, .int .i64 r.y])] w fun e w' => ∃ u0, e = .returned (.tuple #[u0, .bool b]) ∧ OwnI w' w.heap.size u0 ys ∧ Below w.heap.size w w') := by
  by_cases h : OkR q
  · by_cases h2 : OkR r
    · exact ⟨_, true, by have := meetL_len q.y r.y; omega, specMeeting_yes q r h h2, implMeeting_yes q r h h2⟩
    · exact ⟨[], false, by simp, specMeeting_no2 q r h h2, implMeeting_no2 q r h h2⟩
  · exact ⟨[], false, by simp, specMeeting_no1 q r h, implMeeting_no1 q r h⟩
end Go.Proofs.YtgockhlainnnnacDoor
