/- The course one ring further, on both sides. -/
import Derived.Test.YtkdecpnbbpmooaaSteer
import Derived.Deep.RegionHeld3
import Derived.StillTailTactics
namespace Go.Proofs.Ytkdecpnbbpmooaa
open Go.ChangeShapes Go.WideShapes Go.ChangeAt Go.RowKit
set_option linter.unusedVariables false
set_option linter.unusedSimpArgs false

theorem boxN_0 (w : World) (o : Obj) : (w.alloc o).heap[w.heap.size]? = some o := heap_alloc_new w o
theorem boxN2_0 (w : World) (o p : Obj) : ((w.alloc o).alloc p).heap[w.heap.size]? = some o := (Below.heap_alloc _ _ _ (by simp)).trans (heap_alloc_new w o)
theorem boxN2_1 (w : World) (o p : Obj) : ((w.alloc o).alloc p).heap[w.heap.size + 1]? = some p := by
  have := heap_alloc_new (w.alloc o) p
  rwa [World.size_alloc] at this

theorem nextRes_yes {P : Prop} {c : Co} {t : Int} {o : Co} {v : Bool} (h : NextRes P c t o v) (g : P) : o = nextC c t ∧ v = true := by
  rcases h with h | h
  · exact h.2
  · exact absurd g h.1
theorem nextRes_no {P : Prop} {c : Co} {t : Int} {o : Co} {v : Bool} (h : NextRes P c t o v) (g : ¬ P) : o = noC ∧ v = false := by
  rcases h with h | h
  · exact absurd h.1 g
  · exact h.2

set_option maxHeartbeats 1000000 in
theorem l05Is_any (l : Lm) (c : Co) (b : Bool) (hb : b = true ↔ OkC l c) (w : World) :
    Calls Try.prog 48 #[(.agg #[.int .i64 l.m, .int .i64 l.c]), (.agg #[.int .i64 c.o, .int .i64 c.h, .int .i64 c.t])] w fun e w' => e = .returned (.bool b) ∧ Below w.heap.size w w' := by
  obtain ⟨b1, h1⟩ := bool_of (OkL l)
  obtain ⟨b2, h2⟩ := bool_of (InC l.m c)
  obtain rfl : b = (b1 && b2) := band_of hb h1 h2 Iff.rfl
  have H1 := Lib.hid h1
  have H2 := Lib.hid h2
  clear hb h1 h2
  go_enter Try.func48, Try.ntmps48
  go_wp2_with fail
  refine (l05Limits_any l b1 H1.out _).mono ?_
  rintro e w1 ⟨rfl, rfl⟩
  cases b1
  · go_wp2
    go_ret
    exact ⟨rfl, by go_grown⟩
  · obtain ⟨⟨m1, m2⟩, _⟩ := H1.out.mp rfl
    go_wp2_with fail
    refine (l05Inside_any l.m (by omega) (by omega) c b2 H2.out _).mono ?_
    rintro e w1 ⟨rfl, rfl⟩
    go_wp2
    go_ret
    exact ⟨rfl, by go_grown⟩

theorem specCourse_any (l : Lm) (c : Co) (b : Bool) (hb : b = true ↔ OkC l c) (w : World) :
    Calls Try.prog 15 #[(.agg #[.int .i64 l.m, .int .i64 l.c]), (.agg #[.int .i64 c.o, .int .i64 c.h, .int .i64 c.t])] w fun e w' => e = .returned (.bool b) ∧ Below w.heap.size w w' := by
  have HB := Lib.hid hb
  clear hb
  go_enter Try.func15, Try.ntmps15
  go_wp2_with fail
  refine (l05Is_any l c b HB.out _).mono ?_
  rintro e w1 ⟨rfl, b1⟩
  have B : Hid (Below w.heap.size w w1) := Below.trans (by go_grown) (b1.mono (by simp only [World.size_alloc]; omega))
  clear b1
  go_wp2
  go_ret
  exact ⟨rfl, B.out⟩

theorem specLimits_any (l : Lm) (b : Bool) (hb : b = true ↔ OkL l) (w : World) :
    Calls Try.prog 12 #[(.agg #[.int .i64 l.m, .int .i64 l.c])] w fun e w' => e = .returned (.bool b) ∧ Below w.heap.size w w' := by
  have HB := Lib.hid hb
  clear hb
  go_enter Try.func12, Try.ntmps12
  go_wp2_with fail
  refine (l05Limits_any l b HB.out _).mono ?_
  rintro e w1 ⟨rfl, rfl⟩
  go_wp2
  go_ret
  exact ⟨rfl, by go_grown⟩

set_option maxHeartbeats 1000000 in
theorem implCourse_any (l : Lm) (c : Co) (b : Bool) (hb : b = true ↔ OkC l c) (w : World) :
    Calls Try.prog 17 #[(.agg #[.int .i64 l.m, .int .i64 l.c]), (.agg #[.int .i64 c.o, .int .i64 c.h, .int .i64 c.t])] w fun e w' => e = .returned (.bool b) ∧ Below w.heap.size w w' := by
  obtain ⟨b1, h1⟩ := bool_of (OkL l)
  obtain ⟨b2, h2⟩ := bool_of (InC l.m c)
  obtain ⟨b3, h3⟩ := bool_of (NearC c)
  obtain ⟨b4, h4⟩ := bool_of (-l.m ≤ c.t ∧ c.t ≤ l.m)
  obtain rfl : b = (b1 && b2) := band_of hb h1 h2 Iff.rfl
  obtain rfl : b2 = (b3 && b4) := band_of h2 h3 h4 Iff.rfl
  have H1 := Lib.hid h1
  have H3 := Lib.hid h3
  have H4 := Lib.hid h4
  clear hb h1 h2 h3 h4
  go_enter Try.func17, Try.ntmps17
  go_wp2_with fail
  refine (implLimits_any l b1 H1.out _).mono ?_
  rintro e w1 ⟨rfl, rfl⟩
  cases b1
  · go_wp2
    go_ret
    exact ⟨rfl, by go_grown⟩
  · obtain ⟨⟨m1, m2⟩, _⟩ := H1.out.mp rfl
    go_wp2_with fail
    refine (isNear_any c b3 H3.out _).mono ?_
    rintro e w1 ⟨rfl, rfl⟩
    cases b3
    · go_wp2
      go_ret
      exact ⟨rfl, by go_grown⟩
    · go_wp2_with fail
      refine (canTurn_any l (by omega) (by omega) c.t b4 H4.out _).mono ?_
      rintro e w1 ⟨rfl, rfl⟩
      go_wp2
      go_ret
      exact ⟨by simp, by go_grown⟩

set_option maxHeartbeats 2000000 in
theorem l05Next_any (l : Lm) (c : Co) (t : Int) (ok : OkC l c) (o : Co) (v : Bool) (h : NextRes (Goes l c t) c t o v) (w : World) :
    Calls Try.prog 51 #[(.agg #[.int .i64 l.m, .int .i64 l.c]), (.agg #[.int .i64 c.o, .int .i64 c.h, .int .i64 c.t]), .int .i64 t] w fun e w' => e = .returned (.tuple #[(.agg #[.int .i64 o.o, .int .i64 o.h, .int .i64 o.t]), .bool v]) ∧ Below w.heap.size w w' := by
  obtain ⟨⟨⟨m1, m2⟩, ⟨c1, c2⟩⟩, ⟨⟨⟨x1, x2⟩, ⟨x3, x4⟩⟩, ⟨x5, x6⟩⟩⟩ := ok
  obtain ⟨b1, h1⟩ := bool_of (-l.m ≤ t ∧ t ≤ l.m)
  obtain ⟨b2, h2⟩ := bool_of (-l.c ≤ t - c.t ∧ t - c.t ≤ l.c)
  obtain ⟨b3, h3⟩ := bool_of (InC l.m (nextC c t))
  have H := Lib.hid h
  have H1 := Lib.hid h1
  have H2 := Lib.hid h2
  have H3 := Lib.hid h3
  clear h h1 h2 h3
  go_enter Try.func51, Try.ntmps51
  go_wp2_with fail
  refine (in_any t (-l.m) l.m b1 H1.out _).mono ?_
  rintro e w1 ⟨rfl, rfl⟩
  cases b1
  · obtain ⟨rfl, rfl⟩ := nextRes_no H.out (fun g => by cases H1.out.mpr g.1.1)
    clear H H1 H2 H3
    go_wp2
    go_returns
    exact ⟨rfl, by go_grown⟩
  · obtain ⟨t1, t2⟩ := H1.out.mp rfl
    go_wp2_with fail
    refine (in_any (t - c.t) (-l.c) l.c b2 H2.out _).mono ?_
    rintro e w1 ⟨rfl, rfl⟩
    cases b2
    · obtain ⟨rfl, rfl⟩ := nextRes_no H.out (fun g => by cases H2.out.mpr g.1.2)
      clear H H1 H2 H3
      go_wp2
      go_returns
      exact ⟨rfl, by go_grown⟩
    · have c3 := Lib.hid (fun w => l05Inside_any l.m (by omega) (by omega) (nextC c t) b3 H3.out w)
      go_wp2_with fail
      refine (c3.out _).mono ?_
      rintro e w1 ⟨rfl, rfl⟩
      cases b3
      · obtain ⟨rfl, rfl⟩ := nextRes_no H.out (fun g => by cases H3.out.mpr g.2)
        clear H H1 H2 H3 c3
        go_wp2
        go_returns
        exact ⟨rfl, by go_grown⟩
      · obtain ⟨rfl, rfl⟩ := nextRes_yes H.out ⟨⟨H1.out.mp (by simp), H2.out.mp (by simp)⟩, H3.out.mp (by simp)⟩
        clear H H1 H2 H3 c3
        go_wp2
        go_returns
        exact ⟨rfl, by go_grown⟩
end Go.Proofs.Ytkdecpnbbpmooaa
