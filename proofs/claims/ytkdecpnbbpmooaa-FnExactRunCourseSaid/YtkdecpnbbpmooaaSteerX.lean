/- Valid limits and courses, and the next course: both sides together. -/
import Derived.Test.YtkdecpnbbpmooaaSteerI
namespace Go.Proofs.Ytkdecpnbbpmooaa
open Go.ChangeShapes Go.WideShapes Go.ChangeAt Go.RowKit
set_option linter.unusedVariables false
set_option linter.unusedSimpArgs false

set_option maxHeartbeats 2000000 in
theorem specNextC_any (l : Lm) (c : Co) (t : Int) (o : Co) (v : Bool) (h : NextRes (OkC l c ∧ Goes l c t) c t o v) (w : World) :
    Calls Try.prog 18 #[(.agg #[.int .i64 l.m, .int .i64 l.c]), (.agg #[.int .i64 c.o, .int .i64 c.h, .int .i64 c.t]), .int .i64 t] w fun e w' => e = .returned (.tuple #[(.agg #[.int .i64 o.o, .int .i64 o.h, .int .i64 o.t]), .bool v]) ∧ Below w.heap.size w w' := by
  obtain ⟨b, hb⟩ := bool_of (OkC l c)
  have HB := Lib.hid hb
  have H := Lib.hid h
  have WS := Lib.hid (next_W0 w l c)
  clear h hb
  go_enter Try.func18, Try.ntmps18
  go_wp2_with fail
  refine (l05Is_any l c b HB.out _).mono ?_
  rintro e w1 ⟨rfl, b1⟩
  obtain ⟨⟨p0, p1, p2⟩, ps⟩ := WS.out
  have s1 : w.heap.size + 3 ≤ w1.heap.size := by have := b1.size; omega
  have B : Below w.heap.size w w1 := Below.trans (by go_grown) (b1.mono (by omega))
  have N0 := (b1.block _ (by omega)).trans p0
  have N1 := (b1.block _ (by omega)).trans p1
  have N2 := (b1.block _ (by omega)).trans p2
  clear b1 p0 p1 p2 ps WS
  cases b
  · have hno : ¬ OkC l c := fun g => by cases HB.out.mpr g
    obtain ⟨rfl, rfl⟩ := nextRes_no H.out (fun g => hno g.1)
    obtain ⟨⟨k0, k1, k2⟩, ⟨f0, f1, f2⟩, l0⟩ := boxCo_at (q := noC) N2
    have RF := Lib.hid (boxCo_put N2 noC)
    have BB := Lib.hid B
    clear N0 N1 N2 B H HB hno
    go_wp2
    obtain ⟨⟨g0, g1, g2⟩, -⟩ := boxCo_at (q := noC) RF.out
    dsimp only [noC] at g0 g1 g2
    have B := BB.out
    have sz := B.size
    refine bodyPost_ret (v := .tuple #[(.agg #[.int .i64 noC.o, .int .i64 noC.h, .int .i64 noC.t]), .bool false]) (by simp [results, Try.results18, go_sem, g0, g1, g2, noC]; try rfl) rfl ⟨rfl, ?_⟩
    go_grown
  · have ok : OkC l c := HB.out.mp rfl
    have h2 : NextRes (Goes l c t) c t o v := by
      rcases H.out with ⟨g, e⟩ | ⟨g, e⟩
      · exact .inl ⟨g.2, e⟩
      · exact .inr ⟨fun x => g ⟨ok, x⟩, e⟩
    have C2 := Lib.hid (fun w => l05Next_any l c t ok o v h2 w)
    have M2 := Lib.hid N2
    have BB := Lib.hid B
    obtain ⟨⟨k0, k1⟩, -⟩ := boxLm_at N0
    obtain ⟨⟨k2, k3, k4⟩, -⟩ := boxCo_at N1
    clear N0 N1 N2 B H HB ok h2
    go_wp2_with fail
    refine (C2.out _).mono ?_
    rintro e w2 ⟨rfl, b2⟩
    have N2 := (b2.block _ (by omega)).trans M2.out
    have B : Below w.heap.size w w2 := BB.out.trans (b2.mono (by omega))
    clear k0 k1 k2 k3 k4 C2 M2 b2
    obtain ⟨⟨k0, k1, k2⟩, ⟨f0, f1, f2⟩, l0⟩ := boxCo_at (q := noC) N2
    have RF := Lib.hid (boxCo_put N2 o)
    have BB := Lib.hid B
    clear N2 B
    go_wp2
    obtain ⟨⟨g0, g1, g2⟩, -⟩ := boxCo_at (q := o) RF.out
    have B := BB.out
    have sz := B.size
    refine bodyPost_ret (v := .tuple #[(.agg #[.int .i64 o.o, .int .i64 o.h, .int .i64 o.t]), .bool v]) (by simp [results, Try.results18, go_sem, g0, g1, g2]; try rfl) rfl ⟨rfl, ?_⟩
    go_grown

theorem exValidLimits (q : Lm) : ∃ (b : Bool),
    Hid (∀ (w : World), (fun _ => True) w → Calls Try.prog 12 #[(.agg #[.int .i64 q.m, .int .i64 q.c])] w fun e w' => e = .returned (.bool b) ∧ Below w.heap.size w w') ∧
    Hid (∀ (w : World), (fun _ => True) w → Calls Try.prog 14 #[(.agg #[.int .i64 q.m, .int .i64 q.c])] w fun e w' => e = .returned (.bool b) ∧ Below w.heap.size w w') := by
  obtain ⟨b, hb⟩ := bool_of (OkL q)
  exact ⟨b, fun w _ => specLimits_any q b hb w, fun w _ => (implLimits_any q b hb w).mono fun e w' ⟨h, hw⟩ => ⟨h, by rw [hw]; go_grown⟩⟩

theorem exValidCourse (l : Lm) (c : Co) : ∃ (b : Bool),
    Hid (∀ (w : World), (fun _ => True) w → Calls Try.prog 15 #[(.agg #[.int .i64 l.m, .int .i64 l.c]), (.agg #[.int .i64 c.o, .int .i64 c.h, .int .i64 c.t])] w fun e w' => e = .returned (.bool b) ∧ Below w.heap.size w w') ∧
    Hid (∀ (w : World), (fun _ => True) w → Calls Try.prog 17 #[(.agg #[.int .i64 l.m, .int .i64 l.c]), (.agg #[.int .i64 c.o, .int .i64 c.h, .int .i64 c.t])] w fun e w' => e = .returned (.bool b) ∧ Below w.heap.size w w') := by
  obtain ⟨b, hb⟩ := bool_of (OkC l c)
  exact ⟨b, fun w _ => specCourse_any l c b hb w, fun w _ => implCourse_any l c b hb w⟩

theorem exNextCourse (l : Lm) (c : Co) (t : Int) : ∃ (o : Co) (b : Bool),
    Hid (∀ (w : World), (fun _ => True) w → Calls Try.prog 18 #[(.agg #[.int .i64 l.m, .int .i64 l.c]), (.agg #[.int .i64 c.o, .int .i64 c.h, .int .i64 c.t]), .int .i64 t] w fun e w' => e = .returned (.tuple #[(.agg #[.int .i64 o.o, .int .i64 o.h, .int .i64 o.t]), .bool b]) ∧ Below w.heap.size w w') ∧
    Hid (∀ (w : World), (fun _ => True) w → Calls Try.prog 19 #[(.agg #[.int .i64 l.m, .int .i64 l.c]), (.agg #[.int .i64 c.o, .int .i64 c.h, .int .i64 c.t]), .int .i64 t] w fun e w' => e = .returned (.tuple #[(.agg #[.int .i64 o.o, .int .i64 o.h, .int .i64 o.t]), .bool b]) ∧ Below w.heap.size w w') := by
  obtain ⟨o, v, h⟩ := nextRes_of (OkC l c ∧ Goes l c t) c t
  exact ⟨o, v, fun w _ => specNextC_any l c t o v h w, fun w _ => implNextC_any l c t o v h w⟩
end Go.Proofs.Ytkdecpnbbpmooaa
