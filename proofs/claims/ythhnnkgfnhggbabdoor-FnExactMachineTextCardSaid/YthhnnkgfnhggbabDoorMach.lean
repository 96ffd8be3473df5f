/- Machines: their gaps and strokes, and which of them are valid. -/
import Derived.Test.YthhnnkgfnhggbabDoorNext
import Derived.Test.YthhnnkgfnhggbabDoorSlI
namespace Go.Proofs.YthhnnkgfnhggbabDoor
open Go.ChangeShapes Go.WideShapes Go.ChangeAt Go.RowKit
set_option linter.unusedVariables false
set_option linter.unusedSimpArgs false

/-- A machine: the pose of the shield, the pose of the tube, the advance. -/
structure Mc where
  u : Ps
  t : Ps
  a : Int

theorem Mc.eq {a b : Mc} (h1 : a.u = b.u) (h2 : a.t = b.t) (h3 : a.a = b.a) : a = b := by
  cases a; cases b; simp_all

def WfM (m : Mc) : Prop := WfP m.u ∧ WfP m.t ∧ (Lit.int .i64 m.a).wf = true
def noM : Mc := ⟨⟨0, 0, 0, 0⟩, ⟨0, 0, 0, 0⟩, 0⟩
def sideM (m : Mc) : Int := m.t.s - m.u.s + 2 * m.u.y
def highM (m : Mc) : Int := m.t.h - m.u.h + 2 * m.u.p
def swingM (m : Mc) : Int := 2 * (m.u.y - m.t.y)
def tiltM (m : Mc) : Int := 2 * (m.u.p - m.t.p)
def gapsM (m : Mc) : List Int := [40 - sideM m, 40 - highM m, 40 + sideM m, 40 + highM m]
def strokesM (m : Mc) : List Int := [m.a - swingM m, m.a - tiltM m, m.a + swingM m, m.a + tiltM m]
/-- Poses and advance are small: nothing overflows. -/
def NearM (m : Mc) : Prop := OkP m.u ∧ OkP m.t ∧ 0 ≤ m.a ∧ m.a ≤ 2400
def OkM (m : Mc) : Prop := NearM m ∧ (∀ x ∈ gapsM m, 0 ≤ x) ∧ ∀ x ∈ strokesM m, 0 ≤ x ∧ x ≤ 2400
def pushM (m : Mc) (b r : Int) : Mc := ⟨stepP m.u b r, m.t, m.a + 1500⟩
def buildM (m : Mc) (b r : Int) : Mc := ⟨m.u, stepP m.t b r, m.a - 1500⟩

theorem noM_near : NearM noM := by
  unfold NearM OkP OkOff OkHead noM; simp

theorem NearM.room {m : Mc} (h : NearM m) : (-201600 ≤ sideM m ∧ sideM m ≤ 201600) ∧ (-201600 ≤ highM m ∧ highM m ≤ 201600) ∧ (-1600 ≤ swingM m ∧ swingM m ≤ 1600) ∧ (-1600 ≤ tiltM m ∧ tiltM m ≤ 1600) := by
  obtain ⟨⟨⟨a1, a2⟩, ⟨a3, a4⟩, ⟨a5, a6⟩, ⟨a7, a8⟩⟩, ⟨⟨b1, b2⟩, ⟨b3, b4⟩, ⟨b5, b6⟩, ⟨b7, b8⟩⟩, -, -⟩ := h
  unfold sideM highM swingM tiltM
  omega

/-- What the walk wants of a box of a machine. -/
theorem boxMc_at {w : World} {g : Nat} {t : TypeId} {q : Mc} (h : w.heap[g]? = some (.cells #[.int .i64 q.u.s, .int .i64 q.u.h, .int .i64 q.u.y, .int .i64 q.u.p, .int .i64 q.t.s, .int .i64 q.t.h, .int .i64 q.t.y, .int .i64 q.t.p, .int .i64 q.a] t (0, 0))) :
    (w.cell? ⟨g, 0, none⟩ = some (.int .i64 q.u.s) ∧ w.cell? ⟨g, 1, none⟩ = some (.int .i64 q.u.h) ∧ w.cell? ⟨g, 2, none⟩ = some (.int .i64 q.u.y) ∧ w.cell? ⟨g, 3, none⟩ = some (.int .i64 q.u.p) ∧
     w.cell? ⟨g, 4, none⟩ = some (.int .i64 q.t.s) ∧ w.cell? ⟨g, 5, none⟩ = some (.int .i64 q.t.h) ∧ w.cell? ⟨g, 6, none⟩ = some (.int .i64 q.t.y) ∧ w.cell? ⟨g, 7, none⟩ = some (.int .i64 q.t.p) ∧
     w.cell? ⟨g, 8, none⟩ = some (.int .i64 q.a)) ∧ (w.frozen? ⟨g, 0, none⟩ = false ∧ w.frozen? ⟨g, 1, none⟩ = false ∧ w.frozen? ⟨g, 2, none⟩ = false ∧ w.frozen? ⟨g, 3, none⟩ = false ∧ w.frozen? ⟨g, 4, none⟩ = false ∧ w.frozen? ⟨g, 5, none⟩ = false ∧ w.frozen? ⟨g, 6, none⟩ = false ∧ w.frozen? ⟨g, 7, none⟩ = false ∧ w.frozen? ⟨g, 8, none⟩ = false) ∧ g < w.heap.size :=
  ⟨⟨cell_of_row w g 0 _ t _ h, cell_of_row w g 1 _ t _ h, cell_of_row w g 2 _ t _ h, cell_of_row w g 3 _ t _ h, cell_of_row w g 4 _ t _ h, cell_of_row w g 5 _ t _ h, cell_of_row w g 6 _ t _ h, cell_of_row w g 7 _ t _ h, cell_of_row w g 8 _ t _ h⟩, ⟨frozen_of_row w g 0 _ t h, frozen_of_row w g 1 _ t h, frozen_of_row w g 2 _ t h, frozen_of_row w g 3 _ t h, frozen_of_row w g 4 _ t h, frozen_of_row w g 5 _ t h, frozen_of_row w g 6 _ t h, frozen_of_row w g 7 _ t h, frozen_of_row w g 8 _ t h⟩, (Array.getElem?_eq_some_iff.1 h).1⟩

set_option maxHeartbeats 2000000 in
theorem toMachine_blw (q : Mc) (w : World) : Calls Tryd.prog 39 #[(.agg #[.int .i64 q.u.s, .int .i64 q.u.h, .int .i64 q.u.y, .int .i64 q.u.p, .int .i64 q.t.s, .int .i64 q.t.h, .int .i64 q.t.y, .int .i64 q.t.p, .int .i64 q.a])] w fun e w' => e = .returned (.agg #[.int .i64 q.u.s, .int .i64 q.u.h, .int .i64 q.u.y, .int .i64 q.u.p, .int .i64 q.t.s, .int .i64 q.t.h, .int .i64 q.t.y, .int .i64 q.t.p, .int .i64 q.a]) ∧ Below w.heap.size w w' := by
  go_enter Tryd.func39, Tryd.ntmps39
  go_wp2
  go_returns
  exact ⟨rfl, by go_grown⟩
end Go.Proofs.YthhnnkgfnhggbabDoor
