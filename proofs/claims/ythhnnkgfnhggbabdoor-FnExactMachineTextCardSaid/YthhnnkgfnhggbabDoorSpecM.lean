/- The specification's machines: gaps, strokes, what is valid. -/
import Derived.Test.YthhnnkgfnhggbabDoorMach
import Derived.Deep.RegionHeld3
import Derived.StillTailTactics
namespace Go.Proofs.YthhnnkgfnhggbabDoor
open Go.ChangeShapes Go.WideShapes Go.ChangeAt Go.RowKit
set_option linter.unusedVariables false
set_option linter.unusedSimpArgs false

set_option maxRecDepth 100000 in
set_option maxHeartbeats 2000000 in
theorem l04Gaps_any (g : Nat) (t : TypeId) (m : Mc) (h : NearM m) (w : World) (hg : w.heap[g]? = some (.cells #[.int .i64 m.u.s, .int .i64 m.u.h, .int .i64 m.u.y, .int .i64 m.u.p, .int .i64 m.t.s, .int .i64 m.t.h, .int .i64 m.t.y, .int .i64 m.t.p, .int .i64 m.a] t (0, 0))) :
    Calls Tryd.prog 129 #[.pointer (some ⟨g, 0, none⟩)] w fun e w' => ∃ v, e = .returned v ∧ OwnI w' w.heap.size v (gapsM m) ∧ Below w.heap.size w w' := by
  obtain ⟨⟨a0, a1, a2, a3, a4, a5, a6, a7, a8⟩, -, lg⟩ := boxMc_at hg
  obtain ⟨r1, r2, r3, r4⟩ := h.room
  obtain ⟨⟨⟨_, _⟩, ⟨_, _⟩, ⟨_, _⟩, ⟨_, _⟩⟩, ⟨⟨_, _⟩, ⟨_, _⟩, ⟨_, _⟩, ⟨_, _⟩⟩, _, _⟩ := h
  have q1 : IntKind.i64.wrap (m.t.s - m.u.s) = m.t.s - m.u.s := IntWalk.i64_in _ (by omega)
  have q2 : IntKind.i64.wrap (2 * m.u.y) = 2 * m.u.y := IntWalk.i64_in _ (by omega)
  have q3 : IntKind.i64.wrap (m.t.s - m.u.s + 2 * m.u.y) = sideM m := IntWalk.i64_in (sideM m) (by omega)
  have q4 : IntKind.i64.wrap (m.t.h - m.u.h) = m.t.h - m.u.h := IntWalk.i64_in _ (by omega)
  have q5 : IntKind.i64.wrap (2 * m.u.p) = 2 * m.u.p := IntWalk.i64_in _ (by omega)
  have q6 : IntKind.i64.wrap (m.t.h - m.u.h + 2 * m.u.p) = highM m := IntWalk.i64_in (highM m) (by omega)
  have q7 : IntKind.i64.wrap (40 - sideM m) = 40 - sideM m := IntWalk.i64_in _ (by omega)
  have q8 : IntKind.i64.wrap (40 - highM m) = 40 - highM m := IntWalk.i64_in _ (by omega)
  have q9 : IntKind.i64.wrap (40 + sideM m) = 40 + sideM m := IntWalk.i64_in _ (by omega)
  have q10 : IntKind.i64.wrap (40 + highM m) = 40 + highM m := IntWalk.i64_in _ (by omega)
  clear hg r1 r2 r3 r4
  go_enter Tryd.func129, Tryd.ntmps129
  go_wp2
  go_quiet (fail)
  go_wp2
  go_quiet (fail)
  go_wp2
  go_ret
  exact ⟨_, rfl, ownI_lit w (gapsM m) (by simp [gapsM]), by go_grown; exact ⟨rfl, rfl, rfl, Nat.le_refl _, fun _ _ => rfl⟩⟩

set_option maxRecDepth 100000 in
set_option maxHeartbeats 2000000 in
theorem l04Strokes_any (g : Nat) (t : TypeId) (m : Mc) (h : NearM m) (w : World) (hg : w.heap[g]? = some (.cells #[.int .i64 m.u.s, .int .i64 m.u.h, .int .i64 m.u.y, .int .i64 m.u.p, .int .i64 m.t.s, .int .i64 m.t.h, .int .i64 m.t.y, .int .i64 m.t.p, .int .i64 m.a] t (0, 0))) :
    Calls Tryd.prog 130 #[.pointer (some ⟨g, 0, none⟩)] w fun e w' => ∃ v, e = .returned v ∧ OwnI w' w.heap.size v (strokesM m) ∧ Below w.heap.size w w' := by
  obtain ⟨⟨a0, a1, a2, a3, a4, a5, a6, a7, a8⟩, -, lg⟩ := boxMc_at hg
  obtain ⟨r1, r2, r3, r4⟩ := h.room
  obtain ⟨⟨⟨_, _⟩, ⟨_, _⟩, ⟨_, _⟩, ⟨_, _⟩⟩, ⟨⟨_, _⟩, ⟨_, _⟩, ⟨_, _⟩, ⟨_, _⟩⟩, _, _⟩ := h
  have q1 : IntKind.i64.wrap (m.u.y - m.t.y) = m.u.y - m.t.y := IntWalk.i64_in _ (by omega)
  have q2 : IntKind.i64.wrap (4 * (m.u.y - m.t.y)) = 4 * (m.u.y - m.t.y) := IntWalk.i64_in _ (by omega)
  have q3 : IntKind.i64.wrap ((4 * (m.u.y - m.t.y)).tdiv 2) = swingM m := by
    have e : (4 * (m.u.y - m.t.y)).tdiv 2 = swingM m := by unfold swingM; rw [show 4 * (m.u.y - m.t.y) = 2 * (m.u.y - m.t.y) * 2 by omega]; exact Int.mul_tdiv_cancel _ (by decide)
    rw [e]; exact IntWalk.i64_in _ (by omega)
  have q4 : IntKind.i64.wrap (m.u.p - m.t.p) = m.u.p - m.t.p := IntWalk.i64_in _ (by omega)
  have q5 : IntKind.i64.wrap (4 * (m.u.p - m.t.p)) = 4 * (m.u.p - m.t.p) := IntWalk.i64_in _ (by omega)
  have q6 : IntKind.i64.wrap ((4 * (m.u.p - m.t.p)).tdiv 2) = tiltM m := by
    have e : (4 * (m.u.p - m.t.p)).tdiv 2 = tiltM m := by unfold tiltM; rw [show 4 * (m.u.p - m.t.p) = 2 * (m.u.p - m.t.p) * 2 by omega]; exact Int.mul_tdiv_cancel _ (by decide)
    rw [e]; exact IntWalk.i64_in _ (by omega)
  have q7 : IntKind.i64.wrap (m.a - swingM m) = m.a - swingM m := IntWalk.i64_in _ (by omega)
  have q8 : IntKind.i64.wrap (m.a - tiltM m) = m.a - tiltM m := IntWalk.i64_in _ (by omega)
  have q9 : IntKind.i64.wrap (m.a + swingM m) = m.a + swingM m := IntWalk.i64_in _ (by omega)
  have q10 : IntKind.i64.wrap (m.a + tiltM m) = m.a + tiltM m := IntWalk.i64_in _ (by omega)
  clear hg r1 r2 r3 r4
  go_enter Tryd.func130, Tryd.ntmps130
  go_wp2
  go_quiet (fail)
  go_wp2
  go_quiet (fail)
  go_wp2
  generalize hz : World.drewN (World.drewN w _) _ = w3
  have B3 : Hid (Below w.heap.size w w3) := by rw [← hz]; exact ⟨rfl, rfl, rfl, Nat.le_refl _, fun _ _ => rfl⟩
  have sz : w3.heap.size = w.heap.size := by rw [← hz]; rfl
  have a8' : w3.cell? ⟨g, 8, none⟩ = some (.int .i64 m.a) := by rw [← hz]; exact a8
  clear hz a0 a1 a2 a3 a4 a5 a6 a7 a8
  go_still_tail 24, (by kernel_rfl)
  change wpList _ _ _ _ _ w3.drew
  have B4 : Hid (Below w.heap.size w w3.drew) := B3.out.drew
  have sz4 : w3.drew.heap.size = w.heap.size := sz
  clear a8' B3 sz
  generalize w3.drew = w4 at *
  go_wp2
  go_ret
  have o := ownI_lit w4 (strokesM m) (by simp [strokesM])
  rw [sz4] at o
  refine ⟨_, rfl, ?_, B4.out.alloc (by omega) _⟩
  simp only [sz4]
  exact o
end Go.Proofs.YthhnnkgfnhggbabDoor
