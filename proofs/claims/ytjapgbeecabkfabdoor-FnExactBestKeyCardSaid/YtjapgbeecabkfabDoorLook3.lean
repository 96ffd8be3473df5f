/- OutlookOf on both sides. -/
import Derived.Test.YtjapgbeecabkfabDoorLook2
namespace Go.Proofs.YtjapgbeecabkfabDoor
open Go.ChangeShapes Go.WideShapes Go.ChangeAt Go.RowKit
set_option linter.unusedVariables false
set_option linter.unusedSimpArgs false

/-- What OutlookOf answers. -/
def OutIs (m : Mc) (key x : Int) (v : Bool) : Prop := (v = true ↔ OkM m ∧ lookV m key) ∧ (v = true → LeastOf (gapsM (lookM m key)) x) ∧ (v = false → x = 0)
theorem out_ex (m : Mc) (key : Int) : ∃ x v, OutIs m key x v := by
  by_cases h : OkM m ∧ lookV m key
  · obtain ⟨x, hx⟩ := least_ex (40 - sideM (lookM m key)) (40 - highM (lookM m key)) (40 + sideM (lookM m key)) (40 + highM (lookM m key))
    exact ⟨x, true, by simp [h], fun _ => hx, fun e => by cases e⟩
  · exact ⟨0, false, by simp only [Bool.false_eq_true, false_iff]; exact h, (fun e => by cases e), fun _ => rfl⟩

theorem exOutlookOf (q : Mc) (key : Int) : ∃ (x : Int) (v : Bool),
    Hid (∀ (w : World), TKeys w → Calls Tryd.prog 22 #[(.agg #[.int .i64 q.u.s, .int .i64 q.u.h, .int .i64 q.u.y, .int .i64 q.u.p, .int .i64 q.t.s, .int .i64 q.t.h, .int .i64 q.t.y, .int .i64 q.t.p, .int .i64 q.a]), .int .i64 key] w fun e w' => e = .returned (.tuple #[.int .i64 x, .bool v]) ∧ Below w.heap.size w w') ∧
    Hid (∀ (w : World), TKeys w → Calls Tryd.prog 23 #[(.agg #[.int .i64 q.u.s, .int .i64 q.u.h, .int .i64 q.u.y, .int .i64 q.u.p, .int .i64 q.t.s, .int .i64 q.t.h, .int .i64 q.t.y, .int .i64 q.t.p, .int .i64 q.a]), .int .i64 key] w fun e w' => e = .returned (.tuple #[.int .i64 x, .bool v]) ∧ Below w.heap.size w w') := by
  obtain ⟨x, v, h⟩ := out_ex q key
  exact ⟨x, v, fun w _ => specLook_any q key x v h w, fun w T => implLook_any q key x v h w T⟩
end Go.Proofs.YtjapgbeecabkfabDoor
