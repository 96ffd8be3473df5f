/- Walks of NextPose. -/
import Derived.Test.YtmdddjhlfpmgdacPose
namespace Go.Proofs.Ytmdddjhlfpmgdac
open Go.ChangeShapes Go.WideShapes Go.ChangeAt Go.RowKit
set_option linter.unusedVariables false
set_option linter.unusedSimpArgs false

def CanP (q : Ps) (b r : Int) : Prop := OkP q ∧ OkTurn b ∧ OkTurn r ∧ OkP (stepP q b r)
def noP : Ps := ⟨0, 0, 0, 0⟩

set_option maxHeartbeats 1000000 in
theorem l02Turn_any (b r : Int) (v : Bool) (hv : v = true ↔ OkTurn b ∧ OkTurn r) (w : World) :
    Calls Try.prog 84 #[.int .i64 b, .int .i64 r] w fun e w' => e = .returned (.bool v) ∧ w = w' := by
  by_cases h1 : OkTurn b
  · have c1 := Lib.hid (fun w => in_any b (-12) 12 true ⟨fun _ => h1, fun _ => rfl⟩ w)
    have c2 := Lib.hid (fun w => in_any r (-12) 12 v ⟨fun e => (hv.mp e).2, fun e => hv.mpr ⟨h1, e⟩⟩ w)
    clear hv h1
    go_enter Try.func84, Try.ntmps84
    go_wp2_with fail
    refine (c1.out _).mono ?_
    rintro e w' ⟨rfl, rfl⟩
    go_wp2_with fail
    refine (c2.out _).mono ?_
    rintro e w' ⟨rfl, rfl⟩
    go_wp2
    go_ret
    exact ⟨rfl, rfl⟩
  · obtain rfl := b_false hv fun h => h1 h.1
    have c1 := Lib.hid (fun w => in_any b (-12) 12 false ⟨fun h => (by cases h), fun h => absurd h h1⟩ w)
    clear hv h1
    go_enter Try.func84, Try.ntmps84
    go_wp2_with fail
    refine (c1.out _).mono ?_
    rintro e w' ⟨rfl, rfl⟩
    go_wp2
    go_ret
    exact ⟨rfl, rfl⟩

end Go.Proofs.Ytmdddjhlfpmgdac
