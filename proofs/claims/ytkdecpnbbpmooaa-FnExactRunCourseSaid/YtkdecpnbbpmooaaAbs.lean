/- A number without its sign. -/
import Derived.Test.YtkdecpnbbpmooaaBase
import Derived.IntWalk
namespace Go.Proofs.Ytkdecpnbbpmooaa
open Go.ChangeShapes Go.WideShapes Go.ChangeAt Go.RowKit
set_option linter.unusedVariables false
set_option linter.unusedSimpArgs false
def absI (n : Int) : Int := if 0 ≤ n then n else -n
theorem absolute_any (n r : Int) (h : r = absI n) (hn : -1000000000000 ≤ n ∧ n ≤ 1000000000000) (w : World) :
    Calls Try.prog 52 #[.int .i64 n] w fun e w' => e = .returned (.int .i64 r) ∧ w' = w := by
  have q1 : IntKind.i64.wrap (-n) = -n := IntWalk.i64_in _ (by omega)
  by_cases hlt : n < -n
  · obtain rfl : r = -n := by rw [h]; unfold absI; split <;> omega
    clear h hn
    go_enter Try.func52, Try.ntmps52
    go_wp2
    go_ret
    exact ⟨rfl, rfl⟩
  · obtain rfl : r = n := by rw [h]; unfold absI; split <;> omega
    clear h hn
    go_enter Try.func52, Try.ntmps52
    go_wp2
    go_ret
    exact ⟨rfl, rfl⟩
end Go.Proofs.Ytkdecpnbbpmooaa
