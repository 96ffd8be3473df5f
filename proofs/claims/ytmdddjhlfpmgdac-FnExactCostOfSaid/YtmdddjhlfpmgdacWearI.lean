/- The wear of a cutter and its failures: the program's side. -/
import Derived.Test.YtmdddjhlfpmgdacWearM
import Derived.Test.YtmdddjhlfpmgdacHeadI
import Derived.Deep.RegionHeld3
namespace Go.Proofs.Ytmdddjhlfpmgdac
open Go.ChangeShapes Go.WideShapes Go.ChangeAt Go.RowKit
set_option linter.unusedVariables false
set_option linter.unusedSimpArgs false

set_option maxHeartbeats 1000000 in
theorem hasCutter_any (g : Hd) (n0 n1 n2 : Nat) (l0 : n0 ≤ 1099511627776) (x : Int) (b : Bool) (hb : b = true ↔ 0 ≤ x ∧ x ≤ (n0 : Int) - 1) (w : World) : Calls Try.prog 110 #[(.agg #[.slice g.ca n0 g.cc, .slice g.ha n1 g.hc, .slice g.sa n2 g.sc, .int .i64 g.p, .int .i64 g.q]), .int .i64 x] w fun e w' => e = .returned (.bool b) ∧ Below w.heap.size w w' := by
  have C := Lib.hid (fun w => within_any x 0 ((n0 : Int) - 1) b hb w)
  have q1 : IntKind.i64.wrap ((n0 : Int) - 1) = (n0 : Int) - 1 := IntWalk.i64_in _ (by omega)
  clear hb
  go_enter Try.func110, Try.ntmps110
  go_wp2_with fail
  refine (C.out _).mono ?_
  rintro e w' ⟨rfl, rfl⟩
  go_wp2
  go_ret
  exact ⟨rfl, by go_grown⟩

end Go.Proofs.Ytmdddjhlfpmgdac
