/- The program's AxisOf. -/
import Derived.Test.YthhnnkgfnhggbaaAxisO
namespace Go.Proofs.Ythhnnkgfnhggbaa
open Go.ChangeShapes Go.WideShapes Go.ChangeAt Go.RowKit
set_option linter.unusedVariables false
set_option linter.unusedSimpArgs false

theorem implAxisOf_any (v : Value) (xs : List Ps) (w : World) (hO : ∃ B, OwnS 25 4 encPs w B v xs) (lz : xs.length ≤ 1048576) (b : Bool) (hb : b = true ↔ AxV xs) (r : Ps) (hr : r = if b = true then headP xs else zP0) (ys : List Cv) (hy : ys = if b = true then mergeL (difs xs) else []) :
    Calls Try.prog 16 #[v] w fun e w' => ∃ v', e = .returned (.tuple #[(.agg #[.int .i64 r.s, .int .i64 r.h, .int .i64 r.y, .int .i64 r.p, v']), .bool b]) ∧ OwnS 46 3 encCv w' w.heap.size v' ys ∧ Below w.heap.size w w' := by
  by_cases hl : 2 ≤ xs.length ∧ xs.length ≤ 61
  · exact implAxisOf_long v xs w hO hl b (hb.trans ⟨fun h => h.2, fun h => ⟨hl, h⟩⟩) r hr ys hy
  · obtain rfl : b = false := bool_false hb (fun h => hl h.1)
    obtain rfl : r = zP0 := hr
    obtain rfl : ys = [] := hy
    exact implAxisOf_short v xs w hO lz hl

end Go.Proofs.Ythhnnkgfnhggbaa
