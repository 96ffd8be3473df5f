/- AxisOf on both sides. -/
import Derived.Test.YthhnnkgfnhggbaaAxisS
import Derived.Test.YthhnnkgfnhggbaaAxisI
namespace Go.Proofs.Ythhnnkgfnhggbaa
open Go.ChangeShapes Go.WideShapes Go.ChangeAt Go.RowKit
set_option linter.unusedVariables false
set_option linter.unusedSimpArgs false

theorem specAxisOf_any (v : Value) (xs : List Ps) (w : World) (hO : ∃ B, OwnS 25 4 encPs w B v xs) (lz : xs.length ≤ 1048576) (b : Bool) (hb : b = true ↔ AxV xs) (r : Ps) (hr : r = if b = true then headP xs else zP0) (ys : List Cv) (hy : ys = if b = true then mergeL (difs xs) else []) :
    Calls Try.prog 28 #[v] w fun e w' => ∃ v', e = .returned (.tuple #[(.agg #[.int .i64 r.s, .int .i64 r.h, .int .i64 r.y, .int .i64 r.p, v']), .bool b]) ∧ OwnS 46 3 encCv w' w.heap.size v' ys ∧ Below w.heap.size w w' := by
  by_cases hl : 2 ≤ xs.length ∧ xs.length ≤ 61
  · exact specAxisOf_long v xs w hO hl b (hb.trans ⟨fun h => h.2, fun h => ⟨hl, h⟩⟩) r hr ys hy
  · obtain rfl : b = false := bool_false hb (fun h => hl h.1)
    obtain rfl : r = zP0 := hr
    obtain rfl : ys = [] := hy
    exact specAxisOf_short v xs w hO lz hl
theorem exAxisOf (xs : List Ps) (lz : xs.length ≤ 1048576) : ∃ (r : Ps) (ys : List Cv) (b : Bool), ys.length ≤ 1048576 ∧
    (Hid (∀ (w : World) (v : Value), (fun _ => True) w → (∃ B, OwnS 25 4 encPs w B v xs) → Calls Try.prog 28 #[v] w fun e w' => ∃ v', e = .returned (.tuple #[(.agg #[.int .i64 r.s, .int .i64 r.h, .int .i64 r.y, .int .i64 r.p, v']), .bool b]) ∧ OwnS 46 3 encCv w' w.heap.size v' ys ∧ Below w.heap.size w w')) ∧
    (Hid (∀ (w : World) (v : Value), (fun _ => True) w → (∃ B, OwnS 25 4 encPs w B v xs) → Calls Try.prog 16 #[v] w fun e w' => ∃ v', e = .returned (.tuple #[(.agg #[.int .i64 r.s, .int .i64 r.h, .int .i64 r.y, .int .i64 r.p, v']), .bool b]) ∧ OwnS 46 3 encCv w' w.heap.size v' ys ∧ Below w.heap.size w w')) := by
  obtain ⟨b, hb⟩ := ok_bool (AxV xs)
  refine ⟨_, _, b, ?_, fun w v _ h => specAxisOf_any v xs w h lz b hb _ rfl _ rfl, fun w v _ h => implAxisOf_any v xs w h lz b hb _ rfl _ rfl⟩
  split
  · rename_i h
    have := (hb.mp h).2.2
    omega
  · simp
end Go.Proofs.Ythhnnkgfnhggbaa
