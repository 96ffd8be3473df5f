/- ReverseAxis on both sides. -/
import Derived.Test.YthhnnkgfnhggbaaRevS
namespace Go.Proofs.Ythhnnkgfnhggbaa
open Go.ChangeShapes Go.WideShapes Go.ChangeAt Go.RowKit
set_option linter.unusedVariables false
set_option linter.unusedSimpArgs false

theorem implRev_any (q : Ps) (v : Value) (cs : List Cv) (w : World) (hc : RdS 3 encCv w v cs) (lz : cs.length ≤ 1048576) (b : Bool) (hb : b = true ↔ OkA q cs ∧ (mergeL (revT (turnsC cs))).length ≤ 8) (r : Ps) (hr : r = if b = true then headP (revL q cs) else zP0) (ys : List Cv) (hy : ys = if b = true then mergeL (revT (turnsC cs)) else []) :
    Calls Try.prog 26 #[(.agg #[.int .i64 q.s, .int .i64 q.h, .int .i64 q.y, .int .i64 q.p, v])] w fun e w' => ∃ v', e = .returned (.tuple #[(.agg #[.int .i64 r.s, .int .i64 r.h, .int .i64 r.y, .int .i64 r.p, v']), .bool b]) ∧ OwnS 46 3 encCv w' w.heap.size v' ys ∧ Below w.heap.size w w' := by
  by_cases h : OkA q cs
  · exact implRev_yes q v cs w hc lz h b (hb.trans (and_iff_right h)) r hr ys hy
  · obtain rfl : b = false := bool_false hb (fun e => h e.1)
    obtain rfl : r = zP0 := hr
    obtain rfl : ys = [] := hy
    exact implRev_no q v cs w hc lz h
theorem exReverseAxis (q : Ps) (cs : List Cv) (lz : cs.length ≤ 1048576) : ∃ (r : Ps) (ys : List Cv) (b : Bool), ys.length ≤ 1048576 ∧
    Hid (∀ v w, RdS 3 encCv w v cs → Calls Try.prog 39 #[(.agg #[.int .i64 q.s, .int .i64 q.h, .int .i64 q.y, .int .i64 q.p, v])] w fun e w' => ∃ v', e = .returned (.tuple #[(.agg #[.int .i64 r.s, .int .i64 r.h, .int .i64 r.y, .int .i64 r.p, v']), .bool b]) ∧ OwnS 46 3 encCv w' w.heap.size v' ys ∧ Below w.heap.size w w') ∧
    Hid (∀ v w, RdS 3 encCv w v cs → Calls Try.prog 26 #[(.agg #[.int .i64 q.s, .int .i64 q.h, .int .i64 q.y, .int .i64 q.p, v])] w fun e w' => ∃ v', e = .returned (.tuple #[(.agg #[.int .i64 r.s, .int .i64 r.h, .int .i64 r.y, .int .i64 r.p, v']), .bool b]) ∧ OwnS 46 3 encCv w' w.heap.size v' ys ∧ Below w.heap.size w w') := by
  obtain ⟨b, hb⟩ := ok_bool (OkA q cs ∧ (mergeL (revT (turnsC cs))).length ≤ 8)
  refine ⟨_, _, b, ?_, fun v w h => specRev_any q v cs w h lz b hb _ rfl _ rfl, fun v w h => implRev_any q v cs w h lz b hb _ rfl _ rfl⟩
  split
  · rename_i h
    have := (hb.mp h).2
    omega
  · simp
end Go.Proofs.Ythhnnkgfnhggbaa
