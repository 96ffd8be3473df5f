/- BlockersOf on both sides. -/
import Derived.Test.YthfmmlpbflfpaacBlkS
import Derived.Test.YthfmmlpbflfpaacDepO
namespace Go.Proofs.Ythfmmlpbflfpaac
open Go.ChangeShapes Go.WideShapes Go.ChangeAt Go.RowKit
set_option linter.unusedVariables false
set_option linter.unusedSimpArgs false

theorem flat4 (xs : List (List Int)) (h : xs.length ≤ 4) (f : List Int → List Int) (f0 : f [] = []) : ((List.range 4).flatMap fun i => f (xs.getD i [])) = xs.flatMap f := by
  match xs, h with
  | [], _ => simp [List.range_succ, f0]
  | [_], _ => simp [List.range_succ, f0]
  | [_, _], _ => simp [List.range_succ, f0]
  | [_, _, _], _ => simp [List.range_succ, f0]
  | [_, _, _, _], _ => simp [List.range_succ, f0]
theorem blkF_bS {g : Yd} (ok : OkYd g) : blkF (tt g) 4 = bS g g.x.length := by
  have h := flat4 (g.x.map Sl.t) (by rw [List.length_map]; exact ok.n0.2) (fun t => blkTo t t.length) (by rfl)
  have e : bS g g.x.length = (g.x.map Sl.t).flatMap fun t => blkTo t t.length := by
    have := blk_all (g.x.map Sl.t)
    rw [List.length_map] at this
    exact this
  rw [e, ← h]
  rfl
theorem tt_ok {g : Yd} (ok : OkYd g) (i : Nat) : PileOk (pil (tt g i)) (tt g i) := by
  have l4 : (tt g i).length ≤ 4 := by
    cases h : g.x[i]? with
    | none => rw [tt_past (List.getElem?_eq_none_iff.1 h)]; simp
    | some x => rw [tt_get h]; have := ok.t0 x (List.mem_of_getElem? h); have := ok.h0; omega
  refine ⟨in4_pil _ l4, rfl, l4, fun z hz => ?_⟩
  cases h : g.x[i]? with
  | none => rw [tt_past (List.getElem?_eq_none_iff.1 h)] at hz; simp at hz
  | some x =>
    rw [tt_get h] at hz
    exact (ok.l1.1 z (List.mem_flatMap.2 ⟨x, List.mem_of_getElem? h, hz⟩)).2


end Go.Proofs.Ythfmmlpbflfpaac
