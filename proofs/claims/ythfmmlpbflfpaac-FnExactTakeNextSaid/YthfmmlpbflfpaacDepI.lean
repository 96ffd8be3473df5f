/- The blockers of a depot: the program's side. -/
import Derived.Test.YthfmmlpbflfpaacBlkI
import Derived.Test.YthfmmlpbflfpaacAppN
import Derived.Test.YthfmmlpbflfpaacStorePl
import Derived.Test.YthfmmlpbflfpaacYardX
namespace Go.Proofs.Ythfmmlpbflfpaac
open Go.ChangeShapes Go.WideShapes Go.ChangeAt Go.RowKit
set_option linter.unusedVariables false
set_option linter.unusedSimpArgs false

/-- A stack's numbers as they lie in a pile. -/
structure PileOk (q : Pl) (t : List Int) : Prop where
  i4 : In4 t q.a q.b q.c q.d
  n : q.n = (t.length : Int)
  l4 : t.length ≤ 4
  hb : ∀ x ∈ t, x ≤ 99
def blkF (t : Nat → List Int) (k : Nat) : List Int := (List.range k).flatMap fun i => blkTo (t i) (t i).length
theorem blkF_succ (t : Nat → List Int) (k : Nat) : blkF t (k + 1) = blkF t k ++ blkTo (t k) (t k).length := by unfold blkF; rw [List.range_succ, List.flatMap_append]; simp
theorem blkF_len (t : Nat → List Int) (h : ∀ i, i < 4 → (t i).length ≤ 4) (k : Nat) (hk : k ≤ 4) : (blkF t k).length ≤ 4 * k := by
  induction k with
  | zero => simp [blkF]
  | succ k ih => rw [blkF_succ, List.length_append]; have := blkTo_len (t k) (t k).length; have := h k (by omega); have := ih (by omega); omega
theorem infoA_depot : (Try.prog.info? 53).map (fun i => i.size) = some 20 := by kernel_rfl
theorem undA_depot : Try.prog.underlying 53 = some (.array 4 52) := by kernel_rfl

theorem run_append_pass {w : World} {B m c : Nat} {ad : Option Addr} {ys : List Int} (hm : m = ys.length) (o : OwnI w B (.slice ad m c) ys) : m ≤ c := ownsRow_cap (own_len hm o)

theorem part_pile (cs : Array Value) (off : Nat) (w : World) : (part 52 cs off).run Try.prog w = .ok (.agg (cs.extract off (off + 5))) w := by
  obtain ⟨i0, hi, hs⟩ : ∃ i0, Try.prog.info? 52 = some i0 ∧ i0.size = 5 := by
    have := infos_Pl
    cases h : Try.prog.info? 52 with
    | none => rw [h] at this; simp at this
    | some i => rw [h] at this; simp at this; exact ⟨i, rfl, this⟩
  have ha : (isAgg 52).run Try.prog w = .ok true w := by kernel_rfl
  simp [part, ha, sizeOf, typeInfo, hi, hs, Result.andThen]
theorem index4_0 (q : Nat → Pl) (w : World) : (Instr.index 53 (.agg #[.int .i64 (q 0).a, .int .i64 (q 0).b, .int .i64 (q 0).c, .int .i64 (q 0).d, .int .i64 (q 0).n, .int .i64 (q 1).a, .int .i64 (q 1).b, .int .i64 (q 1).c, .int .i64 (q 1).d, .int .i64 (q 1).n, .int .i64 (q 2).a, .int .i64 (q 2).b, .int .i64 (q 2).c, .int .i64 (q 2).d, .int .i64 (q 2).n, .int .i64 (q 3).a, .int .i64 (q 3).b, .int .i64 (q 3).c, .int .i64 (q 3).d, .int .i64 (q 3).n]) (.int .i64 0)).run Try.prog w = .ok (.agg #[.int .i64 (q 0).a, .int .i64 (q 0).b, .int .i64 (q 0).c, .int .i64 (q 0).d, .int .i64 (q 0).n]) w := by
  obtain ⟨i0, hi, hs⟩ : ∃ i0, Try.prog.info? 52 = some i0 ∧ i0.size = 5 := by
    have := infos_Pl
    cases h : Try.prog.info? 52 with
    | none => rw [h] at this; simp at this
    | some i => rw [h] at this; simp at this; exact ⟨i, rfl, this⟩
  simp [Instr.index, asIntOf, run_underlying undA_depot, sizeOf, typeInfo, hi, hs, part_pile, Result.andThen]
theorem index4_1 (q : Nat → Pl) (w : World) : (Instr.index 53 (.agg #[.int .i64 (q 0).a, .int .i64 (q 0).b, .int .i64 (q 0).c, .int .i64 (q 0).d, .int .i64 (q 0).n, .int .i64 (q 1).a, .int .i64 (q 1).b, .int .i64 (q 1).c, .int .i64 (q 1).d, .int .i64 (q 1).n, .int .i64 (q 2).a, .int .i64 (q 2).b, .int .i64 (q 2).c, .int .i64 (q 2).d, .int .i64 (q 2).n, .int .i64 (q 3).a, .int .i64 (q 3).b, .int .i64 (q 3).c, .int .i64 (q 3).d, .int .i64 (q 3).n]) (.int .i64 1)).run Try.prog w = .ok (.agg #[.int .i64 (q 1).a, .int .i64 (q 1).b, .int .i64 (q 1).c, .int .i64 (q 1).d, .int .i64 (q 1).n]) w := by
  obtain ⟨i0, hi, hs⟩ : ∃ i0, Try.prog.info? 52 = some i0 ∧ i0.size = 5 := by
    have := infos_Pl
    cases h : Try.prog.info? 52 with
    | none => rw [h] at this; simp at this
    | some i => rw [h] at this; simp at this; exact ⟨i, rfl, this⟩
  simp [Instr.index, asIntOf, run_underlying undA_depot, sizeOf, typeInfo, hi, hs, part_pile, Result.andThen]
theorem index4_2 (q : Nat → Pl) (w : World) : (Instr.index 53 (.agg #[.int .i64 (q 0).a, .int .i64 (q 0).b, .int .i64 (q 0).c, .int .i64 (q 0).d, .int .i64 (q 0).n, .int .i64 (q 1).a, .int .i64 (q 1).b, .int .i64 (q 1).c, .int .i64 (q 1).d, .int .i64 (q 1).n, .int .i64 (q 2).a, .int .i64 (q 2).b, .int .i64 (q 2).c, .int .i64 (q 2).d, .int .i64 (q 2).n, .int .i64 (q 3).a, .int .i64 (q 3).b, .int .i64 (q 3).c, .int .i64 (q 3).d, .int .i64 (q 3).n]) (.int .i64 2)).run Try.prog w = .ok (.agg #[.int .i64 (q 2).a, .int .i64 (q 2).b, .int .i64 (q 2).c, .int .i64 (q 2).d, .int .i64 (q 2).n]) w := by
  obtain ⟨i0, hi, hs⟩ : ∃ i0, Try.prog.info? 52 = some i0 ∧ i0.size = 5 := by
    have := infos_Pl
    cases h : Try.prog.info? 52 with
    | none => rw [h] at this; simp at this
    | some i => rw [h] at this; simp at this; exact ⟨i, rfl, this⟩
  simp [Instr.index, asIntOf, run_underlying undA_depot, sizeOf, typeInfo, hi, hs, part_pile, Result.andThen]
theorem index4_3 (q : Nat → Pl) (w : World) : (Instr.index 53 (.agg #[.int .i64 (q 0).a, .int .i64 (q 0).b, .int .i64 (q 0).c, .int .i64 (q 0).d, .int .i64 (q 0).n, .int .i64 (q 1).a, .int .i64 (q 1).b, .int .i64 (q 1).c, .int .i64 (q 1).d, .int .i64 (q 1).n, .int .i64 (q 2).a, .int .i64 (q 2).b, .int .i64 (q 2).c, .int .i64 (q 2).d, .int .i64 (q 2).n, .int .i64 (q 3).a, .int .i64 (q 3).b, .int .i64 (q 3).c, .int .i64 (q 3).d, .int .i64 (q 3).n]) (.int .i64 3)).run Try.prog w = .ok (.agg #[.int .i64 (q 3).a, .int .i64 (q 3).b, .int .i64 (q 3).c, .int .i64 (q 3).d, .int .i64 (q 3).n]) w := by
  obtain ⟨i0, hi, hs⟩ : ∃ i0, Try.prog.info? 52 = some i0 ∧ i0.size = 5 := by
    have := infos_Pl
    cases h : Try.prog.info? 52 with
    | none => rw [h] at this; simp at this
    | some i => rw [h] at this; simp at this; exact ⟨i, rfl, this⟩
  simp [Instr.index, asIntOf, run_underlying undA_depot, sizeOf, typeInfo, hi, hs, part_pile, Result.andThen]

end Go.Proofs.Ythfmmlpbflfpaac
