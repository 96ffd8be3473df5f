/- An argument that is a machine, opened to its numbers. -/
import Derived.Test.YthhnnkgfnhggbabDoorOpens
import Derived.Test.YthhnnkgfnhggbabDoorMach
namespace Go.Proofs.YthhnnkgfnhggbabDoor
open Go.ChangeShapes Go.WideShapes Go.ChangeAt Go.RowKit
set_option linter.unusedVariables false
set_option linter.unusedSimpArgs false

section
variable {H : Type} {enc : TypeId × Value → H} {P : Program} {w : World} {base : Nat} {spare : Nat → Bool} {held : Bool}

/-- A struct of two structs of int64s and an int64. -/
theorem open_two_int {r : Reach} {b0 : Nat} {t : TypeId} {f0 f1 f2 : Field} {fp : Array Field} {v : Value} {d : DataW H} {p : List MemPlace}
    (hT : P.underlying t = some (.struct #[f0, f1, f2])) (o0 : f0.offset = 0) (o1 : f1.offset = fp.size) (o2 : f2.offset = fp.size + fp.size) (hCt : P.cellsOf t = fp.size + fp.size + 1)
    (hp : P.underlying f0.type = some (.struct fp)) (hpi : intFields P fp = true) (hpc : P.cellsOf f0.type = fp.size)
    (hp1 : P.underlying f1.type = some (.struct fp)) (hpc1 : P.cellsOf f1.type = fp.size) (hc2 : P.cellsOf f2.type = 1) (hu2 : P.underlying f2.type = some (.int .i64))
    (hv : Value.okWide P w r b0 t v) (h : DataW.Trod enc P w base spare held t v d p) :
    ∃ (xs ys : List Int) (z : Int), xs.length = fp.size ∧ ys.length = fp.size ∧ (∀ n ∈ xs, (Lit.int .i64 n).wf = true) ∧ (∀ n ∈ ys, (Lit.int .i64 n).wf = true) ∧ (Lit.int .i64 z).wf = true ∧
      v = .agg (xs.map (Value.int .i64) ++ (ys.map (Value.int .i64) ++ [Value.int .i64 z])).toArray := by
  obtain ⟨cs, rfl, hsz⟩ := okWide_struct hT hv
  obtain ⟨fuel, hd⟩ := h
  obtain ⟨us, n, _, _, hl, hyl, hat⟩ := DataW.trod_struct hT hd
  have g0 := hat 0 f0 rfl
  have g1 := hat 1 f1 rfl
  have g2 := hat 2 f2 rfl
  have y0 : us[0]? = some (us[0]'(by rw [hyl]; simp)) := List.getElem?_eq_getElem _
  have y1 : us[1]? = some (us[1]'(by rw [hyl]; simp)) := List.getElem?_eq_getElem _
  have y2 : us[2]? = some (us[2]'(by rw [hyl]; simp)) := List.getElem?_eq_getElem _
  rw [y0, o0, hpc] at g0
  rw [y1, o1, hpc1] at g1
  rw [y2, o2, hc2] at g2
  obtain ⟨xs, x1, x2, x3⟩ := trod_ints hp hpi hpc g0
  obtain ⟨ys, z1, z2, z3⟩ := trod_ints hp1 hpi hpc1 g1
  obtain ⟨z, u1, _, u3⟩ := DataW.trod_int hu2 g2
  refine ⟨xs, ys, z, x1, z1, x3, z3, u3, ?_⟩
  have hcs : (Value.agg cs).cells.toList = cs.toList := rfl
  rw [hcs] at x2 z2 u1 hl
  rw [List.drop_zero] at x2
  have e2 : (cs.toList.drop (fp.size + fp.size)).take 1 = cs.toList.drop (fp.size + fp.size) := List.take_of_length_le (by rw [List.length_drop, hl, hCt]; omega)
  have e3 : cs.toList = xs.map (Value.int .i64) ++ (ys.map (Value.int .i64) ++ [Value.int .i64 z]) := by
    rw [← x2, ← z2]
    have : [Value.int .i64 z] = cs.toList.drop (fp.size + fp.size) := by rw [← e2]; exact u1.symm
    rw [this, ← List.drop_drop, List.take_append_drop, List.take_append_drop]
  rw [← e3]
end
end Go.Proofs.YthhnnkgfnhggbabDoor
