/- An argument that is a survey, opened. -/
import Derived.Test.YtcmocilojloolaaDoorOpenI
import Derived.Test.YtcmocilojloolaaDoorSurvA
namespace Go.Proofs.YtcmocilojloolaaDoor
open Go.ChangeShapes Go.WideShapes Go.ChangeAt Go.RowKit
set_option linter.unusedVariables false
set_option linter.unusedSimpArgs false

section
variable {H : Type} {enc : TypeId × Value → H} {P : Program} {w : World} {base : Nat} {spare : Nat → Bool} {held : Bool}

theorem list_2 {l : List Value} (h : l.length = 2) : ∃ x0 x1, l = [x0, x1] := by
  match l, h with | [x0, x1], _ => exact ⟨_, _, rfl⟩

theorem open_survey {r : Reach} {b0 : Nat} {t e1 : TypeId} {f0 f1 : Field} {fs1 : Array Field} {v : Value} {d : DataW H} {p : List MemPlace}
    (hT : P.underlying t = some (.struct #[f0, f1]))
    (p0 : f0.offset = 0) (c0 : P.cellsOf f0.type = 1)
    (p1 : f1.offset = 1) (c1 : P.cellsOf f1.type = 1)
    (hCt : P.cellsOf t = 2)
    (u0 : P.underlying f0.type = some (.int .i64))
    (u1 : P.underlying f1.type = some (.slice e1)) (v1 : P.underlying e1 = some (.struct fs1)) (x1 : intFields P fs1 = true) (y1 : P.cellsOf e1 = fs1.size) (z1 : fs1.size = 4)
    (hv : Value.okWide P w r b0 t v) (h : DataW.Trod enc P w base spare held t v d p) :
    ∃ (g : Sv) (n0 : Nat), v = .agg #[.int .i64 g.p, .slice g.xa n0 g.xc] ∧ RdSv w n0 g ∧ n0 ≤ maxLen := by
  obtain ⟨cs, rfl, hsz⟩ := okWide_struct hT hv
  obtain ⟨fuel, hd⟩ := h
  obtain ⟨us, n, _, _, hl, hyl, hat⟩ := DataW.trod_struct hT hd
  have hcs : (Value.agg cs).cells.toList = cs.toList := rfl
  obtain ⟨w0, w1, hcl⟩ := list_2 (l := (Value.agg cs).cells.toList) (by rw [hl, hCt])
  have g0 := hat 0 f0 rfl
  have y0' : us[0]? = some (us[0]'(by rw [hyl]; simp)) := List.getElem?_eq_getElem _
  rw [y0', p0, c0, hcl] at g0
  obtain ⟨i0, s0, _, _⟩ := DataW.trod_int u0 g0
  simp only [List.drop_zero, List.drop_succ_cons, List.take_succ_cons, List.take_zero, List.cons.injEq, and_true] at s0
  have g1 := hat 1 f1 rfl
  have y1' : us[1]? = some (us[1]'(by rw [hyl]; simp)) := List.getElem?_eq_getElem _
  rw [y1', p1, c1, hcl] at g1
  obtain ⟨a1, k1, l1, s1, r1, m1, -⟩ := trod_rows 4 encSt encSt_len (fun zs h => by obtain ⟨a, b, c, d, rfl⟩ := len4 h; exact ⟨⟨a, b, c, d⟩, rfl⟩) (by omega) u1 v1 x1 y1 z1 g1
  simp only [List.drop_zero, List.drop_succ_cons, List.take_succ_cons, List.take_zero, List.cons.injEq, and_true] at s1
  refine ⟨⟨i0, a1, k1, l1⟩, l1.length, ?_, ⟨r1⟩, m1⟩
  have e : cs = #[w0, w1] := by apply Array.ext'; rw [← hcs, hcl]
  rw [e, s0, s1]
end
end Go.Proofs.YtcmocilojloolaaDoor
