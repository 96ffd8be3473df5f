/- An argument that is a head, opened. -/
import Derived.Test.YtmdddjhlfpmgdacOpenI
import Derived.Test.YtmdddjhlfpmgdacHeadA
namespace Go.Proofs.Ytmdddjhlfpmgdac
open Go.ChangeShapes Go.WideShapes Go.ChangeAt Go.RowKit
set_option linter.unusedVariables false
set_option linter.unusedSimpArgs false

section
variable {H : Type} {enc : TypeId × Value → H} {P : Program} {w : World} {base : Nat} {spare : Nat → Bool} {held : Bool}

theorem list_5 {l : List Value} (h : l.length = 5) : ∃ x0 x1 x2 x3 x4, l = [x0, x1, x2, x3, x4] := by
  match l, h with | [x0, x1, x2, x3, x4], _ => exact ⟨_, _, _, _, _, rfl⟩

theorem open_head {r : Reach} {b0 : Nat} {t e0 e1 e2 : TypeId} {f0 f1 f2 f3 f4 : Field} {fs0 : Array Field} {v : Value} {d : DataW H} {p : List MemPlace}
    (hT : P.underlying t = some (.struct #[f0, f1, f2, f3, f4]))
    (p0 : f0.offset = 0) (c0 : P.cellsOf f0.type = 1)
    (p1 : f1.offset = 1) (c1 : P.cellsOf f1.type = 1)
    (p2 : f2.offset = 2) (c2 : P.cellsOf f2.type = 1)
    (p3 : f3.offset = 3) (c3 : P.cellsOf f3.type = 1)
    (p4 : f4.offset = 4) (c4 : P.cellsOf f4.type = 1)
    (hCt : P.cellsOf t = 5)
    (u0 : P.underlying f0.type = some (.slice e0)) (v0 : P.underlying e0 = some (.struct fs0)) (x0 : intFields P fs0 = true) (y0 : P.cellsOf e0 = fs0.size) (z0 : fs0.size = 2)
    (u1 : P.underlying f1.type = some (.slice e1)) (v1 : P.underlying e1 = some (.int .i64)) (x1 : P.cellsOf e1 = 1)
    (u2 : P.underlying f2.type = some (.slice e2)) (v2 : P.underlying e2 = some (.int .i64)) (x2 : P.cellsOf e2 = 1)
    (u3 : P.underlying f3.type = some (.int .i64))
    (u4 : P.underlying f4.type = some (.int .i64))
    (hv : Value.okWide P w r b0 t v) (h : DataW.Trod enc P w base spare held t v d p) :
    ∃ (g : Hd) (n0 n1 n2 : Nat), v = .agg #[.slice g.ca n0 g.cc, .slice g.ha n1 g.hc, .slice g.sa n2 g.sc, .int .i64 g.p, .int .i64 g.q] ∧ RdHd w n0 n1 n2 g ∧ n0 ≤ maxLen ∧ n1 ≤ maxLen ∧ n2 ≤ maxLen := by
  obtain ⟨cs, rfl, hsz⟩ := okWide_struct hT hv
  obtain ⟨fuel, hd⟩ := h
  obtain ⟨us, n, _, _, hl, hyl, hat⟩ := DataW.trod_struct hT hd
  have hcs : (Value.agg cs).cells.toList = cs.toList := rfl
  obtain ⟨w0, w1, w2, w3, w4, hcl⟩ := list_5 (l := (Value.agg cs).cells.toList) (by rw [hl, hCt])
  have g0 := hat 0 f0 rfl
  have y0' : us[0]? = some (us[0]'(by rw [hyl]; simp)) := List.getElem?_eq_getElem _
  rw [y0', p0, c0, hcl] at g0
  obtain ⟨a0, k0, l0, s0, r0, m0, -⟩ := trod_rows 2 encCu encCu_len (fun zs h => by obtain ⟨a, b, rfl⟩ := len2 h; exact ⟨⟨a, b⟩, rfl⟩) (by omega) u0 v0 x0 y0 z0 g0
  simp only [List.drop_zero, List.drop_succ_cons, List.take_succ_cons, List.take_zero, List.cons.injEq, and_true] at s0
  have g1 := hat 1 f1 rfl
  have y1' : us[1]? = some (us[1]'(by rw [hyl]; simp)) := List.getElem?_eq_getElem _
  rw [y1', p1, c1, hcl] at g1
  obtain ⟨a1, k1, l1, s1, r1, m1⟩ := trod_intS u1 v1 x1 g1
  simp only [List.drop_zero, List.drop_succ_cons, List.take_succ_cons, List.take_zero, List.cons.injEq, and_true] at s1
  have g2 := hat 2 f2 rfl
  have y2' : us[2]? = some (us[2]'(by rw [hyl]; simp)) := List.getElem?_eq_getElem _
  rw [y2', p2, c2, hcl] at g2
  obtain ⟨a2, k2, l2, s2, r2, m2⟩ := trod_intS u2 v2 x2 g2
  simp only [List.drop_zero, List.drop_succ_cons, List.take_succ_cons, List.take_zero, List.cons.injEq, and_true] at s2
  have g3 := hat 3 f3 rfl
  have y3' : us[3]? = some (us[3]'(by rw [hyl]; simp)) := List.getElem?_eq_getElem _
  rw [y3', p3, c3, hcl] at g3
  obtain ⟨i3, s3, _, _⟩ := DataW.trod_int u3 g3
  simp only [List.drop_zero, List.drop_succ_cons, List.take_succ_cons, List.take_zero, List.cons.injEq, and_true] at s3
  have g4 := hat 4 f4 rfl
  have y4' : us[4]? = some (us[4]'(by rw [hyl]; simp)) := List.getElem?_eq_getElem _
  rw [y4', p4, c4, hcl] at g4
  obtain ⟨i4, s4, _, _⟩ := DataW.trod_int u4 g4
  simp only [List.drop_zero, List.drop_succ_cons, List.take_succ_cons, List.take_zero, List.cons.injEq, and_true] at s4
  refine ⟨⟨a0, k0, l0, a1, k1, l1, a2, k2, l2, i3, i4⟩, l0.length, l1.length, l2.length, ?_, ⟨r0, r1, r2⟩, m0, m1, m2⟩
  have e : cs = #[w0, w1, w2, w3, w4] := by apply Array.ext'; rw [← hcs, hcl]
  rw [e, s0, s1, s2, s3, s4]
end
end Go.Proofs.Ytmdddjhlfpmgdac
