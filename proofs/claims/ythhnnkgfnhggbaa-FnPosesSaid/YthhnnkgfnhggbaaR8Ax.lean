/- What R8Axis draws. (Written by tools/mkdrawa.py.) -/
import Derived.Test.YthhnnkgfnhggbaaDrawA
namespace Go.Proofs.Ythhnnkgfnhggbaa
open Go.ChangeShapes Go.WideShapes Go.ChangeAt Go.RowKit
set_option linter.unusedVariables false
set_option linter.unusedSimpArgs false

set_option maxRecDepth 100000 in
set_option maxHeartbeats 2000000 in
/-- What R8Axis draws. -/
theorem r8Axis_any (w : World) (v : Value) (zs : List Int) (h : RdB w v zs) (lz : zs.length ≤ 1099511627776) :
    Calls Try.prog 12 #[v] w fun e w' => ∃ (q : Ps) (u : Value) (ys : List Cv), e = .returned (.agg #[.int .i64 q.s, .int .i64 q.h, .int .i64 q.y, .int .i64 q.p, u]) ∧ OkA q ys ∧ OwnS 46 3 encCv w' w.heap.size u ys ∧ Below w.heap.size w w' := by
  have VL := Lib.hid (fun hz b hb => rdB_ltA h hz b hb)
  have H := Lib.hid h
  clear h
  go_enter Try.func12, Try.ntmps12
  go_wp2_with fail
  generalize hx_ : w.alloc (.cells #[.int .i64 0, .int .i64 0, .int .i64 0, .int .i64 0, .slice none 0 0] 28) = w0
  have B0 : Hid (Below w.heap.size w w0) := by rw [← hx_]; show Below _ _ _; go_grown
  have z0 : w0.heap.size = w.heap.size + 1 := by rw [← hx_]; simp
  have RE0 : Hid (w0.heap[w.heap.size]? = some (.cells #[.int .i64 0, .int .i64 0, .int .i64 0, .int .i64 0, .slice none 0 0] 28 (0, 0))) := by rw [← hx_]; exact heap_alloc_new _ _
  have H0 := Lib.hid (H.out.later B0.out)
  have z0a : w.heap.size + 1 ≤ w0.heap.size := by omega
  clear hx_ H z0
  refine (from_any w0 v zs H0.out).mono ?_
  rintro e w1 ⟨rfl, s1, b1⟩
  have z1 := b1.size
  have lg1 := s1.lt
  have DD : Hid (DSt w1 w1 w0.heap.size v zs 0) := ⟨s1, ⟨rfl, rfl, rfl, Nat.le_refl _, fun _ _ _ => rfl⟩, lg1, fun hz b hb => by have := VL.out hz b hb; omega⟩
  have RE1 := Lib.hid ((b1.block w.heap.size (by omega)).trans RE0.out)
  have B1 : Hid (Below w.heap.size w w1) := B0.out.trans (b1.mono (by omega))
  clear s1 b1 RE0 B0 H0
  obtain ⟨n0, hn0⟩ : ∃ n : Nat, n = 0 := ⟨_, rfl⟩
  rw [← hn0] at DD
  have hn1 : n0 ≤ 1099511000000 := by omega
  have C := Lib.hid (drawOkA_any w1 w0.heap.size v zs n0 lz hn1 DD.out)
  clear DD hn0 hn1
  go_wp2_with fail
  refine C.out.mono ?_
  rintro e w2 ⟨q, u, ys, m2, rfl, ok, o2, m2l, d2⟩
  obtain ⟨a2, c2, rfl⟩ := o2.form
  have g2 := d2.gr
  have z2 := g2.size
  have r2 := (g2.block w.heap.size (by omega) (fun e => by have e2 : w.heap.size = w0.heap.size := Option.some.inj e; omega)).trans RE1.out
  have B2 : Hid (Below w.heap.size w w2) := B1.out.grown g2 (by omega) (fun j e => by have e2 : w0.heap.size = j := Option.some.inj e; omega)
  obtain ⟨⟨y0, y1, y2, y3, y4⟩, -⟩ := boxA_at (q := ⟨0, 0, 0, 0⟩) r2
  have f0 := frozen_of_row w2 w.heap.size 0 _ _ r2
  have f1 := frozen_of_row w2 w.heap.size 1 _ _ r2
  have f2 := frozen_of_row w2 w.heap.size 2 _ _ r2
  have f3 := frozen_of_row w2 w.heap.size 3 _ _ r2
  have f4 := frozen_of_row w2 w.heap.size 4 _ _ r2
  have O2 := Lib.hid o2
  have OK := Lib.hid ok
  clear r2 g2 d2 o2 ok RE1 B1
  go_wp2
  refine bodyPost_ret (v := (.agg #[.int .i64 q.s, .int .i64 q.h, .int .i64 q.y, .int .i64 q.p, (.slice a2 ys.length c2)])) (by simp [results, Try.results12, go_sem, y0, y1, y2, y3, y4]; try rfl) rfl ?_
  refine ⟨q, _, ys, rfl, OK.out, ?_, ?_⟩
  · have o := O2.out.mono (show w.heap.size + 1 ≤ _ by omega)
    refine OwnS.mono ?_ (show w.heap.size ≤ w.heap.size + 1 by omega)
    exact ((((o.setBelow (by simp) _).setBelow (by simp) _).setBelow (by simp) _).setBelow (by simp) _).setBelow (by simp) _
  · have b := B2.out
    go_grown
end Go.Proofs.Ythhnnkgfnhggbaa
