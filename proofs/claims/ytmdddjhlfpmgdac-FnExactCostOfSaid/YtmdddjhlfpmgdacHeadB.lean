/- Head: compared, and marked. -/
import Derived.Test.YtmdddjhlfpmgdacHeadA
namespace Go.Proofs.Ytmdddjhlfpmgdac
open Go.ChangeShapes Go.WideShapes Go.ChangeAt Go.RowKit
set_option linter.unusedVariables false
set_option linter.unusedSimpArgs false

set_option maxHeartbeats 4000000 in
theorem eqHead_same (g k : Hd) (n0 n1 n2 : Nat) (w : World) (hg : RdHd w n0 n1 n2 g) (hk : RdHd w n0 n1 n2 k) (hs : g.same k) (l0 : n0 ≤ 1048576) (l1 : n1 ≤ 1048576) (l2 : n2 ≤ 1048576) :
    Calls Try.prog 13 #[.agg #[.slice g.ca n0 g.cc, .slice g.ha n1 g.hc, .slice g.sa n2 g.sc, .int .i64 g.p, .int .i64 g.q], .agg #[.slice k.ca n0 k.cc, .slice k.ha n1 k.hc, .slice k.sa n2 k.sc, .int .i64 k.p, .int .i64 k.q]] w fun e w' => e = .returned (.bool true) ∧ Below w.heap.size w w' := by
  obtain ⟨e0, e1, e2⟩ := hg.len
  have C0 := Lib.hid (fun w (h1 : RdS 2 encCu w (.slice g.ca n0 g.cc) g.c) (h2 : RdS 2 encCu w (.slice k.ca n0 k.cc) g.c) => eqCutterS_same (.slice g.ca n0 g.cc) (.slice k.ca n0 k.cc) g.c w h1 h2 (by omega))
  have G0 := Lib.hid hg.r0
  have K0 : Hid (RdS 2 encCu w (.slice k.ca n0 k.cc) g.c) := by show RdS 2 encCu _ _ _; rw [hs.1]; exact hk.r0
  have C1 := Lib.hid (fun w (h1 : RdI w (.slice g.ha n1 g.hc) g.h) (h2 : RdI w (.slice k.ha n1 k.hc) g.h) => eqInt64S_same (.slice g.ha n1 g.hc) (.slice k.ha n1 k.hc) g.h w h1 h2 (by omega))
  have G1 := Lib.hid hg.r1
  have K1 : Hid (RdI w (.slice k.ha n1 k.hc) g.h) := by show RdI _ _ _; rw [hs.2.1]; exact hk.r1
  have C2 := Lib.hid (fun w (h1 : RdI w (.slice g.sa n2 g.sc) g.s) (h2 : RdI w (.slice k.sa n2 k.sc) g.s) => eqInt64S_same (.slice g.sa n2 g.sc) (.slice k.sa n2 k.sc) g.s w h1 h2 (by omega))
  have G2 := Lib.hid hg.r2
  have K2 : Hid (RdI w (.slice k.sa n2 k.sc) g.s) := by show RdI _ _ _; rw [hs.2.2.1]; exact hk.r2
  rw [← hs.2.2.2.1]
  have d3 : ((g.p != g.p) : Bool) = false := by simp
  rw [← hs.2.2.2.2]
  have d4 : ((g.q != g.q) : Bool) = false := by simp
  clear hg hk hs e0 e1 e2
  go_enter Try.func13, Try.ntmps13
  go_wp2_with fail
  refine (C0.out _ (G0.out.later (by go_grown)) (K0.out.later (by go_grown))).mono ?_
  rintro e w1 ⟨rfl, b1⟩
  have z1 : w.heap.size + 2 ≤ w1.heap.size := by have e := b1.size; simp only [World.size_alloc] at e; omega
  have NA1 := Lib.hid ((b1.block (w.heap.size) (by simp only [World.size_alloc]; omega)).trans (box2_0 w _ _))
  have NB1 := Lib.hid ((b1.block (w.heap.size + 1) (by simp only [World.size_alloc]; omega)).trans (box2_1 w _ _))
  have B1 : Hid (Below w.heap.size w w1) := Below.trans (by go_grown) (b1.mono (by simp only [World.size_alloc]; omega))
  clear b1
  obtain ⟨⟨ka0, ka1, ka2, ka3, ka4⟩, -, -⟩ := boxedHd_at NA1.out
  obtain ⟨⟨kb0, kb1, kb2, kb3, kb4⟩, -, -⟩ := boxedHd_at NB1.out
  go_wp2_with fail
  refine (C1.out _ (G1.out.later B1.out) (K1.out.later B1.out)).mono ?_
  rintro e w2 ⟨rfl, b2⟩
  have z2 := b2.size
  have NA2 := Lib.hid ((b2.block (w.heap.size) (by omega)).trans NA1.out)
  have NB2 := Lib.hid ((b2.block (w.heap.size + 1) (by omega)).trans NB1.out)
  have B2 : Hid (Below w.heap.size w w2) := B1.out.trans (b2.mono (by omega))
  clear b2 B1 NA1 NB1 ka0 ka1 ka2 ka3 ka4 kb0 kb1 kb2 kb3 kb4
  obtain ⟨⟨ka0, ka1, ka2, ka3, ka4⟩, -, -⟩ := boxedHd_at NA2.out
  obtain ⟨⟨kb0, kb1, kb2, kb3, kb4⟩, -, -⟩ := boxedHd_at NB2.out
  go_wp2_with fail
  refine (C2.out _ (G2.out.later B2.out) (K2.out.later B2.out)).mono ?_
  rintro e w3 ⟨rfl, b3⟩
  have z3 := b3.size
  have NA3 := Lib.hid ((b3.block (w.heap.size) (by omega)).trans NA2.out)
  have NB3 := Lib.hid ((b3.block (w.heap.size + 1) (by omega)).trans NB2.out)
  have B3 : Hid (Below w.heap.size w w3) := B2.out.trans (b3.mono (by omega))
  clear b3 B2 NA2 NB2 ka0 ka1 ka2 ka3 ka4 kb0 kb1 kb2 kb3 kb4
  obtain ⟨⟨ka0, ka1, ka2, ka3, ka4⟩, -, -⟩ := boxedHd_at NA3.out
  obtain ⟨⟨kb0, kb1, kb2, kb3, kb4⟩, -, -⟩ := boxedHd_at NB3.out
  go_wp2
  go_ret
  exact ⟨rfl, B3.out⟩

end Go.Proofs.Ytmdddjhlfpmgdac
