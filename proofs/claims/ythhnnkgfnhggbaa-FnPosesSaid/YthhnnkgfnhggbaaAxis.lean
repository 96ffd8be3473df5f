/- What the laws' own helpers do with axes. -/
import Derived.Test.YthhnnkgfnhggbaaPoses
import Derived.Test.YthhnnkgfnhggbaaCurves
namespace Go.Proofs.Ythhnnkgfnhggbaa
open Go.ChangeShapes Go.WideShapes Go.ChangeAt Go.RowKit
set_option linter.unusedVariables false
set_option linter.unusedSimpArgs false

set_option maxRecDepth 100000 in
set_option maxHeartbeats 2000000 in
theorem toAxis_any (q : Ps) (v : Value) (cs : List Cv) (w : World) (h : RdS 3 encCv w v cs) (lz : cs.length ≤ 1048576) :
    Calls Try.prog 37 #[(.agg #[.int .i64 q.s, .int .i64 q.h, .int .i64 q.y, .int .i64 q.p, v])] w fun e w' => ∃ v', e = .returned (.agg #[.int .i64 q.s, .int .i64 q.h, .int .i64 q.y, .int .i64 q.p, v']) ∧ OwnS 46 3 encCv w' w.heap.size v' cs ∧ Below w.heap.size w w' := by
  have H := Lib.hid h
  obtain ⟨a, cap, rfl, _⟩ := h
  go_enter Try.func37, Try.ntmps37
  go_wp2_with fail
  refine (toPose_any q _).mono ?_
  rintro e w1 ⟨rfl, rfl⟩
  go_wp2_with fail
  refine (toCurveS_any _ cs _ (H.out.later (by go_grown)) lz).mono ?_
  rintro e w2 ⟨v', rfl, o2, b2⟩
  have e0 := b2.cell (p := ⟨w.heap.size + 1 + 1, 0, none⟩) (by simp)
  have e1 := b2.cell (p := ⟨w.heap.size + 1 + 1, 1, none⟩) (by simp)
  have e2 := b2.cell (p := ⟨w.heap.size + 1 + 1, 2, none⟩) (by simp)
  have e3 := b2.cell (p := ⟨w.heap.size + 1 + 1, 3, none⟩) (by simp)
  have e4 := b2.cell (p := ⟨w.heap.size + 1 + 1, 4, none⟩) (by simp)
  have g0 := b2.cell (p := ⟨w.heap.size + 1, 0, none⟩) (by simp)
  have g1 := b2.cell (p := ⟨w.heap.size + 1, 1, none⟩) (by simp)
  have g2 := b2.cell (p := ⟨w.heap.size + 1, 2, none⟩) (by simp)
  have g3 := b2.cell (p := ⟨w.heap.size + 1, 3, none⟩) (by simp)
  have g4 := b2.cell (p := ⟨w.heap.size + 1, 4, none⟩) (by simp)
  have f0 := b2.frozen (p := ⟨w.heap.size + 1 + 1, 4, none⟩) (by simp)
  have k0 := b2.frozen (p := ⟨w.heap.size + 1, 0, none⟩) (by simp)
  have k1 := b2.frozen (p := ⟨w.heap.size + 1, 1, none⟩) (by simp)
  have k2 := b2.frozen (p := ⟨w.heap.size + 1, 2, none⟩) (by simp)
  have k3 := b2.frozen (p := ⟨w.heap.size + 1, 3, none⟩) (by simp)
  have k4 := b2.frozen (p := ⟨w.heap.size + 1, 4, none⟩) (by simp)
  simp [go_sem] at e0 e1 e2 e3 e4 f0 g0 g1 g2 g3 g4 k0 k1 k2 k3 k4
  have hs := b2.size
  simp at hs
  have O2 := Lib.hid o2
  have B2 : Hid (Below w.heap.size w w2) := Below.trans (by go_grown) (b2.mono (by simp; omega))
  clear b2
  obtain ⟨a', cap', rfl⟩ := o2.form
  have o3 := fun p u (h : p.block < _) => o2.setBelow (a := p) h u
  simp only [World.size_alloc] at o2
  have O2 := Lib.hid o2
  clear o2 o3
  go_wp2
  refine bodyPost_ret (v := (.agg #[.int .i64 q.s, .int .i64 q.h, .int .i64 q.y, .int .i64 q.p, (.slice a' cs.length cap')])) (by simp [results, Try.results37, go_sem, g0, g1, g2, g3, g4]; try rfl) rfl ?_
  refine ⟨_, rfl, ?_, ?_⟩
  · refine (OwnS.mono ?_ (show w.heap.size ≤ w.heap.size + 1 + 1 + 1 + 1 + 1 + 1 by omega))
    exact (((((O2.out.setBelow (by simp) _).setBelow (by simp) _).setBelow (by simp) _).setBelow (by simp) _).setBelow (by simp) _).setBelow (by simp) _
  · have := B2.out
    go_grown

theorem szAxis_any (q : Ps) (a : Option Addr) (n cap : Nat) (left : Int) (hl : 0 ≤ left) (hl2 : left ≤ 1099511627776) (hn : n ≤ 9223372036854775807) (w : World) :
    Calls Try.prog 35 #[(.agg #[.int .i64 q.s, .int .i64 q.h, .int .i64 q.y, .int .i64 q.p, (.slice a n cap)]), .int .i64 left] w fun e w' => e = .returned (.int .i64 (if (n : Int) ≤ left then left - n else -1)) ∧ w' = w.alloc (.cells #[.int .i64 q.s, .int .i64 q.h, .int .i64 q.y, .int .i64 q.p, .slice a n cap] 60) := by
  by_cases h : (n : Int) ≤ left
  · rw [if_pos h]
    have h1 : 0 ≤ left - n := by omega
    have h2 : IntKind.i64.wrap (left - n) = left - n := IntWalk.i64_in _ (by omega)
    go_enter Try.func35, Try.ntmps35
    go_wp2
    go_ret
    exact ⟨rfl, rfl⟩
  · rw [if_neg h]
    have h1 : left - n < 0 := by omega
    have h2 : IntKind.i64.wrap (left - n) = left - n := IntWalk.i64_in _ (by omega)
    go_enter Try.func35, Try.ntmps35
    go_wp2
    go_ret
    exact ⟨rfl, rfl⟩

set_option maxHeartbeats 2000000 in
theorem eqAxis_same (q : Ps) (a b : Value) (cs : List Cv) (w : World) (ha : RdS 3 encCv w a cs) (hb : RdS 3 encCv w b cs) (lz : cs.length ≤ 1048576) :
    Calls Try.prog 30 #[(.agg #[.int .i64 q.s, .int .i64 q.h, .int .i64 q.y, .int .i64 q.p, a]), (.agg #[.int .i64 q.s, .int .i64 q.h, .int .i64 q.y, .int .i64 q.p, b])] w fun e w' => e = .returned (.bool true) ∧ Below w.heap.size w w' := by
  have HA := Lib.hid ha
  have HB := Lib.hid hb
  obtain ⟨a', ca, rfl, _⟩ := ha
  obtain ⟨b', cb, rfl, _⟩ := hb
  go_enter Try.func30, Try.ntmps30
  go_wp2_with fail
  refine (eqPose_same q _).mono ?_
  rintro e w1 ⟨rfl, rfl⟩
  go_wp2_with fail
  refine (eqCurveS_same _ _ cs _ (HA.out.later (by go_grown)) (HB.out.later (by go_grown)) (by omega)).mono ?_
  rintro e w2 ⟨rfl, b2⟩
  have B2 : Hid (Below w.heap.size w w2) := Below.trans (by go_grown) (b2.mono (by simp; omega))
  clear b2
  go_wp2
  go_ret
  exact ⟨rfl, B2.out⟩

set_option maxHeartbeats 2000000 in
theorem markAxis_any (q : Ps) (v : Value) (cs : List Cv) (w : World) (B : Nat) (h : OwnS 46 3 encCv w B v cs) (lz : cs.length ≤ 1048576) (m : Int) (h0 : 0 ≤ m) (h1 : m ≤ 1099511627776) :
    Calls Try.prog 33 #[(.agg #[.int .i64 q.s, .int .i64 q.h, .int .i64 q.y, .int .i64 q.p, v]), .int .i64 m] w fun e w' => e = .returned (.int .i64 (m + 3 * cs.length)) ∧ OwnS 46 3 encCv w' B v (upCv m cs.length) ∧ w.grownBy w' v.ownBlock := by
  obtain ⟨a', ca, rfl⟩ := h.form
  have H := Lib.hid h
  clear h
  go_enter Try.func33, Try.ntmps33
  go_wp2_with fail
  refine (markCurveS_any _ cs _ B (H.out.alloc _) lz m h0 h1).mono ?_
  rintro e w2 ⟨rfl, o2, g2⟩
  have O2 := Lib.hid o2
  have G2 : Hid (w.grownBy w2 (Value.slice a' cs.length ca).ownBlock) := grownBy_trans' (World.grownBy_alloc w _ _) g2
  clear o2 g2
  go_wp2
  go_ret
  exact ⟨rfl, O2.out, G2.out⟩
set_option maxHeartbeats 2000000 in
theorem heldAxis_any (q : Ps) (v : Value) (n : Nat) (m : Int) (w : World) (h : RdS 3 encCv w v (upCv m n)) (lz : n ≤ 1048576) (h0 : 0 ≤ m) (h1 : m ≤ 1099511627776) :
    Calls Try.prog 34 #[(.agg #[.int .i64 q.s, .int .i64 q.h, .int .i64 q.y, .int .i64 q.p, v]), .int .i64 m] w fun e w' => e = .returned (.int .i64 (m + 3 * n)) ∧ Below w.heap.size w w' := by
  have H := Lib.hid h
  obtain ⟨a', ca, rfl, _⟩ := h
  go_enter Try.func34, Try.ntmps34
  go_wp2_with fail
  refine (heldCurveS_any _ n m _ (H.out.later (by go_grown)) lz h0 h1).mono ?_
  rintro e w2 ⟨rfl, rfl⟩
  have e1 : ¬ (m + 3 * (n : Int)) < 0 := by omega
  go_wp2
  go_ret
  exact ⟨rfl, by go_grown⟩
end Go.Proofs.Ythhnnkgfnhggbaa
