/- Courses of a pose towards another one, on both sides. -/
import Derived.Test.YtkdecpnbbpmooacDoorSteerN
import Derived.Test.YtkdecpnbbpmooacDoorStoreCo
import Derived.Test.YtkdecpnbbpmooacDoorStorePr
import Derived.Test.YtkdecpnbbpmooacDoorKit5
import Derived.Test.YtkdecpnbbpmooacDoorPose
import Derived.Deep.DeepCutAuto
namespace Go.Proofs.YtkdecpnbbpmooacDoor
open Go.ChangeShapes Go.WideShapes Go.ChangeAt Go.RowKit
set_option linter.unusedVariables false
set_option linter.unusedSimpArgs false

def sideC (p g : Ps) : Co := ⟨p.s - g.s, p.y - g.y, 0⟩
def highC (p g : Ps) : Co := ⟨p.h - g.h, p.p - g.p, 0⟩
def CofOk (p g : Ps) : Prop := ((OkP p ∧ OkP g) ∧ NearC (sideC p g)) ∧ NearC (highC p g)
def CofRes (p g : Ps) (a b : Co) (v : Bool) : Prop := (CofOk p g ∧ a = sideC p g ∧ b = highC p g ∧ v = true) ∨ (¬ CofOk p g ∧ a = noC ∧ b = noC ∧ v = false)
theorem cofRes_of (p g : Ps) : ∃ a b v, CofRes p g a b v := by
  by_cases h : CofOk p g
  · exact ⟨_, _, _, .inl ⟨h, rfl, rfl, rfl⟩⟩
  · exact ⟨_, _, _, .inr ⟨h, rfl, rfl, rfl⟩⟩
theorem cofRes_yes {p g : Ps} {a b : Co} {v : Bool} (h : CofRes p g a b v) (k : CofOk p g) : a = sideC p g ∧ b = highC p g ∧ v = true := by
  rcases h with h | h
  · exact h.2
  · exact absurd k h.1
theorem cofRes_no {p g : Ps} {a b : Co} {v : Bool} (h : CofRes p g a b v) (k : ¬ CofOk p g) : a = noC ∧ b = noC ∧ v = false := by
  rcases h with h | h
  · exact absurd h.1 k
  · exact h.2
theorem near_inside (c : Co) (h : c.t = 0) : InC 0 c ↔ NearC c := by
  unfold InC; rw [h]; constructor
  · exact fun x => x.1
  · exact fun x => ⟨x, by omega, by omega⟩

/-- A box of four cells is in a later world as it was. -/
theorem boxP_at {w : World} {g : Nat} {t : TypeId} {q : Ps} (h : w.heap[g]? = some (.cells #[.int .i64 q.s, .int .i64 q.h, .int .i64 q.y, .int .i64 q.p] t (0, 0))) :
    w.cell? ⟨g, 0, none⟩ = some (.int .i64 q.s) ∧ w.cell? ⟨g, 1, none⟩ = some (.int .i64 q.h) ∧ w.cell? ⟨g, 2, none⟩ = some (.int .i64 q.y) ∧ w.cell? ⟨g, 3, none⟩ = some (.int .i64 q.p) :=
  ⟨cell_of_row w g 0 _ t _ h, cell_of_row w g 1 _ t _ h, cell_of_row w g 2 _ t _ h, cell_of_row w g 3 _ t _ h⟩

theorem cof_W (w : World) (p g : Ps) : (((((w.alloc (.cells #[.int .i64 p.s, .int .i64 p.h, .int .i64 p.y, .int .i64 p.p] 35)).alloc (.cells #[.int .i64 g.s, .int .i64 g.h, .int .i64 g.y, .int .i64 g.p] 35)).alloc (.cells #[.int .i64 0, .int .i64 0, .int .i64 0] 27)).alloc (.cells #[.int .i64 0, .int .i64 0, .int .i64 0] 27)).heap[w.heap.size]? = some (.cells #[.int .i64 p.s, .int .i64 p.h, .int .i64 p.y, .int .i64 p.p] 35 (0, 0)) ∧ ((((w.alloc (.cells #[.int .i64 p.s, .int .i64 p.h, .int .i64 p.y, .int .i64 p.p] 35)).alloc (.cells #[.int .i64 g.s, .int .i64 g.h, .int .i64 g.y, .int .i64 g.p] 35)).alloc (.cells #[.int .i64 0, .int .i64 0, .int .i64 0] 27)).alloc (.cells #[.int .i64 0, .int .i64 0, .int .i64 0] 27)).heap[w.heap.size + 1]? = some (.cells #[.int .i64 g.s, .int .i64 g.h, .int .i64 g.y, .int .i64 g.p] 35 (0, 0)) ∧ ((((w.alloc (.cells #[.int .i64 p.s, .int .i64 p.h, .int .i64 p.y, .int .i64 p.p] 35)).alloc (.cells #[.int .i64 g.s, .int .i64 g.h, .int .i64 g.y, .int .i64 g.p] 35)).alloc (.cells #[.int .i64 0, .int .i64 0, .int .i64 0] 27)).alloc (.cells #[.int .i64 0, .int .i64 0, .int .i64 0] 27)).heap[w.heap.size + 2]? = some (.cells #[.int .i64 noC.o, .int .i64 noC.h, .int .i64 noC.t] 27 (0, 0)) ∧ ((((w.alloc (.cells #[.int .i64 p.s, .int .i64 p.h, .int .i64 p.y, .int .i64 p.p] 35)).alloc (.cells #[.int .i64 g.s, .int .i64 g.h, .int .i64 g.y, .int .i64 g.p] 35)).alloc (.cells #[.int .i64 0, .int .i64 0, .int .i64 0] 27)).alloc (.cells #[.int .i64 0, .int .i64 0, .int .i64 0] 27)).heap[w.heap.size + 3]? = some (.cells #[.int .i64 noC.o, .int .i64 noC.h, .int .i64 noC.t] 27 (0, 0))) ∧ ((((w.alloc (.cells #[.int .i64 p.s, .int .i64 p.h, .int .i64 p.y, .int .i64 p.p] 35)).alloc (.cells #[.int .i64 g.s, .int .i64 g.h, .int .i64 g.y, .int .i64 g.p] 35)).alloc (.cells #[.int .i64 0, .int .i64 0, .int .i64 0] 27)).alloc (.cells #[.int .i64 0, .int .i64 0, .int .i64 0] 27)).heap.size = w.heap.size + 4 ∧ Below w.heap.size w ((((w.alloc (.cells #[.int .i64 p.s, .int .i64 p.h, .int .i64 p.y, .int .i64 p.p] 35)).alloc (.cells #[.int .i64 g.s, .int .i64 g.h, .int .i64 g.y, .int .i64 g.p] 35)).alloc (.cells #[.int .i64 0, .int .i64 0, .int .i64 0] 27)).alloc (.cells #[.int .i64 0, .int .i64 0, .int .i64 0] 27)) := by
  refine ⟨⟨?_, ?_, ?_, ?_⟩, by simp, by go_grown⟩
  · exact (Below.heap_alloc _ _ _ (by simp only [World.size_alloc]; omega)).trans ((Below.heap_alloc _ _ _ (by simp only [World.size_alloc]; omega)).trans (boxN2_0 w _ _))
  · exact (Below.heap_alloc _ _ _ (by simp only [World.size_alloc]; omega)).trans ((Below.heap_alloc _ _ _ (by simp only [World.size_alloc]; omega)).trans (boxN2_1 w _ _))
  · refine (Below.heap_alloc _ _ _ (by simp only [World.size_alloc]; omega)).trans ?_
    have := heap_alloc_new ((w.alloc (.cells #[.int .i64 p.s, .int .i64 p.h, .int .i64 p.y, .int .i64 p.p] 35)).alloc (.cells #[.int .i64 g.s, .int .i64 g.h, .int .i64 g.y, .int .i64 g.p] 35)) (.cells #[.int .i64 0, .int .i64 0, .int .i64 0] 27)
    rwa [World.size_alloc, World.size_alloc] at this
  · have := heap_alloc_new (((w.alloc (.cells #[.int .i64 p.s, .int .i64 p.h, .int .i64 p.y, .int .i64 p.p] 35)).alloc (.cells #[.int .i64 g.s, .int .i64 g.h, .int .i64 g.y, .int .i64 g.p] 35)).alloc (.cells #[.int .i64 0, .int .i64 0, .int .i64 0] 27)) (.cells #[.int .i64 0, .int .i64 0, .int .i64 0] 27)
    rwa [World.size_alloc, World.size_alloc, World.size_alloc] at this

set_option maxHeartbeats 1000000 in
theorem cofFrom_any (p q : Ps) (x y : Int) (q1 : IntKind.i64.wrap (p.s - q.s) = x) (q2 : IntKind.i64.wrap (p.h - q.h) = y) (w : World) :
    Calls Tryd.prog 34 #[(.agg #[.int .i64 p.s, .int .i64 p.h, .int .i64 p.y, .int .i64 p.p]), (.agg #[.int .i64 q.s, .int .i64 q.h, .int .i64 q.y, .int .i64 q.p])] w fun e w' => e = .returned (.agg #[.int .i64 x, .int .i64 y]) ∧ Below w.heap.size w w' := by
  go_enter Tryd.func34, Tryd.ntmps34
  go_wp2
  go_returns
  exact ⟨rfl, by go_grown⟩
set_option maxHeartbeats 1000000 in
theorem cofHeading_any (p : Ps) (w : World) :
    Calls Tryd.prog 35 #[(.agg #[.int .i64 p.s, .int .i64 p.h, .int .i64 p.y, .int .i64 p.p])] w fun e w' => e = .returned (.agg #[.int .i64 p.y, .int .i64 p.p]) ∧ Below w.heap.size w w' := by
  go_enter Tryd.func35, Tryd.ntmps35
  go_wp2
  go_returns
  exact ⟨rfl, by go_grown⟩
set_option maxHeartbeats 1000000 in
theorem cofMinus_any (a b c d x y : Int) (q1 : IntKind.i64.wrap (a - c) = x) (q2 : IntKind.i64.wrap (b - d) = y) (w : World) :
    Calls Tryd.prog 36 #[.agg #[.int .i64 a, .int .i64 b], .agg #[.int .i64 c, .int .i64 d]] w fun e w' => e = .returned (.agg #[.int .i64 x, .int .i64 y]) ∧ Below w.heap.size w w' := by
  go_enter Tryd.func36, Tryd.ntmps36
  go_wp2
  go_returns
  exact ⟨rfl, by go_grown⟩


set_option maxRecDepth 100000 in
set_option maxHeartbeats 8000000 in
theorem implCof_any (p g : Ps) (a b : Co) (v : Bool) (h : CofRes p g a b v) (w : World) :
    Calls Tryd.prog 12 #[(.agg #[.int .i64 p.s, .int .i64 p.h, .int .i64 p.y, .int .i64 p.p]), (.agg #[.int .i64 g.s, .int .i64 g.h, .int .i64 g.y, .int .i64 g.p])] w fun e w' => e = .returned (.tuple #[(.agg #[.int .i64 a.o, .int .i64 a.h, .int .i64 a.t]), (.agg #[.int .i64 b.o, .int .i64 b.h, .int .i64 b.t]), .bool v]) ∧ Below w.heap.size w w' := by
  obtain ⟨b1, h1⟩ := bool_of (OkP p)
  obtain ⟨b2, h2⟩ := bool_of (OkP g)
  have H := Lib.hid h
  have H1 := Lib.hid h1
  have H2 := Lib.hid h2
  have WW := Lib.hid (cof_W w p g)
  clear h h1 h2
  go_enter Tryd.func12, Tryd.ntmps12
  go_upto_region 1 with (fail)
  generalize hz : ((((w.alloc (.cells #[.int .i64 p.s, .int .i64 p.h, .int .i64 p.y, .int .i64 p.p] 35)).alloc (.cells #[.int .i64 g.s, .int .i64 g.h, .int .i64 g.y, .int .i64 g.p] 35)).alloc (.cells #[.int .i64 0, .int .i64 0, .int .i64 0] 27)).alloc (.cells #[.int .i64 0, .int .i64 0, .int .i64 0] 27)) = z at WW ⊢
  clear hz
  obtain ⟨⟨np, ng, r1, r2⟩, zse, BZ⟩ := WW.out
  have NP := Lib.hid np
  have NG := Lib.hid ng
  have R1 := Lib.hid r1
  have R2 := Lib.hid r2
  have BZ' := Lib.hid BZ
  have zs : w.heap.size + 4 ≤ z.heap.size := by omega
  obtain ⟨k0, k1, k2, k3⟩ := boxP_at np
  clear np ng r1 r2 zse BZ WW
  go_wp2_with fail
  refine (implPose_any p b1 H1.out _).mono ?_
  rintro e z1 ⟨rfl, hz1⟩
  have BB : Below z.heap.size z z1 := by rw [hz1]; exact Below.alloc (Below.refl _ _) (Nat.le_refl _) _
  have NG1 := (BB.block _ (by omega)).trans NG.out
  have NP1 := Lib.hid ((BB.block _ (by omega)).trans NP.out)
  have R11 := Lib.hid ((BB.block _ (by omega)).trans R1.out)
  have R21 := Lib.hid ((BB.block _ (by omega)).trans R2.out)
  have B1 := Lib.hid (BZ'.out.trans (BB.mono (by omega)))
  have zs1 : w.heap.size + 4 ≤ z1.heap.size := by have := BB.size; omega
  clear hz1 BB NP NG R1 R2 BZ' zs k0 k1 k2 k3
  cases b1 with
  | false =>
    obtain ⟨rfl, rfl, rfl⟩ := cofRes_no H.out (fun k => by cases H1.out.mpr k.1.1.1)
    clear NG1 NP1 H H1 H2
    obtain ⟨⟨f0, f1, f2⟩, ⟨y0, y1, y2⟩, -⟩ := boxCo_at (q := noC) R11.out
    obtain ⟨⟨g0, g1, g2⟩, ⟨x0, x1, x2⟩, -⟩ := boxCo_at (q := noC) R21.out
    have RA := boxCo_put (q := noC) R11.out noC
    have RB := boxCo_put (q := noC) ((boxCo_other (w := z1) (g := w.heap.size + 2) noC (w.heap.size + 3) (by omega)).trans R21.out) noC
    have RA2 := Lib.hid ((boxCo_other (g := w.heap.size + 3) noC (w.heap.size + 2) (by omega)).trans RA)
    have RB2 := Lib.hid RB
    clear RA RB R11 R21
    go_wp2
    obtain ⟨⟨m0, m1, m2⟩, -⟩ := boxCo_at (q := noC) RA2.out
    obtain ⟨⟨n0, n1, n2⟩, -⟩ := boxCo_at (q := noC) RB2.out
    dsimp only [noC] at m0 m1 m2 n0 n1 n2
    have B := B1.out
    have sz := B.size
    refine bodyPost_ret (v := .tuple #[(.agg #[.int .i64 noC.o, .int .i64 noC.h, .int .i64 noC.t]), (.agg #[.int .i64 noC.o, .int .i64 noC.h, .int .i64 noC.t]), .bool false]) (by simp [results, Tryd.results12, go_sem, m0, m1, m2, n0, n1, n2, noC]; try rfl) rfl ⟨rfl, ?_⟩
    go_grown
  | true =>
    obtain ⟨k0, k1, k2, k3⟩ := boxP_at NG1
    have NG2 := Lib.hid NG1
    clear NG1
    go_wp2_with fail
    refine (implPose_any g b2 H2.out _).mono ?_
    rintro e z2 ⟨rfl, hz1⟩
    have BB : Below z1.heap.size z1 z2 := by rw [hz1]; exact Below.alloc (Below.refl _ _) (Nat.le_refl _) _
    have NG := Lib.hid ((BB.block _ (by omega)).trans NG2.out)
    have NP := Lib.hid ((BB.block _ (by omega)).trans NP1.out)
    have R12 := Lib.hid ((BB.block _ (by omega)).trans R11.out)
    have R22 := Lib.hid ((BB.block _ (by omega)).trans R21.out)
    have B2 := Lib.hid (B1.out.trans (BB.mono (by omega)))
    have zs2 : w.heap.size + 4 ≤ z2.heap.size := by have := BB.size; omega
    clear hz1 BB NP1 NG2 R11 R21 B1 zs1 k0 k1 k2 k3
    cases b2 with
    | false =>
      obtain ⟨rfl, rfl, rfl⟩ := cofRes_no H.out (fun k => by cases H2.out.mpr k.1.1.2)
      clear NG NP H H1 H2
      obtain ⟨⟨f0, f1, f2⟩, ⟨y0, y1, y2⟩, -⟩ := boxCo_at (q := noC) R12.out
      obtain ⟨⟨g0, g1, g2⟩, ⟨x0, x1, x2⟩, -⟩ := boxCo_at (q := noC) R22.out
      have RA := boxCo_put (q := noC) R12.out noC
      have RB := boxCo_put (q := noC) ((boxCo_other (w := z2) (g := w.heap.size + 2) noC (w.heap.size + 3) (by omega)).trans R22.out) noC
      have RA2 := Lib.hid ((boxCo_other (g := w.heap.size + 3) noC (w.heap.size + 2) (by omega)).trans RA)
      have RB2 := Lib.hid RB
      clear RA RB R12 R22
      go_wp2
      obtain ⟨⟨m0, m1, m2⟩, -⟩ := boxCo_at (q := noC) RA2.out
      obtain ⟨⟨n0, n1, n2⟩, -⟩ := boxCo_at (q := noC) RB2.out
      dsimp only [noC] at m0 m1 m2 n0 n1 n2
      have B := B2.out
      have sz := B.size
      refine bodyPost_ret (v := .tuple #[(.agg #[.int .i64 noC.o, .int .i64 noC.h, .int .i64 noC.t]), (.agg #[.int .i64 noC.o, .int .i64 noC.h, .int .i64 noC.t]), .bool false]) (by simp [results, Tryd.results12, go_sem, m0, m1, m2, n0, n1, n2, noC]; try rfl) rfl ⟨rfl, ?_⟩
      go_grown
    | true =>
      obtain ⟨⟨u1, u2⟩, ⟨u3, u4⟩, ⟨u5, u6⟩, ⟨u7, u8⟩⟩ := H1.out.mp (by simp)
      obtain ⟨⟨v1, v2⟩, ⟨v3, v4⟩, ⟨v5, v6⟩, ⟨v7, v8⟩⟩ := H2.out.mp (by simp)
      have OKS := Lib.hid (And.intro (H1.out.mp (by simp)) (H2.out.mp (by simp)))
      clear H1 H2
      have q1 : IntKind.i64.wrap (p.s - g.s) = p.s - g.s := IntWalk.i64_in _ (by omega)
      have q2 : IntKind.i64.wrap (p.h - g.h) = p.h - g.h := IntWalk.i64_in _ (by omega)
      have q3 : IntKind.i64.wrap (p.y - g.y) = p.y - g.y := IntWalk.i64_in _ (by omega)
      have q4 : IntKind.i64.wrap (p.p - g.p) = p.p - g.p := IntWalk.i64_in _ (by omega)
      obtain ⟨b3, h3⟩ := bool_of (NearC (sideC p g))
      obtain ⟨b4, h4⟩ := bool_of (NearC (highC p g))
      have H3 := Lib.hid h3
      have H4 := Lib.hid h4
      clear h3 h4
      have C1 := Lib.hid (fun w => cofFrom_any p g _ _ q1 q2 w)
      have C2 := Lib.hid (fun w => cofHeading_any p w)
      have C3 := Lib.hid (fun w => cofHeading_any g w)
      have C4 := Lib.hid (fun w => cofMinus_any p.y p.p g.y g.p _ _ q3 q4 w)
      have KS : Hid (∀ w', Below z2.heap.size z2 w' → (w'.cell? ⟨w.heap.size, 0, none⟩ = some (.int .i64 p.s) ∧ w'.cell? ⟨w.heap.size, 1, none⟩ = some (.int .i64 p.h) ∧ w'.cell? ⟨w.heap.size, 2, none⟩ = some (.int .i64 p.y) ∧ w'.cell? ⟨w.heap.size, 3, none⟩ = some (.int .i64 p.p) ∧ w'.cell? ⟨w.heap.size + 1, 0, none⟩ = some (.int .i64 g.s) ∧ w'.cell? ⟨w.heap.size + 1, 1, none⟩ = some (.int .i64 g.h) ∧ w'.cell? ⟨w.heap.size + 1, 2, none⟩ = some (.int .i64 g.y) ∧ w'.cell? ⟨w.heap.size + 1, 3, none⟩ = some (.int .i64 g.p))) := by
        intro w' b
        obtain ⟨k0, k1, k2, k3⟩ := boxP_at ((b.block _ (box_lt NP.out)).trans NP.out)
        obtain ⟨k4, k5, k6, k7⟩ := boxP_at ((b.block _ (box_lt NG.out)).trans NG.out)
        exact ⟨k0, k1, k2, k3, k4, k5, k6, k7⟩
      clear q1 q2 q3 q4 NP NG u1 u2 u3 u4 u5 u6 u7 u8 v1 v2 v3 v4 v5 v6 v7 v8
      go_upto_region 3 with (fail)
      go_cut [7, 8] (fun s7 s8 wx => ∃ pa pb : Nat, s7 = .pointer (some ⟨pa, 0, none⟩) ∧ s8 = .pointer (some ⟨pb, 0, none⟩) ∧ Hid (Below z2.heap.size z2 wx) ∧ Hid (wx.heap[pa]? = some (.cells #[.int .i64 (p.s - g.s), .int .i64 (p.h - g.h)] 71 (0, 0))) ∧ Hid (wx.heap[pb]? = some (.cells #[.int .i64 (p.y - g.y), .int .i64 (p.p - g.p)] 71 (0, 0))))
      case first =>
        go_wp2_with fail
        refine wp_region_held_drew (S := fun w' => (w'.cell? ⟨w.heap.size, 0, none⟩ = some (.int .i64 p.s) ∧ w'.cell? ⟨w.heap.size, 1, none⟩ = some (.int .i64 p.h) ∧ w'.cell? ⟨w.heap.size, 2, none⟩ = some (.int .i64 p.y) ∧ w'.cell? ⟨w.heap.size, 3, none⟩ = some (.int .i64 p.p) ∧ w'.cell? ⟨w.heap.size + 1, 0, none⟩ = some (.int .i64 g.s) ∧ w'.cell? ⟨w.heap.size + 1, 1, none⟩ = some (.int .i64 g.h) ∧ w'.cell? ⟨w.heap.size + 1, 2, none⟩ = some (.int .i64 g.y) ∧ w'.cell? ⟨w.heap.size + 1, 3, none⟩ = some (.int .i64 g.p))) (by kernel_rfl) (KS.out _ (Below.refl _ _).drew) (fun hHeld => ?_)
        have D0 : Hid (Below z2.heap.size z2 (World.drew z2)) := (Below.refl _ _).drew
        refine wpAnyH_take (i := 0) (v := ?_) (by (simp only [List.getElem?_toArray, List.getElem?_cons_succ, List.getElem?_cons_zero]); (try exact rfl)) (by kernel_rfl) (by kernel_rfl) (by kernel_rfl) (by intro _ _ _ h; exact h) (Or.inl ⟨by rfl, ?_⟩) (by assumption) ?_
        rotate_left
        · intro w hSw
          try dsimp only at hSw
          go_simp
          try with_reducible rfl
        try simp only [Act.put, List.setIfInBounds_toArray, List.set_cons_zero, List.set_cons_succ]
        refine wpAnyH_take (i := 1) (v := ?_) (by (simp only [List.getElem?_toArray, List.getElem?_cons_succ, List.getElem?_cons_zero]); (try exact rfl)) (by kernel_rfl) (by kernel_rfl) (by kernel_rfl) (by intro _ _ _ h; exact h) (Or.inl ⟨by rfl, ?_⟩) (by assumption) ?_
        rotate_left
        · intro w hSw
          try dsimp only at hSw
          go_simp
          try with_reducible rfl
        try simp only [Act.put, List.setIfInBounds_toArray, List.set_cons_zero, List.set_cons_succ]
        refine wpAnyH_take (i := 3) (v := ?_) (by (simp only [List.getElem?_toArray, List.getElem?_cons_succ, List.getElem?_cons_zero]); (try exact rfl)) (by kernel_rfl) (by kernel_rfl) (by kernel_rfl) (by intro _ _ _ h; exact h) (Or.inl ⟨by rfl, ?_⟩) (by assumption) ?_
        rotate_left
        · intro w hSw
          try dsimp only at hSw
          go_simp
          try with_reducible rfl
        try simp only [Act.put, List.setIfInBounds_toArray, List.set_cons_zero, List.set_cons_succ]
        refine wpAnyH_take (i := 5) (v := ?_) (by (simp only [List.getElem?_toArray, List.getElem?_cons_succ, List.getElem?_cons_zero]); (try exact rfl)) (by kernel_rfl) (by kernel_rfl) (by kernel_rfl) (by intro _ _ _ h; exact h) (Or.inl ⟨by rfl, ?_⟩) (by assumption) ?_
        rotate_left
        · intro w hSw
          try dsimp only at hSw
          go_simp
          try with_reducible rfl
        try simp only [Act.put, List.setIfInBounds_toArray, List.set_cons_zero, List.set_cons_succ]
        refine wpAnyH_ready (rs := [2, 8, 9]) (by kernel_rfl) (by simp) ?_
        refine (AllReadyH.cons (by (simp only [List.getElem?_toArray, List.getElem?_cons_succ, List.getElem?_cons_zero]); (try exact rfl)) (fun K hK => ?_) (AllReadyH.cons (by (simp only [List.getElem?_toArray, List.getElem?_cons_succ, List.getElem?_cons_zero]); (try exact rfl)) (fun K hK => ?_) (AllReadyH.cons (by (simp only [List.getElem?_toArray, List.getElem?_cons_succ, List.getElem?_cons_zero]); (try exact rfl)) (fun K hK => ?_) AllReadyH.nil)))
        go_simp
        go_at_call 34
        refine (C1.out _).mono ?_
        rintro e uc_1 ⟨rfl, bb⟩
        have Duc_1 : Hid (Below z2.heap.size z2 uc_1) := Below.trans D0.out (bb.mono D0.out.size)
        clear bb
        (first | refine hK.out _ _ ?_ (fun hHeld => ?_) | (go_wp2_with fail; refine hK.out _ _ ?_ (fun hHeld => ?_)))
        · try dsimp only
          exact KS.out _ Duc_1.out
        clear hK K
        try simp only [Act.put, List.setIfInBounds_toArray, List.set_cons_zero, List.set_cons_succ]
        refine wpAnyH_ready (rs := [4, 8, 9]) (by kernel_rfl) (by simp) ?_
        refine (AllReadyH.cons (by (simp only [List.getElem?_toArray, List.getElem?_cons_succ, List.getElem?_cons_zero]); (try exact rfl)) (fun K hK => ?_) (AllReadyH.cons (by (simp only [List.getElem?_toArray, List.getElem?_cons_succ, List.getElem?_cons_zero]); (try exact rfl)) (fun K hK => ?_) (AllReadyH.cons (by (simp only [List.getElem?_toArray, List.getElem?_cons_succ, List.getElem?_cons_zero]); (try exact rfl)) (fun K hK => ?_) AllReadyH.nil)))
        go_simp
        go_at_call 35
        refine (C2.out _).mono ?_
        rintro e uc_2 ⟨rfl, bb⟩
        have Duc_2 : Hid (Below z2.heap.size z2 uc_2) := Below.trans Duc_1.out (bb.mono Duc_1.out.size)
        clear bb
        (first | refine hK.out _ _ ?_ (fun hHeld => ?_) | (go_wp2_with fail; refine hK.out _ _ ?_ (fun hHeld => ?_)))
        · try dsimp only
          exact KS.out _ Duc_2.out
        clear hK K
        try simp only [Act.put, List.setIfInBounds_toArray, List.set_cons_zero, List.set_cons_succ]
        refine wpAnyH_ready (rs := [6, 8, 9]) (by kernel_rfl) (by simp) ?_
        refine (AllReadyH.cons (by (simp only [List.getElem?_toArray, List.getElem?_cons_succ, List.getElem?_cons_zero]); (try exact rfl)) (fun K hK => ?_) (AllReadyH.cons (by (simp only [List.getElem?_toArray, List.getElem?_cons_succ, List.getElem?_cons_zero]); (try exact rfl)) (fun K hK => ?_) (AllReadyH.cons (by (simp only [List.getElem?_toArray, List.getElem?_cons_succ, List.getElem?_cons_zero]); (try exact rfl)) (fun K hK => ?_) AllReadyH.nil)))
        go_simp
        go_at_call 35
        refine (C3.out _).mono ?_
        rintro e uc_3 ⟨rfl, bb⟩
        have Duc_3 : Hid (Below z2.heap.size z2 uc_3) := Below.trans Duc_2.out (bb.mono Duc_2.out.size)
        clear bb
        (first | refine hK.out _ _ ?_ (fun hHeld => ?_) | (go_wp2_with fail; refine hK.out _ _ ?_ (fun hHeld => ?_)))
        · try dsimp only
          exact KS.out _ Duc_3.out
        clear hK K
        try simp only [Act.put, List.setIfInBounds_toArray, List.set_cons_zero, List.set_cons_succ]
        refine wpAnyH_ready (rs := [7, 8, 9]) (by kernel_rfl) (by simp) ?_
        refine (AllReadyH.cons (by (simp only [List.getElem?_toArray, List.getElem?_cons_succ, List.getElem?_cons_zero]); (try exact rfl)) (fun K hK => ?_) (AllReadyH.cons (by (simp only [List.getElem?_toArray, List.getElem?_cons_succ, List.getElem?_cons_zero]); (try exact rfl)) (fun K hK => ?_) (AllReadyH.cons (by (simp only [List.getElem?_toArray, List.getElem?_cons_succ, List.getElem?_cons_zero]); (try exact rfl)) (fun K hK => ?_) AllReadyH.nil)))
        go_simp
        go_at_call 36
        refine (C4.out _).mono ?_
        rintro e uc_4 ⟨rfl, bb⟩
        have Duc_4 : Hid (Below z2.heap.size z2 uc_4) := Below.trans Duc_3.out (bb.mono Duc_3.out.size)
        clear bb
        (first | refine hK.out _ _ ?_ (fun hHeld => ?_) | (go_wp2_with fail; refine hK.out _ _ ?_ (fun hHeld => ?_)))
        · try dsimp only
          exact KS.out _ Duc_4.out
        clear hK K
        try simp only [Act.put, List.setIfInBounds_toArray, List.set_cons_zero, List.set_cons_succ]
        refine wpAnyH_ready (rs := [8, 9]) (by kernel_rfl) (by simp) ?_
        refine (AllReadyH.cons (by (simp only [List.getElem?_toArray, List.getElem?_cons_succ, List.getElem?_cons_zero]); (try exact rfl)) (fun K hK => ?_) (AllReadyH.cons (by (simp only [List.getElem?_toArray, List.getElem?_cons_succ, List.getElem?_cons_zero]); (try exact rfl)) (fun K hK => ?_) AllReadyH.nil))
        go_simp
        generalize hA : World.alloc uc_4 (.cells #[.int .i64 0, .int .i64 0] 71) = ac_5
        obtain ⟨pa, hp⟩ : ∃ p, p = uc_4.heap.size := ⟨_, rfl⟩
        have ba : Below uc_4.heap.size uc_4 ac_5 := by rw [← hA]; exact Below.alloc (Below.refl _ _) (Nat.le_refl _) _
        have Zaac_5 := Lib.hid (show ac_5.heap[pa]? = some (.cells #[.int .i64 0, .int .i64 0] 71 (0, 0)) from by rw [← hA, hp]; exact heap_alloc_new _ _)
        have tpa : z2.heap.size ≤ pa := by rw [hp]; exact Duc_4.out.size
        have Dac_5 : Hid (Below z2.heap.size z2 ac_5) := Below.trans Duc_4.out (ba.mono Duc_4.out.size)
        rw [← hp]
        clear hA hp ba
        (first | refine hK.out _ _ ?_ (fun hHeld => ?_) | (go_wp2_with fail; refine hK.out _ _ ?_ (fun hHeld => ?_)))
        · try dsimp only
          exact KS.out _ Dac_5.out
        clear hK K
        try simp only [Act.put, List.setIfInBounds_toArray, List.set_cons_zero, List.set_cons_succ]
        refine wpAnyH_ready (rs := [9]) (by kernel_rfl) (by simp) ?_
        refine (AllReadyH.cons (by (simp only [List.getElem?_toArray, List.getElem?_cons_succ, List.getElem?_cons_zero]); (try exact rfl)) (fun K hK => ?_) AllReadyH.nil)
        go_simp
        generalize hA : World.alloc ac_5 (.cells #[.int .i64 0, .int .i64 0] 71) = ac_6
        obtain ⟨pb, hp⟩ : ∃ p, p = ac_5.heap.size := ⟨_, rfl⟩
        have ba : Below ac_5.heap.size ac_5 ac_6 := by rw [← hA]; exact Below.alloc (Below.refl _ _) (Nat.le_refl _) _
        have Zbac_6 := Lib.hid (show ac_6.heap[pb]? = some (.cells #[.int .i64 0, .int .i64 0] 71 (0, 0)) from by rw [← hA, hp]; exact heap_alloc_new _ _)
        have tpb : z2.heap.size ≤ pb := by rw [hp]; exact Dac_5.out.size
        have na_b : pa ≠ pb := by have hh := box_lt Zaac_5.out; rw [hp]; intro e; rw [e] at hh; exact Nat.lt_irrefl _ hh
        have Dac_6 : Hid (Below z2.heap.size z2 ac_6) := Below.trans Dac_5.out (ba.mono Dac_5.out.size)
        have Zaac_6 := Lib.hid ((ba.block pa (box_lt Zaac_5.out)).trans Zaac_5.out)
        rw [← hp]
        clear hA hp ba
        (first | refine hK.out _ _ ?_ (fun hHeld => ?_) | (go_wp2_with fail; refine hK.out _ _ ?_ (fun hHeld => ?_)))
        · try dsimp only
          exact KS.out _ Dac_6.out
        clear hK K
        try simp only [Act.put, List.setIfInBounds_toArray, List.set_cons_zero, List.set_cons_succ]
        refine wpAnyH_ready (rs := [10]) (by kernel_rfl) (by simp) ?_
        refine AllReadyH.cons (by (simp only [List.getElem?_toArray, List.getElem?_cons_succ, List.getElem?_cons_zero]); (try exact rfl)) (fun K hK => ?_) AllReadyH.nil
        refine step_store_Pr rfl _ _ rfl pa (⟨0, 0⟩ : Pr) (⟨p.s - g.s, p.h - g.h⟩ : Pr) _ rfl rfl Zaac_6.out ?_
        intro ec_7 hE oE bE
        have Dec_7 : Hid (Below z2.heap.size z2 ec_7) := Below.trans Dac_6.out (bE.mono tpa)
        have Zaec_7 := Lib.hid hE
        have Zbec_7 := Lib.hid ((oE pb (by first | assumption | exact Ne.symm (by assumption))).trans Zbac_6.out)
        clear hE oE bE
        refine hK.out _ _ ?_ (fun hHeld => ?_)
        · try dsimp only
          exact KS.out _ Dec_7.out
        clear hK K
        try simp only [Act.put, List.setIfInBounds_toArray, List.set_cons_zero, List.set_cons_succ]
        refine wpAnyH_ready (rs := [11]) (by kernel_rfl) (by simp) ?_
        refine AllReadyH.cons (by (simp only [List.getElem?_toArray, List.getElem?_cons_succ, List.getElem?_cons_zero]); (try exact rfl)) (fun K hK => ?_) AllReadyH.nil
        refine step_store_Pr rfl _ _ rfl pb (⟨0, 0⟩ : Pr) (⟨p.y - g.y, p.p - g.p⟩ : Pr) _ rfl rfl Zbec_7.out ?_
        intro ec_8 hE oE bE
        have Dec_8 : Hid (Below z2.heap.size z2 ec_8) := Below.trans Dec_7.out (bE.mono tpb)
        have Zbec_8 := Lib.hid hE
        have Zaec_8 := Lib.hid ((oE pa (by first | assumption | exact Ne.symm (by assumption))).trans Zaec_7.out)
        clear hE oE bE
        refine hK.out _ _ ?_ (fun hHeld => ?_)
        · try dsimp only
          exact KS.out _ Dec_8.out
        clear hK K
        try simp only [Act.put, List.setIfInBounds_toArray, List.set_cons_zero, List.set_cons_succ]
        refine wpAnyH_done (by kernel_rfl) ?_ _
        go_wp2_with fail
        go_meet
        exact ⟨pa, pb, rfl, rfl, Dec_8, Zaec_8, Zbec_8⟩
        go_simp
        generalize hA : World.alloc uc_4 (.cells #[.int .i64 0, .int .i64 0] 71) = ac_9
        obtain ⟨pb, hp⟩ : ∃ p, p = uc_4.heap.size := ⟨_, rfl⟩
        have ba : Below uc_4.heap.size uc_4 ac_9 := by rw [← hA]; exact Below.alloc (Below.refl _ _) (Nat.le_refl _) _
        have Zbac_9 := Lib.hid (show ac_9.heap[pb]? = some (.cells #[.int .i64 0, .int .i64 0] 71 (0, 0)) from by rw [← hA, hp]; exact heap_alloc_new _ _)
        have tpb : z2.heap.size ≤ pb := by rw [hp]; exact Duc_4.out.size
        have Dac_9 : Hid (Below z2.heap.size z2 ac_9) := Below.trans Duc_4.out (ba.mono Duc_4.out.size)
        rw [← hp]
        clear hA hp ba
        (first | refine hK.out _ _ ?_ (fun hHeld => ?_) | (go_wp2_with fail; refine hK.out _ _ ?_ (fun hHeld => ?_)))
        · try dsimp only
          exact KS.out _ Dac_9.out
        clear hK K
        try simp only [Act.put, List.setIfInBounds_toArray, List.set_cons_zero, List.set_cons_succ]
        refine wpAnyH_ready (rs := [8]) (by kernel_rfl) (by simp) ?_
        refine (AllReadyH.cons (by (simp only [List.getElem?_toArray, List.getElem?_cons_succ, List.getElem?_cons_zero]); (try exact rfl)) (fun K hK => ?_) AllReadyH.nil)
        go_simp
        generalize hA : World.alloc ac_9 (.cells #[.int .i64 0, .int .i64 0] 71) = ac_10
        obtain ⟨pa, hp⟩ : ∃ p, p = ac_9.heap.size := ⟨_, rfl⟩
        have ba : Below ac_9.heap.size ac_9 ac_10 := by rw [← hA]; exact Below.alloc (Below.refl _ _) (Nat.le_refl _) _
        have Zaac_10 := Lib.hid (show ac_10.heap[pa]? = some (.cells #[.int .i64 0, .int .i64 0] 71 (0, 0)) from by rw [← hA, hp]; exact heap_alloc_new _ _)
        have tpa : z2.heap.size ≤ pa := by rw [hp]; exact Dac_9.out.size
        have nb_a : pb ≠ pa := by have hh := box_lt Zbac_9.out; rw [hp]; intro e; rw [e] at hh; exact Nat.lt_irrefl _ hh
        have Dac_10 : Hid (Below z2.heap.size z2 ac_10) := Below.trans Dac_9.out (ba.mono Dac_9.out.size)
        have Zbac_10 := Lib.hid ((ba.block pb (box_lt Zbac_9.out)).trans Zbac_9.out)
        rw [← hp]
        clear hA hp ba
        (first | refine hK.out _ _ ?_ (fun hHeld => ?_) | (go_wp2_with fail; refine hK.out _ _ ?_ (fun hHeld => ?_)))
        · try dsimp only
          exact KS.out _ Dac_10.out
        clear hK K
        try simp only [Act.put, List.setIfInBounds_toArray, List.set_cons_zero, List.set_cons_succ]
        refine wpAnyH_ready (rs := [10]) (by kernel_rfl) (by simp) ?_
        refine AllReadyH.cons (by (simp only [List.getElem?_toArray, List.getElem?_cons_succ, List.getElem?_cons_zero]); (try exact rfl)) (fun K hK => ?_) AllReadyH.nil
        refine step_store_Pr rfl _ _ rfl pa (⟨0, 0⟩ : Pr) (⟨p.s - g.s, p.h - g.h⟩ : Pr) _ rfl rfl Zaac_10.out ?_
        intro ec_11 hE oE bE
        have Dec_11 : Hid (Below z2.heap.size z2 ec_11) := Below.trans Dac_10.out (bE.mono tpa)
        have Zaec_11 := Lib.hid hE
        have Zbec_11 := Lib.hid ((oE pb (by first | assumption | exact Ne.symm (by assumption))).trans Zbac_10.out)
        clear hE oE bE
        refine hK.out _ _ ?_ (fun hHeld => ?_)
        · try dsimp only
          exact KS.out _ Dec_11.out
        clear hK K
        try simp only [Act.put, List.setIfInBounds_toArray, List.set_cons_zero, List.set_cons_succ]
        refine wpAnyH_ready (rs := [11]) (by kernel_rfl) (by simp) ?_
        refine AllReadyH.cons (by (simp only [List.getElem?_toArray, List.getElem?_cons_succ, List.getElem?_cons_zero]); (try exact rfl)) (fun K hK => ?_) AllReadyH.nil
        refine step_store_Pr rfl _ _ rfl pb (⟨0, 0⟩ : Pr) (⟨p.y - g.y, p.p - g.p⟩ : Pr) _ rfl rfl Zbec_11.out ?_
        intro ec_12 hE oE bE
        have Dec_12 : Hid (Below z2.heap.size z2 ec_12) := Below.trans Dec_11.out (bE.mono tpb)
        have Zbec_12 := Lib.hid hE
        have Zaec_12 := Lib.hid ((oE pa (by first | assumption | exact Ne.symm (by assumption))).trans Zaec_11.out)
        clear hE oE bE
        refine hK.out _ _ ?_ (fun hHeld => ?_)
        · try dsimp only
          exact KS.out _ Dec_12.out
        clear hK K
        try simp only [Act.put, List.setIfInBounds_toArray, List.set_cons_zero, List.set_cons_succ]
        refine wpAnyH_done (by kernel_rfl) ?_ _
        go_wp2_with fail
        go_meet
        exact ⟨pa, pb, rfl, rfl, Dec_12, Zaec_12, Zbec_12⟩
        go_simp
        generalize hA : World.alloc uc_3 (.cells #[.int .i64 0, .int .i64 0] 71) = ac_13
        obtain ⟨pa, hp⟩ : ∃ p, p = uc_3.heap.size := ⟨_, rfl⟩
        have ba : Below uc_3.heap.size uc_3 ac_13 := by rw [← hA]; exact Below.alloc (Below.refl _ _) (Nat.le_refl _) _
        have Zaac_13 := Lib.hid (show ac_13.heap[pa]? = some (.cells #[.int .i64 0, .int .i64 0] 71 (0, 0)) from by rw [← hA, hp]; exact heap_alloc_new _ _)
        have tpa : z2.heap.size ≤ pa := by rw [hp]; exact Duc_3.out.size
        have Dac_13 : Hid (Below z2.heap.size z2 ac_13) := Below.trans Duc_3.out (ba.mono Duc_3.out.size)
        rw [← hp]
        clear hA hp ba
        (first | refine hK.out _ _ ?_ (fun hHeld => ?_) | (go_wp2_with fail; refine hK.out _ _ ?_ (fun hHeld => ?_)))
        · try dsimp only
          exact KS.out _ Dac_13.out
        clear hK K
        try simp only [Act.put, List.setIfInBounds_toArray, List.set_cons_zero, List.set_cons_succ]
        refine wpAnyH_ready (rs := [7, 9]) (by kernel_rfl) (by simp) ?_
        refine (AllReadyH.cons (by (simp only [List.getElem?_toArray, List.getElem?_cons_succ, List.getElem?_cons_zero]); (try exact rfl)) (fun K hK => ?_) (AllReadyH.cons (by (simp only [List.getElem?_toArray, List.getElem?_cons_succ, List.getElem?_cons_zero]); (try exact rfl)) (fun K hK => ?_) AllReadyH.nil))
        go_simp
        go_at_call 36
        refine (C4.out _).mono ?_
        rintro e uc_14 ⟨rfl, bb⟩
        have Duc_14 : Hid (Below z2.heap.size z2 uc_14) := Below.trans Dac_13.out (bb.mono Dac_13.out.size)
        have Zauc_14 := Lib.hid ((bb.block pa (box_lt Zaac_13.out)).trans Zaac_13.out)
        clear bb
        (first | refine hK.out _ _ ?_ (fun hHeld => ?_) | (go_wp2_with fail; refine hK.out _ _ ?_ (fun hHeld => ?_)))
        · try dsimp only
          exact KS.out _ Duc_14.out
        clear hK K
        try simp only [Act.put, List.setIfInBounds_toArray, List.set_cons_zero, List.set_cons_succ]
        refine wpAnyH_ready (rs := [9]) (by kernel_rfl) (by simp) ?_
        refine (AllReadyH.cons (by (simp only [List.getElem?_toArray, List.getElem?_cons_succ, List.getElem?_cons_zero]); (try exact rfl)) (fun K hK => ?_) AllReadyH.nil)
        go_simp
        generalize hA : World.alloc uc_14 (.cells #[.int .i64 0, .int .i64 0] 71) = ac_15
        obtain ⟨pb, hp⟩ : ∃ p, p = uc_14.heap.size := ⟨_, rfl⟩
        have ba : Below uc_14.heap.size uc_14 ac_15 := by rw [← hA]; exact Below.alloc (Below.refl _ _) (Nat.le_refl _) _
        have Zbac_15 := Lib.hid (show ac_15.heap[pb]? = some (.cells #[.int .i64 0, .int .i64 0] 71 (0, 0)) from by rw [← hA, hp]; exact heap_alloc_new _ _)
        have tpb : z2.heap.size ≤ pb := by rw [hp]; exact Duc_14.out.size
        have na_b : pa ≠ pb := by have hh := box_lt Zauc_14.out; rw [hp]; intro e; rw [e] at hh; exact Nat.lt_irrefl _ hh
        have Dac_15 : Hid (Below z2.heap.size z2 ac_15) := Below.trans Duc_14.out (ba.mono Duc_14.out.size)
        have Zaac_15 := Lib.hid ((ba.block pa (box_lt Zauc_14.out)).trans Zauc_14.out)
        rw [← hp]
        clear hA hp ba
        (first | refine hK.out _ _ ?_ (fun hHeld => ?_) | (go_wp2_with fail; refine hK.out _ _ ?_ (fun hHeld => ?_)))
        · try dsimp only
          exact KS.out _ Dac_15.out
        clear hK K
        try simp only [Act.put, List.setIfInBounds_toArray, List.set_cons_zero, List.set_cons_succ]
        refine wpAnyH_ready (rs := [10]) (by kernel_rfl) (by simp) ?_
        refine AllReadyH.cons (by (simp only [List.getElem?_toArray, List.getElem?_cons_succ, List.getElem?_cons_zero]); (try exact rfl)) (fun K hK => ?_) AllReadyH.nil
        refine step_store_Pr rfl _ _ rfl pa (⟨0, 0⟩ : Pr) (⟨p.s - g.s, p.h - g.h⟩ : Pr) _ rfl rfl Zaac_15.out ?_
        intro ec_16 hE oE bE
        have Dec_16 : Hid (Below z2.heap.size z2 ec_16) := Below.trans Dac_15.out (bE.mono tpa)
        have Zaec_16 := Lib.hid hE
        have Zbec_16 := Lib.hid ((oE pb (by first | assumption | exact Ne.symm (by assumption))).trans Zbac_15.out)
        clear hE oE bE
        refine hK.out _ _ ?_ (fun hHeld => ?_)
        · try dsimp only
          exact KS.out _ Dec_16.out
        clear hK K
        try simp only [Act.put, List.setIfInBounds_toArray, List.set_cons_zero, List.set_cons_succ]
        refine wpAnyH_ready (rs := [11]) (by kernel_rfl) (by simp) ?_
        refine AllReadyH.cons (by (simp only [List.getElem?_toArray, List.getElem?_cons_succ, List.getElem?_cons_zero]); (try exact rfl)) (fun K hK => ?_) AllReadyH.nil
        refine step_store_Pr rfl _ _ rfl pb (⟨0, 0⟩ : Pr) (⟨p.y - g.y, p.p - g.p⟩ : Pr) _ rfl rfl Zbec_16.out ?_
        intro ec_17 hE oE bE
        have Dec_17 : Hid (Below z2.heap.size z2 ec_17) := Below.trans Dec_16.out (bE.mono tpb)
        have Zbec_17 := Lib.hid hE
        have Zaec_17 := Lib.hid ((oE pa (by first | assumption | exact Ne.symm (by assumption))).trans Zaec_16.out)
        clear hE oE bE
        refine hK.out _ _ ?_ (fun hHeld => ?_)
        · try dsimp only
          exact KS.out _ Dec_17.out
        clear hK K
        try simp only [Act.put, List.setIfInBounds_toArray, List.set_cons_zero, List.set_cons_succ]
        refine wpAnyH_done (by kernel_rfl) ?_ _
        go_wp2_with fail
        go_meet
        exact ⟨pa, pb, rfl, rfl, Dec_17, Zaec_17, Zbec_17⟩
        go_simp
        generalize hA : World.alloc ac_13 (.cells #[.int .i64 0, .int .i64 0] 71) = ac_18
        obtain ⟨pb, hp⟩ : ∃ p, p = ac_13.heap.size := ⟨_, rfl⟩
        have ba : Below ac_13.heap.size ac_13 ac_18 := by rw [← hA]; exact Below.alloc (Below.refl _ _) (Nat.le_refl _) _
        have Zbac_18 := Lib.hid (show ac_18.heap[pb]? = some (.cells #[.int .i64 0, .int .i64 0] 71 (0, 0)) from by rw [← hA, hp]; exact heap_alloc_new _ _)
        have tpb : z2.heap.size ≤ pb := by rw [hp]; exact Dac_13.out.size
        have na_b : pa ≠ pb := by have hh := box_lt Zaac_13.out; rw [hp]; intro e; rw [e] at hh; exact Nat.lt_irrefl _ hh
        have Dac_18 : Hid (Below z2.heap.size z2 ac_18) := Below.trans Dac_13.out (ba.mono Dac_13.out.size)
        have Zaac_18 := Lib.hid ((ba.block pa (box_lt Zaac_13.out)).trans Zaac_13.out)
        rw [← hp]
        clear hA hp ba
        (first | refine hK.out _ _ ?_ (fun hHeld => ?_) | (go_wp2_with fail; refine hK.out _ _ ?_ (fun hHeld => ?_)))
        · try dsimp only
          exact KS.out _ Dac_18.out
        clear hK K
        try simp only [Act.put, List.setIfInBounds_toArray, List.set_cons_zero, List.set_cons_succ]
        refine wpAnyH_ready (rs := [7]) (by kernel_rfl) (by simp) ?_
        refine (AllReadyH.cons (by (simp only [List.getElem?_toArray, List.getElem?_cons_succ, List.getElem?_cons_zero]); (try exact rfl)) (fun K hK => ?_) AllReadyH.nil)
        go_simp
        go_at_call 36
        refine (C4.out _).mono ?_
        rintro e uc_19 ⟨rfl, bb⟩
        have Duc_19 : Hid (Below z2.heap.size z2 uc_19) := Below.trans Dac_18.out (bb.mono Dac_18.out.size)
        have Zauc_19 := Lib.hid ((bb.block pa (box_lt Zaac_18.out)).trans Zaac_18.out)
        have Zbuc_19 := Lib.hid ((bb.block pb (box_lt Zbac_18.out)).trans Zbac_18.out)
        clear bb
        (first | refine hK.out _ _ ?_ (fun hHeld => ?_) | (go_wp2_with fail; refine hK.out _ _ ?_ (fun hHeld => ?_)))
        · try dsimp only
          exact KS.out _ Duc_19.out
        clear hK K
        try simp only [Act.put, List.setIfInBounds_toArray, List.set_cons_zero, List.set_cons_succ]
        refine wpAnyH_ready (rs := [10]) (by kernel_rfl) (by simp) ?_
        refine AllReadyH.cons (by (simp only [List.getElem?_toArray, List.getElem?_cons_succ, List.getElem?_cons_zero]); (try exact rfl)) (fun K hK => ?_) AllReadyH.nil
        refine step_store_Pr rfl _ _ rfl pa (⟨0, 0⟩ : Pr) (⟨p.s - g.s, p.h - g.h⟩ : Pr) _ rfl rfl Zauc_19.out ?_
        intro ec_20 hE oE bE
        have Dec_20 : Hid (Below z2.heap.size z2 ec_20) := Below.trans Duc_19.out (bE.mono tpa)
        have Zaec_20 := Lib.hid hE
        have Zbec_20 := Lib.hid ((oE pb (by first | assumption | exact Ne.symm (by assumption))).trans Zbuc_19.out)
        clear hE oE bE
        refine hK.out _ _ ?_ (fun hHeld => ?_)
        · try dsimp only
          exact KS.out _ Dec_20.out
        clear hK K
        try simp only [Act.put, List.setIfInBounds_toArray, List.set_cons_zero, List.set_cons_succ]
        refine wpAnyH_ready (rs := [11]) (by kernel_rfl) (by simp) ?_
        refine AllReadyH.cons (by (simp only [List.getElem?_toArray, List.getElem?_cons_succ, List.getElem?_cons_zero]); (try exact rfl)) (fun K hK => ?_) AllReadyH.nil
        refine step_store_Pr rfl _ _ rfl pb (⟨0, 0⟩ : Pr) (⟨p.y - g.y, p.p - g.p⟩ : Pr) _ rfl rfl Zbec_20.out ?_
        intro ec_21 hE oE bE
        have Dec_21 : Hid (Below z2.heap.size z2 ec_21) := Below.trans Dec_20.out (bE.mono tpb)
        have Zbec_21 := Lib.hid hE
        have Zaec_21 := Lib.hid ((oE pa (by first | assumption | exact Ne.symm (by assumption))).trans Zaec_20.out)
        clear hE oE bE
        refine hK.out _ _ ?_ (fun hHeld => ?_)
        · try dsimp only
          exact KS.out _ Dec_21.out
        clear hK K
        try simp only [Act.put, List.setIfInBounds_toArray, List.set_cons_zero, List.set_cons_succ]
        refine wpAnyH_done (by kernel_rfl) ?_ _
        go_wp2_with fail
        go_meet
        exact ⟨pa, pb, rfl, rfl, Dec_21, Zaec_21, Zbec_21⟩
        go_simp
        generalize hA : World.alloc uc_3 (.cells #[.int .i64 0, .int .i64 0] 71) = ac_22
        obtain ⟨pb, hp⟩ : ∃ p, p = uc_3.heap.size := ⟨_, rfl⟩
        have ba : Below uc_3.heap.size uc_3 ac_22 := by rw [← hA]; exact Below.alloc (Below.refl _ _) (Nat.le_refl _) _
        have Zbac_22 := Lib.hid (show ac_22.heap[pb]? = some (.cells #[.int .i64 0, .int .i64 0] 71 (0, 0)) from by rw [← hA, hp]; exact heap_alloc_new _ _)
        have tpb : z2.heap.size ≤ pb := by rw [hp]; exact Duc_3.out.size
        have Dac_22 : Hid (Below z2.heap.size z2 ac_22) := Below.trans Duc_3.out (ba.mono Duc_3.out.size)
        rw [← hp]
        clear hA hp ba
        (first | refine hK.out _ _ ?_ (fun hHeld => ?_) | (go_wp2_with fail; refine hK.out _ _ ?_ (fun hHeld => ?_)))
        · try dsimp only
          exact KS.out _ Dac_22.out
        clear hK K
        try simp only [Act.put, List.setIfInBounds_toArray, List.set_cons_zero, List.set_cons_succ]
        refine wpAnyH_ready (rs := [7, 8]) (by kernel_rfl) (by simp) ?_
        refine (AllReadyH.cons (by (simp only [List.getElem?_toArray, List.getElem?_cons_succ, List.getElem?_cons_zero]); (try exact rfl)) (fun K hK => ?_) (AllReadyH.cons (by (simp only [List.getElem?_toArray, List.getElem?_cons_succ, List.getElem?_cons_zero]); (try exact rfl)) (fun K hK => ?_) AllReadyH.nil))
        go_simp
        go_at_call 36
        refine (C4.out _).mono ?_
        rintro e uc_23 ⟨rfl, bb⟩
        have Duc_23 : Hid (Below z2.heap.size z2 uc_23) := Below.trans Dac_22.out (bb.mono Dac_22.out.size)
        have Zbuc_23 := Lib.hid ((bb.block pb (box_lt Zbac_22.out)).trans Zbac_22.out)
        clear bb
        (first | refine hK.out _ _ ?_ (fun hHeld => ?_) | (go_wp2_with fail; refine hK.out _ _ ?_ (fun hHeld => ?_)))
        · try dsimp only
          exact KS.out _ Duc_23.out
        clear hK K
        try simp only [Act.put, List.setIfInBounds_toArray, List.set_cons_zero, List.set_cons_succ]
        refine wpAnyH_ready (rs := [8]) (by kernel_rfl) (by simp) ?_
        refine (AllReadyH.cons (by (simp only [List.getElem?_toArray, List.getElem?_cons_succ, List.getElem?_cons_zero]); (try exact rfl)) (fun K hK => ?_) AllReadyH.nil)
        go_simp
        generalize hA : World.alloc uc_23 (.cells #[.int .i64 0, .int .i64 0] 71) = ac_24
        obtain ⟨pa, hp⟩ : ∃ p, p = uc_23.heap.size := ⟨_, rfl⟩
        have ba : Below uc_23.heap.size uc_23 ac_24 := by rw [← hA]; exact Below.alloc (Below.refl _ _) (Nat.le_refl _) _
        have Zaac_24 := Lib.hid (show ac_24.heap[pa]? = some (.cells #[.int .i64 0, .int .i64 0] 71 (0, 0)) from by rw [← hA, hp]; exact heap_alloc_new _ _)
        have tpa : z2.heap.size ≤ pa := by rw [hp]; exact Duc_23.out.size
        have nb_a : pb ≠ pa := by have hh := box_lt Zbuc_23.out; rw [hp]; intro e; rw [e] at hh; exact Nat.lt_irrefl _ hh
        have Dac_24 : Hid (Below z2.heap.size z2 ac_24) := Below.trans Duc_23.out (ba.mono Duc_23.out.size)
        have Zbac_24 := Lib.hid ((ba.block pb (box_lt Zbuc_23.out)).trans Zbuc_23.out)
        rw [← hp]
        clear hA hp ba
        (first | refine hK.out _ _ ?_ (fun hHeld => ?_) | (go_wp2_with fail; refine hK.out _ _ ?_ (fun hHeld => ?_)))
        · try dsimp only
          exact KS.out _ Dac_24.out
        clear hK K
        try simp only [Act.put, List.setIfInBounds_toArray, List.set_cons_zero, List.set_cons_succ]
        refine wpAnyH_ready (rs := [10]) (by kernel_rfl) (by simp) ?_
        refine AllReadyH.cons (by (simp only [List.getElem?_toArray, List.getElem?_cons_succ, List.getElem?_cons_zero]); (try exact rfl)) (fun K hK => ?_) AllReadyH.nil
        refine step_store_Pr rfl _ _ rfl pa (⟨0, 0⟩ : Pr) (⟨p.s - g.s, p.h - g.h⟩ : Pr) _ rfl rfl Zaac_24.out ?_
        intro ec_25 hE oE bE
        have Dec_25 : Hid (Below z2.heap.size z2 ec_25) := Below.trans Dac_24.out (bE.mono tpa)
        have Zaec_25 := Lib.hid hE
        have Zbec_25 := Lib.hid ((oE pb (by first | assumption | exact Ne.symm (by assumption))).trans Zbac_24.out)
        clear hE oE bE
        refine hK.out _ _ ?_ (fun hHeld => ?_)
        · try dsimp only
          exact KS.out _ Dec_25.out
        clear hK K
        try simp only [Act.put, List.setIfInBounds_toArray, List.set_cons_zero, List.set_cons_succ]
        refine wpAnyH_ready (rs := [11]) (by kernel_rfl) (by simp) ?_
        refine AllReadyH.cons (by (simp only [List.getElem?_toArray, List.getElem?_cons_succ, List.getElem?_cons_zero]); (try exact rfl)) (fun K hK => ?_) AllReadyH.nil
        refine step_store_Pr rfl _ _ rfl pb (⟨0, 0⟩ : Pr) (⟨p.y - g.y, p.p - g.p⟩ : Pr) _ rfl rfl Zbec_25.out ?_
        intro ec_26 hE oE bE
        have Dec_26 : Hid (Below z2.heap.size z2 ec_26) := Below.trans Dec_25.out (bE.mono tpb)
        have Zbec_26 := Lib.hid hE
        have Zaec_26 := Lib.hid ((oE pa (by first | assumption | exact Ne.symm (by assumption))).trans Zaec_25.out)
        clear hE oE bE
        refine hK.out _ _ ?_ (fun hHeld => ?_)
        · try dsimp only
          exact KS.out _ Dec_26.out
        clear hK K
        try simp only [Act.put, List.setIfInBounds_toArray, List.set_cons_zero, List.set_cons_succ]
        refine wpAnyH_done (by kernel_rfl) ?_ _
        go_wp2_with fail
        go_meet
        exact ⟨pa, pb, rfl, rfl, Dec_26, Zaec_26, Zbec_26⟩
        go_simp
        generalize hA : World.alloc ac_22 (.cells #[.int .i64 0, .int .i64 0] 71) = ac_27
        obtain ⟨pa, hp⟩ : ∃ p, p = ac_22.heap.size := ⟨_, rfl⟩
        have ba : Below ac_22.heap.size ac_22 ac_27 := by rw [← hA]; exact Below.alloc (Below.refl _ _) (Nat.le_refl _) _
        have Zaac_27 := Lib.hid (show ac_27.heap[pa]? = some (.cells #[.int .i64 0, .int .i64 0] 71 (0, 0)) from by rw [← hA, hp]; exact heap_alloc_new _ _)
        have tpa : z2.heap.size ≤ pa := by rw [hp]; exact Dac_22.out.size
        have nb_a : pb ≠ pa := by have hh := box_lt Zbac_22.out; rw [hp]; intro e; rw [e] at hh; exact Nat.lt_irrefl _ hh
        have Dac_27 : Hid (Below z2.heap.size z2 ac_27) := Below.trans Dac_22.out (ba.mono Dac_22.out.size)
        have Zbac_27 := Lib.hid ((ba.block pb (box_lt Zbac_22.out)).trans Zbac_22.out)
        rw [← hp]
        clear hA hp ba
        (first | refine hK.out _ _ ?_ (fun hHeld => ?_) | (go_wp2_with fail; refine hK.out _ _ ?_ (fun hHeld => ?_)))
        · try dsimp only
          exact KS.out _ Dac_27.out
        clear hK K
        try simp only [Act.put, List.setIfInBounds_toArray, List.set_cons_zero, List.set_cons_succ]
        refine wpAnyH_ready (rs := [7]) (by kernel_rfl) (by simp) ?_
        refine (AllReadyH.cons (by (simp only [List.getElem?_toArray, List.getElem?_cons_succ, List.getElem?_cons_zero]); (try exact rfl)) (fun K hK => ?_) AllReadyH.nil)
        go_simp
        go_at_call 36
        refine (C4.out _).mono ?_
        rintro e uc_28 ⟨rfl, bb⟩
        have Duc_28 : Hid (Below z2.heap.size z2 uc_28) := Below.trans Dac_27.out (bb.mono Dac_27.out.size)
        have Zbuc_28 := Lib.hid ((bb.block pb (box_lt Zbac_27.out)).trans Zbac_27.out)
        have Zauc_28 := Lib.hid ((bb.block pa (box_lt Zaac_27.out)).trans Zaac_27.out)
        clear bb
        (first | refine hK.out _ _ ?_ (fun hHeld => ?_) | (go_wp2_with fail; refine hK.out _ _ ?_ (fun hHeld => ?_)))
        · try dsimp only
          exact KS.out _ Duc_28.out
        clear hK K
        try simp only [Act.put, List.setIfInBounds_toArray, List.set_cons_zero, List.set_cons_succ]
        refine wpAnyH_ready (rs := [10]) (by kernel_rfl) (by simp) ?_
        refine AllReadyH.cons (by (simp only [List.getElem?_toArray, List.getElem?_cons_succ, List.getElem?_cons_zero]); (try exact rfl)) (fun K hK => ?_) AllReadyH.nil
        refine step_store_Pr rfl _ _ rfl pa (⟨0, 0⟩ : Pr) (⟨p.s - g.s, p.h - g.h⟩ : Pr) _ rfl rfl Zauc_28.out ?_
        intro ec_29 hE oE bE
        have Dec_29 : Hid (Below z2.heap.size z2 ec_29) := Below.trans Duc_28.out (bE.mono tpa)
        have Zaec_29 := Lib.hid hE
        have Zbec_29 := Lib.hid ((oE pb (by first | assumption | exact Ne.symm (by assumption))).trans Zbuc_28.out)
        clear hE oE bE
        refine hK.out _ _ ?_ (fun hHeld => ?_)
        · try dsimp only
          exact KS.out _ Dec_29.out
        clear hK K
        try simp only [Act.put, List.setIfInBounds_toArray, List.set_cons_zero, List.set_cons_succ]
        refine wpAnyH_ready (rs := [11]) (by kernel_rfl) (by simp) ?_
        refine AllReadyH.cons (by (simp only [List.getElem?_toArray, List.getElem?_cons_succ, List.getElem?_cons_zero]); (try exact rfl)) (fun K hK => ?_) AllReadyH.nil
        refine step_store_Pr rfl _ _ rfl pb (⟨0, 0⟩ : Pr) (⟨p.y - g.y, p.p - g.p⟩ : Pr) _ rfl rfl Zbec_29.out ?_
        intro ec_30 hE oE bE
        have Dec_30 : Hid (Below z2.heap.size z2 ec_30) := Below.trans Dec_29.out (bE.mono tpb)
        have Zbec_30 := Lib.hid hE
        have Zaec_30 := Lib.hid ((oE pa (by first | assumption | exact Ne.symm (by assumption))).trans Zaec_29.out)
        clear hE oE bE
        refine hK.out _ _ ?_ (fun hHeld => ?_)
        · try dsimp only
          exact KS.out _ Dec_30.out
        clear hK K
        try simp only [Act.put, List.setIfInBounds_toArray, List.set_cons_zero, List.set_cons_succ]
        refine wpAnyH_done (by kernel_rfl) ?_ _
        go_wp2_with fail
        go_meet
        exact ⟨pa, pb, rfl, rfl, Dec_30, Zaec_30, Zbec_30⟩
        go_simp
        generalize hA : World.alloc uc_2 (.cells #[.int .i64 0, .int .i64 0] 71) = ac_31
        obtain ⟨pa, hp⟩ : ∃ p, p = uc_2.heap.size := ⟨_, rfl⟩
        have ba : Below uc_2.heap.size uc_2 ac_31 := by rw [← hA]; exact Below.alloc (Below.refl _ _) (Nat.le_refl _) _
        have Zaac_31 := Lib.hid (show ac_31.heap[pa]? = some (.cells #[.int .i64 0, .int .i64 0] 71 (0, 0)) from by rw [← hA, hp]; exact heap_alloc_new _ _)
        have tpa : z2.heap.size ≤ pa := by rw [hp]; exact Duc_2.out.size
        have Dac_31 : Hid (Below z2.heap.size z2 ac_31) := Below.trans Duc_2.out (ba.mono Duc_2.out.size)
        rw [← hp]
        clear hA hp ba
        (first | refine hK.out _ _ ?_ (fun hHeld => ?_) | (go_wp2_with fail; refine hK.out _ _ ?_ (fun hHeld => ?_)))
        · try dsimp only
          exact KS.out _ Dac_31.out
        clear hK K
        try simp only [Act.put, List.setIfInBounds_toArray, List.set_cons_zero, List.set_cons_succ]
        refine wpAnyH_ready (rs := [6, 9]) (by kernel_rfl) (by simp) ?_
        refine (AllReadyH.cons (by (simp only [List.getElem?_toArray, List.getElem?_cons_succ, List.getElem?_cons_zero]); (try exact rfl)) (fun K hK => ?_) (AllReadyH.cons (by (simp only [List.getElem?_toArray, List.getElem?_cons_succ, List.getElem?_cons_zero]); (try exact rfl)) (fun K hK => ?_) AllReadyH.nil))
        go_simp
        go_at_call 35
        refine (C3.out _).mono ?_
        rintro e uc_32 ⟨rfl, bb⟩
        have Duc_32 : Hid (Below z2.heap.size z2 uc_32) := Below.trans Dac_31.out (bb.mono Dac_31.out.size)
        have Zauc_32 := Lib.hid ((bb.block pa (box_lt Zaac_31.out)).trans Zaac_31.out)
        clear bb
        (first | refine hK.out _ _ ?_ (fun hHeld => ?_) | (go_wp2_with fail; refine hK.out _ _ ?_ (fun hHeld => ?_)))
        · try dsimp only
          exact KS.out _ Duc_32.out
        clear hK K
        try simp only [Act.put, List.setIfInBounds_toArray, List.set_cons_zero, List.set_cons_succ]
        refine wpAnyH_ready (rs := [7, 9]) (by kernel_rfl) (by simp) ?_
        refine (AllReadyH.cons (by (simp only [List.getElem?_toArray, List.getElem?_cons_succ, List.getElem?_cons_zero]); (try exact rfl)) (fun K hK => ?_) (AllReadyH.cons (by (simp only [List.getElem?_toArray, List.getElem?_cons_succ, List.getElem?_cons_zero]); (try exact rfl)) (fun K hK => ?_) AllReadyH.nil))
        go_simp
        go_at_call 36
        refine (C4.out _).mono ?_
        rintro e uc_33 ⟨rfl, bb⟩
        have Duc_33 : Hid (Below z2.heap.size z2 uc_33) := Below.trans Duc_32.out (bb.mono Duc_32.out.size)
        have Zauc_33 := Lib.hid ((bb.block pa (box_lt Zauc_32.out)).trans Zauc_32.out)
        clear bb
        (first | refine hK.out _ _ ?_ (fun hHeld => ?_) | (go_wp2_with fail; refine hK.out _ _ ?_ (fun hHeld => ?_)))
        · try dsimp only
          exact KS.out _ Duc_33.out
        clear hK K
        try simp only [Act.put, List.setIfInBounds_toArray, List.set_cons_zero, List.set_cons_succ]
        refine wpAnyH_ready (rs := [9]) (by kernel_rfl) (by simp) ?_
        refine (AllReadyH.cons (by (simp only [List.getElem?_toArray, List.getElem?_cons_succ, List.getElem?_cons_zero]); (try exact rfl)) (fun K hK => ?_) AllReadyH.nil)
        go_simp
        generalize hA : World.alloc uc_33 (.cells #[.int .i64 0, .int .i64 0] 71) = ac_34
        obtain ⟨pb, hp⟩ : ∃ p, p = uc_33.heap.size := ⟨_, rfl⟩
        have ba : Below uc_33.heap.size uc_33 ac_34 := by rw [← hA]; exact Below.alloc (Below.refl _ _) (Nat.le_refl _) _
        have Zbac_34 := Lib.hid (show ac_34.heap[pb]? = some (.cells #[.int .i64 0, .int .i64 0] 71 (0, 0)) from by rw [← hA, hp]; exact heap_alloc_new _ _)
        have tpb : z2.heap.size ≤ pb := by rw [hp]; exact Duc_33.out.size
        have na_b : pa ≠ pb := by have hh := box_lt Zauc_33.out; rw [hp]; intro e; rw [e] at hh; exact Nat.lt_irrefl _ hh
        have Dac_34 : Hid (Below z2.heap.size z2 ac_34) := Below.trans Duc_33.out (ba.mono Duc_33.out.size)
        have Zaac_34 := Lib.hid ((ba.block pa (box_lt Zauc_33.out)).trans Zauc_33.out)
        rw [← hp]
        clear hA hp ba
        (first | refine hK.out _ _ ?_ (fun hHeld => ?_) | (go_wp2_with fail; refine hK.out _ _ ?_ (fun hHeld => ?_)))
        · try dsimp only
          exact KS.out _ Dac_34.out
        clear hK K
        try simp only [Act.put, List.setIfInBounds_toArray, List.set_cons_zero, List.set_cons_succ]
        refine wpAnyH_ready (rs := [10]) (by kernel_rfl) (by simp) ?_
        refine AllReadyH.cons (by (simp only [List.getElem?_toArray, List.getElem?_cons_succ, List.getElem?_cons_zero]); (try exact rfl)) (fun K hK => ?_) AllReadyH.nil
        refine step_store_Pr rfl _ _ rfl pa (⟨0, 0⟩ : Pr) (⟨p.s - g.s, p.h - g.h⟩ : Pr) _ rfl rfl Zaac_34.out ?_
        intro ec_35 hE oE bE
        have Dec_35 : Hid (Below z2.heap.size z2 ec_35) := Below.trans Dac_34.out (bE.mono tpa)
        have Zaec_35 := Lib.hid hE
        have Zbec_35 := Lib.hid ((oE pb (by first | assumption | exact Ne.symm (by assumption))).trans Zbac_34.out)
        clear hE oE bE
        refine hK.out _ _ ?_ (fun hHeld => ?_)
        · try dsimp only
          exact KS.out _ Dec_35.out
        clear hK K
        try simp only [Act.put, List.setIfInBounds_toArray, List.set_cons_zero, List.set_cons_succ]
        refine wpAnyH_ready (rs := [11]) (by kernel_rfl) (by simp) ?_
        refine AllReadyH.cons (by (simp only [List.getElem?_toArray, List.getElem?_cons_succ, List.getElem?_cons_zero]); (try exact rfl)) (fun K hK => ?_) AllReadyH.nil
        refine step_store_Pr rfl _ _ rfl pb (⟨0, 0⟩ : Pr) (⟨p.y - g.y, p.p - g.p⟩ : Pr) _ rfl rfl Zbec_35.out ?_
        intro ec_36 hE oE bE
        have Dec_36 : Hid (Below z2.heap.size z2 ec_36) := Below.trans Dec_35.out (bE.mono tpb)
        have Zbec_36 := Lib.hid hE
        have Zaec_36 := Lib.hid ((oE pa (by first | assumption | exact Ne.symm (by assumption))).trans Zaec_35.out)
        clear hE oE bE
        refine hK.out _ _ ?_ (fun hHeld => ?_)
        · try dsimp only
          exact KS.out _ Dec_36.out
        clear hK K
        try simp only [Act.put, List.setIfInBounds_toArray, List.set_cons_zero, List.set_cons_succ]
        refine wpAnyH_done (by kernel_rfl) ?_ _
        go_wp2_with fail
        go_meet
        exact ⟨pa, pb, rfl, rfl, Dec_36, Zaec_36, Zbec_36⟩
        go_simp
        generalize hA : World.alloc uc_32 (.cells #[.int .i64 0, .int .i64 0] 71) = ac_37
        obtain ⟨pb, hp⟩ : ∃ p, p = uc_32.heap.size := ⟨_, rfl⟩
        have ba : Below uc_32.heap.size uc_32 ac_37 := by rw [← hA]; exact Below.alloc (Below.refl _ _) (Nat.le_refl _) _
        have Zbac_37 := Lib.hid (show ac_37.heap[pb]? = some (.cells #[.int .i64 0, .int .i64 0] 71 (0, 0)) from by rw [← hA, hp]; exact heap_alloc_new _ _)
        have tpb : z2.heap.size ≤ pb := by rw [hp]; exact Duc_32.out.size
        have na_b : pa ≠ pb := by have hh := box_lt Zauc_32.out; rw [hp]; intro e; rw [e] at hh; exact Nat.lt_irrefl _ hh
        have Dac_37 : Hid (Below z2.heap.size z2 ac_37) := Below.trans Duc_32.out (ba.mono Duc_32.out.size)
        have Zaac_37 := Lib.hid ((ba.block pa (box_lt Zauc_32.out)).trans Zauc_32.out)
        rw [← hp]
        clear hA hp ba
        (first | refine hK.out _ _ ?_ (fun hHeld => ?_) | (go_wp2_with fail; refine hK.out _ _ ?_ (fun hHeld => ?_)))
        · try dsimp only
          exact KS.out _ Dac_37.out
        clear hK K
        try simp only [Act.put, List.setIfInBounds_toArray, List.set_cons_zero, List.set_cons_succ]
        refine wpAnyH_ready (rs := [7]) (by kernel_rfl) (by simp) ?_
        refine (AllReadyH.cons (by (simp only [List.getElem?_toArray, List.getElem?_cons_succ, List.getElem?_cons_zero]); (try exact rfl)) (fun K hK => ?_) AllReadyH.nil)
        go_simp
        go_at_call 36
        refine (C4.out _).mono ?_
        rintro e uc_38 ⟨rfl, bb⟩
        have Duc_38 : Hid (Below z2.heap.size z2 uc_38) := Below.trans Dac_37.out (bb.mono Dac_37.out.size)
        have Zauc_38 := Lib.hid ((bb.block pa (box_lt Zaac_37.out)).trans Zaac_37.out)
        have Zbuc_38 := Lib.hid ((bb.block pb (box_lt Zbac_37.out)).trans Zbac_37.out)
        clear bb
        (first | refine hK.out _ _ ?_ (fun hHeld => ?_) | (go_wp2_with fail; refine hK.out _ _ ?_ (fun hHeld => ?_)))
        · try dsimp only
          exact KS.out _ Duc_38.out
        clear hK K
        try simp only [Act.put, List.setIfInBounds_toArray, List.set_cons_zero, List.set_cons_succ]
        refine wpAnyH_ready (rs := [10]) (by kernel_rfl) (by simp) ?_
        refine AllReadyH.cons (by (simp only [List.getElem?_toArray, List.getElem?_cons_succ, List.getElem?_cons_zero]); (try exact rfl)) (fun K hK => ?_) AllReadyH.nil
        refine step_store_Pr rfl _ _ rfl pa (⟨0, 0⟩ : Pr) (⟨p.s - g.s, p.h - g.h⟩ : Pr) _ rfl rfl Zauc_38.out ?_
        intro ec_39 hE oE bE
        have Dec_39 : Hid (Below z2.heap.size z2 ec_39) := Below.trans Duc_38.out (bE.mono tpa)
        have Zaec_39 := Lib.hid hE
        have Zbec_39 := Lib.hid ((oE pb (by first | assumption | exact Ne.symm (by assumption))).trans Zbuc_38.out)
        clear hE oE bE
        refine hK.out _ _ ?_ (fun hHeld => ?_)
        · try dsimp only
          exact KS.out _ Dec_39.out
        clear hK K
        try simp only [Act.put, List.setIfInBounds_toArray, List.set_cons_zero, List.set_cons_succ]
        refine wpAnyH_ready (rs := [11]) (by kernel_rfl) (by simp) ?_
        refine AllReadyH.cons (by (simp only [List.getElem?_toArray, List.getElem?_cons_succ, List.getElem?_cons_zero]); (try exact rfl)) (fun K hK => ?_) AllReadyH.nil
        refine step_store_Pr rfl _ _ rfl pb (⟨0, 0⟩ : Pr) (⟨p.y - g.y, p.p - g.p⟩ : Pr) _ rfl rfl Zbec_39.out ?_
        intro ec_40 hE oE bE
        have Dec_40 : Hid (Below z2.heap.size z2 ec_40) := Below.trans Dec_39.out (bE.mono tpb)
        have Zbec_40 := Lib.hid hE
        have Zaec_40 := Lib.hid ((oE pa (by first | assumption | exact Ne.symm (by assumption))).trans Zaec_39.out)
        clear hE oE bE
        refine hK.out _ _ ?_ (fun hHeld => ?_)
        · try dsimp only
          exact KS.out _ Dec_40.out
        clear hK K
        try simp only [Act.put, List.setIfInBounds_toArray, List.set_cons_zero, List.set_cons_succ]
        refine wpAnyH_done (by kernel_rfl) ?_ _
        go_wp2_with fail
        go_meet
        exact ⟨pa, pb, rfl, rfl, Dec_40, Zaec_40, Zbec_40⟩
        go_simp
        generalize hA : World.alloc ac_31 (.cells #[.int .i64 0, .int .i64 0] 71) = ac_41
        obtain ⟨pb, hp⟩ : ∃ p, p = ac_31.heap.size := ⟨_, rfl⟩
        have ba : Below ac_31.heap.size ac_31 ac_41 := by rw [← hA]; exact Below.alloc (Below.refl _ _) (Nat.le_refl _) _
        have Zbac_41 := Lib.hid (show ac_41.heap[pb]? = some (.cells #[.int .i64 0, .int .i64 0] 71 (0, 0)) from by rw [← hA, hp]; exact heap_alloc_new _ _)
        have tpb : z2.heap.size ≤ pb := by rw [hp]; exact Dac_31.out.size
        have na_b : pa ≠ pb := by have hh := box_lt Zaac_31.out; rw [hp]; intro e; rw [e] at hh; exact Nat.lt_irrefl _ hh
        have Dac_41 : Hid (Below z2.heap.size z2 ac_41) := Below.trans Dac_31.out (ba.mono Dac_31.out.size)
        have Zaac_41 := Lib.hid ((ba.block pa (box_lt Zaac_31.out)).trans Zaac_31.out)
        rw [← hp]
        clear hA hp ba
        (first | refine hK.out _ _ ?_ (fun hHeld => ?_) | (go_wp2_with fail; refine hK.out _ _ ?_ (fun hHeld => ?_)))
        · try dsimp only
          exact KS.out _ Dac_41.out
        clear hK K
        try simp only [Act.put, List.setIfInBounds_toArray, List.set_cons_zero, List.set_cons_succ]
        refine wpAnyH_ready (rs := [6]) (by kernel_rfl) (by simp) ?_
        refine (AllReadyH.cons (by (simp only [List.getElem?_toArray, List.getElem?_cons_succ, List.getElem?_cons_zero]); (try exact rfl)) (fun K hK => ?_) AllReadyH.nil)
        go_simp
        go_at_call 35
        refine (C3.out _).mono ?_
        rintro e uc_42 ⟨rfl, bb⟩
        have Duc_42 : Hid (Below z2.heap.size z2 uc_42) := Below.trans Dac_41.out (bb.mono Dac_41.out.size)
        have Zauc_42 := Lib.hid ((bb.block pa (box_lt Zaac_41.out)).trans Zaac_41.out)
        have Zbuc_42 := Lib.hid ((bb.block pb (box_lt Zbac_41.out)).trans Zbac_41.out)
        clear bb
        (first | refine hK.out _ _ ?_ (fun hHeld => ?_) | (go_wp2_with fail; refine hK.out _ _ ?_ (fun hHeld => ?_)))
        · try dsimp only
          exact KS.out _ Duc_42.out
        clear hK K
        try simp only [Act.put, List.setIfInBounds_toArray, List.set_cons_zero, List.set_cons_succ]
        refine wpAnyH_ready (rs := [7]) (by kernel_rfl) (by simp) ?_
        refine (AllReadyH.cons (by (simp only [List.getElem?_toArray, List.getElem?_cons_succ, List.getElem?_cons_zero]); (try exact rfl)) (fun K hK => ?_) AllReadyH.nil)
        go_simp
        go_at_call 36
        refine (C4.out _).mono ?_
        rintro e uc_43 ⟨rfl, bb⟩
        have Duc_43 : Hid (Below z2.heap.size z2 uc_43) := Below.trans Duc_42.out (bb.mono Duc_42.out.size)
        have Zauc_43 := Lib.hid ((bb.block pa (box_lt Zauc_42.out)).trans Zauc_42.out)
        have Zbuc_43 := Lib.hid ((bb.block pb (box_lt Zbuc_42.out)).trans Zbuc_42.out)
        clear bb
        (first | refine hK.out _ _ ?_ (fun hHeld => ?_) | (go_wp2_with fail; refine hK.out _ _ ?_ (fun hHeld => ?_)))
        · try dsimp only
          exact KS.out _ Duc_43.out
        clear hK K
        try simp only [Act.put, List.setIfInBounds_toArray, List.set_cons_zero, List.set_cons_succ]
        refine wpAnyH_ready (rs := [10]) (by kernel_rfl) (by simp) ?_
        refine AllReadyH.cons (by (simp only [List.getElem?_toArray, List.getElem?_cons_succ, List.getElem?_cons_zero]); (try exact rfl)) (fun K hK => ?_) AllReadyH.nil
        refine step_store_Pr rfl _ _ rfl pa (⟨0, 0⟩ : Pr) (⟨p.s - g.s, p.h - g.h⟩ : Pr) _ rfl rfl Zauc_43.out ?_
        intro ec_44 hE oE bE
        have Dec_44 : Hid (Below z2.heap.size z2 ec_44) := Below.trans Duc_43.out (bE.mono tpa)
        have Zaec_44 := Lib.hid hE
        have Zbec_44 := Lib.hid ((oE pb (by first | assumption | exact Ne.symm (by assumption))).trans Zbuc_43.out)
        clear hE oE bE
        refine hK.out _ _ ?_ (fun hHeld => ?_)
        · try dsimp only
          exact KS.out _ Dec_44.out
        clear hK K
        try simp only [Act.put, List.setIfInBounds_toArray, List.set_cons_zero, List.set_cons_succ]
        refine wpAnyH_ready (rs := [11]) (by kernel_rfl) (by simp) ?_
        refine AllReadyH.cons (by (simp only [List.getElem?_toArray, List.getElem?_cons_succ, List.getElem?_cons_zero]); (try exact rfl)) (fun K hK => ?_) AllReadyH.nil
        refine step_store_Pr rfl _ _ rfl pb (⟨0, 0⟩ : Pr) (⟨p.y - g.y, p.p - g.p⟩ : Pr) _ rfl rfl Zbec_44.out ?_
        intro ec_45 hE oE bE
        have Dec_45 : Hid (Below z2.heap.size z2 ec_45) := Below.trans Dec_44.out (bE.mono tpb)
        have Zbec_45 := Lib.hid hE
        have Zaec_45 := Lib.hid ((oE pa (by first | assumption | exact Ne.symm (by assumption))).trans Zaec_44.out)
        clear hE oE bE
        refine hK.out _ _ ?_ (fun hHeld => ?_)
        · try dsimp only
          exact KS.out _ Dec_45.out
        clear hK K
        try simp only [Act.put, List.setIfInBounds_toArray, List.set_cons_zero, List.set_cons_succ]
        refine wpAnyH_done (by kernel_rfl) ?_ _
        go_wp2_with fail
        go_meet
        exact ⟨pa, pb, rfl, rfl, Dec_45, Zaec_45, Zbec_45⟩
        go_simp
        generalize hA : World.alloc uc_2 (.cells #[.int .i64 0, .int .i64 0] 71) = ac_46
        obtain ⟨pb, hp⟩ : ∃ p, p = uc_2.heap.size := ⟨_, rfl⟩
        have ba : Below uc_2.heap.size uc_2 ac_46 := by rw [← hA]; exact Below.alloc (Below.refl _ _) (Nat.le_refl _) _
        have Zbac_46 := Lib.hid (show ac_46.heap[pb]? = some (.cells #[.int .i64 0, .int .i64 0] 71 (0, 0)) from by rw [← hA, hp]; exact heap_alloc_new _ _)
        have tpb : z2.heap.size ≤ pb := by rw [hp]; exact Duc_2.out.size
        have Dac_46 : Hid (Below z2.heap.size z2 ac_46) := Below.trans Duc_2.out (ba.mono Duc_2.out.size)
        rw [← hp]
        clear hA hp ba
        (first | refine hK.out _ _ ?_ (fun hHeld => ?_) | (go_wp2_with fail; refine hK.out _ _ ?_ (fun hHeld => ?_)))
        · try dsimp only
          exact KS.out _ Dac_46.out
        clear hK K
        try simp only [Act.put, List.setIfInBounds_toArray, List.set_cons_zero, List.set_cons_succ]
        refine wpAnyH_ready (rs := [6, 8]) (by kernel_rfl) (by simp) ?_
        refine (AllReadyH.cons (by (simp only [List.getElem?_toArray, List.getElem?_cons_succ, List.getElem?_cons_zero]); (try exact rfl)) (fun K hK => ?_) (AllReadyH.cons (by (simp only [List.getElem?_toArray, List.getElem?_cons_succ, List.getElem?_cons_zero]); (try exact rfl)) (fun K hK => ?_) AllReadyH.nil))
        go_simp
        go_at_call 35
        refine (C3.out _).mono ?_
        rintro e uc_47 ⟨rfl, bb⟩
        have Duc_47 : Hid (Below z2.heap.size z2 uc_47) := Below.trans Dac_46.out (bb.mono Dac_46.out.size)
        have Zbuc_47 := Lib.hid ((bb.block pb (box_lt Zbac_46.out)).trans Zbac_46.out)
        clear bb
        (first | refine hK.out _ _ ?_ (fun hHeld => ?_) | (go_wp2_with fail; refine hK.out _ _ ?_ (fun hHeld => ?_)))
        · try dsimp only
          exact KS.out _ Duc_47.out
        clear hK K
        try simp only [Act.put, List.setIfInBounds_toArray, List.set_cons_zero, List.set_cons_succ]
        refine wpAnyH_ready (rs := [7, 8]) (by kernel_rfl) (by simp) ?_
        refine (AllReadyH.cons (by (simp only [List.getElem?_toArray, List.getElem?_cons_succ, List.getElem?_cons_zero]); (try exact rfl)) (fun K hK => ?_) (AllReadyH.cons (by (simp only [List.getElem?_toArray, List.getElem?_cons_succ, List.getElem?_cons_zero]); (try exact rfl)) (fun K hK => ?_) AllReadyH.nil))
        go_simp
        go_at_call 36
        refine (C4.out _).mono ?_
        rintro e uc_48 ⟨rfl, bb⟩
        have Duc_48 : Hid (Below z2.heap.size z2 uc_48) := Below.trans Duc_47.out (bb.mono Duc_47.out.size)
        have Zbuc_48 := Lib.hid ((bb.block pb (box_lt Zbuc_47.out)).trans Zbuc_47.out)
        clear bb
        (first | refine hK.out _ _ ?_ (fun hHeld => ?_) | (go_wp2_with fail; refine hK.out _ _ ?_ (fun hHeld => ?_)))
        · try dsimp only
          exact KS.out _ Duc_48.out
        clear hK K
        try simp only [Act.put, List.setIfInBounds_toArray, List.set_cons_zero, List.set_cons_succ]
        refine wpAnyH_ready (rs := [8]) (by kernel_rfl) (by simp) ?_
        refine (AllReadyH.cons (by (simp only [List.getElem?_toArray, List.getElem?_cons_succ, List.getElem?_cons_zero]); (try exact rfl)) (fun K hK => ?_) AllReadyH.nil)
        go_simp
        generalize hA : World.alloc uc_48 (.cells #[.int .i64 0, .int .i64 0] 71) = ac_49
        obtain ⟨pa, hp⟩ : ∃ p, p = uc_48.heap.size := ⟨_, rfl⟩
        have ba : Below uc_48.heap.size uc_48 ac_49 := by rw [← hA]; exact Below.alloc (Below.refl _ _) (Nat.le_refl _) _
        have Zaac_49 := Lib.hid (show ac_49.heap[pa]? = some (.cells #[.int .i64 0, .int .i64 0] 71 (0, 0)) from by rw [← hA, hp]; exact heap_alloc_new _ _)
        have tpa : z2.heap.size ≤ pa := by rw [hp]; exact Duc_48.out.size
        have nb_a : pb ≠ pa := by have hh := box_lt Zbuc_48.out; rw [hp]; intro e; rw [e] at hh; exact Nat.lt_irrefl _ hh
        have Dac_49 : Hid (Below z2.heap.size z2 ac_49) := Below.trans Duc_48.out (ba.mono Duc_48.out.size)
        have Zbac_49 := Lib.hid ((ba.block pb (box_lt Zbuc_48.out)).trans Zbuc_48.out)
        rw [← hp]
        clear hA hp ba
        (first | refine hK.out _ _ ?_ (fun hHeld => ?_) | (go_wp2_with fail; refine hK.out _ _ ?_ (fun hHeld => ?_)))
        · try dsimp only
          exact KS.out _ Dac_49.out
        clear hK K
        try simp only [Act.put, List.setIfInBounds_toArray, List.set_cons_zero, List.set_cons_succ]
        refine wpAnyH_ready (rs := [10]) (by kernel_rfl) (by simp) ?_
        refine AllReadyH.cons (by (simp only [List.getElem?_toArray, List.getElem?_cons_succ, List.getElem?_cons_zero]); (try exact rfl)) (fun K hK => ?_) AllReadyH.nil
        refine step_store_Pr rfl _ _ rfl pa (⟨0, 0⟩ : Pr) (⟨p.s - g.s, p.h - g.h⟩ : Pr) _ rfl rfl Zaac_49.out ?_
        intro ec_50 hE oE bE
        have Dec_50 : Hid (Below z2.heap.size z2 ec_50) := Below.trans Dac_49.out (bE.mono tpa)
        have Zaec_50 := Lib.hid hE
        have Zbec_50 := Lib.hid ((oE pb (by first | assumption | exact Ne.symm (by assumption))).trans Zbac_49.out)
        clear hE oE bE
        refine hK.out _ _ ?_ (fun hHeld => ?_)
        · try dsimp only
          exact KS.out _ Dec_50.out
        clear hK K
        try simp only [Act.put, List.setIfInBounds_toArray, List.set_cons_zero, List.set_cons_succ]
        refine wpAnyH_ready (rs := [11]) (by kernel_rfl) (by simp) ?_
        refine AllReadyH.cons (by (simp only [List.getElem?_toArray, List.getElem?_cons_succ, List.getElem?_cons_zero]); (try exact rfl)) (fun K hK => ?_) AllReadyH.nil
        refine step_store_Pr rfl _ _ rfl pb (⟨0, 0⟩ : Pr) (⟨p.y - g.y, p.p - g.p⟩ : Pr) _ rfl rfl Zbec_50.out ?_
        intro ec_51 hE oE bE
        have Dec_51 : Hid (Below z2.heap.size z2 ec_51) := Below.trans Dec_50.out (bE.mono tpb)
        have Zbec_51 := Lib.hid hE
        have Zaec_51 := Lib.hid ((oE pa (by first | assumption | exact Ne.symm (by assumption))).trans Zaec_50.out)
        clear hE oE bE
        refine hK.out _ _ ?_ (fun hHeld => ?_)
        · try dsimp only
          exact KS.out _ Dec_51.out
        clear hK K
        try simp only [Act.put, List.setIfInBounds_toArray, List.set_cons_zero, List.set_cons_succ]
        refine wpAnyH_done (by kernel_rfl) ?_ _
        go_wp2_with fail
        go_meet
        exact ⟨pa, pb, rfl, rfl, Dec_51, Zaec_51, Zbec_51⟩
        go_simp
        generalize hA : World.alloc uc_47 (.cells #[.int .i64 0, .int .i64 0] 71) = ac_52
        obtain ⟨pa, hp⟩ : ∃ p, p = uc_47.heap.size := ⟨_, rfl⟩
        have ba : Below uc_47.heap.size uc_47 ac_52 := by rw [← hA]; exact Below.alloc (Below.refl _ _) (Nat.le_refl _) _
        have Zaac_52 := Lib.hid (show ac_52.heap[pa]? = some (.cells #[.int .i64 0, .int .i64 0] 71 (0, 0)) from by rw [← hA, hp]; exact heap_alloc_new _ _)
        have tpa : z2.heap.size ≤ pa := by rw [hp]; exact Duc_47.out.size
        have nb_a : pb ≠ pa := by have hh := box_lt Zbuc_47.out; rw [hp]; intro e; rw [e] at hh; exact Nat.lt_irrefl _ hh
        have Dac_52 : Hid (Below z2.heap.size z2 ac_52) := Below.trans Duc_47.out (ba.mono Duc_47.out.size)
        have Zbac_52 := Lib.hid ((ba.block pb (box_lt Zbuc_47.out)).trans Zbuc_47.out)
        rw [← hp]
        clear hA hp ba
        (first | refine hK.out _ _ ?_ (fun hHeld => ?_) | (go_wp2_with fail; refine hK.out _ _ ?_ (fun hHeld => ?_)))
        · try dsimp only
          exact KS.out _ Dac_52.out
        clear hK K
        try simp only [Act.put, List.setIfInBounds_toArray, List.set_cons_zero, List.set_cons_succ]
        refine wpAnyH_ready (rs := [7]) (by kernel_rfl) (by simp) ?_
        refine (AllReadyH.cons (by (simp only [List.getElem?_toArray, List.getElem?_cons_succ, List.getElem?_cons_zero]); (try exact rfl)) (fun K hK => ?_) AllReadyH.nil)
        go_simp
        go_at_call 36
        refine (C4.out _).mono ?_
        rintro e uc_53 ⟨rfl, bb⟩
        have Duc_53 : Hid (Below z2.heap.size z2 uc_53) := Below.trans Dac_52.out (bb.mono Dac_52.out.size)
        have Zbuc_53 := Lib.hid ((bb.block pb (box_lt Zbac_52.out)).trans Zbac_52.out)
        have Zauc_53 := Lib.hid ((bb.block pa (box_lt Zaac_52.out)).trans Zaac_52.out)
        clear bb
        (first | refine hK.out _ _ ?_ (fun hHeld => ?_) | (go_wp2_with fail; refine hK.out _ _ ?_ (fun hHeld => ?_)))
        · try dsimp only
          exact KS.out _ Duc_53.out
        clear hK K
        try simp only [Act.put, List.setIfInBounds_toArray, List.set_cons_zero, List.set_cons_succ]
        refine wpAnyH_ready (rs := [10]) (by kernel_rfl) (by simp) ?_
        refine AllReadyH.cons (by (simp only [List.getElem?_toArray, List.getElem?_cons_succ, List.getElem?_cons_zero]); (try exact rfl)) (fun K hK => ?_) AllReadyH.nil
        refine step_store_Pr rfl _ _ rfl pa (⟨0, 0⟩ : Pr) (⟨p.s - g.s, p.h - g.h⟩ : Pr) _ rfl rfl Zauc_53.out ?_
        intro ec_54 hE oE bE
        have Dec_54 : Hid (Below z2.heap.size z2 ec_54) := Below.trans Duc_53.out (bE.mono tpa)
        have Zaec_54 := Lib.hid hE
        have Zbec_54 := Lib.hid ((oE pb (by first | assumption | exact Ne.symm (by assumption))).trans Zbuc_53.out)
        clear hE oE bE
        refine hK.out _ _ ?_ (fun hHeld => ?_)
        · try dsimp only
          exact KS.out _ Dec_54.out
        clear hK K
        try simp only [Act.put, List.setIfInBounds_toArray, List.set_cons_zero, List.set_cons_succ]
        refine wpAnyH_ready (rs := [11]) (by kernel_rfl) (by simp) ?_
        refine AllReadyH.cons (by (simp only [List.getElem?_toArray, List.getElem?_cons_succ, List.getElem?_cons_zero]); (try exact rfl)) (fun K hK => ?_) AllReadyH.nil
        refine step_store_Pr rfl _ _ rfl pb (⟨0, 0⟩ : Pr) (⟨p.y - g.y, p.p - g.p⟩ : Pr) _ rfl rfl Zbec_54.out ?_
        intro ec_55 hE oE bE
        have Dec_55 : Hid (Below z2.heap.size z2 ec_55) := Below.trans Dec_54.out (bE.mono tpb)
        have Zbec_55 := Lib.hid hE
        have Zaec_55 := Lib.hid ((oE pa (by first | assumption | exact Ne.symm (by assumption))).trans Zaec_54.out)
        clear hE oE bE
        refine hK.out _ _ ?_ (fun hHeld => ?_)
        · try dsimp only
          exact KS.out _ Dec_55.out
        clear hK K
        try simp only [Act.put, List.setIfInBounds_toArray, List.set_cons_zero, List.set_cons_succ]
        refine wpAnyH_done (by kernel_rfl) ?_ _
        go_wp2_with fail
        go_meet
        exact ⟨pa, pb, rfl, rfl, Dec_55, Zaec_55, Zbec_55⟩
        go_simp
        generalize hA : World.alloc ac_46 (.cells #[.int .i64 0, .int .i64 0] 71) = ac_56
        obtain ⟨pa, hp⟩ : ∃ p, p = ac_46.heap.size := ⟨_, rfl⟩
        have ba : Below ac_46.heap.size ac_46 ac_56 := by rw [← hA]; exact Below.alloc (Below.refl _ _) (Nat.le_refl _) _
        have Zaac_56 := Lib.hid (show ac_56.heap[pa]? = some (.cells #[.int .i64 0, .int .i64 0] 71 (0, 0)) from by rw [← hA, hp]; exact heap_alloc_new _ _)
        have tpa : z2.heap.size ≤ pa := by rw [hp]; exact Dac_46.out.size
        have nb_a : pb ≠ pa := by have hh := box_lt Zbac_46.out; rw [hp]; intro e; rw [e] at hh; exact Nat.lt_irrefl _ hh
        have Dac_56 : Hid (Below z2.heap.size z2 ac_56) := Below.trans Dac_46.out (ba.mono Dac_46.out.size)
        have Zbac_56 := Lib.hid ((ba.block pb (box_lt Zbac_46.out)).trans Zbac_46.out)
        rw [← hp]
        clear hA hp ba
        (first | refine hK.out _ _ ?_ (fun hHeld => ?_) | (go_wp2_with fail; refine hK.out _ _ ?_ (fun hHeld => ?_)))
        · try dsimp only
          exact KS.out _ Dac_56.out
        clear hK K
        try simp only [Act.put, List.setIfInBounds_toArray, List.set_cons_zero, List.set_cons_succ]
        refine wpAnyH_ready (rs := [6]) (by kernel_rfl) (by simp) ?_
        refine (AllReadyH.cons (by (simp only [List.getElem?_toArray, List.getElem?_cons_succ, List.getElem?_cons_zero]); (try exact rfl)) (fun K hK => ?_) AllReadyH.nil)
        go_simp
        go_at_call 35
        refine (C3.out _).mono ?_
        rintro e uc_57 ⟨rfl, bb⟩
        have Duc_57 : Hid (Below z2.heap.size z2 uc_57) := Below.trans Dac_56.out (bb.mono Dac_56.out.size)
        have Zbuc_57 := Lib.hid ((bb.block pb (box_lt Zbac_56.out)).trans Zbac_56.out)
        have Zauc_57 := Lib.hid ((bb.block pa (box_lt Zaac_56.out)).trans Zaac_56.out)
        clear bb
        (first | refine hK.out _ _ ?_ (fun hHeld => ?_) | (go_wp2_with fail; refine hK.out _ _ ?_ (fun hHeld => ?_)))
        · try dsimp only
          exact KS.out _ Duc_57.out
        clear hK K
        try simp only [Act.put, List.setIfInBounds_toArray, List.set_cons_zero, List.set_cons_succ]
        refine wpAnyH_ready (rs := [7]) (by kernel_rfl) (by simp) ?_
        refine (AllReadyH.cons (by (simp only [List.getElem?_toArray, List.getElem?_cons_succ, List.getElem?_cons_zero]); (try exact rfl)) (fun K hK => ?_) AllReadyH.nil)
        go_simp
        go_at_call 36
        refine (C4.out _).mono ?_
        rintro e uc_58 ⟨rfl, bb⟩
        have Duc_58 : Hid (Below z2.heap.size z2 uc_58) := Below.trans Duc_57.out (bb.mono Duc_57.out.size)
        have Zbuc_58 := Lib.hid ((bb.block pb (box_lt Zbuc_57.out)).trans Zbuc_57.out)
        have Zauc_58 := Lib.hid ((bb.block pa (box_lt Zauc_57.out)).trans Zauc_57.out)
        clear bb
        (first | refine hK.out _ _ ?_ (fun hHeld => ?_) | (go_wp2_with fail; refine hK.out _ _ ?_ (fun hHeld => ?_)))
        · try dsimp only
          exact KS.out _ Duc_58.out
        clear hK K
        try simp only [Act.put, List.setIfInBounds_toArray, List.set_cons_zero, List.set_cons_succ]
        refine wpAnyH_ready (rs := [10]) (by kernel_rfl) (by simp) ?_
        refine AllReadyH.cons (by (simp only [List.getElem?_toArray, List.getElem?_cons_succ, List.getElem?_cons_zero]); (try exact rfl)) (fun K hK => ?_) AllReadyH.nil
        refine step_store_Pr rfl _ _ rfl pa (⟨0, 0⟩ : Pr) (⟨p.s - g.s, p.h - g.h⟩ : Pr) _ rfl rfl Zauc_58.out ?_
        intro ec_59 hE oE bE
        have Dec_59 : Hid (Below z2.heap.size z2 ec_59) := Below.trans Duc_58.out (bE.mono tpa)
        have Zaec_59 := Lib.hid hE
        have Zbec_59 := Lib.hid ((oE pb (by first | assumption | exact Ne.symm (by assumption))).trans Zbuc_58.out)
        clear hE oE bE
        refine hK.out _ _ ?_ (fun hHeld => ?_)
        · try dsimp only
          exact KS.out _ Dec_59.out
        clear hK K
        try simp only [Act.put, List.setIfInBounds_toArray, List.set_cons_zero, List.set_cons_succ]
        refine wpAnyH_ready (rs := [11]) (by kernel_rfl) (by simp) ?_
        refine AllReadyH.cons (by (simp only [List.getElem?_toArray, List.getElem?_cons_succ, List.getElem?_cons_zero]); (try exact rfl)) (fun K hK => ?_) AllReadyH.nil
        refine step_store_Pr rfl _ _ rfl pb (⟨0, 0⟩ : Pr) (⟨p.y - g.y, p.p - g.p⟩ : Pr) _ rfl rfl Zbec_59.out ?_
        intro ec_60 hE oE bE
        have Dec_60 : Hid (Below z2.heap.size z2 ec_60) := Below.trans Dec_59.out (bE.mono tpb)
        have Zbec_60 := Lib.hid hE
        have Zaec_60 := Lib.hid ((oE pa (by first | assumption | exact Ne.symm (by assumption))).trans Zaec_59.out)
        clear hE oE bE
        refine hK.out _ _ ?_ (fun hHeld => ?_)
        · try dsimp only
          exact KS.out _ Dec_60.out
        clear hK K
        try simp only [Act.put, List.setIfInBounds_toArray, List.set_cons_zero, List.set_cons_succ]
        refine wpAnyH_done (by kernel_rfl) ?_ _
        go_wp2_with fail
        go_meet
        exact ⟨pa, pb, rfl, rfl, Dec_60, Zaec_60, Zbec_60⟩
        go_simp
        generalize hA : World.alloc uc_1 (.cells #[.int .i64 0, .int .i64 0] 71) = ac_61
        obtain ⟨pa, hp⟩ : ∃ p, p = uc_1.heap.size := ⟨_, rfl⟩
        have ba : Below uc_1.heap.size uc_1 ac_61 := by rw [← hA]; exact Below.alloc (Below.refl _ _) (Nat.le_refl _) _
        have Zaac_61 := Lib.hid (show ac_61.heap[pa]? = some (.cells #[.int .i64 0, .int .i64 0] 71 (0, 0)) from by rw [← hA, hp]; exact heap_alloc_new _ _)
        have tpa : z2.heap.size ≤ pa := by rw [hp]; exact Duc_1.out.size
        have Dac_61 : Hid (Below z2.heap.size z2 ac_61) := Below.trans Duc_1.out (ba.mono Duc_1.out.size)
        rw [← hp]
        clear hA hp ba
        (first | refine hK.out _ _ ?_ (fun hHeld => ?_) | (go_wp2_with fail; refine hK.out _ _ ?_ (fun hHeld => ?_)))
        · try dsimp only
          exact KS.out _ Dac_61.out
        clear hK K
        try simp only [Act.put, List.setIfInBounds_toArray, List.set_cons_zero, List.set_cons_succ]
        refine wpAnyH_ready (rs := [4, 9]) (by kernel_rfl) (by simp) ?_
        refine (AllReadyH.cons (by (simp only [List.getElem?_toArray, List.getElem?_cons_succ, List.getElem?_cons_zero]); (try exact rfl)) (fun K hK => ?_) (AllReadyH.cons (by (simp only [List.getElem?_toArray, List.getElem?_cons_succ, List.getElem?_cons_zero]); (try exact rfl)) (fun K hK => ?_) AllReadyH.nil))
        go_simp
        go_at_call 35
        refine (C2.out _).mono ?_
        rintro e uc_62 ⟨rfl, bb⟩
        have Duc_62 : Hid (Below z2.heap.size z2 uc_62) := Below.trans Dac_61.out (bb.mono Dac_61.out.size)
        have Zauc_62 := Lib.hid ((bb.block pa (box_lt Zaac_61.out)).trans Zaac_61.out)
        clear bb
        (first | refine hK.out _ _ ?_ (fun hHeld => ?_) | (go_wp2_with fail; refine hK.out _ _ ?_ (fun hHeld => ?_)))
        · try dsimp only
          exact KS.out _ Duc_62.out
        clear hK K
        try simp only [Act.put, List.setIfInBounds_toArray, List.set_cons_zero, List.set_cons_succ]
        refine wpAnyH_ready (rs := [6, 9]) (by kernel_rfl) (by simp) ?_
        refine (AllReadyH.cons (by (simp only [List.getElem?_toArray, List.getElem?_cons_succ, List.getElem?_cons_zero]); (try exact rfl)) (fun K hK => ?_) (AllReadyH.cons (by (simp only [List.getElem?_toArray, List.getElem?_cons_succ, List.getElem?_cons_zero]); (try exact rfl)) (fun K hK => ?_) AllReadyH.nil))
        go_simp
        go_at_call 35
        refine (C3.out _).mono ?_
        rintro e uc_63 ⟨rfl, bb⟩
        have Duc_63 : Hid (Below z2.heap.size z2 uc_63) := Below.trans Duc_62.out (bb.mono Duc_62.out.size)
        have Zauc_63 := Lib.hid ((bb.block pa (box_lt Zauc_62.out)).trans Zauc_62.out)
        clear bb
        (first | refine hK.out _ _ ?_ (fun hHeld => ?_) | (go_wp2_with fail; refine hK.out _ _ ?_ (fun hHeld => ?_)))
        · try dsimp only
          exact KS.out _ Duc_63.out
        clear hK K
        try simp only [Act.put, List.setIfInBounds_toArray, List.set_cons_zero, List.set_cons_succ]
        refine wpAnyH_ready (rs := [7, 9]) (by kernel_rfl) (by simp) ?_
        refine (AllReadyH.cons (by (simp only [List.getElem?_toArray, List.getElem?_cons_succ, List.getElem?_cons_zero]); (try exact rfl)) (fun K hK => ?_) (AllReadyH.cons (by (simp only [List.getElem?_toArray, List.getElem?_cons_succ, List.getElem?_cons_zero]); (try exact rfl)) (fun K hK => ?_) AllReadyH.nil))
        go_simp
        go_at_call 36
        refine (C4.out _).mono ?_
        rintro e uc_64 ⟨rfl, bb⟩
        have Duc_64 : Hid (Below z2.heap.size z2 uc_64) := Below.trans Duc_63.out (bb.mono Duc_63.out.size)
        have Zauc_64 := Lib.hid ((bb.block pa (box_lt Zauc_63.out)).trans Zauc_63.out)
        clear bb
        (first | refine hK.out _ _ ?_ (fun hHeld => ?_) | (go_wp2_with fail; refine hK.out _ _ ?_ (fun hHeld => ?_)))
        · try dsimp only
          exact KS.out _ Duc_64.out
        clear hK K
        try simp only [Act.put, List.setIfInBounds_toArray, List.set_cons_zero, List.set_cons_succ]
        refine wpAnyH_ready (rs := [9]) (by kernel_rfl) (by simp) ?_
        refine (AllReadyH.cons (by (simp only [List.getElem?_toArray, List.getElem?_cons_succ, List.getElem?_cons_zero]); (try exact rfl)) (fun K hK => ?_) AllReadyH.nil)
        go_simp
        generalize hA : World.alloc uc_64 (.cells #[.int .i64 0, .int .i64 0] 71) = ac_65
        obtain ⟨pb, hp⟩ : ∃ p, p = uc_64.heap.size := ⟨_, rfl⟩
        have ba : Below uc_64.heap.size uc_64 ac_65 := by rw [← hA]; exact Below.alloc (Below.refl _ _) (Nat.le_refl _) _
        have Zbac_65 := Lib.hid (show ac_65.heap[pb]? = some (.cells #[.int .i64 0, .int .i64 0] 71 (0, 0)) from by rw [← hA, hp]; exact heap_alloc_new _ _)
        have tpb : z2.heap.size ≤ pb := by rw [hp]; exact Duc_64.out.size
        have na_b : pa ≠ pb := by have hh := box_lt Zauc_64.out; rw [hp]; intro e; rw [e] at hh; exact Nat.lt_irrefl _ hh
        have Dac_65 : Hid (Below z2.heap.size z2 ac_65) := Below.trans Duc_64.out (ba.mono Duc_64.out.size)
        have Zaac_65 := Lib.hid ((ba.block pa (box_lt Zauc_64.out)).trans Zauc_64.out)
        rw [← hp]
        clear hA hp ba
        (first | refine hK.out _ _ ?_ (fun hHeld => ?_) | (go_wp2_with fail; refine hK.out _ _ ?_ (fun hHeld => ?_)))
        · try dsimp only
          exact KS.out _ Dac_65.out
        clear hK K
        try simp only [Act.put, List.setIfInBounds_toArray, List.set_cons_zero, List.set_cons_succ]
        refine wpAnyH_ready (rs := [10]) (by kernel_rfl) (by simp) ?_
        refine AllReadyH.cons (by (simp only [List.getElem?_toArray, List.getElem?_cons_succ, List.getElem?_cons_zero]); (try exact rfl)) (fun K hK => ?_) AllReadyH.nil
        refine step_store_Pr rfl _ _ rfl pa (⟨0, 0⟩ : Pr) (⟨p.s - g.s, p.h - g.h⟩ : Pr) _ rfl rfl Zaac_65.out ?_
        intro ec_66 hE oE bE
        have Dec_66 : Hid (Below z2.heap.size z2 ec_66) := Below.trans Dac_65.out (bE.mono tpa)
        have Zaec_66 := Lib.hid hE
        have Zbec_66 := Lib.hid ((oE pb (by first | assumption | exact Ne.symm (by assumption))).trans Zbac_65.out)
        clear hE oE bE
        refine hK.out _ _ ?_ (fun hHeld => ?_)
        · try dsimp only
          exact KS.out _ Dec_66.out
        clear hK K
        try simp only [Act.put, List.setIfInBounds_toArray, List.set_cons_zero, List.set_cons_succ]
        refine wpAnyH_ready (rs := [11]) (by kernel_rfl) (by simp) ?_
        refine AllReadyH.cons (by (simp only [List.getElem?_toArray, List.getElem?_cons_succ, List.getElem?_cons_zero]); (try exact rfl)) (fun K hK => ?_) AllReadyH.nil
        refine step_store_Pr rfl _ _ rfl pb (⟨0, 0⟩ : Pr) (⟨p.y - g.y, p.p - g.p⟩ : Pr) _ rfl rfl Zbec_66.out ?_
        intro ec_67 hE oE bE
        have Dec_67 : Hid (Below z2.heap.size z2 ec_67) := Below.trans Dec_66.out (bE.mono tpb)
        have Zbec_67 := Lib.hid hE
        have Zaec_67 := Lib.hid ((oE pa (by first | assumption | exact Ne.symm (by assumption))).trans Zaec_66.out)
        clear hE oE bE
        refine hK.out _ _ ?_ (fun hHeld => ?_)
        · try dsimp only
          exact KS.out _ Dec_67.out
        clear hK K
        try simp only [Act.put, List.setIfInBounds_toArray, List.set_cons_zero, List.set_cons_succ]
        refine wpAnyH_done (by kernel_rfl) ?_ _
        go_wp2_with fail
        go_meet
        exact ⟨pa, pb, rfl, rfl, Dec_67, Zaec_67, Zbec_67⟩
        go_simp
        generalize hA : World.alloc uc_63 (.cells #[.int .i64 0, .int .i64 0] 71) = ac_68
        obtain ⟨pb, hp⟩ : ∃ p, p = uc_63.heap.size := ⟨_, rfl⟩
        have ba : Below uc_63.heap.size uc_63 ac_68 := by rw [← hA]; exact Below.alloc (Below.refl _ _) (Nat.le_refl _) _
        have Zbac_68 := Lib.hid (show ac_68.heap[pb]? = some (.cells #[.int .i64 0, .int .i64 0] 71 (0, 0)) from by rw [← hA, hp]; exact heap_alloc_new _ _)
        have tpb : z2.heap.size ≤ pb := by rw [hp]; exact Duc_63.out.size
        have na_b : pa ≠ pb := by have hh := box_lt Zauc_63.out; rw [hp]; intro e; rw [e] at hh; exact Nat.lt_irrefl _ hh
        have Dac_68 : Hid (Below z2.heap.size z2 ac_68) := Below.trans Duc_63.out (ba.mono Duc_63.out.size)
        have Zaac_68 := Lib.hid ((ba.block pa (box_lt Zauc_63.out)).trans Zauc_63.out)
        rw [← hp]
        clear hA hp ba
        (first | refine hK.out _ _ ?_ (fun hHeld => ?_) | (go_wp2_with fail; refine hK.out _ _ ?_ (fun hHeld => ?_)))
        · try dsimp only
          exact KS.out _ Dac_68.out
        clear hK K
        try simp only [Act.put, List.setIfInBounds_toArray, List.set_cons_zero, List.set_cons_succ]
        refine wpAnyH_ready (rs := [7]) (by kernel_rfl) (by simp) ?_
        refine (AllReadyH.cons (by (simp only [List.getElem?_toArray, List.getElem?_cons_succ, List.getElem?_cons_zero]); (try exact rfl)) (fun K hK => ?_) AllReadyH.nil)
        go_simp
        go_at_call 36
        refine (C4.out _).mono ?_
        rintro e uc_69 ⟨rfl, bb⟩
        have Duc_69 : Hid (Below z2.heap.size z2 uc_69) := Below.trans Dac_68.out (bb.mono Dac_68.out.size)
        have Zauc_69 := Lib.hid ((bb.block pa (box_lt Zaac_68.out)).trans Zaac_68.out)
        have Zbuc_69 := Lib.hid ((bb.block pb (box_lt Zbac_68.out)).trans Zbac_68.out)
        clear bb
        (first | refine hK.out _ _ ?_ (fun hHeld => ?_) | (go_wp2_with fail; refine hK.out _ _ ?_ (fun hHeld => ?_)))
        · try dsimp only
          exact KS.out _ Duc_69.out
        clear hK K
        try simp only [Act.put, List.setIfInBounds_toArray, List.set_cons_zero, List.set_cons_succ]
        refine wpAnyH_ready (rs := [10]) (by kernel_rfl) (by simp) ?_
        refine AllReadyH.cons (by (simp only [List.getElem?_toArray, List.getElem?_cons_succ, List.getElem?_cons_zero]); (try exact rfl)) (fun K hK => ?_) AllReadyH.nil
        refine step_store_Pr rfl _ _ rfl pa (⟨0, 0⟩ : Pr) (⟨p.s - g.s, p.h - g.h⟩ : Pr) _ rfl rfl Zauc_69.out ?_
        intro ec_70 hE oE bE
        have Dec_70 : Hid (Below z2.heap.size z2 ec_70) := Below.trans Duc_69.out (bE.mono tpa)
        have Zaec_70 := Lib.hid hE
        have Zbec_70 := Lib.hid ((oE pb (by first | assumption | exact Ne.symm (by assumption))).trans Zbuc_69.out)
        clear hE oE bE
        refine hK.out _ _ ?_ (fun hHeld => ?_)
        · try dsimp only
          exact KS.out _ Dec_70.out
        clear hK K
        try simp only [Act.put, List.setIfInBounds_toArray, List.set_cons_zero, List.set_cons_succ]
        refine wpAnyH_ready (rs := [11]) (by kernel_rfl) (by simp) ?_
        refine AllReadyH.cons (by (simp only [List.getElem?_toArray, List.getElem?_cons_succ, List.getElem?_cons_zero]); (try exact rfl)) (fun K hK => ?_) AllReadyH.nil
        refine step_store_Pr rfl _ _ rfl pb (⟨0, 0⟩ : Pr) (⟨p.y - g.y, p.p - g.p⟩ : Pr) _ rfl rfl Zbec_70.out ?_
        intro ec_71 hE oE bE
        have Dec_71 : Hid (Below z2.heap.size z2 ec_71) := Below.trans Dec_70.out (bE.mono tpb)
        have Zbec_71 := Lib.hid hE
        have Zaec_71 := Lib.hid ((oE pa (by first | assumption | exact Ne.symm (by assumption))).trans Zaec_70.out)
        clear hE oE bE
        refine hK.out _ _ ?_ (fun hHeld => ?_)
        · try dsimp only
          exact KS.out _ Dec_71.out
        clear hK K
        try simp only [Act.put, List.setIfInBounds_toArray, List.set_cons_zero, List.set_cons_succ]
        refine wpAnyH_done (by kernel_rfl) ?_ _
        go_wp2_with fail
        go_meet
        exact ⟨pa, pb, rfl, rfl, Dec_71, Zaec_71, Zbec_71⟩
        go_simp
        generalize hA : World.alloc uc_62 (.cells #[.int .i64 0, .int .i64 0] 71) = ac_72
        obtain ⟨pb, hp⟩ : ∃ p, p = uc_62.heap.size := ⟨_, rfl⟩
        have ba : Below uc_62.heap.size uc_62 ac_72 := by rw [← hA]; exact Below.alloc (Below.refl _ _) (Nat.le_refl _) _
        have Zbac_72 := Lib.hid (show ac_72.heap[pb]? = some (.cells #[.int .i64 0, .int .i64 0] 71 (0, 0)) from by rw [← hA, hp]; exact heap_alloc_new _ _)
        have tpb : z2.heap.size ≤ pb := by rw [hp]; exact Duc_62.out.size
        have na_b : pa ≠ pb := by have hh := box_lt Zauc_62.out; rw [hp]; intro e; rw [e] at hh; exact Nat.lt_irrefl _ hh
        have Dac_72 : Hid (Below z2.heap.size z2 ac_72) := Below.trans Duc_62.out (ba.mono Duc_62.out.size)
        have Zaac_72 := Lib.hid ((ba.block pa (box_lt Zauc_62.out)).trans Zauc_62.out)
        rw [← hp]
        clear hA hp ba
        (first | refine hK.out _ _ ?_ (fun hHeld => ?_) | (go_wp2_with fail; refine hK.out _ _ ?_ (fun hHeld => ?_)))
        · try dsimp only
          exact KS.out _ Dac_72.out
        clear hK K
        try simp only [Act.put, List.setIfInBounds_toArray, List.set_cons_zero, List.set_cons_succ]
        refine wpAnyH_ready (rs := [6]) (by kernel_rfl) (by simp) ?_
        refine (AllReadyH.cons (by (simp only [List.getElem?_toArray, List.getElem?_cons_succ, List.getElem?_cons_zero]); (try exact rfl)) (fun K hK => ?_) AllReadyH.nil)
        go_simp
        go_at_call 35
        refine (C3.out _).mono ?_
        rintro e uc_73 ⟨rfl, bb⟩
        have Duc_73 : Hid (Below z2.heap.size z2 uc_73) := Below.trans Dac_72.out (bb.mono Dac_72.out.size)
        have Zauc_73 := Lib.hid ((bb.block pa (box_lt Zaac_72.out)).trans Zaac_72.out)
        have Zbuc_73 := Lib.hid ((bb.block pb (box_lt Zbac_72.out)).trans Zbac_72.out)
        clear bb
        (first | refine hK.out _ _ ?_ (fun hHeld => ?_) | (go_wp2_with fail; refine hK.out _ _ ?_ (fun hHeld => ?_)))
        · try dsimp only
          exact KS.out _ Duc_73.out
        clear hK K
        try simp only [Act.put, List.setIfInBounds_toArray, List.set_cons_zero, List.set_cons_succ]
        refine wpAnyH_ready (rs := [7]) (by kernel_rfl) (by simp) ?_
        refine (AllReadyH.cons (by (simp only [List.getElem?_toArray, List.getElem?_cons_succ, List.getElem?_cons_zero]); (try exact rfl)) (fun K hK => ?_) AllReadyH.nil)
        go_simp
        go_at_call 36
        refine (C4.out _).mono ?_
        rintro e uc_74 ⟨rfl, bb⟩
        have Duc_74 : Hid (Below z2.heap.size z2 uc_74) := Below.trans Duc_73.out (bb.mono Duc_73.out.size)
        have Zauc_74 := Lib.hid ((bb.block pa (box_lt Zauc_73.out)).trans Zauc_73.out)
        have Zbuc_74 := Lib.hid ((bb.block pb (box_lt Zbuc_73.out)).trans Zbuc_73.out)
        clear bb
        (first | refine hK.out _ _ ?_ (fun hHeld => ?_) | (go_wp2_with fail; refine hK.out _ _ ?_ (fun hHeld => ?_)))
        · try dsimp only
          exact KS.out _ Duc_74.out
        clear hK K
        try simp only [Act.put, List.setIfInBounds_toArray, List.set_cons_zero, List.set_cons_succ]
        refine wpAnyH_ready (rs := [10]) (by kernel_rfl) (by simp) ?_
        refine AllReadyH.cons (by (simp only [List.getElem?_toArray, List.getElem?_cons_succ, List.getElem?_cons_zero]); (try exact rfl)) (fun K hK => ?_) AllReadyH.nil
        refine step_store_Pr rfl _ _ rfl pa (⟨0, 0⟩ : Pr) (⟨p.s - g.s, p.h - g.h⟩ : Pr) _ rfl rfl Zauc_74.out ?_
        intro ec_75 hE oE bE
        have Dec_75 : Hid (Below z2.heap.size z2 ec_75) := Below.trans Duc_74.out (bE.mono tpa)
        have Zaec_75 := Lib.hid hE
        have Zbec_75 := Lib.hid ((oE pb (by first | assumption | exact Ne.symm (by assumption))).trans Zbuc_74.out)
        clear hE oE bE
        refine hK.out _ _ ?_ (fun hHeld => ?_)
        · try dsimp only
          exact KS.out _ Dec_75.out
        clear hK K
        try simp only [Act.put, List.setIfInBounds_toArray, List.set_cons_zero, List.set_cons_succ]
        refine wpAnyH_ready (rs := [11]) (by kernel_rfl) (by simp) ?_
        refine AllReadyH.cons (by (simp only [List.getElem?_toArray, List.getElem?_cons_succ, List.getElem?_cons_zero]); (try exact rfl)) (fun K hK => ?_) AllReadyH.nil
        refine step_store_Pr rfl _ _ rfl pb (⟨0, 0⟩ : Pr) (⟨p.y - g.y, p.p - g.p⟩ : Pr) _ rfl rfl Zbec_75.out ?_
        intro ec_76 hE oE bE
        have Dec_76 : Hid (Below z2.heap.size z2 ec_76) := Below.trans Dec_75.out (bE.mono tpb)
        have Zbec_76 := Lib.hid hE
        have Zaec_76 := Lib.hid ((oE pa (by first | assumption | exact Ne.symm (by assumption))).trans Zaec_75.out)
        clear hE oE bE
        refine hK.out _ _ ?_ (fun hHeld => ?_)
        · try dsimp only
          exact KS.out _ Dec_76.out
        clear hK K
        try simp only [Act.put, List.setIfInBounds_toArray, List.set_cons_zero, List.set_cons_succ]
        refine wpAnyH_done (by kernel_rfl) ?_ _
        go_wp2_with fail
        go_meet
        exact ⟨pa, pb, rfl, rfl, Dec_76, Zaec_76, Zbec_76⟩
        go_simp
        generalize hA : World.alloc ac_61 (.cells #[.int .i64 0, .int .i64 0] 71) = ac_77
        obtain ⟨pb, hp⟩ : ∃ p, p = ac_61.heap.size := ⟨_, rfl⟩
        have ba : Below ac_61.heap.size ac_61 ac_77 := by rw [← hA]; exact Below.alloc (Below.refl _ _) (Nat.le_refl _) _
        have Zbac_77 := Lib.hid (show ac_77.heap[pb]? = some (.cells #[.int .i64 0, .int .i64 0] 71 (0, 0)) from by rw [← hA, hp]; exact heap_alloc_new _ _)
        have tpb : z2.heap.size ≤ pb := by rw [hp]; exact Dac_61.out.size
        have na_b : pa ≠ pb := by have hh := box_lt Zaac_61.out; rw [hp]; intro e; rw [e] at hh; exact Nat.lt_irrefl _ hh
        have Dac_77 : Hid (Below z2.heap.size z2 ac_77) := Below.trans Dac_61.out (ba.mono Dac_61.out.size)
        have Zaac_77 := Lib.hid ((ba.block pa (box_lt Zaac_61.out)).trans Zaac_61.out)
        rw [← hp]
        clear hA hp ba
        (first | refine hK.out _ _ ?_ (fun hHeld => ?_) | (go_wp2_with fail; refine hK.out _ _ ?_ (fun hHeld => ?_)))
        · try dsimp only
          exact KS.out _ Dac_77.out
        clear hK K
        try simp only [Act.put, List.setIfInBounds_toArray, List.set_cons_zero, List.set_cons_succ]
        refine wpAnyH_ready (rs := [4]) (by kernel_rfl) (by simp) ?_
        refine (AllReadyH.cons (by (simp only [List.getElem?_toArray, List.getElem?_cons_succ, List.getElem?_cons_zero]); (try exact rfl)) (fun K hK => ?_) AllReadyH.nil)
        go_simp
        go_at_call 35
        refine (C2.out _).mono ?_
        rintro e uc_78 ⟨rfl, bb⟩
        have Duc_78 : Hid (Below z2.heap.size z2 uc_78) := Below.trans Dac_77.out (bb.mono Dac_77.out.size)
        have Zauc_78 := Lib.hid ((bb.block pa (box_lt Zaac_77.out)).trans Zaac_77.out)
        have Zbuc_78 := Lib.hid ((bb.block pb (box_lt Zbac_77.out)).trans Zbac_77.out)
        clear bb
        (first | refine hK.out _ _ ?_ (fun hHeld => ?_) | (go_wp2_with fail; refine hK.out _ _ ?_ (fun hHeld => ?_)))
        · try dsimp only
          exact KS.out _ Duc_78.out
        clear hK K
        try simp only [Act.put, List.setIfInBounds_toArray, List.set_cons_zero, List.set_cons_succ]
        refine wpAnyH_ready (rs := [6]) (by kernel_rfl) (by simp) ?_
        refine (AllReadyH.cons (by (simp only [List.getElem?_toArray, List.getElem?_cons_succ, List.getElem?_cons_zero]); (try exact rfl)) (fun K hK => ?_) AllReadyH.nil)
        go_simp
        go_at_call 35
        refine (C3.out _).mono ?_
        rintro e uc_79 ⟨rfl, bb⟩
        have Duc_79 : Hid (Below z2.heap.size z2 uc_79) := Below.trans Duc_78.out (bb.mono Duc_78.out.size)
        have Zauc_79 := Lib.hid ((bb.block pa (box_lt Zauc_78.out)).trans Zauc_78.out)
        have Zbuc_79 := Lib.hid ((bb.block pb (box_lt Zbuc_78.out)).trans Zbuc_78.out)
        clear bb
        (first | refine hK.out _ _ ?_ (fun hHeld => ?_) | (go_wp2_with fail; refine hK.out _ _ ?_ (fun hHeld => ?_)))
        · try dsimp only
          exact KS.out _ Duc_79.out
        clear hK K
        try simp only [Act.put, List.setIfInBounds_toArray, List.set_cons_zero, List.set_cons_succ]
        refine wpAnyH_ready (rs := [7]) (by kernel_rfl) (by simp) ?_
        refine (AllReadyH.cons (by (simp only [List.getElem?_toArray, List.getElem?_cons_succ, List.getElem?_cons_zero]); (try exact rfl)) (fun K hK => ?_) AllReadyH.nil)
        go_simp
        go_at_call 36
        refine (C4.out _).mono ?_
        rintro e uc_80 ⟨rfl, bb⟩
        have Duc_80 : Hid (Below z2.heap.size z2 uc_80) := Below.trans Duc_79.out (bb.mono Duc_79.out.size)
        have Zauc_80 := Lib.hid ((bb.block pa (box_lt Zauc_79.out)).trans Zauc_79.out)
        have Zbuc_80 := Lib.hid ((bb.block pb (box_lt Zbuc_79.out)).trans Zbuc_79.out)
        clear bb
        (first | refine hK.out _ _ ?_ (fun hHeld => ?_) | (go_wp2_with fail; refine hK.out _ _ ?_ (fun hHeld => ?_)))
        · try dsimp only
          exact KS.out _ Duc_80.out
        clear hK K
        try simp only [Act.put, List.setIfInBounds_toArray, List.set_cons_zero, List.set_cons_succ]
        refine wpAnyH_ready (rs := [10]) (by kernel_rfl) (by simp) ?_
        refine AllReadyH.cons (by (simp only [List.getElem?_toArray, List.getElem?_cons_succ, List.getElem?_cons_zero]); (try exact rfl)) (fun K hK => ?_) AllReadyH.nil
        refine step_store_Pr rfl _ _ rfl pa (⟨0, 0⟩ : Pr) (⟨p.s - g.s, p.h - g.h⟩ : Pr) _ rfl rfl Zauc_80.out ?_
        intro ec_81 hE oE bE
        have Dec_81 : Hid (Below z2.heap.size z2 ec_81) := Below.trans Duc_80.out (bE.mono tpa)
        have Zaec_81 := Lib.hid hE
        have Zbec_81 := Lib.hid ((oE pb (by first | assumption | exact Ne.symm (by assumption))).trans Zbuc_80.out)
        clear hE oE bE
        refine hK.out _ _ ?_ (fun hHeld => ?_)
        · try dsimp only
          exact KS.out _ Dec_81.out
        clear hK K
        try simp only [Act.put, List.setIfInBounds_toArray, List.set_cons_zero, List.set_cons_succ]
        refine wpAnyH_ready (rs := [11]) (by kernel_rfl) (by simp) ?_
        refine AllReadyH.cons (by (simp only [List.getElem?_toArray, List.getElem?_cons_succ, List.getElem?_cons_zero]); (try exact rfl)) (fun K hK => ?_) AllReadyH.nil
        refine step_store_Pr rfl _ _ rfl pb (⟨0, 0⟩ : Pr) (⟨p.y - g.y, p.p - g.p⟩ : Pr) _ rfl rfl Zbec_81.out ?_
        intro ec_82 hE oE bE
        have Dec_82 : Hid (Below z2.heap.size z2 ec_82) := Below.trans Dec_81.out (bE.mono tpb)
        have Zbec_82 := Lib.hid hE
        have Zaec_82 := Lib.hid ((oE pa (by first | assumption | exact Ne.symm (by assumption))).trans Zaec_81.out)
        clear hE oE bE
        refine hK.out _ _ ?_ (fun hHeld => ?_)
        · try dsimp only
          exact KS.out _ Dec_82.out
        clear hK K
        try simp only [Act.put, List.setIfInBounds_toArray, List.set_cons_zero, List.set_cons_succ]
        refine wpAnyH_done (by kernel_rfl) ?_ _
        go_wp2_with fail
        go_meet
        exact ⟨pa, pb, rfl, rfl, Dec_82, Zaec_82, Zbec_82⟩
        go_simp
        generalize hA : World.alloc uc_1 (.cells #[.int .i64 0, .int .i64 0] 71) = ac_83
        obtain ⟨pb, hp⟩ : ∃ p, p = uc_1.heap.size := ⟨_, rfl⟩
        have ba : Below uc_1.heap.size uc_1 ac_83 := by rw [← hA]; exact Below.alloc (Below.refl _ _) (Nat.le_refl _) _
        have Zbac_83 := Lib.hid (show ac_83.heap[pb]? = some (.cells #[.int .i64 0, .int .i64 0] 71 (0, 0)) from by rw [← hA, hp]; exact heap_alloc_new _ _)
        have tpb : z2.heap.size ≤ pb := by rw [hp]; exact Duc_1.out.size
        have Dac_83 : Hid (Below z2.heap.size z2 ac_83) := Below.trans Duc_1.out (ba.mono Duc_1.out.size)
        rw [← hp]
        clear hA hp ba
        (first | refine hK.out _ _ ?_ (fun hHeld => ?_) | (go_wp2_with fail; refine hK.out _ _ ?_ (fun hHeld => ?_)))
        · try dsimp only
          exact KS.out _ Dac_83.out
        clear hK K
        try simp only [Act.put, List.setIfInBounds_toArray, List.set_cons_zero, List.set_cons_succ]
        refine wpAnyH_ready (rs := [4, 8]) (by kernel_rfl) (by simp) ?_
        refine (AllReadyH.cons (by (simp only [List.getElem?_toArray, List.getElem?_cons_succ, List.getElem?_cons_zero]); (try exact rfl)) (fun K hK => ?_) (AllReadyH.cons (by (simp only [List.getElem?_toArray, List.getElem?_cons_succ, List.getElem?_cons_zero]); (try exact rfl)) (fun K hK => ?_) AllReadyH.nil))
        go_simp
        go_at_call 35
        refine (C2.out _).mono ?_
        rintro e uc_84 ⟨rfl, bb⟩
        have Duc_84 : Hid (Below z2.heap.size z2 uc_84) := Below.trans Dac_83.out (bb.mono Dac_83.out.size)
        have Zbuc_84 := Lib.hid ((bb.block pb (box_lt Zbac_83.out)).trans Zbac_83.out)
        clear bb
        (first | refine hK.out _ _ ?_ (fun hHeld => ?_) | (go_wp2_with fail; refine hK.out _ _ ?_ (fun hHeld => ?_)))
        · try dsimp only
          exact KS.out _ Duc_84.out
        clear hK K
        try simp only [Act.put, List.setIfInBounds_toArray, List.set_cons_zero, List.set_cons_succ]
        refine wpAnyH_ready (rs := [6, 8]) (by kernel_rfl) (by simp) ?_
        refine (AllReadyH.cons (by (simp only [List.getElem?_toArray, List.getElem?_cons_succ, List.getElem?_cons_zero]); (try exact rfl)) (fun K hK => ?_) (AllReadyH.cons (by (simp only [List.getElem?_toArray, List.getElem?_cons_succ, List.getElem?_cons_zero]); (try exact rfl)) (fun K hK => ?_) AllReadyH.nil))
        go_simp
        go_at_call 35
        refine (C3.out _).mono ?_
        rintro e uc_85 ⟨rfl, bb⟩
        have Duc_85 : Hid (Below z2.heap.size z2 uc_85) := Below.trans Duc_84.out (bb.mono Duc_84.out.size)
        have Zbuc_85 := Lib.hid ((bb.block pb (box_lt Zbuc_84.out)).trans Zbuc_84.out)
        clear bb
        (first | refine hK.out _ _ ?_ (fun hHeld => ?_) | (go_wp2_with fail; refine hK.out _ _ ?_ (fun hHeld => ?_)))
        · try dsimp only
          exact KS.out _ Duc_85.out
        clear hK K
        try simp only [Act.put, List.setIfInBounds_toArray, List.set_cons_zero, List.set_cons_succ]
        refine wpAnyH_ready (rs := [7, 8]) (by kernel_rfl) (by simp) ?_
        refine (AllReadyH.cons (by (simp only [List.getElem?_toArray, List.getElem?_cons_succ, List.getElem?_cons_zero]); (try exact rfl)) (fun K hK => ?_) (AllReadyH.cons (by (simp only [List.getElem?_toArray, List.getElem?_cons_succ, List.getElem?_cons_zero]); (try exact rfl)) (fun K hK => ?_) AllReadyH.nil))
        go_simp
        go_at_call 36
        refine (C4.out _).mono ?_
        rintro e uc_86 ⟨rfl, bb⟩
        have Duc_86 : Hid (Below z2.heap.size z2 uc_86) := Below.trans Duc_85.out (bb.mono Duc_85.out.size)
        have Zbuc_86 := Lib.hid ((bb.block pb (box_lt Zbuc_85.out)).trans Zbuc_85.out)
        clear bb
        (first | refine hK.out _ _ ?_ (fun hHeld => ?_) | (go_wp2_with fail; refine hK.out _ _ ?_ (fun hHeld => ?_)))
        · try dsimp only
          exact KS.out _ Duc_86.out
        clear hK K
        try simp only [Act.put, List.setIfInBounds_toArray, List.set_cons_zero, List.set_cons_succ]
        refine wpAnyH_ready (rs := [8]) (by kernel_rfl) (by simp) ?_
        refine (AllReadyH.cons (by (simp only [List.getElem?_toArray, List.getElem?_cons_succ, List.getElem?_cons_zero]); (try exact rfl)) (fun K hK => ?_) AllReadyH.nil)
        go_simp
        generalize hA : World.alloc uc_86 (.cells #[.int .i64 0, .int .i64 0] 71) = ac_87
        obtain ⟨pa, hp⟩ : ∃ p, p = uc_86.heap.size := ⟨_, rfl⟩
        have ba : Below uc_86.heap.size uc_86 ac_87 := by rw [← hA]; exact Below.alloc (Below.refl _ _) (Nat.le_refl _) _
        have Zaac_87 := Lib.hid (show ac_87.heap[pa]? = some (.cells #[.int .i64 0, .int .i64 0] 71 (0, 0)) from by rw [← hA, hp]; exact heap_alloc_new _ _)
        have tpa : z2.heap.size ≤ pa := by rw [hp]; exact Duc_86.out.size
        have nb_a : pb ≠ pa := by have hh := box_lt Zbuc_86.out; rw [hp]; intro e; rw [e] at hh; exact Nat.lt_irrefl _ hh
        have Dac_87 : Hid (Below z2.heap.size z2 ac_87) := Below.trans Duc_86.out (ba.mono Duc_86.out.size)
        have Zbac_87 := Lib.hid ((ba.block pb (box_lt Zbuc_86.out)).trans Zbuc_86.out)
        rw [← hp]
        clear hA hp ba
        (first | refine hK.out _ _ ?_ (fun hHeld => ?_) | (go_wp2_with fail; refine hK.out _ _ ?_ (fun hHeld => ?_)))
        · try dsimp only
          exact KS.out _ Dac_87.out
        clear hK K
        try simp only [Act.put, List.setIfInBounds_toArray, List.set_cons_zero, List.set_cons_succ]
        refine wpAnyH_ready (rs := [10]) (by kernel_rfl) (by simp) ?_
        refine AllReadyH.cons (by (simp only [List.getElem?_toArray, List.getElem?_cons_succ, List.getElem?_cons_zero]); (try exact rfl)) (fun K hK => ?_) AllReadyH.nil
        refine step_store_Pr rfl _ _ rfl pa (⟨0, 0⟩ : Pr) (⟨p.s - g.s, p.h - g.h⟩ : Pr) _ rfl rfl Zaac_87.out ?_
        intro ec_88 hE oE bE
        have Dec_88 : Hid (Below z2.heap.size z2 ec_88) := Below.trans Dac_87.out (bE.mono tpa)
        have Zaec_88 := Lib.hid hE
        have Zbec_88 := Lib.hid ((oE pb (by first | assumption | exact Ne.symm (by assumption))).trans Zbac_87.out)
        clear hE oE bE
        refine hK.out _ _ ?_ (fun hHeld => ?_)
        · try dsimp only
          exact KS.out _ Dec_88.out
        clear hK K
        try simp only [Act.put, List.setIfInBounds_toArray, List.set_cons_zero, List.set_cons_succ]
        refine wpAnyH_ready (rs := [11]) (by kernel_rfl) (by simp) ?_
        refine AllReadyH.cons (by (simp only [List.getElem?_toArray, List.getElem?_cons_succ, List.getElem?_cons_zero]); (try exact rfl)) (fun K hK => ?_) AllReadyH.nil
        refine step_store_Pr rfl _ _ rfl pb (⟨0, 0⟩ : Pr) (⟨p.y - g.y, p.p - g.p⟩ : Pr) _ rfl rfl Zbec_88.out ?_
        intro ec_89 hE oE bE
        have Dec_89 : Hid (Below z2.heap.size z2 ec_89) := Below.trans Dec_88.out (bE.mono tpb)
        have Zbec_89 := Lib.hid hE
        have Zaec_89 := Lib.hid ((oE pa (by first | assumption | exact Ne.symm (by assumption))).trans Zaec_88.out)
        clear hE oE bE
        refine hK.out _ _ ?_ (fun hHeld => ?_)
        · try dsimp only
          exact KS.out _ Dec_89.out
        clear hK K
        try simp only [Act.put, List.setIfInBounds_toArray, List.set_cons_zero, List.set_cons_succ]
        refine wpAnyH_done (by kernel_rfl) ?_ _
        go_wp2_with fail
        go_meet
        exact ⟨pa, pb, rfl, rfl, Dec_89, Zaec_89, Zbec_89⟩
        go_simp
        generalize hA : World.alloc uc_85 (.cells #[.int .i64 0, .int .i64 0] 71) = ac_90
        obtain ⟨pa, hp⟩ : ∃ p, p = uc_85.heap.size := ⟨_, rfl⟩
        have ba : Below uc_85.heap.size uc_85 ac_90 := by rw [← hA]; exact Below.alloc (Below.refl _ _) (Nat.le_refl _) _
        have Zaac_90 := Lib.hid (show ac_90.heap[pa]? = some (.cells #[.int .i64 0, .int .i64 0] 71 (0, 0)) from by rw [← hA, hp]; exact heap_alloc_new _ _)
        have tpa : z2.heap.size ≤ pa := by rw [hp]; exact Duc_85.out.size
        have nb_a : pb ≠ pa := by have hh := box_lt Zbuc_85.out; rw [hp]; intro e; rw [e] at hh; exact Nat.lt_irrefl _ hh
        have Dac_90 : Hid (Below z2.heap.size z2 ac_90) := Below.trans Duc_85.out (ba.mono Duc_85.out.size)
        have Zbac_90 := Lib.hid ((ba.block pb (box_lt Zbuc_85.out)).trans Zbuc_85.out)
        rw [← hp]
        clear hA hp ba
        (first | refine hK.out _ _ ?_ (fun hHeld => ?_) | (go_wp2_with fail; refine hK.out _ _ ?_ (fun hHeld => ?_)))
        · try dsimp only
          exact KS.out _ Dac_90.out
        clear hK K
        try simp only [Act.put, List.setIfInBounds_toArray, List.set_cons_zero, List.set_cons_succ]
        refine wpAnyH_ready (rs := [7]) (by kernel_rfl) (by simp) ?_
        refine (AllReadyH.cons (by (simp only [List.getElem?_toArray, List.getElem?_cons_succ, List.getElem?_cons_zero]); (try exact rfl)) (fun K hK => ?_) AllReadyH.nil)
        go_simp
        go_at_call 36
        refine (C4.out _).mono ?_
        rintro e uc_91 ⟨rfl, bb⟩
        have Duc_91 : Hid (Below z2.heap.size z2 uc_91) := Below.trans Dac_90.out (bb.mono Dac_90.out.size)
        have Zbuc_91 := Lib.hid ((bb.block pb (box_lt Zbac_90.out)).trans Zbac_90.out)
        have Zauc_91 := Lib.hid ((bb.block pa (box_lt Zaac_90.out)).trans Zaac_90.out)
        clear bb
        (first | refine hK.out _ _ ?_ (fun hHeld => ?_) | (go_wp2_with fail; refine hK.out _ _ ?_ (fun hHeld => ?_)))
        · try dsimp only
          exact KS.out _ Duc_91.out
        clear hK K
        try simp only [Act.put, List.setIfInBounds_toArray, List.set_cons_zero, List.set_cons_succ]
        refine wpAnyH_ready (rs := [10]) (by kernel_rfl) (by simp) ?_
        refine AllReadyH.cons (by (simp only [List.getElem?_toArray, List.getElem?_cons_succ, List.getElem?_cons_zero]); (try exact rfl)) (fun K hK => ?_) AllReadyH.nil
        refine step_store_Pr rfl _ _ rfl pa (⟨0, 0⟩ : Pr) (⟨p.s - g.s, p.h - g.h⟩ : Pr) _ rfl rfl Zauc_91.out ?_
        intro ec_92 hE oE bE
        have Dec_92 : Hid (Below z2.heap.size z2 ec_92) := Below.trans Duc_91.out (bE.mono tpa)
        have Zaec_92 := Lib.hid hE
        have Zbec_92 := Lib.hid ((oE pb (by first | assumption | exact Ne.symm (by assumption))).trans Zbuc_91.out)
        clear hE oE bE
        refine hK.out _ _ ?_ (fun hHeld => ?_)
        · try dsimp only
          exact KS.out _ Dec_92.out
        clear hK K
        try simp only [Act.put, List.setIfInBounds_toArray, List.set_cons_zero, List.set_cons_succ]
        refine wpAnyH_ready (rs := [11]) (by kernel_rfl) (by simp) ?_
        refine AllReadyH.cons (by (simp only [List.getElem?_toArray, List.getElem?_cons_succ, List.getElem?_cons_zero]); (try exact rfl)) (fun K hK => ?_) AllReadyH.nil
        refine step_store_Pr rfl _ _ rfl pb (⟨0, 0⟩ : Pr) (⟨p.y - g.y, p.p - g.p⟩ : Pr) _ rfl rfl Zbec_92.out ?_
        intro ec_93 hE oE bE
        have Dec_93 : Hid (Below z2.heap.size z2 ec_93) := Below.trans Dec_92.out (bE.mono tpb)
        have Zbec_93 := Lib.hid hE
        have Zaec_93 := Lib.hid ((oE pa (by first | assumption | exact Ne.symm (by assumption))).trans Zaec_92.out)
        clear hE oE bE
        refine hK.out _ _ ?_ (fun hHeld => ?_)
        · try dsimp only
          exact KS.out _ Dec_93.out
        clear hK K
        try simp only [Act.put, List.setIfInBounds_toArray, List.set_cons_zero, List.set_cons_succ]
        refine wpAnyH_done (by kernel_rfl) ?_ _
        go_wp2_with fail
        go_meet
        exact ⟨pa, pb, rfl, rfl, Dec_93, Zaec_93, Zbec_93⟩
        go_simp
        generalize hA : World.alloc uc_84 (.cells #[.int .i64 0, .int .i64 0] 71) = ac_94
        obtain ⟨pa, hp⟩ : ∃ p, p = uc_84.heap.size := ⟨_, rfl⟩
        have ba : Below uc_84.heap.size uc_84 ac_94 := by rw [← hA]; exact Below.alloc (Below.refl _ _) (Nat.le_refl _) _
        have Zaac_94 := Lib.hid (show ac_94.heap[pa]? = some (.cells #[.int .i64 0, .int .i64 0] 71 (0, 0)) from by rw [← hA, hp]; exact heap_alloc_new _ _)
        have tpa : z2.heap.size ≤ pa := by rw [hp]; exact Duc_84.out.size
        have nb_a : pb ≠ pa := by have hh := box_lt Zbuc_84.out; rw [hp]; intro e; rw [e] at hh; exact Nat.lt_irrefl _ hh
        have Dac_94 : Hid (Below z2.heap.size z2 ac_94) := Below.trans Duc_84.out (ba.mono Duc_84.out.size)
        have Zbac_94 := Lib.hid ((ba.block pb (box_lt Zbuc_84.out)).trans Zbuc_84.out)
        rw [← hp]
        clear hA hp ba
        (first | refine hK.out _ _ ?_ (fun hHeld => ?_) | (go_wp2_with fail; refine hK.out _ _ ?_ (fun hHeld => ?_)))
        · try dsimp only
          exact KS.out _ Dac_94.out
        clear hK K
        try simp only [Act.put, List.setIfInBounds_toArray, List.set_cons_zero, List.set_cons_succ]
        refine wpAnyH_ready (rs := [6]) (by kernel_rfl) (by simp) ?_
        refine (AllReadyH.cons (by (simp only [List.getElem?_toArray, List.getElem?_cons_succ, List.getElem?_cons_zero]); (try exact rfl)) (fun K hK => ?_) AllReadyH.nil)
        go_simp
        go_at_call 35
        refine (C3.out _).mono ?_
        rintro e uc_95 ⟨rfl, bb⟩
        have Duc_95 : Hid (Below z2.heap.size z2 uc_95) := Below.trans Dac_94.out (bb.mono Dac_94.out.size)
        have Zbuc_95 := Lib.hid ((bb.block pb (box_lt Zbac_94.out)).trans Zbac_94.out)
        have Zauc_95 := Lib.hid ((bb.block pa (box_lt Zaac_94.out)).trans Zaac_94.out)
        clear bb
        (first | refine hK.out _ _ ?_ (fun hHeld => ?_) | (go_wp2_with fail; refine hK.out _ _ ?_ (fun hHeld => ?_)))
        · try dsimp only
          exact KS.out _ Duc_95.out
        clear hK K
        try simp only [Act.put, List.setIfInBounds_toArray, List.set_cons_zero, List.set_cons_succ]
        refine wpAnyH_ready (rs := [7]) (by kernel_rfl) (by simp) ?_
        refine (AllReadyH.cons (by (simp only [List.getElem?_toArray, List.getElem?_cons_succ, List.getElem?_cons_zero]); (try exact rfl)) (fun K hK => ?_) AllReadyH.nil)
        go_simp
        go_at_call 36
        refine (C4.out _).mono ?_
        rintro e uc_96 ⟨rfl, bb⟩
        have Duc_96 : Hid (Below z2.heap.size z2 uc_96) := Below.trans Duc_95.out (bb.mono Duc_95.out.size)
        have Zbuc_96 := Lib.hid ((bb.block pb (box_lt Zbuc_95.out)).trans Zbuc_95.out)
        have Zauc_96 := Lib.hid ((bb.block pa (box_lt Zauc_95.out)).trans Zauc_95.out)
        clear bb
        (first | refine hK.out _ _ ?_ (fun hHeld => ?_) | (go_wp2_with fail; refine hK.out _ _ ?_ (fun hHeld => ?_)))
        · try dsimp only
          exact KS.out _ Duc_96.out
        clear hK K
        try simp only [Act.put, List.setIfInBounds_toArray, List.set_cons_zero, List.set_cons_succ]
        refine wpAnyH_ready (rs := [10]) (by kernel_rfl) (by simp) ?_
        refine AllReadyH.cons (by (simp only [List.getElem?_toArray, List.getElem?_cons_succ, List.getElem?_cons_zero]); (try exact rfl)) (fun K hK => ?_) AllReadyH.nil
        refine step_store_Pr rfl _ _ rfl pa (⟨0, 0⟩ : Pr) (⟨p.s - g.s, p.h - g.h⟩ : Pr) _ rfl rfl Zauc_96.out ?_
        intro ec_97 hE oE bE
        have Dec_97 : Hid (Below z2.heap.size z2 ec_97) := Below.trans Duc_96.out (bE.mono tpa)
        have Zaec_97 := Lib.hid hE
        have Zbec_97 := Lib.hid ((oE pb (by first | assumption | exact Ne.symm (by assumption))).trans Zbuc_96.out)
        clear hE oE bE
        refine hK.out _ _ ?_ (fun hHeld => ?_)
        · try dsimp only
          exact KS.out _ Dec_97.out
        clear hK K
        try simp only [Act.put, List.setIfInBounds_toArray, List.set_cons_zero, List.set_cons_succ]
        refine wpAnyH_ready (rs := [11]) (by kernel_rfl) (by simp) ?_
        refine AllReadyH.cons (by (simp only [List.getElem?_toArray, List.getElem?_cons_succ, List.getElem?_cons_zero]); (try exact rfl)) (fun K hK => ?_) AllReadyH.nil
        refine step_store_Pr rfl _ _ rfl pb (⟨0, 0⟩ : Pr) (⟨p.y - g.y, p.p - g.p⟩ : Pr) _ rfl rfl Zbec_97.out ?_
        intro ec_98 hE oE bE
        have Dec_98 : Hid (Below z2.heap.size z2 ec_98) := Below.trans Dec_97.out (bE.mono tpb)
        have Zbec_98 := Lib.hid hE
        have Zaec_98 := Lib.hid ((oE pa (by first | assumption | exact Ne.symm (by assumption))).trans Zaec_97.out)
        clear hE oE bE
        refine hK.out _ _ ?_ (fun hHeld => ?_)
        · try dsimp only
          exact KS.out _ Dec_98.out
        clear hK K
        try simp only [Act.put, List.setIfInBounds_toArray, List.set_cons_zero, List.set_cons_succ]
        refine wpAnyH_done (by kernel_rfl) ?_ _
        go_wp2_with fail
        go_meet
        exact ⟨pa, pb, rfl, rfl, Dec_98, Zaec_98, Zbec_98⟩
        go_simp
        generalize hA : World.alloc ac_83 (.cells #[.int .i64 0, .int .i64 0] 71) = ac_99
        obtain ⟨pa, hp⟩ : ∃ p, p = ac_83.heap.size := ⟨_, rfl⟩
        have ba : Below ac_83.heap.size ac_83 ac_99 := by rw [← hA]; exact Below.alloc (Below.refl _ _) (Nat.le_refl _) _
        have Zaac_99 := Lib.hid (show ac_99.heap[pa]? = some (.cells #[.int .i64 0, .int .i64 0] 71 (0, 0)) from by rw [← hA, hp]; exact heap_alloc_new _ _)
        have tpa : z2.heap.size ≤ pa := by rw [hp]; exact Dac_83.out.size
        have nb_a : pb ≠ pa := by have hh := box_lt Zbac_83.out; rw [hp]; intro e; rw [e] at hh; exact Nat.lt_irrefl _ hh
        have Dac_99 : Hid (Below z2.heap.size z2 ac_99) := Below.trans Dac_83.out (ba.mono Dac_83.out.size)
        have Zbac_99 := Lib.hid ((ba.block pb (box_lt Zbac_83.out)).trans Zbac_83.out)
        rw [← hp]
        clear hA hp ba
        (first | refine hK.out _ _ ?_ (fun hHeld => ?_) | (go_wp2_with fail; refine hK.out _ _ ?_ (fun hHeld => ?_)))
        · try dsimp only
          exact KS.out _ Dac_99.out
        clear hK K
        try simp only [Act.put, List.setIfInBounds_toArray, List.set_cons_zero, List.set_cons_succ]
        refine wpAnyH_ready (rs := [4]) (by kernel_rfl) (by simp) ?_
        refine (AllReadyH.cons (by (simp only [List.getElem?_toArray, List.getElem?_cons_succ, List.getElem?_cons_zero]); (try exact rfl)) (fun K hK => ?_) AllReadyH.nil)
        go_simp
        go_at_call 35
        refine (C2.out _).mono ?_
        rintro e uc_100 ⟨rfl, bb⟩
        have Duc_100 : Hid (Below z2.heap.size z2 uc_100) := Below.trans Dac_99.out (bb.mono Dac_99.out.size)
        have Zbuc_100 := Lib.hid ((bb.block pb (box_lt Zbac_99.out)).trans Zbac_99.out)
        have Zauc_100 := Lib.hid ((bb.block pa (box_lt Zaac_99.out)).trans Zaac_99.out)
        clear bb
        (first | refine hK.out _ _ ?_ (fun hHeld => ?_) | (go_wp2_with fail; refine hK.out _ _ ?_ (fun hHeld => ?_)))
        · try dsimp only
          exact KS.out _ Duc_100.out
        clear hK K
        try simp only [Act.put, List.setIfInBounds_toArray, List.set_cons_zero, List.set_cons_succ]
        refine wpAnyH_ready (rs := [6]) (by kernel_rfl) (by simp) ?_
        refine (AllReadyH.cons (by (simp only [List.getElem?_toArray, List.getElem?_cons_succ, List.getElem?_cons_zero]); (try exact rfl)) (fun K hK => ?_) AllReadyH.nil)
        go_simp
        go_at_call 35
        refine (C3.out _).mono ?_
        rintro e uc_101 ⟨rfl, bb⟩
        have Duc_101 : Hid (Below z2.heap.size z2 uc_101) := Below.trans Duc_100.out (bb.mono Duc_100.out.size)
        have Zbuc_101 := Lib.hid ((bb.block pb (box_lt Zbuc_100.out)).trans Zbuc_100.out)
        have Zauc_101 := Lib.hid ((bb.block pa (box_lt Zauc_100.out)).trans Zauc_100.out)
        clear bb
        (first | refine hK.out _ _ ?_ (fun hHeld => ?_) | (go_wp2_with fail; refine hK.out _ _ ?_ (fun hHeld => ?_)))
        · try dsimp only
          exact KS.out _ Duc_101.out
        clear hK K
        try simp only [Act.put, List.setIfInBounds_toArray, List.set_cons_zero, List.set_cons_succ]
        refine wpAnyH_ready (rs := [7]) (by kernel_rfl) (by simp) ?_
        refine (AllReadyH.cons (by (simp only [List.getElem?_toArray, List.getElem?_cons_succ, List.getElem?_cons_zero]); (try exact rfl)) (fun K hK => ?_) AllReadyH.nil)
        go_simp
        go_at_call 36
        refine (C4.out _).mono ?_
        rintro e uc_102 ⟨rfl, bb⟩
        have Duc_102 : Hid (Below z2.heap.size z2 uc_102) := Below.trans Duc_101.out (bb.mono Duc_101.out.size)
        have Zbuc_102 := Lib.hid ((bb.block pb (box_lt Zbuc_101.out)).trans Zbuc_101.out)
        have Zauc_102 := Lib.hid ((bb.block pa (box_lt Zauc_101.out)).trans Zauc_101.out)
        clear bb
        (first | refine hK.out _ _ ?_ (fun hHeld => ?_) | (go_wp2_with fail; refine hK.out _ _ ?_ (fun hHeld => ?_)))
        · try dsimp only
          exact KS.out _ Duc_102.out
        clear hK K
        try simp only [Act.put, List.setIfInBounds_toArray, List.set_cons_zero, List.set_cons_succ]
        refine wpAnyH_ready (rs := [10]) (by kernel_rfl) (by simp) ?_
        refine AllReadyH.cons (by (simp only [List.getElem?_toArray, List.getElem?_cons_succ, List.getElem?_cons_zero]); (try exact rfl)) (fun K hK => ?_) AllReadyH.nil
        refine step_store_Pr rfl _ _ rfl pa (⟨0, 0⟩ : Pr) (⟨p.s - g.s, p.h - g.h⟩ : Pr) _ rfl rfl Zauc_102.out ?_
        intro ec_103 hE oE bE
        have Dec_103 : Hid (Below z2.heap.size z2 ec_103) := Below.trans Duc_102.out (bE.mono tpa)
        have Zaec_103 := Lib.hid hE
        have Zbec_103 := Lib.hid ((oE pb (by first | assumption | exact Ne.symm (by assumption))).trans Zbuc_102.out)
        clear hE oE bE
        refine hK.out _ _ ?_ (fun hHeld => ?_)
        · try dsimp only
          exact KS.out _ Dec_103.out
        clear hK K
        try simp only [Act.put, List.setIfInBounds_toArray, List.set_cons_zero, List.set_cons_succ]
        refine wpAnyH_ready (rs := [11]) (by kernel_rfl) (by simp) ?_
        refine AllReadyH.cons (by (simp only [List.getElem?_toArray, List.getElem?_cons_succ, List.getElem?_cons_zero]); (try exact rfl)) (fun K hK => ?_) AllReadyH.nil
        refine step_store_Pr rfl _ _ rfl pb (⟨0, 0⟩ : Pr) (⟨p.y - g.y, p.p - g.p⟩ : Pr) _ rfl rfl Zbec_103.out ?_
        intro ec_104 hE oE bE
        have Dec_104 : Hid (Below z2.heap.size z2 ec_104) := Below.trans Dec_103.out (bE.mono tpb)
        have Zbec_104 := Lib.hid hE
        have Zaec_104 := Lib.hid ((oE pa (by first | assumption | exact Ne.symm (by assumption))).trans Zaec_103.out)
        clear hE oE bE
        refine hK.out _ _ ?_ (fun hHeld => ?_)
        · try dsimp only
          exact KS.out _ Dec_104.out
        clear hK K
        try simp only [Act.put, List.setIfInBounds_toArray, List.set_cons_zero, List.set_cons_succ]
        refine wpAnyH_done (by kernel_rfl) ?_ _
        go_wp2_with fail
        go_meet
        exact ⟨pa, pb, rfl, rfl, Dec_104, Zaec_104, Zbec_104⟩
        go_simp
        generalize hA : World.drew (World.alloc z2 (.cells #[.int .i64 0, .int .i64 0] 71)) = ac_105
        obtain ⟨pa, hp⟩ : ∃ p, p = z2.heap.size := ⟨_, rfl⟩
        have ba : Below (World.drew z2).heap.size (World.drew z2) ac_105 := by rw [← hA]; exact (Below.alloc (Below.refl _ _) (Nat.le_refl _) _ : Below _ (World.drew z2) (World.alloc (World.drew z2) _))
        have Zaac_105 := Lib.hid (show ac_105.heap[pa]? = some (.cells #[.int .i64 0, .int .i64 0] 71 (0, 0)) from by rw [← hA, hp]; exact heap_alloc_new z2 _)
        have tpa : z2.heap.size ≤ pa := by rw [hp]; exact Nat.le_refl _
        have Dac_105 : Hid (Below z2.heap.size z2 ac_105) := Below.trans D0.out (ba.mono D0.out.size)
        rw [← hp]
        clear hA hp ba
        (first | refine hK.out _ _ ?_ (fun hHeld => ?_) | (go_wp2_with fail; refine hK.out _ _ ?_ (fun hHeld => ?_)))
        · try dsimp only
          exact KS.out _ Dac_105.out
        clear hK K
        try simp only [Act.put, List.setIfInBounds_toArray, List.set_cons_zero, List.set_cons_succ]
        refine wpAnyH_ready (rs := [2, 9]) (by kernel_rfl) (by simp) ?_
        refine (AllReadyH.cons (by (simp only [List.getElem?_toArray, List.getElem?_cons_succ, List.getElem?_cons_zero]); (try exact rfl)) (fun K hK => ?_) (AllReadyH.cons (by (simp only [List.getElem?_toArray, List.getElem?_cons_succ, List.getElem?_cons_zero]); (try exact rfl)) (fun K hK => ?_) AllReadyH.nil))
        go_simp
        go_at_call 34
        refine (C1.out _).mono ?_
        rintro e uc_106 ⟨rfl, bb⟩
        have Duc_106 : Hid (Below z2.heap.size z2 uc_106) := Below.trans Dac_105.out (bb.mono Dac_105.out.size)
        have Zauc_106 := Lib.hid ((bb.block pa (box_lt Zaac_105.out)).trans Zaac_105.out)
        clear bb
        (first | refine hK.out _ _ ?_ (fun hHeld => ?_) | (go_wp2_with fail; refine hK.out _ _ ?_ (fun hHeld => ?_)))
        · try dsimp only
          exact KS.out _ Duc_106.out
        clear hK K
        try simp only [Act.put, List.setIfInBounds_toArray, List.set_cons_zero, List.set_cons_succ]
        refine wpAnyH_ready (rs := [4, 9]) (by kernel_rfl) (by simp) ?_
        refine (AllReadyH.cons (by (simp only [List.getElem?_toArray, List.getElem?_cons_succ, List.getElem?_cons_zero]); (try exact rfl)) (fun K hK => ?_) (AllReadyH.cons (by (simp only [List.getElem?_toArray, List.getElem?_cons_succ, List.getElem?_cons_zero]); (try exact rfl)) (fun K hK => ?_) AllReadyH.nil))
        go_simp
        go_at_call 35
        refine (C2.out _).mono ?_
        rintro e uc_107 ⟨rfl, bb⟩
        have Duc_107 : Hid (Below z2.heap.size z2 uc_107) := Below.trans Duc_106.out (bb.mono Duc_106.out.size)
        have Zauc_107 := Lib.hid ((bb.block pa (box_lt Zauc_106.out)).trans Zauc_106.out)
        clear bb
        (first | refine hK.out _ _ ?_ (fun hHeld => ?_) | (go_wp2_with fail; refine hK.out _ _ ?_ (fun hHeld => ?_)))
        · try dsimp only
          exact KS.out _ Duc_107.out
        clear hK K
        try simp only [Act.put, List.setIfInBounds_toArray, List.set_cons_zero, List.set_cons_succ]
        refine wpAnyH_ready (rs := [6, 9]) (by kernel_rfl) (by simp) ?_
        refine (AllReadyH.cons (by (simp only [List.getElem?_toArray, List.getElem?_cons_succ, List.getElem?_cons_zero]); (try exact rfl)) (fun K hK => ?_) (AllReadyH.cons (by (simp only [List.getElem?_toArray, List.getElem?_cons_succ, List.getElem?_cons_zero]); (try exact rfl)) (fun K hK => ?_) AllReadyH.nil))
        go_simp
        go_at_call 35
        refine (C3.out _).mono ?_
        rintro e uc_108 ⟨rfl, bb⟩
        have Duc_108 : Hid (Below z2.heap.size z2 uc_108) := Below.trans Duc_107.out (bb.mono Duc_107.out.size)
        have Zauc_108 := Lib.hid ((bb.block pa (box_lt Zauc_107.out)).trans Zauc_107.out)
        clear bb
        (first | refine hK.out _ _ ?_ (fun hHeld => ?_) | (go_wp2_with fail; refine hK.out _ _ ?_ (fun hHeld => ?_)))
        · try dsimp only
          exact KS.out _ Duc_108.out
        clear hK K
        try simp only [Act.put, List.setIfInBounds_toArray, List.set_cons_zero, List.set_cons_succ]
        refine wpAnyH_ready (rs := [7, 9]) (by kernel_rfl) (by simp) ?_
        refine (AllReadyH.cons (by (simp only [List.getElem?_toArray, List.getElem?_cons_succ, List.getElem?_cons_zero]); (try exact rfl)) (fun K hK => ?_) (AllReadyH.cons (by (simp only [List.getElem?_toArray, List.getElem?_cons_succ, List.getElem?_cons_zero]); (try exact rfl)) (fun K hK => ?_) AllReadyH.nil))
        go_simp
        go_at_call 36
        refine (C4.out _).mono ?_
        rintro e uc_109 ⟨rfl, bb⟩
        have Duc_109 : Hid (Below z2.heap.size z2 uc_109) := Below.trans Duc_108.out (bb.mono Duc_108.out.size)
        have Zauc_109 := Lib.hid ((bb.block pa (box_lt Zauc_108.out)).trans Zauc_108.out)
        clear bb
        (first | refine hK.out _ _ ?_ (fun hHeld => ?_) | (go_wp2_with fail; refine hK.out _ _ ?_ (fun hHeld => ?_)))
        · try dsimp only
          exact KS.out _ Duc_109.out
        clear hK K
        try simp only [Act.put, List.setIfInBounds_toArray, List.set_cons_zero, List.set_cons_succ]
        refine wpAnyH_ready (rs := [9]) (by kernel_rfl) (by simp) ?_
        refine (AllReadyH.cons (by (simp only [List.getElem?_toArray, List.getElem?_cons_succ, List.getElem?_cons_zero]); (try exact rfl)) (fun K hK => ?_) AllReadyH.nil)
        go_simp
        generalize hA : World.alloc uc_109 (.cells #[.int .i64 0, .int .i64 0] 71) = ac_110
        obtain ⟨pb, hp⟩ : ∃ p, p = uc_109.heap.size := ⟨_, rfl⟩
        have ba : Below uc_109.heap.size uc_109 ac_110 := by rw [← hA]; exact Below.alloc (Below.refl _ _) (Nat.le_refl _) _
        have Zbac_110 := Lib.hid (show ac_110.heap[pb]? = some (.cells #[.int .i64 0, .int .i64 0] 71 (0, 0)) from by rw [← hA, hp]; exact heap_alloc_new _ _)
        have tpb : z2.heap.size ≤ pb := by rw [hp]; exact Duc_109.out.size
        have na_b : pa ≠ pb := by have hh := box_lt Zauc_109.out; rw [hp]; intro e; rw [e] at hh; exact Nat.lt_irrefl _ hh
        have Dac_110 : Hid (Below z2.heap.size z2 ac_110) := Below.trans Duc_109.out (ba.mono Duc_109.out.size)
        have Zaac_110 := Lib.hid ((ba.block pa (box_lt Zauc_109.out)).trans Zauc_109.out)
        rw [← hp]
        clear hA hp ba
        (first | refine hK.out _ _ ?_ (fun hHeld => ?_) | (go_wp2_with fail; refine hK.out _ _ ?_ (fun hHeld => ?_)))
        · try dsimp only
          exact KS.out _ Dac_110.out
        clear hK K
        try simp only [Act.put, List.setIfInBounds_toArray, List.set_cons_zero, List.set_cons_succ]
        refine wpAnyH_ready (rs := [10]) (by kernel_rfl) (by simp) ?_
        refine AllReadyH.cons (by (simp only [List.getElem?_toArray, List.getElem?_cons_succ, List.getElem?_cons_zero]); (try exact rfl)) (fun K hK => ?_) AllReadyH.nil
        refine step_store_Pr rfl _ _ rfl pa (⟨0, 0⟩ : Pr) (⟨p.s - g.s, p.h - g.h⟩ : Pr) _ rfl rfl Zaac_110.out ?_
        intro ec_111 hE oE bE
        have Dec_111 : Hid (Below z2.heap.size z2 ec_111) := Below.trans Dac_110.out (bE.mono tpa)
        have Zaec_111 := Lib.hid hE
        have Zbec_111 := Lib.hid ((oE pb (by first | assumption | exact Ne.symm (by assumption))).trans Zbac_110.out)
        clear hE oE bE
        refine hK.out _ _ ?_ (fun hHeld => ?_)
        · try dsimp only
          exact KS.out _ Dec_111.out
        clear hK K
        try simp only [Act.put, List.setIfInBounds_toArray, List.set_cons_zero, List.set_cons_succ]
        refine wpAnyH_ready (rs := [11]) (by kernel_rfl) (by simp) ?_
        refine AllReadyH.cons (by (simp only [List.getElem?_toArray, List.getElem?_cons_succ, List.getElem?_cons_zero]); (try exact rfl)) (fun K hK => ?_) AllReadyH.nil
        refine step_store_Pr rfl _ _ rfl pb (⟨0, 0⟩ : Pr) (⟨p.y - g.y, p.p - g.p⟩ : Pr) _ rfl rfl Zbec_111.out ?_
        intro ec_112 hE oE bE
        have Dec_112 : Hid (Below z2.heap.size z2 ec_112) := Below.trans Dec_111.out (bE.mono tpb)
        have Zbec_112 := Lib.hid hE
        have Zaec_112 := Lib.hid ((oE pa (by first | assumption | exact Ne.symm (by assumption))).trans Zaec_111.out)
        clear hE oE bE
        refine hK.out _ _ ?_ (fun hHeld => ?_)
        · try dsimp only
          exact KS.out _ Dec_112.out
        clear hK K
        try simp only [Act.put, List.setIfInBounds_toArray, List.set_cons_zero, List.set_cons_succ]
        refine wpAnyH_done (by kernel_rfl) ?_ _
        go_wp2_with fail
        go_meet
        exact ⟨pa, pb, rfl, rfl, Dec_112, Zaec_112, Zbec_112⟩
        go_simp
        generalize hA : World.alloc uc_108 (.cells #[.int .i64 0, .int .i64 0] 71) = ac_113
        obtain ⟨pb, hp⟩ : ∃ p, p = uc_108.heap.size := ⟨_, rfl⟩
        have ba : Below uc_108.heap.size uc_108 ac_113 := by rw [← hA]; exact Below.alloc (Below.refl _ _) (Nat.le_refl _) _
        have Zbac_113 := Lib.hid (show ac_113.heap[pb]? = some (.cells #[.int .i64 0, .int .i64 0] 71 (0, 0)) from by rw [← hA, hp]; exact heap_alloc_new _ _)
        have tpb : z2.heap.size ≤ pb := by rw [hp]; exact Duc_108.out.size
        have na_b : pa ≠ pb := by have hh := box_lt Zauc_108.out; rw [hp]; intro e; rw [e] at hh; exact Nat.lt_irrefl _ hh
        have Dac_113 : Hid (Below z2.heap.size z2 ac_113) := Below.trans Duc_108.out (ba.mono Duc_108.out.size)
        have Zaac_113 := Lib.hid ((ba.block pa (box_lt Zauc_108.out)).trans Zauc_108.out)
        rw [← hp]
        clear hA hp ba
        (first | refine hK.out _ _ ?_ (fun hHeld => ?_) | (go_wp2_with fail; refine hK.out _ _ ?_ (fun hHeld => ?_)))
        · try dsimp only
          exact KS.out _ Dac_113.out
        clear hK K
        try simp only [Act.put, List.setIfInBounds_toArray, List.set_cons_zero, List.set_cons_succ]
        refine wpAnyH_ready (rs := [7]) (by kernel_rfl) (by simp) ?_
        refine (AllReadyH.cons (by (simp only [List.getElem?_toArray, List.getElem?_cons_succ, List.getElem?_cons_zero]); (try exact rfl)) (fun K hK => ?_) AllReadyH.nil)
        go_simp
        go_at_call 36
        refine (C4.out _).mono ?_
        rintro e uc_114 ⟨rfl, bb⟩
        have Duc_114 : Hid (Below z2.heap.size z2 uc_114) := Below.trans Dac_113.out (bb.mono Dac_113.out.size)
        have Zauc_114 := Lib.hid ((bb.block pa (box_lt Zaac_113.out)).trans Zaac_113.out)
        have Zbuc_114 := Lib.hid ((bb.block pb (box_lt Zbac_113.out)).trans Zbac_113.out)
        clear bb
        (first | refine hK.out _ _ ?_ (fun hHeld => ?_) | (go_wp2_with fail; refine hK.out _ _ ?_ (fun hHeld => ?_)))
        · try dsimp only
          exact KS.out _ Duc_114.out
        clear hK K
        try simp only [Act.put, List.setIfInBounds_toArray, List.set_cons_zero, List.set_cons_succ]
        refine wpAnyH_ready (rs := [10]) (by kernel_rfl) (by simp) ?_
        refine AllReadyH.cons (by (simp only [List.getElem?_toArray, List.getElem?_cons_succ, List.getElem?_cons_zero]); (try exact rfl)) (fun K hK => ?_) AllReadyH.nil
        refine step_store_Pr rfl _ _ rfl pa (⟨0, 0⟩ : Pr) (⟨p.s - g.s, p.h - g.h⟩ : Pr) _ rfl rfl Zauc_114.out ?_
        intro ec_115 hE oE bE
        have Dec_115 : Hid (Below z2.heap.size z2 ec_115) := Below.trans Duc_114.out (bE.mono tpa)
        have Zaec_115 := Lib.hid hE
        have Zbec_115 := Lib.hid ((oE pb (by first | assumption | exact Ne.symm (by assumption))).trans Zbuc_114.out)
        clear hE oE bE
        refine hK.out _ _ ?_ (fun hHeld => ?_)
        · try dsimp only
          exact KS.out _ Dec_115.out
        clear hK K
        try simp only [Act.put, List.setIfInBounds_toArray, List.set_cons_zero, List.set_cons_succ]
        refine wpAnyH_ready (rs := [11]) (by kernel_rfl) (by simp) ?_
        refine AllReadyH.cons (by (simp only [List.getElem?_toArray, List.getElem?_cons_succ, List.getElem?_cons_zero]); (try exact rfl)) (fun K hK => ?_) AllReadyH.nil
        refine step_store_Pr rfl _ _ rfl pb (⟨0, 0⟩ : Pr) (⟨p.y - g.y, p.p - g.p⟩ : Pr) _ rfl rfl Zbec_115.out ?_
        intro ec_116 hE oE bE
        have Dec_116 : Hid (Below z2.heap.size z2 ec_116) := Below.trans Dec_115.out (bE.mono tpb)
        have Zbec_116 := Lib.hid hE
        have Zaec_116 := Lib.hid ((oE pa (by first | assumption | exact Ne.symm (by assumption))).trans Zaec_115.out)
        clear hE oE bE
        refine hK.out _ _ ?_ (fun hHeld => ?_)
        · try dsimp only
          exact KS.out _ Dec_116.out
        clear hK K
        try simp only [Act.put, List.setIfInBounds_toArray, List.set_cons_zero, List.set_cons_succ]
        refine wpAnyH_done (by kernel_rfl) ?_ _
        go_wp2_with fail
        go_meet
        exact ⟨pa, pb, rfl, rfl, Dec_116, Zaec_116, Zbec_116⟩
        go_simp
        generalize hA : World.alloc uc_107 (.cells #[.int .i64 0, .int .i64 0] 71) = ac_117
        obtain ⟨pb, hp⟩ : ∃ p, p = uc_107.heap.size := ⟨_, rfl⟩
        have ba : Below uc_107.heap.size uc_107 ac_117 := by rw [← hA]; exact Below.alloc (Below.refl _ _) (Nat.le_refl _) _
        have Zbac_117 := Lib.hid (show ac_117.heap[pb]? = some (.cells #[.int .i64 0, .int .i64 0] 71 (0, 0)) from by rw [← hA, hp]; exact heap_alloc_new _ _)
        have tpb : z2.heap.size ≤ pb := by rw [hp]; exact Duc_107.out.size
        have na_b : pa ≠ pb := by have hh := box_lt Zauc_107.out; rw [hp]; intro e; rw [e] at hh; exact Nat.lt_irrefl _ hh
        have Dac_117 : Hid (Below z2.heap.size z2 ac_117) := Below.trans Duc_107.out (ba.mono Duc_107.out.size)
        have Zaac_117 := Lib.hid ((ba.block pa (box_lt Zauc_107.out)).trans Zauc_107.out)
        rw [← hp]
        clear hA hp ba
        (first | refine hK.out _ _ ?_ (fun hHeld => ?_) | (go_wp2_with fail; refine hK.out _ _ ?_ (fun hHeld => ?_)))
        · try dsimp only
          exact KS.out _ Dac_117.out
        clear hK K
        try simp only [Act.put, List.setIfInBounds_toArray, List.set_cons_zero, List.set_cons_succ]
        refine wpAnyH_ready (rs := [6]) (by kernel_rfl) (by simp) ?_
        refine (AllReadyH.cons (by (simp only [List.getElem?_toArray, List.getElem?_cons_succ, List.getElem?_cons_zero]); (try exact rfl)) (fun K hK => ?_) AllReadyH.nil)
        go_simp
        go_at_call 35
        refine (C3.out _).mono ?_
        rintro e uc_118 ⟨rfl, bb⟩
        have Duc_118 : Hid (Below z2.heap.size z2 uc_118) := Below.trans Dac_117.out (bb.mono Dac_117.out.size)
        have Zauc_118 := Lib.hid ((bb.block pa (box_lt Zaac_117.out)).trans Zaac_117.out)
        have Zbuc_118 := Lib.hid ((bb.block pb (box_lt Zbac_117.out)).trans Zbac_117.out)
        clear bb
        (first | refine hK.out _ _ ?_ (fun hHeld => ?_) | (go_wp2_with fail; refine hK.out _ _ ?_ (fun hHeld => ?_)))
        · try dsimp only
          exact KS.out _ Duc_118.out
        clear hK K
        try simp only [Act.put, List.setIfInBounds_toArray, List.set_cons_zero, List.set_cons_succ]
        refine wpAnyH_ready (rs := [7]) (by kernel_rfl) (by simp) ?_
        refine (AllReadyH.cons (by (simp only [List.getElem?_toArray, List.getElem?_cons_succ, List.getElem?_cons_zero]); (try exact rfl)) (fun K hK => ?_) AllReadyH.nil)
        go_simp
        go_at_call 36
        refine (C4.out _).mono ?_
        rintro e uc_119 ⟨rfl, bb⟩
        have Duc_119 : Hid (Below z2.heap.size z2 uc_119) := Below.trans Duc_118.out (bb.mono Duc_118.out.size)
        have Zauc_119 := Lib.hid ((bb.block pa (box_lt Zauc_118.out)).trans Zauc_118.out)
        have Zbuc_119 := Lib.hid ((bb.block pb (box_lt Zbuc_118.out)).trans Zbuc_118.out)
        clear bb
        (first | refine hK.out _ _ ?_ (fun hHeld => ?_) | (go_wp2_with fail; refine hK.out _ _ ?_ (fun hHeld => ?_)))
        · try dsimp only
          exact KS.out _ Duc_119.out
        clear hK K
        try simp only [Act.put, List.setIfInBounds_toArray, List.set_cons_zero, List.set_cons_succ]
        refine wpAnyH_ready (rs := [10]) (by kernel_rfl) (by simp) ?_
        refine AllReadyH.cons (by (simp only [List.getElem?_toArray, List.getElem?_cons_succ, List.getElem?_cons_zero]); (try exact rfl)) (fun K hK => ?_) AllReadyH.nil
        refine step_store_Pr rfl _ _ rfl pa (⟨0, 0⟩ : Pr) (⟨p.s - g.s, p.h - g.h⟩ : Pr) _ rfl rfl Zauc_119.out ?_
        intro ec_120 hE oE bE
        have Dec_120 : Hid (Below z2.heap.size z2 ec_120) := Below.trans Duc_119.out (bE.mono tpa)
        have Zaec_120 := Lib.hid hE
        have Zbec_120 := Lib.hid ((oE pb (by first | assumption | exact Ne.symm (by assumption))).trans Zbuc_119.out)
        clear hE oE bE
        refine hK.out _ _ ?_ (fun hHeld => ?_)
        · try dsimp only
          exact KS.out _ Dec_120.out
        clear hK K
        try simp only [Act.put, List.setIfInBounds_toArray, List.set_cons_zero, List.set_cons_succ]
        refine wpAnyH_ready (rs := [11]) (by kernel_rfl) (by simp) ?_
        refine AllReadyH.cons (by (simp only [List.getElem?_toArray, List.getElem?_cons_succ, List.getElem?_cons_zero]); (try exact rfl)) (fun K hK => ?_) AllReadyH.nil
        refine step_store_Pr rfl _ _ rfl pb (⟨0, 0⟩ : Pr) (⟨p.y - g.y, p.p - g.p⟩ : Pr) _ rfl rfl Zbec_120.out ?_
        intro ec_121 hE oE bE
        have Dec_121 : Hid (Below z2.heap.size z2 ec_121) := Below.trans Dec_120.out (bE.mono tpb)
        have Zbec_121 := Lib.hid hE
        have Zaec_121 := Lib.hid ((oE pa (by first | assumption | exact Ne.symm (by assumption))).trans Zaec_120.out)
        clear hE oE bE
        refine hK.out _ _ ?_ (fun hHeld => ?_)
        · try dsimp only
          exact KS.out _ Dec_121.out
        clear hK K
        try simp only [Act.put, List.setIfInBounds_toArray, List.set_cons_zero, List.set_cons_succ]
        refine wpAnyH_done (by kernel_rfl) ?_ _
        go_wp2_with fail
        go_meet
        exact ⟨pa, pb, rfl, rfl, Dec_121, Zaec_121, Zbec_121⟩
        go_simp
        generalize hA : World.alloc uc_106 (.cells #[.int .i64 0, .int .i64 0] 71) = ac_122
        obtain ⟨pb, hp⟩ : ∃ p, p = uc_106.heap.size := ⟨_, rfl⟩
        have ba : Below uc_106.heap.size uc_106 ac_122 := by rw [← hA]; exact Below.alloc (Below.refl _ _) (Nat.le_refl _) _
        have Zbac_122 := Lib.hid (show ac_122.heap[pb]? = some (.cells #[.int .i64 0, .int .i64 0] 71 (0, 0)) from by rw [← hA, hp]; exact heap_alloc_new _ _)
        have tpb : z2.heap.size ≤ pb := by rw [hp]; exact Duc_106.out.size
        have na_b : pa ≠ pb := by have hh := box_lt Zauc_106.out; rw [hp]; intro e; rw [e] at hh; exact Nat.lt_irrefl _ hh
        have Dac_122 : Hid (Below z2.heap.size z2 ac_122) := Below.trans Duc_106.out (ba.mono Duc_106.out.size)
        have Zaac_122 := Lib.hid ((ba.block pa (box_lt Zauc_106.out)).trans Zauc_106.out)
        rw [← hp]
        clear hA hp ba
        (first | refine hK.out _ _ ?_ (fun hHeld => ?_) | (go_wp2_with fail; refine hK.out _ _ ?_ (fun hHeld => ?_)))
        · try dsimp only
          exact KS.out _ Dac_122.out
        clear hK K
        try simp only [Act.put, List.setIfInBounds_toArray, List.set_cons_zero, List.set_cons_succ]
        refine wpAnyH_ready (rs := [4]) (by kernel_rfl) (by simp) ?_
        refine (AllReadyH.cons (by (simp only [List.getElem?_toArray, List.getElem?_cons_succ, List.getElem?_cons_zero]); (try exact rfl)) (fun K hK => ?_) AllReadyH.nil)
        go_simp
        go_at_call 35
        refine (C2.out _).mono ?_
        rintro e uc_123 ⟨rfl, bb⟩
        have Duc_123 : Hid (Below z2.heap.size z2 uc_123) := Below.trans Dac_122.out (bb.mono Dac_122.out.size)
        have Zauc_123 := Lib.hid ((bb.block pa (box_lt Zaac_122.out)).trans Zaac_122.out)
        have Zbuc_123 := Lib.hid ((bb.block pb (box_lt Zbac_122.out)).trans Zbac_122.out)
        clear bb
        (first | refine hK.out _ _ ?_ (fun hHeld => ?_) | (go_wp2_with fail; refine hK.out _ _ ?_ (fun hHeld => ?_)))
        · try dsimp only
          exact KS.out _ Duc_123.out
        clear hK K
        try simp only [Act.put, List.setIfInBounds_toArray, List.set_cons_zero, List.set_cons_succ]
        refine wpAnyH_ready (rs := [6]) (by kernel_rfl) (by simp) ?_
        refine (AllReadyH.cons (by (simp only [List.getElem?_toArray, List.getElem?_cons_succ, List.getElem?_cons_zero]); (try exact rfl)) (fun K hK => ?_) AllReadyH.nil)
        go_simp
        go_at_call 35
        refine (C3.out _).mono ?_
        rintro e uc_124 ⟨rfl, bb⟩
        have Duc_124 : Hid (Below z2.heap.size z2 uc_124) := Below.trans Duc_123.out (bb.mono Duc_123.out.size)
        have Zauc_124 := Lib.hid ((bb.block pa (box_lt Zauc_123.out)).trans Zauc_123.out)
        have Zbuc_124 := Lib.hid ((bb.block pb (box_lt Zbuc_123.out)).trans Zbuc_123.out)
        clear bb
        (first | refine hK.out _ _ ?_ (fun hHeld => ?_) | (go_wp2_with fail; refine hK.out _ _ ?_ (fun hHeld => ?_)))
        · try dsimp only
          exact KS.out _ Duc_124.out
        clear hK K
        try simp only [Act.put, List.setIfInBounds_toArray, List.set_cons_zero, List.set_cons_succ]
        refine wpAnyH_ready (rs := [7]) (by kernel_rfl) (by simp) ?_
        refine (AllReadyH.cons (by (simp only [List.getElem?_toArray, List.getElem?_cons_succ, List.getElem?_cons_zero]); (try exact rfl)) (fun K hK => ?_) AllReadyH.nil)
        go_simp
        go_at_call 36
        refine (C4.out _).mono ?_
        rintro e uc_125 ⟨rfl, bb⟩
        have Duc_125 : Hid (Below z2.heap.size z2 uc_125) := Below.trans Duc_124.out (bb.mono Duc_124.out.size)
        have Zauc_125 := Lib.hid ((bb.block pa (box_lt Zauc_124.out)).trans Zauc_124.out)
        have Zbuc_125 := Lib.hid ((bb.block pb (box_lt Zbuc_124.out)).trans Zbuc_124.out)
        clear bb
        (first | refine hK.out _ _ ?_ (fun hHeld => ?_) | (go_wp2_with fail; refine hK.out _ _ ?_ (fun hHeld => ?_)))
        · try dsimp only
          exact KS.out _ Duc_125.out
        clear hK K
        try simp only [Act.put, List.setIfInBounds_toArray, List.set_cons_zero, List.set_cons_succ]
        refine wpAnyH_ready (rs := [10]) (by kernel_rfl) (by simp) ?_
        refine AllReadyH.cons (by (simp only [List.getElem?_toArray, List.getElem?_cons_succ, List.getElem?_cons_zero]); (try exact rfl)) (fun K hK => ?_) AllReadyH.nil
        refine step_store_Pr rfl _ _ rfl pa (⟨0, 0⟩ : Pr) (⟨p.s - g.s, p.h - g.h⟩ : Pr) _ rfl rfl Zauc_125.out ?_
        intro ec_126 hE oE bE
        have Dec_126 : Hid (Below z2.heap.size z2 ec_126) := Below.trans Duc_125.out (bE.mono tpa)
        have Zaec_126 := Lib.hid hE
        have Zbec_126 := Lib.hid ((oE pb (by first | assumption | exact Ne.symm (by assumption))).trans Zbuc_125.out)
        clear hE oE bE
        refine hK.out _ _ ?_ (fun hHeld => ?_)
        · try dsimp only
          exact KS.out _ Dec_126.out
        clear hK K
        try simp only [Act.put, List.setIfInBounds_toArray, List.set_cons_zero, List.set_cons_succ]
        refine wpAnyH_ready (rs := [11]) (by kernel_rfl) (by simp) ?_
        refine AllReadyH.cons (by (simp only [List.getElem?_toArray, List.getElem?_cons_succ, List.getElem?_cons_zero]); (try exact rfl)) (fun K hK => ?_) AllReadyH.nil
        refine step_store_Pr rfl _ _ rfl pb (⟨0, 0⟩ : Pr) (⟨p.y - g.y, p.p - g.p⟩ : Pr) _ rfl rfl Zbec_126.out ?_
        intro ec_127 hE oE bE
        have Dec_127 : Hid (Below z2.heap.size z2 ec_127) := Below.trans Dec_126.out (bE.mono tpb)
        have Zbec_127 := Lib.hid hE
        have Zaec_127 := Lib.hid ((oE pa (by first | assumption | exact Ne.symm (by assumption))).trans Zaec_126.out)
        clear hE oE bE
        refine hK.out _ _ ?_ (fun hHeld => ?_)
        · try dsimp only
          exact KS.out _ Dec_127.out
        clear hK K
        try simp only [Act.put, List.setIfInBounds_toArray, List.set_cons_zero, List.set_cons_succ]
        refine wpAnyH_done (by kernel_rfl) ?_ _
        go_wp2_with fail
        go_meet
        exact ⟨pa, pb, rfl, rfl, Dec_127, Zaec_127, Zbec_127⟩
        go_simp
        generalize hA : World.alloc ac_105 (.cells #[.int .i64 0, .int .i64 0] 71) = ac_128
        obtain ⟨pb, hp⟩ : ∃ p, p = ac_105.heap.size := ⟨_, rfl⟩
        have ba : Below ac_105.heap.size ac_105 ac_128 := by rw [← hA]; exact Below.alloc (Below.refl _ _) (Nat.le_refl _) _
        have Zbac_128 := Lib.hid (show ac_128.heap[pb]? = some (.cells #[.int .i64 0, .int .i64 0] 71 (0, 0)) from by rw [← hA, hp]; exact heap_alloc_new _ _)
        have tpb : z2.heap.size ≤ pb := by rw [hp]; exact Dac_105.out.size
        have na_b : pa ≠ pb := by have hh := box_lt Zaac_105.out; rw [hp]; intro e; rw [e] at hh; exact Nat.lt_irrefl _ hh
        have Dac_128 : Hid (Below z2.heap.size z2 ac_128) := Below.trans Dac_105.out (ba.mono Dac_105.out.size)
        have Zaac_128 := Lib.hid ((ba.block pa (box_lt Zaac_105.out)).trans Zaac_105.out)
        rw [← hp]
        clear hA hp ba
        (first | refine hK.out _ _ ?_ (fun hHeld => ?_) | (go_wp2_with fail; refine hK.out _ _ ?_ (fun hHeld => ?_)))
        · try dsimp only
          exact KS.out _ Dac_128.out
        clear hK K
        try simp only [Act.put, List.setIfInBounds_toArray, List.set_cons_zero, List.set_cons_succ]
        refine wpAnyH_ready (rs := [2]) (by kernel_rfl) (by simp) ?_
        refine (AllReadyH.cons (by (simp only [List.getElem?_toArray, List.getElem?_cons_succ, List.getElem?_cons_zero]); (try exact rfl)) (fun K hK => ?_) AllReadyH.nil)
        go_simp
        go_at_call 34
        refine (C1.out _).mono ?_
        rintro e uc_129 ⟨rfl, bb⟩
        have Duc_129 : Hid (Below z2.heap.size z2 uc_129) := Below.trans Dac_128.out (bb.mono Dac_128.out.size)
        have Zauc_129 := Lib.hid ((bb.block pa (box_lt Zaac_128.out)).trans Zaac_128.out)
        have Zbuc_129 := Lib.hid ((bb.block pb (box_lt Zbac_128.out)).trans Zbac_128.out)
        clear bb
        (first | refine hK.out _ _ ?_ (fun hHeld => ?_) | (go_wp2_with fail; refine hK.out _ _ ?_ (fun hHeld => ?_)))
        · try dsimp only
          exact KS.out _ Duc_129.out
        clear hK K
        try simp only [Act.put, List.setIfInBounds_toArray, List.set_cons_zero, List.set_cons_succ]
        refine wpAnyH_ready (rs := [4]) (by kernel_rfl) (by simp) ?_
        refine (AllReadyH.cons (by (simp only [List.getElem?_toArray, List.getElem?_cons_succ, List.getElem?_cons_zero]); (try exact rfl)) (fun K hK => ?_) AllReadyH.nil)
        go_simp
        go_at_call 35
        refine (C2.out _).mono ?_
        rintro e uc_130 ⟨rfl, bb⟩
        have Duc_130 : Hid (Below z2.heap.size z2 uc_130) := Below.trans Duc_129.out (bb.mono Duc_129.out.size)
        have Zauc_130 := Lib.hid ((bb.block pa (box_lt Zauc_129.out)).trans Zauc_129.out)
        have Zbuc_130 := Lib.hid ((bb.block pb (box_lt Zbuc_129.out)).trans Zbuc_129.out)
        clear bb
        (first | refine hK.out _ _ ?_ (fun hHeld => ?_) | (go_wp2_with fail; refine hK.out _ _ ?_ (fun hHeld => ?_)))
        · try dsimp only
          exact KS.out _ Duc_130.out
        clear hK K
        try simp only [Act.put, List.setIfInBounds_toArray, List.set_cons_zero, List.set_cons_succ]
        refine wpAnyH_ready (rs := [6]) (by kernel_rfl) (by simp) ?_
        refine (AllReadyH.cons (by (simp only [List.getElem?_toArray, List.getElem?_cons_succ, List.getElem?_cons_zero]); (try exact rfl)) (fun K hK => ?_) AllReadyH.nil)
        go_simp
        go_at_call 35
        refine (C3.out _).mono ?_
        rintro e uc_131 ⟨rfl, bb⟩
        have Duc_131 : Hid (Below z2.heap.size z2 uc_131) := Below.trans Duc_130.out (bb.mono Duc_130.out.size)
        have Zauc_131 := Lib.hid ((bb.block pa (box_lt Zauc_130.out)).trans Zauc_130.out)
        have Zbuc_131 := Lib.hid ((bb.block pb (box_lt Zbuc_130.out)).trans Zbuc_130.out)
        clear bb
        (first | refine hK.out _ _ ?_ (fun hHeld => ?_) | (go_wp2_with fail; refine hK.out _ _ ?_ (fun hHeld => ?_)))
        · try dsimp only
          exact KS.out _ Duc_131.out
        clear hK K
        try simp only [Act.put, List.setIfInBounds_toArray, List.set_cons_zero, List.set_cons_succ]
        refine wpAnyH_ready (rs := [7]) (by kernel_rfl) (by simp) ?_
        refine (AllReadyH.cons (by (simp only [List.getElem?_toArray, List.getElem?_cons_succ, List.getElem?_cons_zero]); (try exact rfl)) (fun K hK => ?_) AllReadyH.nil)
        go_simp
        go_at_call 36
        refine (C4.out _).mono ?_
        rintro e uc_132 ⟨rfl, bb⟩
        have Duc_132 : Hid (Below z2.heap.size z2 uc_132) := Below.trans Duc_131.out (bb.mono Duc_131.out.size)
        have Zauc_132 := Lib.hid ((bb.block pa (box_lt Zauc_131.out)).trans Zauc_131.out)
        have Zbuc_132 := Lib.hid ((bb.block pb (box_lt Zbuc_131.out)).trans Zbuc_131.out)
        clear bb
        (first | refine hK.out _ _ ?_ (fun hHeld => ?_) | (go_wp2_with fail; refine hK.out _ _ ?_ (fun hHeld => ?_)))
        · try dsimp only
          exact KS.out _ Duc_132.out
        clear hK K
        try simp only [Act.put, List.setIfInBounds_toArray, List.set_cons_zero, List.set_cons_succ]
        refine wpAnyH_ready (rs := [10]) (by kernel_rfl) (by simp) ?_
        refine AllReadyH.cons (by (simp only [List.getElem?_toArray, List.getElem?_cons_succ, List.getElem?_cons_zero]); (try exact rfl)) (fun K hK => ?_) AllReadyH.nil
        refine step_store_Pr rfl _ _ rfl pa (⟨0, 0⟩ : Pr) (⟨p.s - g.s, p.h - g.h⟩ : Pr) _ rfl rfl Zauc_132.out ?_
        intro ec_133 hE oE bE
        have Dec_133 : Hid (Below z2.heap.size z2 ec_133) := Below.trans Duc_132.out (bE.mono tpa)
        have Zaec_133 := Lib.hid hE
        have Zbec_133 := Lib.hid ((oE pb (by first | assumption | exact Ne.symm (by assumption))).trans Zbuc_132.out)
        clear hE oE bE
        refine hK.out _ _ ?_ (fun hHeld => ?_)
        · try dsimp only
          exact KS.out _ Dec_133.out
        clear hK K
        try simp only [Act.put, List.setIfInBounds_toArray, List.set_cons_zero, List.set_cons_succ]
        refine wpAnyH_ready (rs := [11]) (by kernel_rfl) (by simp) ?_
        refine AllReadyH.cons (by (simp only [List.getElem?_toArray, List.getElem?_cons_succ, List.getElem?_cons_zero]); (try exact rfl)) (fun K hK => ?_) AllReadyH.nil
        refine step_store_Pr rfl _ _ rfl pb (⟨0, 0⟩ : Pr) (⟨p.y - g.y, p.p - g.p⟩ : Pr) _ rfl rfl Zbec_133.out ?_
        intro ec_134 hE oE bE
        have Dec_134 : Hid (Below z2.heap.size z2 ec_134) := Below.trans Dec_133.out (bE.mono tpb)
        have Zbec_134 := Lib.hid hE
        have Zaec_134 := Lib.hid ((oE pa (by first | assumption | exact Ne.symm (by assumption))).trans Zaec_133.out)
        clear hE oE bE
        refine hK.out _ _ ?_ (fun hHeld => ?_)
        · try dsimp only
          exact KS.out _ Dec_134.out
        clear hK K
        try simp only [Act.put, List.setIfInBounds_toArray, List.set_cons_zero, List.set_cons_succ]
        refine wpAnyH_done (by kernel_rfl) ?_ _
        go_wp2_with fail
        go_meet
        exact ⟨pa, pb, rfl, rfl, Dec_134, Zaec_134, Zbec_134⟩
        go_simp
        generalize hA : World.drew (World.alloc z2 (.cells #[.int .i64 0, .int .i64 0] 71)) = ac_135
        obtain ⟨pb, hp⟩ : ∃ p, p = z2.heap.size := ⟨_, rfl⟩
        have ba : Below (World.drew z2).heap.size (World.drew z2) ac_135 := by rw [← hA]; exact (Below.alloc (Below.refl _ _) (Nat.le_refl _) _ : Below _ (World.drew z2) (World.alloc (World.drew z2) _))
        have Zbac_135 := Lib.hid (show ac_135.heap[pb]? = some (.cells #[.int .i64 0, .int .i64 0] 71 (0, 0)) from by rw [← hA, hp]; exact heap_alloc_new z2 _)
        have tpb : z2.heap.size ≤ pb := by rw [hp]; exact Nat.le_refl _
        have Dac_135 : Hid (Below z2.heap.size z2 ac_135) := Below.trans D0.out (ba.mono D0.out.size)
        rw [← hp]
        clear hA hp ba
        (first | refine hK.out _ _ ?_ (fun hHeld => ?_) | (go_wp2_with fail; refine hK.out _ _ ?_ (fun hHeld => ?_)))
        · try dsimp only
          exact KS.out _ Dac_135.out
        clear hK K
        try simp only [Act.put, List.setIfInBounds_toArray, List.set_cons_zero, List.set_cons_succ]
        refine wpAnyH_ready (rs := [2, 8]) (by kernel_rfl) (by simp) ?_
        refine (AllReadyH.cons (by (simp only [List.getElem?_toArray, List.getElem?_cons_succ, List.getElem?_cons_zero]); (try exact rfl)) (fun K hK => ?_) (AllReadyH.cons (by (simp only [List.getElem?_toArray, List.getElem?_cons_succ, List.getElem?_cons_zero]); (try exact rfl)) (fun K hK => ?_) AllReadyH.nil))
        go_simp
        go_at_call 34
        refine (C1.out _).mono ?_
        rintro e uc_136 ⟨rfl, bb⟩
        have Duc_136 : Hid (Below z2.heap.size z2 uc_136) := Below.trans Dac_135.out (bb.mono Dac_135.out.size)
        have Zbuc_136 := Lib.hid ((bb.block pb (box_lt Zbac_135.out)).trans Zbac_135.out)
        clear bb
        (first | refine hK.out _ _ ?_ (fun hHeld => ?_) | (go_wp2_with fail; refine hK.out _ _ ?_ (fun hHeld => ?_)))
        · try dsimp only
          exact KS.out _ Duc_136.out
        clear hK K
        try simp only [Act.put, List.setIfInBounds_toArray, List.set_cons_zero, List.set_cons_succ]
        refine wpAnyH_ready (rs := [4, 8]) (by kernel_rfl) (by simp) ?_
        refine (AllReadyH.cons (by (simp only [List.getElem?_toArray, List.getElem?_cons_succ, List.getElem?_cons_zero]); (try exact rfl)) (fun K hK => ?_) (AllReadyH.cons (by (simp only [List.getElem?_toArray, List.getElem?_cons_succ, List.getElem?_cons_zero]); (try exact rfl)) (fun K hK => ?_) AllReadyH.nil))
        go_simp
        go_at_call 35
        refine (C2.out _).mono ?_
        rintro e uc_137 ⟨rfl, bb⟩
        have Duc_137 : Hid (Below z2.heap.size z2 uc_137) := Below.trans Duc_136.out (bb.mono Duc_136.out.size)
        have Zbuc_137 := Lib.hid ((bb.block pb (box_lt Zbuc_136.out)).trans Zbuc_136.out)
        clear bb
        (first | refine hK.out _ _ ?_ (fun hHeld => ?_) | (go_wp2_with fail; refine hK.out _ _ ?_ (fun hHeld => ?_)))
        · try dsimp only
          exact KS.out _ Duc_137.out
        clear hK K
        try simp only [Act.put, List.setIfInBounds_toArray, List.set_cons_zero, List.set_cons_succ]
        refine wpAnyH_ready (rs := [6, 8]) (by kernel_rfl) (by simp) ?_
        refine (AllReadyH.cons (by (simp only [List.getElem?_toArray, List.getElem?_cons_succ, List.getElem?_cons_zero]); (try exact rfl)) (fun K hK => ?_) (AllReadyH.cons (by (simp only [List.getElem?_toArray, List.getElem?_cons_succ, List.getElem?_cons_zero]); (try exact rfl)) (fun K hK => ?_) AllReadyH.nil))
        go_simp
        go_at_call 35
        refine (C3.out _).mono ?_
        rintro e uc_138 ⟨rfl, bb⟩
        have Duc_138 : Hid (Below z2.heap.size z2 uc_138) := Below.trans Duc_137.out (bb.mono Duc_137.out.size)
        have Zbuc_138 := Lib.hid ((bb.block pb (box_lt Zbuc_137.out)).trans Zbuc_137.out)
        clear bb
        (first | refine hK.out _ _ ?_ (fun hHeld => ?_) | (go_wp2_with fail; refine hK.out _ _ ?_ (fun hHeld => ?_)))
        · try dsimp only
          exact KS.out _ Duc_138.out
        clear hK K
        try simp only [Act.put, List.setIfInBounds_toArray, List.set_cons_zero, List.set_cons_succ]
        refine wpAnyH_ready (rs := [7, 8]) (by kernel_rfl) (by simp) ?_
        refine (AllReadyH.cons (by (simp only [List.getElem?_toArray, List.getElem?_cons_succ, List.getElem?_cons_zero]); (try exact rfl)) (fun K hK => ?_) (AllReadyH.cons (by (simp only [List.getElem?_toArray, List.getElem?_cons_succ, List.getElem?_cons_zero]); (try exact rfl)) (fun K hK => ?_) AllReadyH.nil))
        go_simp
        go_at_call 36
        refine (C4.out _).mono ?_
        rintro e uc_139 ⟨rfl, bb⟩
        have Duc_139 : Hid (Below z2.heap.size z2 uc_139) := Below.trans Duc_138.out (bb.mono Duc_138.out.size)
        have Zbuc_139 := Lib.hid ((bb.block pb (box_lt Zbuc_138.out)).trans Zbuc_138.out)
        clear bb
        (first | refine hK.out _ _ ?_ (fun hHeld => ?_) | (go_wp2_with fail; refine hK.out _ _ ?_ (fun hHeld => ?_)))
        · try dsimp only
          exact KS.out _ Duc_139.out
        clear hK K
        try simp only [Act.put, List.setIfInBounds_toArray, List.set_cons_zero, List.set_cons_succ]
        refine wpAnyH_ready (rs := [8]) (by kernel_rfl) (by simp) ?_
        refine (AllReadyH.cons (by (simp only [List.getElem?_toArray, List.getElem?_cons_succ, List.getElem?_cons_zero]); (try exact rfl)) (fun K hK => ?_) AllReadyH.nil)
        go_simp
        generalize hA : World.alloc uc_139 (.cells #[.int .i64 0, .int .i64 0] 71) = ac_140
        obtain ⟨pa, hp⟩ : ∃ p, p = uc_139.heap.size := ⟨_, rfl⟩
        have ba : Below uc_139.heap.size uc_139 ac_140 := by rw [← hA]; exact Below.alloc (Below.refl _ _) (Nat.le_refl _) _
        have Zaac_140 := Lib.hid (show ac_140.heap[pa]? = some (.cells #[.int .i64 0, .int .i64 0] 71 (0, 0)) from by rw [← hA, hp]; exact heap_alloc_new _ _)
        have tpa : z2.heap.size ≤ pa := by rw [hp]; exact Duc_139.out.size
        have nb_a : pb ≠ pa := by have hh := box_lt Zbuc_139.out; rw [hp]; intro e; rw [e] at hh; exact Nat.lt_irrefl _ hh
        have Dac_140 : Hid (Below z2.heap.size z2 ac_140) := Below.trans Duc_139.out (ba.mono Duc_139.out.size)
        have Zbac_140 := Lib.hid ((ba.block pb (box_lt Zbuc_139.out)).trans Zbuc_139.out)
        rw [← hp]
        clear hA hp ba
        (first | refine hK.out _ _ ?_ (fun hHeld => ?_) | (go_wp2_with fail; refine hK.out _ _ ?_ (fun hHeld => ?_)))
        · try dsimp only
          exact KS.out _ Dac_140.out
        clear hK K
        try simp only [Act.put, List.setIfInBounds_toArray, List.set_cons_zero, List.set_cons_succ]
        refine wpAnyH_ready (rs := [10]) (by kernel_rfl) (by simp) ?_
        refine AllReadyH.cons (by (simp only [List.getElem?_toArray, List.getElem?_cons_succ, List.getElem?_cons_zero]); (try exact rfl)) (fun K hK => ?_) AllReadyH.nil
        refine step_store_Pr rfl _ _ rfl pa (⟨0, 0⟩ : Pr) (⟨p.s - g.s, p.h - g.h⟩ : Pr) _ rfl rfl Zaac_140.out ?_
        intro ec_141 hE oE bE
        have Dec_141 : Hid (Below z2.heap.size z2 ec_141) := Below.trans Dac_140.out (bE.mono tpa)
        have Zaec_141 := Lib.hid hE
        have Zbec_141 := Lib.hid ((oE pb (by first | assumption | exact Ne.symm (by assumption))).trans Zbac_140.out)
        clear hE oE bE
        refine hK.out _ _ ?_ (fun hHeld => ?_)
        · try dsimp only
          exact KS.out _ Dec_141.out
        clear hK K
        try simp only [Act.put, List.setIfInBounds_toArray, List.set_cons_zero, List.set_cons_succ]
        refine wpAnyH_ready (rs := [11]) (by kernel_rfl) (by simp) ?_
        refine AllReadyH.cons (by (simp only [List.getElem?_toArray, List.getElem?_cons_succ, List.getElem?_cons_zero]); (try exact rfl)) (fun K hK => ?_) AllReadyH.nil
        refine step_store_Pr rfl _ _ rfl pb (⟨0, 0⟩ : Pr) (⟨p.y - g.y, p.p - g.p⟩ : Pr) _ rfl rfl Zbec_141.out ?_
        intro ec_142 hE oE bE
        have Dec_142 : Hid (Below z2.heap.size z2 ec_142) := Below.trans Dec_141.out (bE.mono tpb)
        have Zbec_142 := Lib.hid hE
        have Zaec_142 := Lib.hid ((oE pa (by first | assumption | exact Ne.symm (by assumption))).trans Zaec_141.out)
        clear hE oE bE
        refine hK.out _ _ ?_ (fun hHeld => ?_)
        · try dsimp only
          exact KS.out _ Dec_142.out
        clear hK K
        try simp only [Act.put, List.setIfInBounds_toArray, List.set_cons_zero, List.set_cons_succ]
        refine wpAnyH_done (by kernel_rfl) ?_ _
        go_wp2_with fail
        go_meet
        exact ⟨pa, pb, rfl, rfl, Dec_142, Zaec_142, Zbec_142⟩
        go_simp
        generalize hA : World.alloc uc_138 (.cells #[.int .i64 0, .int .i64 0] 71) = ac_143
        obtain ⟨pa, hp⟩ : ∃ p, p = uc_138.heap.size := ⟨_, rfl⟩
        have ba : Below uc_138.heap.size uc_138 ac_143 := by rw [← hA]; exact Below.alloc (Below.refl _ _) (Nat.le_refl _) _
        have Zaac_143 := Lib.hid (show ac_143.heap[pa]? = some (.cells #[.int .i64 0, .int .i64 0] 71 (0, 0)) from by rw [← hA, hp]; exact heap_alloc_new _ _)
        have tpa : z2.heap.size ≤ pa := by rw [hp]; exact Duc_138.out.size
        have nb_a : pb ≠ pa := by have hh := box_lt Zbuc_138.out; rw [hp]; intro e; rw [e] at hh; exact Nat.lt_irrefl _ hh
        have Dac_143 : Hid (Below z2.heap.size z2 ac_143) := Below.trans Duc_138.out (ba.mono Duc_138.out.size)
        have Zbac_143 := Lib.hid ((ba.block pb (box_lt Zbuc_138.out)).trans Zbuc_138.out)
        rw [← hp]
        clear hA hp ba
        (first | refine hK.out _ _ ?_ (fun hHeld => ?_) | (go_wp2_with fail; refine hK.out _ _ ?_ (fun hHeld => ?_)))
        · try dsimp only
          exact KS.out _ Dac_143.out
        clear hK K
        try simp only [Act.put, List.setIfInBounds_toArray, List.set_cons_zero, List.set_cons_succ]
        refine wpAnyH_ready (rs := [7]) (by kernel_rfl) (by simp) ?_
        refine (AllReadyH.cons (by (simp only [List.getElem?_toArray, List.getElem?_cons_succ, List.getElem?_cons_zero]); (try exact rfl)) (fun K hK => ?_) AllReadyH.nil)
        go_simp
        go_at_call 36
        refine (C4.out _).mono ?_
        rintro e uc_144 ⟨rfl, bb⟩
        have Duc_144 : Hid (Below z2.heap.size z2 uc_144) := Below.trans Dac_143.out (bb.mono Dac_143.out.size)
        have Zbuc_144 := Lib.hid ((bb.block pb (box_lt Zbac_143.out)).trans Zbac_143.out)
        have Zauc_144 := Lib.hid ((bb.block pa (box_lt Zaac_143.out)).trans Zaac_143.out)
        clear bb
        (first | refine hK.out _ _ ?_ (fun hHeld => ?_) | (go_wp2_with fail; refine hK.out _ _ ?_ (fun hHeld => ?_)))
        · try dsimp only
          exact KS.out _ Duc_144.out
        clear hK K
        try simp only [Act.put, List.setIfInBounds_toArray, List.set_cons_zero, List.set_cons_succ]
        refine wpAnyH_ready (rs := [10]) (by kernel_rfl) (by simp) ?_
        refine AllReadyH.cons (by (simp only [List.getElem?_toArray, List.getElem?_cons_succ, List.getElem?_cons_zero]); (try exact rfl)) (fun K hK => ?_) AllReadyH.nil
        refine step_store_Pr rfl _ _ rfl pa (⟨0, 0⟩ : Pr) (⟨p.s - g.s, p.h - g.h⟩ : Pr) _ rfl rfl Zauc_144.out ?_
        intro ec_145 hE oE bE
        have Dec_145 : Hid (Below z2.heap.size z2 ec_145) := Below.trans Duc_144.out (bE.mono tpa)
        have Zaec_145 := Lib.hid hE
        have Zbec_145 := Lib.hid ((oE pb (by first | assumption | exact Ne.symm (by assumption))).trans Zbuc_144.out)
        clear hE oE bE
        refine hK.out _ _ ?_ (fun hHeld => ?_)
        · try dsimp only
          exact KS.out _ Dec_145.out
        clear hK K
        try simp only [Act.put, List.setIfInBounds_toArray, List.set_cons_zero, List.set_cons_succ]
        refine wpAnyH_ready (rs := [11]) (by kernel_rfl) (by simp) ?_
        refine AllReadyH.cons (by (simp only [List.getElem?_toArray, List.getElem?_cons_succ, List.getElem?_cons_zero]); (try exact rfl)) (fun K hK => ?_) AllReadyH.nil
        refine step_store_Pr rfl _ _ rfl pb (⟨0, 0⟩ : Pr) (⟨p.y - g.y, p.p - g.p⟩ : Pr) _ rfl rfl Zbec_145.out ?_
        intro ec_146 hE oE bE
        have Dec_146 : Hid (Below z2.heap.size z2 ec_146) := Below.trans Dec_145.out (bE.mono tpb)
        have Zbec_146 := Lib.hid hE
        have Zaec_146 := Lib.hid ((oE pa (by first | assumption | exact Ne.symm (by assumption))).trans Zaec_145.out)
        clear hE oE bE
        refine hK.out _ _ ?_ (fun hHeld => ?_)
        · try dsimp only
          exact KS.out _ Dec_146.out
        clear hK K
        try simp only [Act.put, List.setIfInBounds_toArray, List.set_cons_zero, List.set_cons_succ]
        refine wpAnyH_done (by kernel_rfl) ?_ _
        go_wp2_with fail
        go_meet
        exact ⟨pa, pb, rfl, rfl, Dec_146, Zaec_146, Zbec_146⟩
        go_simp
        generalize hA : World.alloc uc_137 (.cells #[.int .i64 0, .int .i64 0] 71) = ac_147
        obtain ⟨pa, hp⟩ : ∃ p, p = uc_137.heap.size := ⟨_, rfl⟩
        have ba : Below uc_137.heap.size uc_137 ac_147 := by rw [← hA]; exact Below.alloc (Below.refl _ _) (Nat.le_refl _) _
        have Zaac_147 := Lib.hid (show ac_147.heap[pa]? = some (.cells #[.int .i64 0, .int .i64 0] 71 (0, 0)) from by rw [← hA, hp]; exact heap_alloc_new _ _)
        have tpa : z2.heap.size ≤ pa := by rw [hp]; exact Duc_137.out.size
        have nb_a : pb ≠ pa := by have hh := box_lt Zbuc_137.out; rw [hp]; intro e; rw [e] at hh; exact Nat.lt_irrefl _ hh
        have Dac_147 : Hid (Below z2.heap.size z2 ac_147) := Below.trans Duc_137.out (ba.mono Duc_137.out.size)
        have Zbac_147 := Lib.hid ((ba.block pb (box_lt Zbuc_137.out)).trans Zbuc_137.out)
        rw [← hp]
        clear hA hp ba
        (first | refine hK.out _ _ ?_ (fun hHeld => ?_) | (go_wp2_with fail; refine hK.out _ _ ?_ (fun hHeld => ?_)))
        · try dsimp only
          exact KS.out _ Dac_147.out
        clear hK K
        try simp only [Act.put, List.setIfInBounds_toArray, List.set_cons_zero, List.set_cons_succ]
        refine wpAnyH_ready (rs := [6]) (by kernel_rfl) (by simp) ?_
        refine (AllReadyH.cons (by (simp only [List.getElem?_toArray, List.getElem?_cons_succ, List.getElem?_cons_zero]); (try exact rfl)) (fun K hK => ?_) AllReadyH.nil)
        go_simp
        go_at_call 35
        refine (C3.out _).mono ?_
        rintro e uc_148 ⟨rfl, bb⟩
        have Duc_148 : Hid (Below z2.heap.size z2 uc_148) := Below.trans Dac_147.out (bb.mono Dac_147.out.size)
        have Zbuc_148 := Lib.hid ((bb.block pb (box_lt Zbac_147.out)).trans Zbac_147.out)
        have Zauc_148 := Lib.hid ((bb.block pa (box_lt Zaac_147.out)).trans Zaac_147.out)
        clear bb
        (first | refine hK.out _ _ ?_ (fun hHeld => ?_) | (go_wp2_with fail; refine hK.out _ _ ?_ (fun hHeld => ?_)))
        · try dsimp only
          exact KS.out _ Duc_148.out
        clear hK K
        try simp only [Act.put, List.setIfInBounds_toArray, List.set_cons_zero, List.set_cons_succ]
        refine wpAnyH_ready (rs := [7]) (by kernel_rfl) (by simp) ?_
        refine (AllReadyH.cons (by (simp only [List.getElem?_toArray, List.getElem?_cons_succ, List.getElem?_cons_zero]); (try exact rfl)) (fun K hK => ?_) AllReadyH.nil)
        go_simp
        go_at_call 36
        refine (C4.out _).mono ?_
        rintro e uc_149 ⟨rfl, bb⟩
        have Duc_149 : Hid (Below z2.heap.size z2 uc_149) := Below.trans Duc_148.out (bb.mono Duc_148.out.size)
        have Zbuc_149 := Lib.hid ((bb.block pb (box_lt Zbuc_148.out)).trans Zbuc_148.out)
        have Zauc_149 := Lib.hid ((bb.block pa (box_lt Zauc_148.out)).trans Zauc_148.out)
        clear bb
        (first | refine hK.out _ _ ?_ (fun hHeld => ?_) | (go_wp2_with fail; refine hK.out _ _ ?_ (fun hHeld => ?_)))
        · try dsimp only
          exact KS.out _ Duc_149.out
        clear hK K
        try simp only [Act.put, List.setIfInBounds_toArray, List.set_cons_zero, List.set_cons_succ]
        refine wpAnyH_ready (rs := [10]) (by kernel_rfl) (by simp) ?_
        refine AllReadyH.cons (by (simp only [List.getElem?_toArray, List.getElem?_cons_succ, List.getElem?_cons_zero]); (try exact rfl)) (fun K hK => ?_) AllReadyH.nil
        refine step_store_Pr rfl _ _ rfl pa (⟨0, 0⟩ : Pr) (⟨p.s - g.s, p.h - g.h⟩ : Pr) _ rfl rfl Zauc_149.out ?_
        intro ec_150 hE oE bE
        have Dec_150 : Hid (Below z2.heap.size z2 ec_150) := Below.trans Duc_149.out (bE.mono tpa)
        have Zaec_150 := Lib.hid hE
        have Zbec_150 := Lib.hid ((oE pb (by first | assumption | exact Ne.symm (by assumption))).trans Zbuc_149.out)
        clear hE oE bE
        refine hK.out _ _ ?_ (fun hHeld => ?_)
        · try dsimp only
          exact KS.out _ Dec_150.out
        clear hK K
        try simp only [Act.put, List.setIfInBounds_toArray, List.set_cons_zero, List.set_cons_succ]
        refine wpAnyH_ready (rs := [11]) (by kernel_rfl) (by simp) ?_
        refine AllReadyH.cons (by (simp only [List.getElem?_toArray, List.getElem?_cons_succ, List.getElem?_cons_zero]); (try exact rfl)) (fun K hK => ?_) AllReadyH.nil
        refine step_store_Pr rfl _ _ rfl pb (⟨0, 0⟩ : Pr) (⟨p.y - g.y, p.p - g.p⟩ : Pr) _ rfl rfl Zbec_150.out ?_
        intro ec_151 hE oE bE
        have Dec_151 : Hid (Below z2.heap.size z2 ec_151) := Below.trans Dec_150.out (bE.mono tpb)
        have Zbec_151 := Lib.hid hE
        have Zaec_151 := Lib.hid ((oE pa (by first | assumption | exact Ne.symm (by assumption))).trans Zaec_150.out)
        clear hE oE bE
        refine hK.out _ _ ?_ (fun hHeld => ?_)
        · try dsimp only
          exact KS.out _ Dec_151.out
        clear hK K
        try simp only [Act.put, List.setIfInBounds_toArray, List.set_cons_zero, List.set_cons_succ]
        refine wpAnyH_done (by kernel_rfl) ?_ _
        go_wp2_with fail
        go_meet
        exact ⟨pa, pb, rfl, rfl, Dec_151, Zaec_151, Zbec_151⟩
        go_simp
        generalize hA : World.alloc uc_136 (.cells #[.int .i64 0, .int .i64 0] 71) = ac_152
        obtain ⟨pa, hp⟩ : ∃ p, p = uc_136.heap.size := ⟨_, rfl⟩
        have ba : Below uc_136.heap.size uc_136 ac_152 := by rw [← hA]; exact Below.alloc (Below.refl _ _) (Nat.le_refl _) _
        have Zaac_152 := Lib.hid (show ac_152.heap[pa]? = some (.cells #[.int .i64 0, .int .i64 0] 71 (0, 0)) from by rw [← hA, hp]; exact heap_alloc_new _ _)
        have tpa : z2.heap.size ≤ pa := by rw [hp]; exact Duc_136.out.size
        have nb_a : pb ≠ pa := by have hh := box_lt Zbuc_136.out; rw [hp]; intro e; rw [e] at hh; exact Nat.lt_irrefl _ hh
        have Dac_152 : Hid (Below z2.heap.size z2 ac_152) := Below.trans Duc_136.out (ba.mono Duc_136.out.size)
        have Zbac_152 := Lib.hid ((ba.block pb (box_lt Zbuc_136.out)).trans Zbuc_136.out)
        rw [← hp]
        clear hA hp ba
        (first | refine hK.out _ _ ?_ (fun hHeld => ?_) | (go_wp2_with fail; refine hK.out _ _ ?_ (fun hHeld => ?_)))
        · try dsimp only
          exact KS.out _ Dac_152.out
        clear hK K
        try simp only [Act.put, List.setIfInBounds_toArray, List.set_cons_zero, List.set_cons_succ]
        refine wpAnyH_ready (rs := [4]) (by kernel_rfl) (by simp) ?_
        refine (AllReadyH.cons (by (simp only [List.getElem?_toArray, List.getElem?_cons_succ, List.getElem?_cons_zero]); (try exact rfl)) (fun K hK => ?_) AllReadyH.nil)
        go_simp
        go_at_call 35
        refine (C2.out _).mono ?_
        rintro e uc_153 ⟨rfl, bb⟩
        have Duc_153 : Hid (Below z2.heap.size z2 uc_153) := Below.trans Dac_152.out (bb.mono Dac_152.out.size)
        have Zbuc_153 := Lib.hid ((bb.block pb (box_lt Zbac_152.out)).trans Zbac_152.out)
        have Zauc_153 := Lib.hid ((bb.block pa (box_lt Zaac_152.out)).trans Zaac_152.out)
        clear bb
        (first | refine hK.out _ _ ?_ (fun hHeld => ?_) | (go_wp2_with fail; refine hK.out _ _ ?_ (fun hHeld => ?_)))
        · try dsimp only
          exact KS.out _ Duc_153.out
        clear hK K
        try simp only [Act.put, List.setIfInBounds_toArray, List.set_cons_zero, List.set_cons_succ]
        refine wpAnyH_ready (rs := [6]) (by kernel_rfl) (by simp) ?_
        refine (AllReadyH.cons (by (simp only [List.getElem?_toArray, List.getElem?_cons_succ, List.getElem?_cons_zero]); (try exact rfl)) (fun K hK => ?_) AllReadyH.nil)
        go_simp
        go_at_call 35
        refine (C3.out _).mono ?_
        rintro e uc_154 ⟨rfl, bb⟩
        have Duc_154 : Hid (Below z2.heap.size z2 uc_154) := Below.trans Duc_153.out (bb.mono Duc_153.out.size)
        have Zbuc_154 := Lib.hid ((bb.block pb (box_lt Zbuc_153.out)).trans Zbuc_153.out)
        have Zauc_154 := Lib.hid ((bb.block pa (box_lt Zauc_153.out)).trans Zauc_153.out)
        clear bb
        (first | refine hK.out _ _ ?_ (fun hHeld => ?_) | (go_wp2_with fail; refine hK.out _ _ ?_ (fun hHeld => ?_)))
        · try dsimp only
          exact KS.out _ Duc_154.out
        clear hK K
        try simp only [Act.put, List.setIfInBounds_toArray, List.set_cons_zero, List.set_cons_succ]
        refine wpAnyH_ready (rs := [7]) (by kernel_rfl) (by simp) ?_
        refine (AllReadyH.cons (by (simp only [List.getElem?_toArray, List.getElem?_cons_succ, List.getElem?_cons_zero]); (try exact rfl)) (fun K hK => ?_) AllReadyH.nil)
        go_simp
        go_at_call 36
        refine (C4.out _).mono ?_
        rintro e uc_155 ⟨rfl, bb⟩
        have Duc_155 : Hid (Below z2.heap.size z2 uc_155) := Below.trans Duc_154.out (bb.mono Duc_154.out.size)
        have Zbuc_155 := Lib.hid ((bb.block pb (box_lt Zbuc_154.out)).trans Zbuc_154.out)
        have Zauc_155 := Lib.hid ((bb.block pa (box_lt Zauc_154.out)).trans Zauc_154.out)
        clear bb
        (first | refine hK.out _ _ ?_ (fun hHeld => ?_) | (go_wp2_with fail; refine hK.out _ _ ?_ (fun hHeld => ?_)))
        · try dsimp only
          exact KS.out _ Duc_155.out
        clear hK K
        try simp only [Act.put, List.setIfInBounds_toArray, List.set_cons_zero, List.set_cons_succ]
        refine wpAnyH_ready (rs := [10]) (by kernel_rfl) (by simp) ?_
        refine AllReadyH.cons (by (simp only [List.getElem?_toArray, List.getElem?_cons_succ, List.getElem?_cons_zero]); (try exact rfl)) (fun K hK => ?_) AllReadyH.nil
        refine step_store_Pr rfl _ _ rfl pa (⟨0, 0⟩ : Pr) (⟨p.s - g.s, p.h - g.h⟩ : Pr) _ rfl rfl Zauc_155.out ?_
        intro ec_156 hE oE bE
        have Dec_156 : Hid (Below z2.heap.size z2 ec_156) := Below.trans Duc_155.out (bE.mono tpa)
        have Zaec_156 := Lib.hid hE
        have Zbec_156 := Lib.hid ((oE pb (by first | assumption | exact Ne.symm (by assumption))).trans Zbuc_155.out)
        clear hE oE bE
        refine hK.out _ _ ?_ (fun hHeld => ?_)
        · try dsimp only
          exact KS.out _ Dec_156.out
        clear hK K
        try simp only [Act.put, List.setIfInBounds_toArray, List.set_cons_zero, List.set_cons_succ]
        refine wpAnyH_ready (rs := [11]) (by kernel_rfl) (by simp) ?_
        refine AllReadyH.cons (by (simp only [List.getElem?_toArray, List.getElem?_cons_succ, List.getElem?_cons_zero]); (try exact rfl)) (fun K hK => ?_) AllReadyH.nil
        refine step_store_Pr rfl _ _ rfl pb (⟨0, 0⟩ : Pr) (⟨p.y - g.y, p.p - g.p⟩ : Pr) _ rfl rfl Zbec_156.out ?_
        intro ec_157 hE oE bE
        have Dec_157 : Hid (Below z2.heap.size z2 ec_157) := Below.trans Dec_156.out (bE.mono tpb)
        have Zbec_157 := Lib.hid hE
        have Zaec_157 := Lib.hid ((oE pa (by first | assumption | exact Ne.symm (by assumption))).trans Zaec_156.out)
        clear hE oE bE
        refine hK.out _ _ ?_ (fun hHeld => ?_)
        · try dsimp only
          exact KS.out _ Dec_157.out
        clear hK K
        try simp only [Act.put, List.setIfInBounds_toArray, List.set_cons_zero, List.set_cons_succ]
        refine wpAnyH_done (by kernel_rfl) ?_ _
        go_wp2_with fail
        go_meet
        exact ⟨pa, pb, rfl, rfl, Dec_157, Zaec_157, Zbec_157⟩
        go_simp
        generalize hA : World.alloc ac_135 (.cells #[.int .i64 0, .int .i64 0] 71) = ac_158
        obtain ⟨pa, hp⟩ : ∃ p, p = ac_135.heap.size := ⟨_, rfl⟩
        have ba : Below ac_135.heap.size ac_135 ac_158 := by rw [← hA]; exact Below.alloc (Below.refl _ _) (Nat.le_refl _) _
        have Zaac_158 := Lib.hid (show ac_158.heap[pa]? = some (.cells #[.int .i64 0, .int .i64 0] 71 (0, 0)) from by rw [← hA, hp]; exact heap_alloc_new _ _)
        have tpa : z2.heap.size ≤ pa := by rw [hp]; exact Dac_135.out.size
        have nb_a : pb ≠ pa := by have hh := box_lt Zbac_135.out; rw [hp]; intro e; rw [e] at hh; exact Nat.lt_irrefl _ hh
        have Dac_158 : Hid (Below z2.heap.size z2 ac_158) := Below.trans Dac_135.out (ba.mono Dac_135.out.size)
        have Zbac_158 := Lib.hid ((ba.block pb (box_lt Zbac_135.out)).trans Zbac_135.out)
        rw [← hp]
        clear hA hp ba
        (first | refine hK.out _ _ ?_ (fun hHeld => ?_) | (go_wp2_with fail; refine hK.out _ _ ?_ (fun hHeld => ?_)))
        · try dsimp only
          exact KS.out _ Dac_158.out
        clear hK K
        try simp only [Act.put, List.setIfInBounds_toArray, List.set_cons_zero, List.set_cons_succ]
        refine wpAnyH_ready (rs := [2]) (by kernel_rfl) (by simp) ?_
        refine (AllReadyH.cons (by (simp only [List.getElem?_toArray, List.getElem?_cons_succ, List.getElem?_cons_zero]); (try exact rfl)) (fun K hK => ?_) AllReadyH.nil)
        go_simp
        go_at_call 34
        refine (C1.out _).mono ?_
        rintro e uc_159 ⟨rfl, bb⟩
        have Duc_159 : Hid (Below z2.heap.size z2 uc_159) := Below.trans Dac_158.out (bb.mono Dac_158.out.size)
        have Zbuc_159 := Lib.hid ((bb.block pb (box_lt Zbac_158.out)).trans Zbac_158.out)
        have Zauc_159 := Lib.hid ((bb.block pa (box_lt Zaac_158.out)).trans Zaac_158.out)
        clear bb
        (first | refine hK.out _ _ ?_ (fun hHeld => ?_) | (go_wp2_with fail; refine hK.out _ _ ?_ (fun hHeld => ?_)))
        · try dsimp only
          exact KS.out _ Duc_159.out
        clear hK K
        try simp only [Act.put, List.setIfInBounds_toArray, List.set_cons_zero, List.set_cons_succ]
        refine wpAnyH_ready (rs := [4]) (by kernel_rfl) (by simp) ?_
        refine (AllReadyH.cons (by (simp only [List.getElem?_toArray, List.getElem?_cons_succ, List.getElem?_cons_zero]); (try exact rfl)) (fun K hK => ?_) AllReadyH.nil)
        go_simp
        go_at_call 35
        refine (C2.out _).mono ?_
        rintro e uc_160 ⟨rfl, bb⟩
        have Duc_160 : Hid (Below z2.heap.size z2 uc_160) := Below.trans Duc_159.out (bb.mono Duc_159.out.size)
        have Zbuc_160 := Lib.hid ((bb.block pb (box_lt Zbuc_159.out)).trans Zbuc_159.out)
        have Zauc_160 := Lib.hid ((bb.block pa (box_lt Zauc_159.out)).trans Zauc_159.out)
        clear bb
        (first | refine hK.out _ _ ?_ (fun hHeld => ?_) | (go_wp2_with fail; refine hK.out _ _ ?_ (fun hHeld => ?_)))
        · try dsimp only
          exact KS.out _ Duc_160.out
        clear hK K
        try simp only [Act.put, List.setIfInBounds_toArray, List.set_cons_zero, List.set_cons_succ]
        refine wpAnyH_ready (rs := [6]) (by kernel_rfl) (by simp) ?_
        refine (AllReadyH.cons (by (simp only [List.getElem?_toArray, List.getElem?_cons_succ, List.getElem?_cons_zero]); (try exact rfl)) (fun K hK => ?_) AllReadyH.nil)
        go_simp
        go_at_call 35
        refine (C3.out _).mono ?_
        rintro e uc_161 ⟨rfl, bb⟩
        have Duc_161 : Hid (Below z2.heap.size z2 uc_161) := Below.trans Duc_160.out (bb.mono Duc_160.out.size)
        have Zbuc_161 := Lib.hid ((bb.block pb (box_lt Zbuc_160.out)).trans Zbuc_160.out)
        have Zauc_161 := Lib.hid ((bb.block pa (box_lt Zauc_160.out)).trans Zauc_160.out)
        clear bb
        (first | refine hK.out _ _ ?_ (fun hHeld => ?_) | (go_wp2_with fail; refine hK.out _ _ ?_ (fun hHeld => ?_)))
        · try dsimp only
          exact KS.out _ Duc_161.out
        clear hK K
        try simp only [Act.put, List.setIfInBounds_toArray, List.set_cons_zero, List.set_cons_succ]
        refine wpAnyH_ready (rs := [7]) (by kernel_rfl) (by simp) ?_
        refine (AllReadyH.cons (by (simp only [List.getElem?_toArray, List.getElem?_cons_succ, List.getElem?_cons_zero]); (try exact rfl)) (fun K hK => ?_) AllReadyH.nil)
        go_simp
        go_at_call 36
        refine (C4.out _).mono ?_
        rintro e uc_162 ⟨rfl, bb⟩
        have Duc_162 : Hid (Below z2.heap.size z2 uc_162) := Below.trans Duc_161.out (bb.mono Duc_161.out.size)
        have Zbuc_162 := Lib.hid ((bb.block pb (box_lt Zbuc_161.out)).trans Zbuc_161.out)
        have Zauc_162 := Lib.hid ((bb.block pa (box_lt Zauc_161.out)).trans Zauc_161.out)
        clear bb
        (first | refine hK.out _ _ ?_ (fun hHeld => ?_) | (go_wp2_with fail; refine hK.out _ _ ?_ (fun hHeld => ?_)))
        · try dsimp only
          exact KS.out _ Duc_162.out
        clear hK K
        try simp only [Act.put, List.setIfInBounds_toArray, List.set_cons_zero, List.set_cons_succ]
        refine wpAnyH_ready (rs := [10]) (by kernel_rfl) (by simp) ?_
        refine AllReadyH.cons (by (simp only [List.getElem?_toArray, List.getElem?_cons_succ, List.getElem?_cons_zero]); (try exact rfl)) (fun K hK => ?_) AllReadyH.nil
        refine step_store_Pr rfl _ _ rfl pa (⟨0, 0⟩ : Pr) (⟨p.s - g.s, p.h - g.h⟩ : Pr) _ rfl rfl Zauc_162.out ?_
        intro ec_163 hE oE bE
        have Dec_163 : Hid (Below z2.heap.size z2 ec_163) := Below.trans Duc_162.out (bE.mono tpa)
        have Zaec_163 := Lib.hid hE
        have Zbec_163 := Lib.hid ((oE pb (by first | assumption | exact Ne.symm (by assumption))).trans Zbuc_162.out)
        clear hE oE bE
        refine hK.out _ _ ?_ (fun hHeld => ?_)
        · try dsimp only
          exact KS.out _ Dec_163.out
        clear hK K
        try simp only [Act.put, List.setIfInBounds_toArray, List.set_cons_zero, List.set_cons_succ]
        refine wpAnyH_ready (rs := [11]) (by kernel_rfl) (by simp) ?_
        refine AllReadyH.cons (by (simp only [List.getElem?_toArray, List.getElem?_cons_succ, List.getElem?_cons_zero]); (try exact rfl)) (fun K hK => ?_) AllReadyH.nil
        refine step_store_Pr rfl _ _ rfl pb (⟨0, 0⟩ : Pr) (⟨p.y - g.y, p.p - g.p⟩ : Pr) _ rfl rfl Zbec_163.out ?_
        intro ec_164 hE oE bE
        have Dec_164 : Hid (Below z2.heap.size z2 ec_164) := Below.trans Dec_163.out (bE.mono tpb)
        have Zbec_164 := Lib.hid hE
        have Zaec_164 := Lib.hid ((oE pa (by first | assumption | exact Ne.symm (by assumption))).trans Zaec_163.out)
        clear hE oE bE
        refine hK.out _ _ ?_ (fun hHeld => ?_)
        · try dsimp only
          exact KS.out _ Dec_164.out
        clear hK K
        try simp only [Act.put, List.setIfInBounds_toArray, List.set_cons_zero, List.set_cons_succ]
        refine wpAnyH_done (by kernel_rfl) ?_ _
        go_wp2_with fail
        go_meet
        exact ⟨pa, pb, rfl, rfl, Dec_164, Zaec_164, Zbec_164⟩
      case rest =>
        obtain ⟨pa, pb, rfl, rfl, DX, PA, PB⟩ := hcut
        obtain ⟨wx, hwx⟩ : ∃ x, x = wc := ⟨_, rfl⟩
        rw [← hwx] at DX PA PB
        rw [← hwx]
        clear hwx C1 C2 C3 C4 KS
        have la := box_lt PA.out
        have lb := box_lt PB.out
        obtain ⟨⟨a0, a1⟩, -, -⟩ := boxPr_at (q := ⟨p.s - g.s, p.h - g.h⟩) PA.out
        obtain ⟨⟨b0, b1⟩, -, -⟩ := boxPr_at (q := ⟨p.y - g.y, p.p - g.p⟩) PB.out
        dsimp only at a0 a1 b0 b1
        have R13 := Lib.hid ((DX.out.block _ (box_lt R12.out)).trans R12.out)
        have R23 := Lib.hid ((DX.out.block _ (box_lt R22.out)).trans R22.out)
        have B3 := Lib.hid (B2.out.trans (DX.out.mono (by omega)))
        have sx : w.heap.size + 4 ≤ wx.heap.size := by have := DX.out.size; omega
        have nea : ¬ pa = wx.heap.size := by omega
        have neb : ¬ pb = wx.heap.size := by omega
        clear DX PA PB R12 R22 B2
        have PS := Lib.hid (boxN2_0 wx (.cells #[.int .i64 (p.s - g.s), .int .i64 (p.y - g.y), .int .i64 0] 27) (.cells #[.int .i64 (p.h - g.h), .int .i64 (p.p - g.p), .int .i64 0] 27))
        have PH := Lib.hid (boxN2_1 wx (.cells #[.int .i64 (p.s - g.s), .int .i64 (p.y - g.y), .int .i64 0] 27) (.cells #[.int .i64 (p.h - g.h), .int .i64 (p.p - g.p), .int .i64 0] 27))
        have R14 := Lib.hid (((Below.heap_alloc _ _ _ (by simp; omega)).trans ((Below.heap_alloc wx (.cells #[.int .i64 (p.s - g.s), .int .i64 (p.y - g.y), .int .i64 0] 27) (w.heap.size + 2) (by omega)).trans R13.out)) : ((wx.alloc (.cells #[.int .i64 (p.s - g.s), .int .i64 (p.y - g.y), .int .i64 0] 27)).alloc (.cells #[.int .i64 (p.h - g.h), .int .i64 (p.p - g.p), .int .i64 0] 27)).heap[w.heap.size + 2]? = _)
        have R24 := Lib.hid (((Below.heap_alloc _ _ _ (by simp; omega)).trans ((Below.heap_alloc wx (.cells #[.int .i64 (p.s - g.s), .int .i64 (p.y - g.y), .int .i64 0] 27) (w.heap.size + 3) (by omega)).trans R23.out)) : ((wx.alloc (.cells #[.int .i64 (p.s - g.s), .int .i64 (p.y - g.y), .int .i64 0] 27)).alloc (.cells #[.int .i64 (p.h - g.h), .int .i64 (p.p - g.p), .int .i64 0] 27)).heap[w.heap.size + 3]? = _)
        have B4 : Hid (Below w.heap.size w ((wx.alloc (.cells #[.int .i64 (p.s - g.s), .int .i64 (p.y - g.y), .int .i64 0] 27)).alloc (.cells #[.int .i64 (p.h - g.h), .int .i64 (p.p - g.p), .int .i64 0] 27))) := (B3.out.alloc (by omega) _).alloc (by simp; omega) _
        have C5 : Hid (∀ w : World, Calls Tryd.prog 37 #[(.agg #[.int .i64 (p.s - g.s), .int .i64 (p.y - g.y), .int .i64 0])] w fun e w' => e = .returned (.bool b3) ∧ w' = w.alloc (.cells #[.int .i64 (p.s - g.s), .int .i64 (p.y - g.y), .int .i64 0] 27)) := fun w => isNear_any (sideC p g) b3 H3.out w
        have C6 : Hid (∀ w : World, Calls Tryd.prog 37 #[(.agg #[.int .i64 (p.h - g.h), .int .i64 (p.p - g.p), .int .i64 0])] w fun e w' => e = .returned (.bool b4) ∧ w' = w.alloc (.cells #[.int .i64 (p.h - g.h), .int .i64 (p.p - g.p), .int .i64 0] 27)) := fun w => isNear_any (highC p g) b4 H4.out w
        clear R13 R23 B3
        go_upto_region 6 with (fail)
        generalize hwy : ((wx.alloc (.cells #[.int .i64 (p.s - g.s), .int .i64 (p.y - g.y), .int .i64 0] 27)).alloc (.cells #[.int .i64 (p.h - g.h), .int .i64 (p.p - g.p), .int .i64 0] 27)) = wy at PS PH R14 R24 B4 ⊢
        obtain ⟨ps, hps⟩ : ∃ x, x = wx.heap.size := ⟨_, rfl⟩
        have lps : w.heap.size + 4 ≤ ps := by omega
        have HPS := Lib.hid hps
        rw [← hps] at PS PH ⊢
        clear hwy hps la lb a0 a1 b0 b1 nea neb
        have lph := box_lt PH.out
        obtain ⟨⟨d0, d1, d2⟩, -, -⟩ := boxCo_at (q := sideC p g) PS.out
        obtain ⟨⟨d3, d4, d5⟩, -, -⟩ := boxCo_at (q := highC p g) PH.out
        dsimp only [sideC, highC] at d0 d1 d2 d3 d4 d5
        go_wp2_with fail
        refine (C5.out _).mono ?_
        rintro e wz ⟨rfl, hwz⟩
        have BB : Below wy.heap.size wy wz := by rw [hwz]; exact Below.alloc (Below.refl _ _) (Nat.le_refl _) _
        have PS2 := Lib.hid ((BB.block _ (by omega)).trans PS.out)
        have PH2 := Lib.hid ((BB.block _ (by omega)).trans PH.out)
        have R15 := Lib.hid ((BB.block _ (by omega)).trans R14.out)
        have R25 := Lib.hid ((BB.block _ (by omega)).trans R24.out)
        have B5 := Lib.hid (B4.out.trans (BB.mono (by omega)))
        have lph2 := box_lt PH2.out
        clear hwz BB PS PH R14 R24 B4 C5 lph d0 d1 d2 d3 d4 d5
        cases b3 with
        | false =>
          obtain ⟨rfl, rfl, rfl⟩ := cofRes_no H.out (fun k => by cases H3.out.mpr k.1.2)
          clear PS2 PH2 H H3 H4 C6
          obtain ⟨⟨f0, f1, f2⟩, ⟨y0, y1, y2⟩, -⟩ := boxCo_at (q := noC) R15.out
          obtain ⟨⟨g0, g1, g2⟩, ⟨x0, x1, x2⟩, -⟩ := boxCo_at (q := noC) R25.out
          have RA := boxCo_put (q := noC) R15.out noC
          have RB := boxCo_put (q := noC) ((boxCo_other (w := wz) (g := w.heap.size + 2) noC (w.heap.size + 3) (by omega)).trans R25.out) noC
          have RA2 := Lib.hid ((boxCo_other (g := w.heap.size + 3) noC (w.heap.size + 2) (by omega)).trans RA)
          have RB2 := Lib.hid RB
          clear RA RB R15 R25
          go_wp2
          obtain ⟨⟨m0, m1, m2⟩, -⟩ := boxCo_at (q := noC) RA2.out
          obtain ⟨⟨n0, n1, n2⟩, -⟩ := boxCo_at (q := noC) RB2.out
          dsimp only [noC] at m0 m1 m2 n0 n1 n2
          have B := B5.out
          have sz := B.size
          refine bodyPost_ret (v := .tuple #[(.agg #[.int .i64 noC.o, .int .i64 noC.h, .int .i64 noC.t]), (.agg #[.int .i64 noC.o, .int .i64 noC.h, .int .i64 noC.t]), .bool false]) (by simp [results, Tryd.results12, go_sem, m0, m1, m2, n0, n1, n2, noC]; try rfl) rfl ⟨rfl, ?_⟩
          go_grown
        | true =>
          obtain ⟨⟨d3, d4, d5⟩, -, -⟩ := boxCo_at (q := highC p g) PH2.out
          dsimp only [highC] at d3 d4 d5
          go_wp2_with fail
          refine (C6.out _).mono ?_
          rintro e wt ⟨rfl, hwz⟩
          have BB : Below wz.heap.size wz wt := by rw [hwz]; exact Below.alloc (Below.refl _ _) (Nat.le_refl _) _
          have PS3 := Lib.hid ((BB.block _ (by omega)).trans PS2.out)
          have PH3 := Lib.hid ((BB.block _ (by omega)).trans PH2.out)
          have R16 := Lib.hid ((BB.block _ (by omega)).trans R15.out)
          have R26 := Lib.hid ((BB.block _ (by omega)).trans R25.out)
          have B6 := Lib.hid (B5.out.trans (BB.mono (by omega)))
          clear hwz BB PS2 PH2 R15 R25 B5 C6 lph2 d3 d4 d5
          cases b4 with
          | false =>
            obtain ⟨rfl, rfl, rfl⟩ := cofRes_no H.out (fun k => by cases H4.out.mpr k.2)
            clear PS3 PH3 H H3 H4
            obtain ⟨⟨f0, f1, f2⟩, ⟨y0, y1, y2⟩, -⟩ := boxCo_at (q := noC) R16.out
            obtain ⟨⟨g0, g1, g2⟩, ⟨x0, x1, x2⟩, -⟩ := boxCo_at (q := noC) R26.out
            have RA := boxCo_put (q := noC) R16.out noC
            have RB := boxCo_put (q := noC) ((boxCo_other (w := wt) (g := w.heap.size + 2) noC (w.heap.size + 3) (by omega)).trans R26.out) noC
            have RA2 := Lib.hid ((boxCo_other (g := w.heap.size + 3) noC (w.heap.size + 2) (by omega)).trans RA)
            have RB2 := Lib.hid RB
            clear RA RB R16 R26
            go_wp2
            obtain ⟨⟨m0, m1, m2⟩, -⟩ := boxCo_at (q := noC) RA2.out
            obtain ⟨⟨n0, n1, n2⟩, -⟩ := boxCo_at (q := noC) RB2.out
            dsimp only [noC] at m0 m1 m2 n0 n1 n2
            have B := B6.out
            have sz := B.size
            refine bodyPost_ret (v := .tuple #[(.agg #[.int .i64 noC.o, .int .i64 noC.h, .int .i64 noC.t]), (.agg #[.int .i64 noC.o, .int .i64 noC.h, .int .i64 noC.t]), .bool false]) (by simp [results, Tryd.results12, go_sem, m0, m1, m2, n0, n1, n2, noC]; try rfl) rfl ⟨rfl, ?_⟩
            go_grown
          | true =>
            obtain ⟨rfl, rfl, rfl⟩ := cofRes_yes H.out ⟨⟨OKS.out, H3.out.mp (by simp)⟩, H4.out.mp (by simp)⟩
            clear H H3 H4 OKS
            obtain ⟨⟨d0, d1, d2⟩, -, -⟩ := boxCo_at (q := sideC p g) PS3.out
            obtain ⟨⟨d3, d4, d5⟩, -, -⟩ := boxCo_at (q := highC p g) PH3.out
            obtain ⟨⟨f0, f1, f2⟩, ⟨y0, y1, y2⟩, -⟩ := boxCo_at (q := noC) R16.out
            obtain ⟨⟨g0, g1, g2⟩, ⟨x0, x1, x2⟩, -⟩ := boxCo_at (q := noC) R26.out
            have RA := boxCo_put (q := noC) R16.out (sideC p g)
            have RB := boxCo_put (q := noC) ((boxCo_other (w := wt) (g := w.heap.size + 2) (sideC p g) (w.heap.size + 3) (by omega)).trans R26.out) (highC p g)
            have RA2 := Lib.hid ((boxCo_other (g := w.heap.size + 3) (highC p g) (w.heap.size + 2) (by omega)).trans RA)
            have RB2 := Lib.hid RB
            have e1 : ¬ ps = w.heap.size + 2 := by omega
            have e2 : ¬ ps = w.heap.size + 3 := by omega
            have e3 : ¬ ps + 1 = w.heap.size + 2 := by omega
            have e4 : ¬ ps + 1 = w.heap.size + 3 := by omega
            clear RA RB R16 R26 PS3 PH3
            go_wp2
            go_region
            all_goals go_wp2
            all_goals
              obtain ⟨⟨m0, m1, m2⟩, -⟩ := boxCo_at (q := sideC p g) RA2.out
              obtain ⟨⟨n0, n1, n2⟩, -⟩ := boxCo_at (q := highC p g) RB2.out
              have B := B6.out
              have sz := B.size
              refine bodyPost_ret (v := .tuple #[(.agg #[.int .i64 (sideC p g).o, .int .i64 (sideC p g).h, .int .i64 (sideC p g).t]), (.agg #[.int .i64 (highC p g).o, .int .i64 (highC p g).h, .int .i64 (highC p g).t]), .bool true]) (by simp [results, Tryd.results12, go_sem, m0, m1, m2, n0, n1, n2]; try rfl) rfl ⟨rfl, ?_⟩
              go_grown

end Go.Proofs.YtkdecpnbbpmooacDoor
