/- Pushes of the program. -/
import Derived.Test.YtjapgbeecabkfaaSite
import Derived.StillTailTactics
namespace Go.Proofs.Ytjapgbeecabkfaa
open Go.ChangeShapes Go.WideShapes Go.ChangeAt Go.RowKit
set_option linter.unusedVariables false
set_option linter.unusedSimpArgs false

theorem pushM_ok {m : Mc} {b r : Int} (h : OkM (pushM m b r)) : OkP (stepP m.u b r) := h.1.1

set_option maxRecDepth 100000 in
set_option maxHeartbeats 4000000 in
theorem push_any (g : Nat) (m : Mc) (st : Bool) (b r : Int) (hm : NearM m) (v : Bool) (hv : v = true ↔ OkTurn b ∧ OkTurn r ∧ OkM (pushM m b r)) (w : World) (hg : w.heap[g]? = some (.cells #[.int .i64 m.u.s, .int .i64 m.u.h, .int .i64 m.u.y, .int .i64 m.u.p, .int .i64 m.t.s, .int .i64 m.t.h, .int .i64 m.t.y, .int .i64 m.t.p, .int .i64 m.a, .bool st] 140 (0, 0))) :
    Calls Try.prog 73 #[.pointer (some ⟨g, 0, none⟩), .int .i64 b, .int .i64 r] w fun e w' => ∃ q, e = .returned (.pointer (some ⟨g, 0, none⟩)) ∧ w'.heap[g]? = some (.cells #[.int .i64 q.u.s, .int .i64 q.u.h, .int .i64 q.u.y, .int .i64 q.u.p, .int .i64 q.t.s, .int .i64 q.t.h, .int .i64 q.t.y, .int .i64 q.t.p, .int .i64 q.a, .bool (st || !v)] 140 (0, 0)) ∧ NearM q ∧ (v = true → q = pushM m b r) ∧ Below g w w' := by
  obtain ⟨⟨a0, a1, a2, a3, a4, a5, a6, a7, a8, a9⟩, -, lg⟩ := boxSt_at hg
  have HG := Lib.hid hg
  have HM := Lib.hid hm
  have q1 : IntKind.i64.wrap (m.a + 1500) = m.a + 1500 := IntWalk.i64_in _ (by have := hm.2.2; omega)
  by_cases hc : CanP m.u b r
  · have c1 := Lib.hid (fun w => implNext_yes m.u b r hc.1 hc.2.1 hc.2.2.1 hc.2.2.2 w)
    have c2 : Hid (∀ (w : World), w.heap[g]? = some (.cells #[.int .i64 m.u.s, .int .i64 m.u.h, .int .i64 m.u.y, .int .i64 m.u.p, .int .i64 m.t.s, .int .i64 m.t.h, .int .i64 m.t.y, .int .i64 m.t.p, .int .i64 m.a, .bool st] 140 (0, 0)) → Calls Try.prog 119 #[.pointer (some ⟨g, 0, none⟩), (.agg #[.int .i64 (pushM m b r).u.s, .int .i64 (pushM m b r).u.h, .int .i64 (pushM m b r).u.y, .int .i64 (pushM m b r).u.p, .int .i64 (pushM m b r).t.s, .int .i64 (pushM m b r).t.h, .int .i64 (pushM m b r).t.y, .int .i64 (pushM m b r).t.p, .int .i64 (pushM m b r).a]), .bool true] w fun e w' => e = .returned (.pointer (some ⟨g, 0, none⟩)) ∧ w'.heap[g]? = some (.cells #[.int .i64 (if v then pushM m b r else m).u.s, .int .i64 (if v then pushM m b r else m).u.h, .int .i64 (if v then pushM m b r else m).u.y, .int .i64 (if v then pushM m b r else m).u.p, .int .i64 (if v then pushM m b r else m).t.s, .int .i64 (if v then pushM m b r else m).t.h, .int .i64 (if v then pushM m b r else m).t.y, .int .i64 (if v then pushM m b r else m).t.p, .int .i64 (if v then pushM m b r else m).a, .bool (st || !v)] 140 (0, 0)) ∧ Below g w w') := by
      intro w hg
      cases v with
      | true =>
        have hn := (hv.mp rfl).2.2
        have := goOn_yes g m (pushM m b r) st hn w hg
        simpa using this
      | false =>
        have hn : ¬ (true = true ∧ OkM (pushM m b r)) := fun h => by cases hv.mpr ⟨hc.2.1, hc.2.2.1, h.2⟩
        have := goOn_no g m (pushM m b r) st true hn w hg
        simpa using this
    have HQ : Hid (NearM (if v then pushM m b r else m) ∧ (v = true → (if v then pushM m b r else m) = pushM m b r)) := by
      show _ ∧ _
      cases v with
      | true => exact ⟨(hv.mp rfl).2.2.1, fun _ => rfl⟩
      | false => exact ⟨hm, fun h => by cases h⟩
    obtain ⟨q, hq⟩ : ∃ q, q = if v then pushM m b r else m := ⟨_, rfl⟩
    rw [← hq] at c2 HQ
    obtain ⟨s, hs⟩ : ∃ s, s = (st || !v) := ⟨_, rfl⟩
    rw [← hs] at c2
    rw [← hs]
    obtain ⟨n, hn'⟩ : ∃ n, n = pushM m b r := ⟨_, rfl⟩
    have e1 : stepP m.u b r = n.u := by rw [hn']; rfl
    have e2 : m.t = n.t := by rw [hn']; rfl
    have e3 : m.a + 1500 = n.a := by rw [hn']; rfl
    rw [e1] at c1
    rw [← hn'] at c2
    replace q1 := q1.trans e3
    rw [e2] at a4 a5 a6 a7
    have HN := Lib.hid hn'
    have HE := Lib.hid e2
    clear hm hv hc hg hq hs e1 e2 e3 hn'
    go_enter Try.func73, Try.ntmps73
    go_wp2_with fail
    refine (c1.out _).mono ?_
    rintro e w1 ⟨rfl, b1⟩
    have G1 := Lib.hid ((b1.block g lg).trans HG.out)
    have B1 : Hid (Below g w w1) := b1.mono (by omega)
    have lg1 := (boxSt_at G1.out).2.2
    obtain ⟨⟨d0, d1, d2, d3, d4, d5, d6, d7, d8, d9⟩, -, -⟩ := boxSt_at G1.out
    rw [HE.out] at d4 d5 d6 d7
    have ne : ¬ g = w1.heap.size := by omega
    clear b1 HG c1 a0 a1 a2 a3 a4 a5 a6 a7 a8 a9
    go_wp2_with fail
    generalize hW : w1.alloc (.cells #[.int .i64 n.u.s, .int .i64 n.u.h, .int .i64 n.u.y, .int .i64 n.u.p] 27) = w2
    have b2 : Below w1.heap.size w1 w2 := by rw [← hW]; go_grown
    have N2 : w2.heap[w1.heap.size]? = some (.cells #[.int .i64 n.u.s, .int .i64 n.u.h, .int .i64 n.u.y, .int .i64 n.u.p] 27 (0, 0)) := by rw [← hW]; exact heap_alloc_new _ _
    have G2 := Lib.hid ((b2.block g lg1).trans G1.out)
    have B2 : Hid (Below g w w2) := B1.out.trans (b2.mono (by omega))
    have p0 := cell_of_row w2 w1.heap.size 0 _ _ _ N2
    have p1 := cell_of_row w2 w1.heap.size 1 _ _ _ N2
    have p2 := cell_of_row w2 w1.heap.size 2 _ _ _ N2
    have p3 := cell_of_row w2 w1.heap.size 3 _ _ _ N2
    clear hW b2 N2 d0 d1 d2 d3 d4 d5 d6 d7 d8 d9
    obtain ⟨⟨d0, d1, d2, d3, d4, d5, d6, d7, d8, d9⟩, -, -⟩ := boxSt_at G2.out
    rw [HE.out] at d4 d5 d6 d7
    go_still_tail 15, (by kernel_rfl)
    change wpList _ _ _ _ _ w2.drew
    have G3 : Hid (w2.drew.heap[g]? = some (.cells #[.int .i64 m.u.s, .int .i64 m.u.h, .int .i64 m.u.y, .int .i64 m.u.p, .int .i64 m.t.s, .int .i64 m.t.h, .int .i64 m.t.y, .int .i64 m.t.p, .int .i64 m.a, .bool st] 140 (0, 0))) := G2.out
    have B3 : Hid (Below g w w2.drew) := B2.out.drew
    clear G2 B2 p0 p1 p2 p3 d0 d1 d2 d3 d4 d5 d6 d7 d8 d9
    generalize w2.drew = w3 at *
    go_wp2_with fail
    refine (c2.out _ G3.out).mono ?_
    rintro e w4 ⟨rfl, g4, b4⟩
    have G4 := Lib.hid g4
    have B4 : Hid (Below g w w4) := B3.out.trans b4
    clear g4 b4
    go_wp2
    go_ret
    exact ⟨q, rfl, G4.out, HQ.out.1, HQ.out.2, B4.out⟩
  · have hvf : v = false := by
      cases v with
      | false => rfl
      | true => exact absurd ⟨hm.1, (hv.mp rfl).1, (hv.mp rfl).2.1, pushM_ok (hv.mp rfl).2.2⟩ hc
    subst hvf
    have c1 := Lib.hid (fun w => implNext_no m.u b r hc w)
    have c2 := Lib.hid (fun (n : Mc) w hg => goOn_no g m n st false (by simp) w hg)
    clear hm hv hc hg
    rw [show (st || !false) = true by simp]
    go_enter Try.func73, Try.ntmps73
    go_wp2_with fail
    refine (c1.out _).mono ?_
    rintro e w1 ⟨rfl, b1⟩
    have G1 := Lib.hid ((b1.block g lg).trans HG.out)
    have B1 : Hid (Below g w w1) := b1.mono (by omega)
    have lg1 := (boxSt_at G1.out).2.2
    obtain ⟨⟨d0, d1, d2, d3, d4, d5, d6, d7, d8, d9⟩, -, -⟩ := boxSt_at G1.out
    have ne : ¬ g = w1.heap.size := by omega
    clear b1 HG c1 a0 a1 a2 a3 a4 a5 a6 a7 a8 a9
    go_wp2_with fail
    generalize hW : w1.alloc (.cells #[.int .i64 noP.s, .int .i64 noP.h, .int .i64 noP.y, .int .i64 noP.p] 27) = w2
    have b2 : Below w1.heap.size w1 w2 := by rw [← hW]; go_grown
    have N2 : w2.heap[w1.heap.size]? = some (.cells #[.int .i64 noP.s, .int .i64 noP.h, .int .i64 noP.y, .int .i64 noP.p] 27 (0, 0)) := by rw [← hW]; exact heap_alloc_new _ _
    have G2 := Lib.hid ((b2.block g lg1).trans G1.out)
    have B2 : Hid (Below g w w2) := B1.out.trans (b2.mono (by omega))
    have p0 := cell_of_row w2 w1.heap.size 0 _ _ _ N2
    have p1 := cell_of_row w2 w1.heap.size 1 _ _ _ N2
    have p2 := cell_of_row w2 w1.heap.size 2 _ _ _ N2
    have p3 := cell_of_row w2 w1.heap.size 3 _ _ _ N2
    clear hW b2 N2 d0 d1 d2 d3 d4 d5 d6 d7 d8 d9
    obtain ⟨⟨d0, d1, d2, d3, d4, d5, d6, d7, d8, d9⟩, -, -⟩ := boxSt_at G2.out
    go_still_tail 15, (by kernel_rfl)
    change wpList _ _ _ _ _ w2.drew
    have G3 : Hid (w2.drew.heap[g]? = some (.cells #[.int .i64 m.u.s, .int .i64 m.u.h, .int .i64 m.u.y, .int .i64 m.u.p, .int .i64 m.t.s, .int .i64 m.t.h, .int .i64 m.t.y, .int .i64 m.t.p, .int .i64 m.a, .bool st] 140 (0, 0))) := G2.out
    have B3 : Hid (Below g w w2.drew) := B2.out.drew
    clear G2 B2 p0 p1 p2 p3 d0 d1 d2 d3 d4 d5 d6 d7 d8 d9
    generalize w2.drew = w3 at *
    go_wp2_with fail
    refine (c2.out ⟨noP, m.t, m.a + 1500⟩ _ G3.out).mono ?_
    rintro e w4 ⟨rfl, g4, b4⟩
    have G4 := Lib.hid g4
    have B4 : Hid (Below g w w4) := B3.out.trans b4
    clear g4 b4
    go_wp2
    go_ret
    exact ⟨m, rfl, G4.out, HM.out, (fun h => by cases h), B4.out⟩
end Go.Proofs.Ytjapgbeecabkfaa
