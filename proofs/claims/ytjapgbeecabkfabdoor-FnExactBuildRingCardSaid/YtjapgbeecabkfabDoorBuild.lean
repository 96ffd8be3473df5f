/- The program builds a ring. -/
import Derived.Test.YtjapgbeecabkfabDoorSpecB
import Derived.StillTailTactics
namespace Go.Proofs.YtjapgbeecabkfabDoor
open Go.ChangeShapes Go.WideShapes Go.ChangeAt Go.RowKit
set_option linter.unusedVariables false
set_option linter.unusedSimpArgs false

theorem implNext_ex (p : Ps) (x y : Int) : ∃ (ps : Ps) (k : Bool), (k = true ↔ CanP p x y) ∧ (k = true → ps = stepP p x y) ∧
    Hid (∀ w : World, Calls Tryd.prog 84 #[(.agg #[.int .i64 p.s, .int .i64 p.h, .int .i64 p.y, .int .i64 p.p]), .int .i64 x, .int .i64 y] w fun e w' => e = .returned (.tuple #[(.agg #[.int .i64 ps.s, .int .i64 ps.h, .int .i64 ps.y, .int .i64 ps.p]), .bool k]) ∧ Below w.heap.size w w') := by
  by_cases h : CanP p x y
  · exact ⟨_, true, by simp [h], fun _ => rfl, fun w => implNext_yes p x y h.1 h.2.1 h.2.2.1 h.2.2.2 w⟩
  · exact ⟨noP, false, by simp [h], fun e => (by cases e), fun w => implNext_no p x y h w⟩

set_option maxRecDepth 100000 in
set_option maxHeartbeats 4000000 in
theorem build_any (g : Nat) (m : Mc) (st : Bool) (r : Rg) (hm : NearM m) (v : Bool) (hv : v = true ↔ OkR r ∧ OkM (buildR m r)) (w : World) (T : TKeys w) (hg : w.heap[g]? = some (.cells #[.int .i64 m.u.s, .int .i64 m.u.h, .int .i64 m.u.y, .int .i64 m.u.p, .int .i64 m.t.s, .int .i64 m.t.h, .int .i64 m.t.y, .int .i64 m.t.p, .int .i64 m.a, .bool st] 118 (0, 0))) :
    Calls Tryd.prog 48 #[.pointer (some ⟨g, 0, none⟩), (.agg #[.int .i64 r.k, .int .i64 r.y])] w fun e w' => ∃ q, e = .returned (.pointer (some ⟨g, 0, none⟩)) ∧ w'.heap[g]? = some (.cells #[.int .i64 q.u.s, .int .i64 q.u.h, .int .i64 q.u.y, .int .i64 q.u.p, .int .i64 q.t.s, .int .i64 q.t.h, .int .i64 q.t.y, .int .i64 q.t.p, .int .i64 q.a, .bool (st || !v)] 118 (0, 0)) ∧ NearM q ∧ (v = true → q = buildR m r) ∧ Below g w w' := by
  have lg := (boxSt_at hg).2.2
  have HG := Lib.hid hg
  have HM := Lib.hid hm
  have HT := Lib.hid T
  obtain ⟨rb, hrb⟩ : ∃ rb : Bool, rb = true ↔ OkR r := by
    by_cases h : OkR r
    · exact ⟨true, by simp [h]⟩
    · exact ⟨false, by simp [h]⟩
  obtain ⟨x, hx⟩ : ∃ x, x = if rb then bendR r else 0 := ⟨_, rfl⟩
  obtain ⟨y, hy⟩ : ∃ y, y = if rb then riseR r else 0 := ⟨_, rfl⟩
  have c1 := Lib.hid (fun w T => implTurnOf_any r rb hrb x y hx hy w T)
  obtain ⟨ps, k, hk, hps, c2⟩ := implNext_ex m.t x y
  have hok : v = true ↔ (rb && k) = true ∧ OkM ⟨m.u, ps, m.a - 1500⟩ := by
    cases rb with
    | false =>
      have hr : ¬ OkR r := fun h => by cases hrb.mpr h
      rw [hv]; simp [hr]
    | true =>
      have hr := hrb.mp rfl
      have ht := turnR_ok r hr
      simp only [if_true] at hx hy
      subst hx; subst hy
      cases k with
      | true =>
        rw [hv, hps rfl]
        exact ⟨fun h => ⟨rfl, h.2⟩, fun h => ⟨hr, h.2⟩⟩
      | false =>
        rw [hv]
        constructor
        · rintro ⟨_, h⟩
          have : CanP m.t (bendR r) (riseR r) := ⟨hm.2.1, ht.1, ht.2, h.1.2.1⟩
          cases hk.mpr this
        · rintro ⟨h, _⟩; simp at h
  have hqv : v = true → (⟨m.u, ps, m.a - 1500⟩ : Mc) = buildR m r := by
    intro h
    have h1 := (hok.mp h).1
    cases rb with
    | false => simp at h1
    | true =>
      cases k with
      | false => simp at h1
      | true =>
        simp only [if_true] at hx hy
        rw [hps rfl, hx, hy]
        rfl
  have c3 : Hid (∀ (w : World), w.heap[g]? = some (.cells #[.int .i64 m.u.s, .int .i64 m.u.h, .int .i64 m.u.y, .int .i64 m.u.p, .int .i64 m.t.s, .int .i64 m.t.h, .int .i64 m.t.y, .int .i64 m.t.p, .int .i64 m.a, .bool st] 118 (0, 0)) → Calls Tryd.prog 82 #[.pointer (some ⟨g, 0, none⟩), .agg #[.int .i64 m.u.s, .int .i64 m.u.h, .int .i64 m.u.y, .int .i64 m.u.p, .int .i64 ps.s, .int .i64 ps.h, .int .i64 ps.y, .int .i64 ps.p, .int .i64 (m.a - 1500)], .bool (rb && k)] w fun e w' => e = .returned (.pointer (some ⟨g, 0, none⟩)) ∧ w'.heap[g]? = some (.cells #[.int .i64 (if v then (⟨m.u, ps, m.a - 1500⟩ : Mc) else m).u.s, .int .i64 (if v then (⟨m.u, ps, m.a - 1500⟩ : Mc) else m).u.h, .int .i64 (if v then (⟨m.u, ps, m.a - 1500⟩ : Mc) else m).u.y, .int .i64 (if v then (⟨m.u, ps, m.a - 1500⟩ : Mc) else m).u.p, .int .i64 (if v then (⟨m.u, ps, m.a - 1500⟩ : Mc) else m).t.s, .int .i64 (if v then (⟨m.u, ps, m.a - 1500⟩ : Mc) else m).t.h, .int .i64 (if v then (⟨m.u, ps, m.a - 1500⟩ : Mc) else m).t.y, .int .i64 (if v then (⟨m.u, ps, m.a - 1500⟩ : Mc) else m).t.p, .int .i64 (if v then (⟨m.u, ps, m.a - 1500⟩ : Mc) else m).a, .bool (st || !v)] 118 (0, 0)) ∧ Below g w w') := by
    intro w hg
    cases v with
    | true =>
      obtain ⟨h1, h2⟩ := hok.mp rfl
      have := goOn_yes g m ⟨m.u, ps, m.a - 1500⟩ st h2 w hg
      rw [h1]
      simpa using this
    | false =>
      have hn : ¬ ((rb && k) = true ∧ OkM ⟨m.u, ps, m.a - 1500⟩) := fun h => by cases hok.mpr h
      have := goOn_no g m ⟨m.u, ps, m.a - 1500⟩ st (rb && k) hn w hg
      simpa using this
  have HQ : Hid (NearM (if v then (⟨m.u, ps, m.a - 1500⟩ : Mc) else m) ∧ (v = true → (if v then (⟨m.u, ps, m.a - 1500⟩ : Mc) else m) = buildR m r)) := by
    show _ ∧ _
    cases v with
    | true => exact ⟨(hok.mp rfl).2.1, fun _ => hqv rfl⟩
    | false => exact ⟨hm, fun h => by cases h⟩
  obtain ⟨q, hq⟩ : ∃ q, q = if v then (⟨m.u, ps, m.a - 1500⟩ : Mc) else m := ⟨_, rfl⟩
  rw [← hq] at c3 HQ
  obtain ⟨s, hs⟩ : ∃ s, s = (st || !v) := ⟨_, rfl⟩
  rw [← hs] at c3
  rw [← hs]
  clear hm hv hg hrb hx hy hk hps hok hqv hq hs T
  cases rb with
  | true =>
    simp only [Bool.true_and] at c3
    have q2 : IntKind.i64.wrap (m.a - 1500) = m.a - 1500 := IntWalk.i64_in _ (by have := HM.out.2.2; omega)
    go_enter Tryd.func48, Tryd.ntmps48
    go_wp2_with fail
    refine (c1.out _ (HT.out.later (by show Below _ _ _; go_grown))).mono ?_
    rintro e w1 ⟨rfl, b1⟩
    have G1 := Lib.hid ((b1.block g (by simp only [World.size_alloc]; omega)).trans ((Below.heap_alloc w _ _ lg).trans HG.out))
    have B1 : Hid (Below g w w1) := Below.trans (by show Below _ _ _; go_grown) (b1.mono (by simp only [World.size_alloc]; omega))
    have lg1 := (boxSt_at G1.out).2.2
    obtain ⟨⟨d0, d1, d2, d3, d4, d5, d6, d7, d8, d9⟩, -, -⟩ := boxSt_at G1.out
    clear b1 HG c1
    go_wp2_with fail
    refine (c2.out _).mono ?_
    rintro e w2 ⟨rfl, b2⟩
    have G2 := Lib.hid ((b2.block g lg1).trans G1.out)
    have B2 : Hid (Below g w w2) := B1.out.trans (b2.mono (by omega))
    have lg2 := (boxSt_at G2.out).2.2
    clear b2 G1 B1 c2 d0 d1 d2 d3 d4 d5 d6 d7 d8 d9
    obtain ⟨⟨d0, d1, d2, d3, d4, d5, d6, d7, d8, d9⟩, -, -⟩ := boxSt_at G2.out
    have ne : ¬ g = w2.heap.size := by omega
    go_wp2_with fail
    generalize hW : w2.alloc (.cells #[.int .i64 ps.s, .int .i64 ps.h, .int .i64 ps.y, .int .i64 ps.p] 28) = w3
    have b3 : Below w2.heap.size w2 w3 := by rw [← hW]; go_grown
    have N3 : w3.heap[w2.heap.size]? = some (.cells #[.int .i64 ps.s, .int .i64 ps.h, .int .i64 ps.y, .int .i64 ps.p] 28 (0, 0)) := by rw [← hW]; exact heap_alloc_new _ _
    have G3 := Lib.hid ((b3.block g lg2).trans G2.out)
    have B3 : Hid (Below g w w3) := B2.out.trans (b3.mono (by omega))
    have p0 : w3.cell? ⟨w2.heap.size, 0, none⟩ = some (.int .i64 ps.s) := cell_of_row w3 w2.heap.size 0 _ _ _ N3
    have p1 : w3.cell? ⟨w2.heap.size, 1, none⟩ = some (.int .i64 ps.h) := cell_of_row w3 w2.heap.size 1 _ _ _ N3
    have p2 : w3.cell? ⟨w2.heap.size, 2, none⟩ = some (.int .i64 ps.y) := cell_of_row w3 w2.heap.size 2 _ _ _ N3
    have p3 : w3.cell? ⟨w2.heap.size, 3, none⟩ = some (.int .i64 ps.p) := cell_of_row w3 w2.heap.size 3 _ _ _ N3
    clear hW b3 N3 d0 d1 d2 d3 d4 d5 d6 d7 d8 d9 G2 B2
    obtain ⟨⟨d0, d1, d2, d3, d4, d5, d6, d7, d8, d9⟩, -, -⟩ := boxSt_at G3.out
    go_still_tail 18, (by kernel_rfl)
    change wpList _ _ _ _ _ w3.drew
    have G4 : Hid (w3.drew.heap[g]? = some (.cells #[.int .i64 m.u.s, .int .i64 m.u.h, .int .i64 m.u.y, .int .i64 m.u.p, .int .i64 m.t.s, .int .i64 m.t.h, .int .i64 m.t.y, .int .i64 m.t.p, .int .i64 m.a, .bool st] 118 (0, 0))) := G3.out
    have B4 : Hid (Below g w w3.drew) := B3.out.drew
    clear G3 B3 p0 p1 p2 p3 d0 d1 d2 d3 d4 d5 d6 d7 d8 d9
    generalize w3.drew = w4 at *
    go_wp2_with fail
    clear q2
    refine (c3.out _ G4.out).mono ?_
    rintro e w5 ⟨rfl, g5, b5⟩
    have G5 := Lib.hid g5
    have B5 : Hid (Below g w w5) := B4.out.trans b5
    clear g5 b5
    go_wp2
    go_ret
    exact ⟨q, rfl, G5.out, HQ.out.1, HQ.out.2, B5.out⟩
  | false =>
    simp only [Bool.false_and] at c3
    have q2 : IntKind.i64.wrap (m.a - 1500) = m.a - 1500 := IntWalk.i64_in _ (by have := HM.out.2.2; omega)
    go_enter Tryd.func48, Tryd.ntmps48
    go_wp2_with fail
    refine (c1.out _ (HT.out.later (by show Below _ _ _; go_grown))).mono ?_
    rintro e w1 ⟨rfl, b1⟩
    have G1 := Lib.hid ((b1.block g (by simp only [World.size_alloc]; omega)).trans ((Below.heap_alloc w _ _ lg).trans HG.out))
    have B1 : Hid (Below g w w1) := Below.trans (by show Below _ _ _; go_grown) (b1.mono (by simp only [World.size_alloc]; omega))
    have lg1 := (boxSt_at G1.out).2.2
    obtain ⟨⟨d0, d1, d2, d3, d4, d5, d6, d7, d8, d9⟩, -, -⟩ := boxSt_at G1.out
    clear b1 HG c1
    go_wp2_with fail
    refine (c2.out _).mono ?_
    rintro e w2 ⟨rfl, b2⟩
    have G2 := Lib.hid ((b2.block g lg1).trans G1.out)
    have B2 : Hid (Below g w w2) := B1.out.trans (b2.mono (by omega))
    have lg2 := (boxSt_at G2.out).2.2
    clear b2 G1 B1 c2 d0 d1 d2 d3 d4 d5 d6 d7 d8 d9
    obtain ⟨⟨d0, d1, d2, d3, d4, d5, d6, d7, d8, d9⟩, -, -⟩ := boxSt_at G2.out
    have ne : ¬ g = w2.heap.size := by omega
    go_wp2_with fail
    generalize hW : w2.alloc (.cells #[.int .i64 ps.s, .int .i64 ps.h, .int .i64 ps.y, .int .i64 ps.p] 28) = w3
    have b3 : Below w2.heap.size w2 w3 := by rw [← hW]; go_grown
    have N3 : w3.heap[w2.heap.size]? = some (.cells #[.int .i64 ps.s, .int .i64 ps.h, .int .i64 ps.y, .int .i64 ps.p] 28 (0, 0)) := by rw [← hW]; exact heap_alloc_new _ _
    have G3 := Lib.hid ((b3.block g lg2).trans G2.out)
    have B3 : Hid (Below g w w3) := B2.out.trans (b3.mono (by omega))
    have p0 : w3.cell? ⟨w2.heap.size, 0, none⟩ = some (.int .i64 ps.s) := cell_of_row w3 w2.heap.size 0 _ _ _ N3
    have p1 : w3.cell? ⟨w2.heap.size, 1, none⟩ = some (.int .i64 ps.h) := cell_of_row w3 w2.heap.size 1 _ _ _ N3
    have p2 : w3.cell? ⟨w2.heap.size, 2, none⟩ = some (.int .i64 ps.y) := cell_of_row w3 w2.heap.size 2 _ _ _ N3
    have p3 : w3.cell? ⟨w2.heap.size, 3, none⟩ = some (.int .i64 ps.p) := cell_of_row w3 w2.heap.size 3 _ _ _ N3
    clear hW b3 N3 d0 d1 d2 d3 d4 d5 d6 d7 d8 d9 G2 B2
    obtain ⟨⟨d0, d1, d2, d3, d4, d5, d6, d7, d8, d9⟩, -, -⟩ := boxSt_at G3.out
    go_still_tail 18, (by kernel_rfl)
    change wpList _ _ _ _ _ w3.drew
    have G4 : Hid (w3.drew.heap[g]? = some (.cells #[.int .i64 m.u.s, .int .i64 m.u.h, .int .i64 m.u.y, .int .i64 m.u.p, .int .i64 m.t.s, .int .i64 m.t.h, .int .i64 m.t.y, .int .i64 m.t.p, .int .i64 m.a, .bool st] 118 (0, 0))) := G3.out
    have B4 : Hid (Below g w w3.drew) := B3.out.drew
    clear G3 B3 p0 p1 p2 p3 d0 d1 d2 d3 d4 d5 d6 d7 d8 d9
    generalize w3.drew = w4 at *
    go_wp2_with fail
    clear q2
    refine (c3.out _ G4.out).mono ?_
    rintro e w5 ⟨rfl, g5, b5⟩
    have G5 := Lib.hid g5
    have B5 : Hid (Below g w w5) := B4.out.trans b5
    clear g5 b5
    go_wp2
    go_ret
    exact ⟨q, rfl, G5.out, HQ.out.1, HQ.out.2, B5.out⟩
end Go.Proofs.YtjapgbeecabkfabDoor
