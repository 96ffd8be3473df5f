/- The site: what its steps leave as it was. -/
import Derived.Test.YtjapgbeecabkfabDoorBuild
import Derived.Test.YtjapgbeecabkfabDoorRecs
namespace Go.Proofs.YtjapgbeecabkfabDoor
open Go.ChangeShapes Go.WideShapes Go.ChangeAt Go.RowKit
set_option linter.unusedVariables false
set_option linter.unusedSimpArgs false

theorem toGrown {w w' : World} (h : Below w.heap.size w w') (row : Option Nat) : w.grownBy w' row := ⟨h.os, h.tape, h.output, h.size, fun k hk _ => h.block k hk⟩
theorem grown_drew {w w' : World} {row : Option Nat} (h : w.grownBy w' row) : w.grownBy w'.drew row := ⟨h.os, h.tape, h.output, h.size, h.block⟩
theorem grown_below {w w' : World} {g B : Nat} (h : w.grownBy w' (some g)) (hg : B ≤ g) (hs : B ≤ w.heap.size) : Below B w w' := ⟨h.os, h.tape, h.output, h.size, fun k hk => h.block k (by omega) (by intro e; cases e; omega)⟩

theorem wpList_store_StG {ops : Array Oper} {rest : List Oper} {op : Oper} {a : Act} {w : World} {Q : Exit → Act → World → Prop} (hgd : op.guard = none) (x y : Operand) (ho : op.op = .store 30 x y)
    (g : Nat) (q n : Mc) (st : Bool) (t : TypeId) (hx : a.eval x = .pointer (some ⟨g, 0, none⟩)) (hy : a.eval y = (.agg #[.int .i64 n.u.s, .int .i64 n.u.h, .int .i64 n.u.y, .int .i64 n.u.p, .int .i64 n.t.s, .int .i64 n.t.h, .int .i64 n.t.y, .int .i64 n.t.p, .int .i64 n.a])) (hg : w.heap[g]? = some (.cells #[.int .i64 q.u.s, .int .i64 q.u.h, .int .i64 q.u.y, .int .i64 q.u.p, .int .i64 q.t.s, .int .i64 q.t.h, .int .i64 q.t.y, .int .i64 q.t.p, .int .i64 q.a, .bool st] t (0, 0)))
    (h : ∀ w', w'.heap[g]? = some (.cells #[.int .i64 n.u.s, .int .i64 n.u.h, .int .i64 n.u.y, .int .i64 n.u.p, .int .i64 n.t.s, .int .i64 n.t.h, .int .i64 n.t.y, .int .i64 n.t.p, .int .i64 n.a, .bool st] t (0, 0)) → w.grownBy w' (some g) → wpList Tryd.prog ops Q rest (a.put op.dst undef) w') : wpList Tryd.prog ops Q (op :: rest) a w := by
  refine wpList_store_mid hgd 30 x y ho g 0 #[.int .i64 n.u.s, .int .i64 n.u.h, .int .i64 n.u.y, .int .i64 n.u.p, .int .i64 n.t.s, .int .i64 n.t.h, .int .i64 n.t.y, .int .i64 n.t.p, .int .i64 n.a] hx hy ?_ info_M (by simp [Value.oneCell']) ?_
  · intro j hj
    rw [Nat.zero_add]
    obtain ⟨⟨c0, c1, c2, c3, c4, c5, c6, c7, c8, c9⟩, ⟨f0, f1, f2, f3, f4, f5, f6, f7, f8, f9⟩, -⟩ := boxSt_at hg
    match j, hj with
    | 0, _ => exact ⟨by rw [c0]; rfl, f0⟩
    | 1, _ => exact ⟨by rw [c1]; rfl, f1⟩
    | 2, _ => exact ⟨by rw [c2]; rfl, f2⟩
    | 3, _ => exact ⟨by rw [c3]; rfl, f3⟩
    | 4, _ => exact ⟨by rw [c4]; rfl, f4⟩
    | 5, _ => exact ⟨by rw [c5]; rfl, f5⟩
    | 6, _ => exact ⟨by rw [c6]; rfl, f6⟩
    | 7, _ => exact ⟨by rw [c7]; rfl, f7⟩
    | 8, _ => exact ⟨by rw [c8]; rfl, f8⟩
  · have hb := ((((((((((Below.refl g w).setCell (p := ⟨g, 0, none⟩) (Nat.le_refl g) (.int .i64 n.u.s)).setCell (p := ⟨g, 1, none⟩) (Nat.le_refl g) (.int .i64 n.u.h)).setCell (p := ⟨g, 2, none⟩) (Nat.le_refl g) (.int .i64 n.u.y)).setCell (p := ⟨g, 3, none⟩) (Nat.le_refl g) (.int .i64 n.u.p)).setCell (p := ⟨g, 4, none⟩) (Nat.le_refl g) (.int .i64 n.t.s)).setCell (p := ⟨g, 5, none⟩) (Nat.le_refl g) (.int .i64 n.t.h)).setCell (p := ⟨g, 6, none⟩) (Nat.le_refl g) (.int .i64 n.t.y)).setCell (p := ⟨g, 7, none⟩) (Nat.le_refl g) (.int .i64 n.t.p)).setCell (p := ⟨g, 8, none⟩) (Nat.le_refl g) (.int .i64 n.a))
    refine h _ (boxSt_put hg n) ⟨hb.os, hb.tape, hb.output, hb.size, fun j hj hne => ?_⟩
    have hj' : j ≠ g := fun e => hne (by rw [e])
    show (((((((((w.setCell ⟨g, 0, none⟩ (.int .i64 n.u.s)).setCell ⟨g, 1, none⟩ (.int .i64 n.u.h)).setCell ⟨g, 2, none⟩ (.int .i64 n.u.y)).setCell ⟨g, 3, none⟩ (.int .i64 n.u.p)).setCell ⟨g, 4, none⟩ (.int .i64 n.t.s)).setCell ⟨g, 5, none⟩ (.int .i64 n.t.h)).setCell ⟨g, 6, none⟩ (.int .i64 n.t.y)).setCell ⟨g, 7, none⟩ (.int .i64 n.t.p)).setCell ⟨g, 8, none⟩ (.int .i64 n.a)).heap[j]? = _
    rw [Below.heap_setCell _ _ _ _ hj', Below.heap_setCell _ _ _ _ hj', Below.heap_setCell _ _ _ _ hj', Below.heap_setCell _ _ _ _ hj', Below.heap_setCell _ _ _ _ hj', Below.heap_setCell _ _ _ _ hj', Below.heap_setCell _ _ _ _ hj', Below.heap_setCell _ _ _ _ hj', Below.heap_setCell _ _ _ _ hj']

set_option maxHeartbeats 2000000 in
theorem goOnG_yes (g : Nat) (m n : Mc) (st : Bool) (hn : OkM n) (w : World) (hg : w.heap[g]? = some (.cells #[.int .i64 m.u.s, .int .i64 m.u.h, .int .i64 m.u.y, .int .i64 m.u.p, .int .i64 m.t.s, .int .i64 m.t.h, .int .i64 m.t.y, .int .i64 m.t.p, .int .i64 m.a, .bool st] 118 (0, 0))) :
    Calls Tryd.prog 82 #[.pointer (some ⟨g, 0, none⟩), (.agg #[.int .i64 n.u.s, .int .i64 n.u.h, .int .i64 n.u.y, .int .i64 n.u.p, .int .i64 n.t.s, .int .i64 n.t.h, .int .i64 n.t.y, .int .i64 n.t.p, .int .i64 n.a]), .bool true] w fun e w' => e = .returned (.pointer (some ⟨g, 0, none⟩)) ∧ w'.heap[g]? = some (.cells #[.int .i64 n.u.s, .int .i64 n.u.h, .int .i64 n.u.y, .int .i64 n.u.p, .int .i64 n.t.s, .int .i64 n.t.h, .int .i64 n.t.y, .int .i64 n.t.p, .int .i64 n.a, .bool st] 118 (0, 0)) ∧ w.grownBy w' (some g) := by
  have lg := (boxSt_at hg).2.2
  have HG := Lib.hid hg
  have c1 := Lib.hid (fun w => implValid_any n true ⟨fun _ => hn, fun _ => rfl⟩ w)
  clear hg hn
  go_enter Tryd.func82, Tryd.ntmps82
  go_wp2_with fail
  refine (c1.out _).mono ?_
  rintro e w1 ⟨rfl, b1⟩
  have G1 := Lib.hid ((b1.block g (by simp only [World.size_alloc]; omega)).trans ((Below.heap_alloc w _ _ lg).trans HG.out))
  have N1 := (b1.block w.heap.size (by simp only [World.size_alloc]; omega)).trans (heap_alloc_new w (.cells #[.int .i64 n.u.s, .int .i64 n.u.h, .int .i64 n.u.y, .int .i64 n.u.p, .int .i64 n.t.s, .int .i64 n.t.h, .int .i64 n.t.y, .int .i64 n.t.p, .int .i64 n.a] 30))
  have B1 : Hid (w.grownBy w1 (some g)) := grownBy_trans' (World.grownBy_alloc w _ _) (toGrown b1 _)
  obtain ⟨⟨n0, n1, n2, n3, n4, n5, n6, n7, n8⟩, -, ln⟩ := boxMc_at (q := n) N1
  clear b1 N1 HG c1
  go_wp2_with (first | (refine wpList_store_StG rfl _ _ rfl g m n st _ rfl rfl G1.out ?_; intro wE hE bE) | fail)
  have PE := Lib.hid hE
  have BE : Hid (w.grownBy wE (some g)) := grownBy_trans' B1.out bE
  clear hE bE n0 n1 n2 n3 n4 n5 n6 n7 n8
  go_wp2
  go_ret
  exact ⟨rfl, PE.out, BE.out⟩

set_option maxHeartbeats 2000000 in
theorem goOnG_no (g : Nat) (m n : Mc) (st ok : Bool) (hn : ¬ (ok = true ∧ OkM n)) (w : World) (hg : w.heap[g]? = some (.cells #[.int .i64 m.u.s, .int .i64 m.u.h, .int .i64 m.u.y, .int .i64 m.u.p, .int .i64 m.t.s, .int .i64 m.t.h, .int .i64 m.t.y, .int .i64 m.t.p, .int .i64 m.a, .bool st] 118 (0, 0))) :
    Calls Tryd.prog 82 #[.pointer (some ⟨g, 0, none⟩), (.agg #[.int .i64 n.u.s, .int .i64 n.u.h, .int .i64 n.u.y, .int .i64 n.u.p, .int .i64 n.t.s, .int .i64 n.t.h, .int .i64 n.t.y, .int .i64 n.t.p, .int .i64 n.a]), .bool ok] w fun e w' => e = .returned (.pointer (some ⟨g, 0, none⟩)) ∧ w'.heap[g]? = some (.cells #[.int .i64 m.u.s, .int .i64 m.u.h, .int .i64 m.u.y, .int .i64 m.u.p, .int .i64 m.t.s, .int .i64 m.t.h, .int .i64 m.t.y, .int .i64 m.t.p, .int .i64 m.a, .bool true] 118 (0, 0)) ∧ w.grownBy w' (some g) := by
  have lg := (boxSt_at hg).2.2
  have HG := Lib.hid hg
  clear hg
  cases ok with
  | false =>
    clear hn
    have G1 := (Below.heap_alloc w (.cells #[.int .i64 n.u.s, .int .i64 n.u.h, .int .i64 n.u.y, .int .i64 n.u.p, .int .i64 n.t.s, .int .i64 n.t.h, .int .i64 n.t.y, .int .i64 n.t.p, .int .i64 n.a] 30) _ lg).trans HG.out
    have c9 := cell_of_row w g 9 _ _ _ HG.out
    have f9 := frozen_of_row w g 9 _ _ HG.out
    have ne : ¬ g = w.heap.size := by omega
    go_enter Tryd.func82, Tryd.ntmps82
    go_wp2
    go_ret
    refine ⟨rfl, ?_, ?_⟩
    · first | exact boxSt_stop G1 | (rw [Below.heap_alloc _ _ _ (by simpa using lg)]; exact boxSt_stop HG.out)
    · first | exact grownBy_trans' (World.grownBy_alloc w _ _) (grownBy_setCell' _ _ _) | exact grownBy_trans' (grownBy_setCell' _ _ _) (World.grownBy_alloc _ _ _)
  | true =>
    have c1 := Lib.hid (fun w => implValid_any n false ⟨fun h => (by cases h), fun h => absurd ⟨rfl, h⟩ hn⟩ w)
    clear hn
    go_enter Tryd.func82, Tryd.ntmps82
    go_wp2_with fail
    refine (c1.out _).mono ?_
    rintro e w1 ⟨rfl, b1⟩
    have G1 := (b1.block g (by simp only [World.size_alloc]; omega)).trans ((Below.heap_alloc w _ _ lg).trans HG.out)
    have B1 : Hid (w.grownBy w1 (some g)) := grownBy_trans' (World.grownBy_alloc w _ _) (toGrown b1 _)
    have c9 := cell_of_row w1 g 9 _ _ _ G1
    have f9 := frozen_of_row w1 g 9 _ _ G1
    have PG := Lib.hid (boxSt_stop G1)
    clear b1 G1 HG c1
    go_wp2
    go_ret
    exact ⟨rfl, PG.out, grownBy_trans' B1.out (grownBy_setCell' _ _ _)⟩

set_option maxRecDepth 100000 in
set_option maxHeartbeats 4000000 in
theorem pushG_any (g : Nat) (m : Mc) (st : Bool) (b r : Int) (hm : NearM m) (v : Bool) (hv : v = true ↔ OkTurn b ∧ OkTurn r ∧ OkM (pushM m b r)) (w : World) (hg : w.heap[g]? = some (.cells #[.int .i64 m.u.s, .int .i64 m.u.h, .int .i64 m.u.y, .int .i64 m.u.p, .int .i64 m.t.s, .int .i64 m.t.h, .int .i64 m.t.y, .int .i64 m.t.p, .int .i64 m.a, .bool st] 118 (0, 0))) :
    Calls Tryd.prog 57 #[.pointer (some ⟨g, 0, none⟩), .int .i64 b, .int .i64 r] w fun e w' => ∃ q, e = .returned (.pointer (some ⟨g, 0, none⟩)) ∧ w'.heap[g]? = some (.cells #[.int .i64 q.u.s, .int .i64 q.u.h, .int .i64 q.u.y, .int .i64 q.u.p, .int .i64 q.t.s, .int .i64 q.t.h, .int .i64 q.t.y, .int .i64 q.t.p, .int .i64 q.a, .bool (st || !v)] 118 (0, 0)) ∧ NearM q ∧ (v = true → q = pushM m b r) ∧ w.grownBy w' (some g) := by
  obtain ⟨⟨a0, a1, a2, a3, a4, a5, a6, a7, a8, a9⟩, -, lg⟩ := boxSt_at hg
  have HG := Lib.hid hg
  have HM := Lib.hid hm
  have q1 : IntKind.i64.wrap (m.a + 1500) = m.a + 1500 := IntWalk.i64_in _ (by have := hm.2.2; omega)
  by_cases hc : CanP m.u b r
  · have c1 := Lib.hid (fun w => implNext_yes m.u b r hc.1 hc.2.1 hc.2.2.1 hc.2.2.2 w)
    have c2 : Hid (∀ (w : World), w.heap[g]? = some (.cells #[.int .i64 m.u.s, .int .i64 m.u.h, .int .i64 m.u.y, .int .i64 m.u.p, .int .i64 m.t.s, .int .i64 m.t.h, .int .i64 m.t.y, .int .i64 m.t.p, .int .i64 m.a, .bool st] 118 (0, 0)) → Calls Tryd.prog 82 #[.pointer (some ⟨g, 0, none⟩), (.agg #[.int .i64 (pushM m b r).u.s, .int .i64 (pushM m b r).u.h, .int .i64 (pushM m b r).u.y, .int .i64 (pushM m b r).u.p, .int .i64 (pushM m b r).t.s, .int .i64 (pushM m b r).t.h, .int .i64 (pushM m b r).t.y, .int .i64 (pushM m b r).t.p, .int .i64 (pushM m b r).a]), .bool true] w fun e w' => e = .returned (.pointer (some ⟨g, 0, none⟩)) ∧ w'.heap[g]? = some (.cells #[.int .i64 (if v then pushM m b r else m).u.s, .int .i64 (if v then pushM m b r else m).u.h, .int .i64 (if v then pushM m b r else m).u.y, .int .i64 (if v then pushM m b r else m).u.p, .int .i64 (if v then pushM m b r else m).t.s, .int .i64 (if v then pushM m b r else m).t.h, .int .i64 (if v then pushM m b r else m).t.y, .int .i64 (if v then pushM m b r else m).t.p, .int .i64 (if v then pushM m b r else m).a, .bool (st || !v)] 118 (0, 0)) ∧ w.grownBy w' (some g)) := by
      intro w hg
      cases v with
      | true =>
        have hn := (hv.mp rfl).2.2
        have := goOnG_yes g m (pushM m b r) st hn w hg
        simpa using this
      | false =>
        have hn : ¬ (true = true ∧ OkM (pushM m b r)) := fun h => by cases hv.mpr ⟨hc.2.1, hc.2.2.1, h.2⟩
        have := goOnG_no g m (pushM m b r) st true hn w hg
        simpa using this
    have HQ : Hid (NearM (if v then pushM m b r else m) ∧ (v = true → (if v then pushM m b r else m) = pushM m b r)) := by
      show _ ∧ _
      cases v with
      | true => exact ⟨(hv.mp rfl).2.2.1, fun _ => rfl⟩
      | false => exact ⟨hm, fun h => by cases h⟩
    obtain ⟨q, hq⟩ : ∃ q, q = if v then pushM m b r else m := ⟨_, rfl⟩
    rw [← hq] at c2 HQ
    obtain ⟨s, hs⟩ : ∃ s, s = (st || !v) := ⟨_, rfl⟩
    rw [← hs] at c2
    rw [← hs]
    obtain ⟨n, hn'⟩ : ∃ n, n = pushM m b r := ⟨_, rfl⟩
    have e1 : stepP m.u b r = n.u := by rw [hn']; rfl
    have e2 : m.t = n.t := by rw [hn']; rfl
    have e3 : m.a + 1500 = n.a := by rw [hn']; rfl
    rw [e1] at c1
    rw [← hn'] at c2
    replace q1 := q1.trans e3
    rw [e2] at a4 a5 a6 a7
    have HN := Lib.hid hn'
    have HE := Lib.hid e2
    clear hm hv hc hg hq hs e1 e2 e3 hn'
    go_enter Tryd.func57, Tryd.ntmps57
    go_wp2_with fail
    refine (c1.out _).mono ?_
    rintro e w1 ⟨rfl, b1⟩
    have G1 := Lib.hid ((b1.block g lg).trans HG.out)
    have B1 : Hid (w.grownBy w1 (some g)) := toGrown b1 _
    have lg1 := (boxSt_at G1.out).2.2
    obtain ⟨⟨d0, d1, d2, d3, d4, d5, d6, d7, d8, d9⟩, -, -⟩ := boxSt_at G1.out
    rw [HE.out] at d4 d5 d6 d7
    have ne : ¬ g = w1.heap.size := by omega
    clear b1 HG c1 a0 a1 a2 a3 a4 a5 a6 a7 a8 a9
    go_wp2_with fail
    generalize hW : w1.alloc (.cells #[.int .i64 n.u.s, .int .i64 n.u.h, .int .i64 n.u.y, .int .i64 n.u.p] 28) = w2
    have b2 : Below w1.heap.size w1 w2 := by rw [← hW]; go_grown
    have N2 : w2.heap[w1.heap.size]? = some (.cells #[.int .i64 n.u.s, .int .i64 n.u.h, .int .i64 n.u.y, .int .i64 n.u.p] 28 (0, 0)) := by rw [← hW]; exact heap_alloc_new _ _
    have G2 := Lib.hid ((b2.block g lg1).trans G1.out)
    have B2 : Hid (w.grownBy w2 (some g)) := grownBy_trans' B1.out (toGrown b2 _)
    have p0 := cell_of_row w2 w1.heap.size 0 _ _ _ N2
    have p1 := cell_of_row w2 w1.heap.size 1 _ _ _ N2
    have p2 := cell_of_row w2 w1.heap.size 2 _ _ _ N2
    have p3 := cell_of_row w2 w1.heap.size 3 _ _ _ N2
    clear hW b2 N2 d0 d1 d2 d3 d4 d5 d6 d7 d8 d9
    obtain ⟨⟨d0, d1, d2, d3, d4, d5, d6, d7, d8, d9⟩, -, -⟩ := boxSt_at G2.out
    rw [HE.out] at d4 d5 d6 d7
    go_still_tail 15, (by kernel_rfl)
    change wpList _ _ _ _ _ w2.drew
    have G3 : Hid (w2.drew.heap[g]? = some (.cells #[.int .i64 m.u.s, .int .i64 m.u.h, .int .i64 m.u.y, .int .i64 m.u.p, .int .i64 m.t.s, .int .i64 m.t.h, .int .i64 m.t.y, .int .i64 m.t.p, .int .i64 m.a, .bool st] 118 (0, 0))) := G2.out
    have B3 : Hid (w.grownBy w2.drew (some g)) := grown_drew B2.out
    clear G2 B2 p0 p1 p2 p3 d0 d1 d2 d3 d4 d5 d6 d7 d8 d9
    generalize w2.drew = w3 at *
    go_wp2_with fail
    refine (c2.out _ G3.out).mono ?_
    rintro e w4 ⟨rfl, g4, b4⟩
    have G4 := Lib.hid g4
    have B4 : Hid (w.grownBy w4 (some g)) := grownBy_trans' B3.out b4
    clear g4 b4
    go_wp2
    go_ret
    exact ⟨q, rfl, G4.out, HQ.out.1, HQ.out.2, B4.out⟩
  · have hvf : v = false := by
      cases v with
      | false => rfl
      | true => exact absurd ⟨hm.1, (hv.mp rfl).1, (hv.mp rfl).2.1, pushM_ok (hv.mp rfl).2.2⟩ hc
    subst hvf
    have c1 := Lib.hid (fun w => implNext_no m.u b r hc w)
    have c2 := Lib.hid (fun (n : Mc) w hg => goOnG_no g m n st false (by simp) w hg)
    clear hm hv hc hg
    rw [show (st || !false) = true by simp]
    go_enter Tryd.func57, Tryd.ntmps57
    go_wp2_with fail
    refine (c1.out _).mono ?_
    rintro e w1 ⟨rfl, b1⟩
    have G1 := Lib.hid ((b1.block g lg).trans HG.out)
    have B1 : Hid (w.grownBy w1 (some g)) := toGrown b1 _
    have lg1 := (boxSt_at G1.out).2.2
    obtain ⟨⟨d0, d1, d2, d3, d4, d5, d6, d7, d8, d9⟩, -, -⟩ := boxSt_at G1.out
    have ne : ¬ g = w1.heap.size := by omega
    clear b1 HG c1 a0 a1 a2 a3 a4 a5 a6 a7 a8 a9
    go_wp2_with fail
    generalize hW : w1.alloc (.cells #[.int .i64 noP.s, .int .i64 noP.h, .int .i64 noP.y, .int .i64 noP.p] 28) = w2
    have b2 : Below w1.heap.size w1 w2 := by rw [← hW]; go_grown
    have N2 : w2.heap[w1.heap.size]? = some (.cells #[.int .i64 noP.s, .int .i64 noP.h, .int .i64 noP.y, .int .i64 noP.p] 28 (0, 0)) := by rw [← hW]; exact heap_alloc_new _ _
    have G2 := Lib.hid ((b2.block g lg1).trans G1.out)
    have B2 : Hid (w.grownBy w2 (some g)) := grownBy_trans' B1.out (toGrown b2 _)
    have p0 := cell_of_row w2 w1.heap.size 0 _ _ _ N2
    have p1 := cell_of_row w2 w1.heap.size 1 _ _ _ N2
    have p2 := cell_of_row w2 w1.heap.size 2 _ _ _ N2
    have p3 := cell_of_row w2 w1.heap.size 3 _ _ _ N2
    clear hW b2 N2 d0 d1 d2 d3 d4 d5 d6 d7 d8 d9
    obtain ⟨⟨d0, d1, d2, d3, d4, d5, d6, d7, d8, d9⟩, -, -⟩ := boxSt_at G2.out
    go_still_tail 15, (by kernel_rfl)
    change wpList _ _ _ _ _ w2.drew
    have G3 : Hid (w2.drew.heap[g]? = some (.cells #[.int .i64 m.u.s, .int .i64 m.u.h, .int .i64 m.u.y, .int .i64 m.u.p, .int .i64 m.t.s, .int .i64 m.t.h, .int .i64 m.t.y, .int .i64 m.t.p, .int .i64 m.a, .bool st] 118 (0, 0))) := G2.out
    have B3 : Hid (w.grownBy w2.drew (some g)) := grown_drew B2.out
    clear G2 B2 p0 p1 p2 p3 d0 d1 d2 d3 d4 d5 d6 d7 d8 d9
    generalize w2.drew = w3 at *
    go_wp2_with fail
    refine (c2.out ⟨noP, m.t, m.a + 1500⟩ _ G3.out).mono ?_
    rintro e w4 ⟨rfl, g4, b4⟩
    have G4 := Lib.hid g4
    have B4 : Hid (w.grownBy w4 (some g)) := grownBy_trans' B3.out b4
    clear g4 b4
    go_wp2
    go_ret
    exact ⟨m, rfl, G4.out, HM.out, (fun h => by cases h), B4.out⟩
set_option maxRecDepth 100000 in
set_option maxHeartbeats 4000000 in
theorem buildG_any (g : Nat) (m : Mc) (st : Bool) (r : Rg) (hm : NearM m) (v : Bool) (hv : v = true ↔ OkR r ∧ OkM (buildR m r)) (w : World) (T : TKeys w) (hg : w.heap[g]? = some (.cells #[.int .i64 m.u.s, .int .i64 m.u.h, .int .i64 m.u.y, .int .i64 m.u.p, .int .i64 m.t.s, .int .i64 m.t.h, .int .i64 m.t.y, .int .i64 m.t.p, .int .i64 m.a, .bool st] 118 (0, 0))) :
    Calls Tryd.prog 48 #[.pointer (some ⟨g, 0, none⟩), (.agg #[.int .i64 r.k, .int .i64 r.y])] w fun e w' => ∃ q, e = .returned (.pointer (some ⟨g, 0, none⟩)) ∧ w'.heap[g]? = some (.cells #[.int .i64 q.u.s, .int .i64 q.u.h, .int .i64 q.u.y, .int .i64 q.u.p, .int .i64 q.t.s, .int .i64 q.t.h, .int .i64 q.t.y, .int .i64 q.t.p, .int .i64 q.a, .bool (st || !v)] 118 (0, 0)) ∧ NearM q ∧ (v = true → q = buildR m r) ∧ w.grownBy w' (some g) := by
  have lg := (boxSt_at hg).2.2
  have HG := Lib.hid hg
  have HM := Lib.hid hm
  have HT := Lib.hid T
  obtain ⟨rb, hrb⟩ : ∃ rb : Bool, rb = true ↔ OkR r := by
    by_cases h : OkR r
    · exact ⟨true, by simp [h]⟩
    · exact ⟨false, by simp [h]⟩
  obtain ⟨x, hx⟩ : ∃ x, x = if rb then bendR r else 0 := ⟨_, rfl⟩
  obtain ⟨y, hy⟩ : ∃ y, y = if rb then riseR r else 0 := ⟨_, rfl⟩
  have c1 := Lib.hid (fun w T => implTurnOf_any r rb hrb x y hx hy w T)
  obtain ⟨ps, k, hk, hps, c2⟩ := implNext_ex m.t x y
  have hok : v = true ↔ (rb && k) = true ∧ OkM ⟨m.u, ps, m.a - 1500⟩ := by
    cases rb with
    | false =>
      have hr : ¬ OkR r := fun h => by cases hrb.mpr h
      rw [hv]; simp [hr]
    | true =>
      have hr := hrb.mp rfl
      have ht := turnR_ok r hr
      simp only [if_true] at hx hy
      subst hx; subst hy
      cases k with
      | true =>
        rw [hv, hps rfl]
        exact ⟨fun h => ⟨rfl, h.2⟩, fun h => ⟨hr, h.2⟩⟩
      | false =>
        rw [hv]
        constructor
        · rintro ⟨_, h⟩
          have : CanP m.t (bendR r) (riseR r) := ⟨hm.2.1, ht.1, ht.2, h.1.2.1⟩
          cases hk.mpr this
        · rintro ⟨h, _⟩; simp at h
  have hqv : v = true → (⟨m.u, ps, m.a - 1500⟩ : Mc) = buildR m r := by
    intro h
    have h1 := (hok.mp h).1
    cases rb with
    | false => simp at h1
    | true =>
      cases k with
      | false => simp at h1
      | true =>
        simp only [if_true] at hx hy
        rw [hps rfl, hx, hy]
        rfl
  have c3 : Hid (∀ (w : World), w.heap[g]? = some (.cells #[.int .i64 m.u.s, .int .i64 m.u.h, .int .i64 m.u.y, .int .i64 m.u.p, .int .i64 m.t.s, .int .i64 m.t.h, .int .i64 m.t.y, .int .i64 m.t.p, .int .i64 m.a, .bool st] 118 (0, 0)) → Calls Tryd.prog 82 #[.pointer (some ⟨g, 0, none⟩), .agg #[.int .i64 m.u.s, .int .i64 m.u.h, .int .i64 m.u.y, .int .i64 m.u.p, .int .i64 ps.s, .int .i64 ps.h, .int .i64 ps.y, .int .i64 ps.p, .int .i64 (m.a - 1500)], .bool (rb && k)] w fun e w' => e = .returned (.pointer (some ⟨g, 0, none⟩)) ∧ w'.heap[g]? = some (.cells #[.int .i64 (if v then (⟨m.u, ps, m.a - 1500⟩ : Mc) else m).u.s, .int .i64 (if v then (⟨m.u, ps, m.a - 1500⟩ : Mc) else m).u.h, .int .i64 (if v then (⟨m.u, ps, m.a - 1500⟩ : Mc) else m).u.y, .int .i64 (if v then (⟨m.u, ps, m.a - 1500⟩ : Mc) else m).u.p, .int .i64 (if v then (⟨m.u, ps, m.a - 1500⟩ : Mc) else m).t.s, .int .i64 (if v then (⟨m.u, ps, m.a - 1500⟩ : Mc) else m).t.h, .int .i64 (if v then (⟨m.u, ps, m.a - 1500⟩ : Mc) else m).t.y, .int .i64 (if v then (⟨m.u, ps, m.a - 1500⟩ : Mc) else m).t.p, .int .i64 (if v then (⟨m.u, ps, m.a - 1500⟩ : Mc) else m).a, .bool (st || !v)] 118 (0, 0)) ∧ w.grownBy w' (some g)) := by
    intro w hg
    cases v with
    | true =>
      obtain ⟨h1, h2⟩ := hok.mp rfl
      have := goOnG_yes g m ⟨m.u, ps, m.a - 1500⟩ st h2 w hg
      rw [h1]
      simpa using this
    | false =>
      have hn : ¬ ((rb && k) = true ∧ OkM ⟨m.u, ps, m.a - 1500⟩) := fun h => by cases hok.mpr h
      have := goOnG_no g m ⟨m.u, ps, m.a - 1500⟩ st (rb && k) hn w hg
      simpa using this
  have HQ : Hid (NearM (if v then (⟨m.u, ps, m.a - 1500⟩ : Mc) else m) ∧ (v = true → (if v then (⟨m.u, ps, m.a - 1500⟩ : Mc) else m) = buildR m r)) := by
    show _ ∧ _
    cases v with
    | true => exact ⟨(hok.mp rfl).2.1, fun _ => hqv rfl⟩
    | false => exact ⟨hm, fun h => by cases h⟩
  obtain ⟨q, hq⟩ : ∃ q, q = if v then (⟨m.u, ps, m.a - 1500⟩ : Mc) else m := ⟨_, rfl⟩
  rw [← hq] at c3 HQ
  obtain ⟨s, hs⟩ : ∃ s, s = (st || !v) := ⟨_, rfl⟩
  rw [← hs] at c3
  rw [← hs]
  clear hm hv hg hrb hx hy hk hps hok hqv hq hs T
  cases rb with
  | true =>
    simp only [Bool.true_and] at c3
    have q2 : IntKind.i64.wrap (m.a - 1500) = m.a - 1500 := IntWalk.i64_in _ (by have := HM.out.2.2; omega)
    go_enter Tryd.func48, Tryd.ntmps48
    go_wp2_with fail
    refine (c1.out _ (HT.out.later (by show Below _ _ _; go_grown))).mono ?_
    rintro e w1 ⟨rfl, b1⟩
    have G1 := Lib.hid ((b1.block g (by simp only [World.size_alloc]; omega)).trans ((Below.heap_alloc w _ _ lg).trans HG.out))
    have B1 : Hid (w.grownBy w1 (some g)) := grownBy_trans' (World.grownBy_alloc w _ _) (toGrown b1 _)
    have lg1 := (boxSt_at G1.out).2.2
    obtain ⟨⟨d0, d1, d2, d3, d4, d5, d6, d7, d8, d9⟩, -, -⟩ := boxSt_at G1.out
    clear b1 HG c1
    go_wp2_with fail
    refine (c2.out _).mono ?_
    rintro e w2 ⟨rfl, b2⟩
    have G2 := Lib.hid ((b2.block g lg1).trans G1.out)
    have B2 : Hid (w.grownBy w2 (some g)) := grownBy_trans' B1.out (toGrown b2 _)
    have lg2 := (boxSt_at G2.out).2.2
    clear b2 G1 B1 c2 d0 d1 d2 d3 d4 d5 d6 d7 d8 d9
    obtain ⟨⟨d0, d1, d2, d3, d4, d5, d6, d7, d8, d9⟩, -, -⟩ := boxSt_at G2.out
    have ne : ¬ g = w2.heap.size := by omega
    go_wp2_with fail
    generalize hW : w2.alloc (.cells #[.int .i64 ps.s, .int .i64 ps.h, .int .i64 ps.y, .int .i64 ps.p] 28) = w3
    have b3 : Below w2.heap.size w2 w3 := by rw [← hW]; go_grown
    have N3 : w3.heap[w2.heap.size]? = some (.cells #[.int .i64 ps.s, .int .i64 ps.h, .int .i64 ps.y, .int .i64 ps.p] 28 (0, 0)) := by rw [← hW]; exact heap_alloc_new _ _
    have G3 := Lib.hid ((b3.block g lg2).trans G2.out)
    have B3 : Hid (w.grownBy w3 (some g)) := grownBy_trans' B2.out (toGrown b3 _)
    have p0 : w3.cell? ⟨w2.heap.size, 0, none⟩ = some (.int .i64 ps.s) := cell_of_row w3 w2.heap.size 0 _ _ _ N3
    have p1 : w3.cell? ⟨w2.heap.size, 1, none⟩ = some (.int .i64 ps.h) := cell_of_row w3 w2.heap.size 1 _ _ _ N3
    have p2 : w3.cell? ⟨w2.heap.size, 2, none⟩ = some (.int .i64 ps.y) := cell_of_row w3 w2.heap.size 2 _ _ _ N3
    have p3 : w3.cell? ⟨w2.heap.size, 3, none⟩ = some (.int .i64 ps.p) := cell_of_row w3 w2.heap.size 3 _ _ _ N3
    clear hW b3 N3 d0 d1 d2 d3 d4 d5 d6 d7 d8 d9 G2 B2
    obtain ⟨⟨d0, d1, d2, d3, d4, d5, d6, d7, d8, d9⟩, -, -⟩ := boxSt_at G3.out
    go_still_tail 18, (by kernel_rfl)
    change wpList _ _ _ _ _ w3.drew
    have G4 : Hid (w3.drew.heap[g]? = some (.cells #[.int .i64 m.u.s, .int .i64 m.u.h, .int .i64 m.u.y, .int .i64 m.u.p, .int .i64 m.t.s, .int .i64 m.t.h, .int .i64 m.t.y, .int .i64 m.t.p, .int .i64 m.a, .bool st] 118 (0, 0))) := G3.out
    have B4 : Hid (w.grownBy w3.drew (some g)) := grown_drew B3.out
    clear G3 B3 p0 p1 p2 p3 d0 d1 d2 d3 d4 d5 d6 d7 d8 d9
    generalize w3.drew = w4 at *
    go_wp2_with fail
    clear q2
    refine (c3.out _ G4.out).mono ?_
    rintro e w5 ⟨rfl, g5, b5⟩
    have G5 := Lib.hid g5
    have B5 : Hid (w.grownBy w5 (some g)) := grownBy_trans' B4.out b5
    clear g5 b5
    go_wp2
    go_ret
    exact ⟨q, rfl, G5.out, HQ.out.1, HQ.out.2, B5.out⟩
  | false =>
    simp only [Bool.false_and] at c3
    have q2 : IntKind.i64.wrap (m.a - 1500) = m.a - 1500 := IntWalk.i64_in _ (by have := HM.out.2.2; omega)
    go_enter Tryd.func48, Tryd.ntmps48
    go_wp2_with fail
    refine (c1.out _ (HT.out.later (by show Below _ _ _; go_grown))).mono ?_
    rintro e w1 ⟨rfl, b1⟩
    have G1 := Lib.hid ((b1.block g (by simp only [World.size_alloc]; omega)).trans ((Below.heap_alloc w _ _ lg).trans HG.out))
    have B1 : Hid (w.grownBy w1 (some g)) := grownBy_trans' (World.grownBy_alloc w _ _) (toGrown b1 _)
    have lg1 := (boxSt_at G1.out).2.2
    obtain ⟨⟨d0, d1, d2, d3, d4, d5, d6, d7, d8, d9⟩, -, -⟩ := boxSt_at G1.out
    clear b1 HG c1
    go_wp2_with fail
    refine (c2.out _).mono ?_
    rintro e w2 ⟨rfl, b2⟩
    have G2 := Lib.hid ((b2.block g lg1).trans G1.out)
    have B2 : Hid (w.grownBy w2 (some g)) := grownBy_trans' B1.out (toGrown b2 _)
    have lg2 := (boxSt_at G2.out).2.2
    clear b2 G1 B1 c2 d0 d1 d2 d3 d4 d5 d6 d7 d8 d9
    obtain ⟨⟨d0, d1, d2, d3, d4, d5, d6, d7, d8, d9⟩, -, -⟩ := boxSt_at G2.out
    have ne : ¬ g = w2.heap.size := by omega
    go_wp2_with fail
    generalize hW : w2.alloc (.cells #[.int .i64 ps.s, .int .i64 ps.h, .int .i64 ps.y, .int .i64 ps.p] 28) = w3
    have b3 : Below w2.heap.size w2 w3 := by rw [← hW]; go_grown
    have N3 : w3.heap[w2.heap.size]? = some (.cells #[.int .i64 ps.s, .int .i64 ps.h, .int .i64 ps.y, .int .i64 ps.p] 28 (0, 0)) := by rw [← hW]; exact heap_alloc_new _ _
    have G3 := Lib.hid ((b3.block g lg2).trans G2.out)
    have B3 : Hid (w.grownBy w3 (some g)) := grownBy_trans' B2.out (toGrown b3 _)
    have p0 : w3.cell? ⟨w2.heap.size, 0, none⟩ = some (.int .i64 ps.s) := cell_of_row w3 w2.heap.size 0 _ _ _ N3
    have p1 : w3.cell? ⟨w2.heap.size, 1, none⟩ = some (.int .i64 ps.h) := cell_of_row w3 w2.heap.size 1 _ _ _ N3
    have p2 : w3.cell? ⟨w2.heap.size, 2, none⟩ = some (.int .i64 ps.y) := cell_of_row w3 w2.heap.size 2 _ _ _ N3
    have p3 : w3.cell? ⟨w2.heap.size, 3, none⟩ = some (.int .i64 ps.p) := cell_of_row w3 w2.heap.size 3 _ _ _ N3
    clear hW b3 N3 d0 d1 d2 d3 d4 d5 d6 d7 d8 d9 G2 B2
    obtain ⟨⟨d0, d1, d2, d3, d4, d5, d6, d7, d8, d9⟩, -, -⟩ := boxSt_at G3.out
    go_still_tail 18, (by kernel_rfl)
    change wpList _ _ _ _ _ w3.drew
    have G4 : Hid (w3.drew.heap[g]? = some (.cells #[.int .i64 m.u.s, .int .i64 m.u.h, .int .i64 m.u.y, .int .i64 m.u.p, .int .i64 m.t.s, .int .i64 m.t.h, .int .i64 m.t.y, .int .i64 m.t.p, .int .i64 m.a, .bool st] 118 (0, 0))) := G3.out
    have B4 : Hid (w.grownBy w3.drew (some g)) := grown_drew B3.out
    clear G3 B3 p0 p1 p2 p3 d0 d1 d2 d3 d4 d5 d6 d7 d8 d9
    generalize w3.drew = w4 at *
    go_wp2_with fail
    clear q2
    refine (c3.out _ G4.out).mono ?_
    rintro e w5 ⟨rfl, g5, b5⟩
    have G5 := Lib.hid g5
    have B5 : Hid (w.grownBy w5 (some g)) := grownBy_trans' B4.out b5
    clear g5 b5
    go_wp2
    go_ret
    exact ⟨q, rfl, G5.out, HQ.out.1, HQ.out.2, B5.out⟩
end Go.Proofs.YtjapgbeecabkfabDoor
