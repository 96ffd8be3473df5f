/- The site: a machine at work, and whether it has stopped. -/
import Derived.Test.YtjapgbeecabkfaaImplV
import Derived.Test.YtjapgbeecabkfaaMach2
namespace Go.Proofs.Ytjapgbeecabkfaa
open Go.ChangeShapes Go.WideShapes Go.ChangeAt Go.RowKit
set_option linter.unusedVariables false
set_option linter.unusedSimpArgs false

/-- What the walk wants of a site. -/
theorem boxSt_at {w : World} {g : Nat} {t : TypeId} {q : Mc} {st : Bool} (h : w.heap[g]? = some (.cells #[.int .i64 q.u.s, .int .i64 q.u.h, .int .i64 q.u.y, .int .i64 q.u.p, .int .i64 q.t.s, .int .i64 q.t.h, .int .i64 q.t.y, .int .i64 q.t.p, .int .i64 q.a, .bool st] t (0, 0))) :
    (w.cell? ⟨g, 0, none⟩ = some (.int .i64 q.u.s) ∧ w.cell? ⟨g, 1, none⟩ = some (.int .i64 q.u.h) ∧ w.cell? ⟨g, 2, none⟩ = some (.int .i64 q.u.y) ∧ w.cell? ⟨g, 3, none⟩ = some (.int .i64 q.u.p) ∧ w.cell? ⟨g, 4, none⟩ = some (.int .i64 q.t.s) ∧ w.cell? ⟨g, 5, none⟩ = some (.int .i64 q.t.h) ∧ w.cell? ⟨g, 6, none⟩ = some (.int .i64 q.t.y) ∧ w.cell? ⟨g, 7, none⟩ = some (.int .i64 q.t.p) ∧ w.cell? ⟨g, 8, none⟩ = some (.int .i64 q.a) ∧ w.cell? ⟨g, 9, none⟩ = some (.bool st)) ∧ (w.frozen? ⟨g, 0, none⟩ = false ∧ w.frozen? ⟨g, 1, none⟩ = false ∧ w.frozen? ⟨g, 2, none⟩ = false ∧ w.frozen? ⟨g, 3, none⟩ = false ∧ w.frozen? ⟨g, 4, none⟩ = false ∧ w.frozen? ⟨g, 5, none⟩ = false ∧ w.frozen? ⟨g, 6, none⟩ = false ∧ w.frozen? ⟨g, 7, none⟩ = false ∧ w.frozen? ⟨g, 8, none⟩ = false ∧ w.frozen? ⟨g, 9, none⟩ = false) ∧ g < w.heap.size :=
  ⟨⟨cell_of_row w g 0 _ t _ h, cell_of_row w g 1 _ t _ h, cell_of_row w g 2 _ t _ h, cell_of_row w g 3 _ t _ h, cell_of_row w g 4 _ t _ h, cell_of_row w g 5 _ t _ h, cell_of_row w g 6 _ t _ h, cell_of_row w g 7 _ t _ h, cell_of_row w g 8 _ t _ h, cell_of_row w g 9 _ t _ h⟩, ⟨frozen_of_row w g 0 _ t h, frozen_of_row w g 1 _ t h, frozen_of_row w g 2 _ t h, frozen_of_row w g 3 _ t h, frozen_of_row w g 4 _ t h, frozen_of_row w g 5 _ t h, frozen_of_row w g 6 _ t h, frozen_of_row w g 7 _ t h, frozen_of_row w g 8 _ t h, frozen_of_row w g 9 _ t h⟩, (Array.getElem?_eq_some_iff.1 h).1⟩

theorem boxSt_put {w : World} {g : Nat} {t : TypeId} {q : Mc} {st : Bool} (h : w.heap[g]? = some (.cells #[.int .i64 q.u.s, .int .i64 q.u.h, .int .i64 q.u.y, .int .i64 q.u.p, .int .i64 q.t.s, .int .i64 q.t.h, .int .i64 q.t.y, .int .i64 q.t.p, .int .i64 q.a, .bool st] t (0, 0))) (n : Mc) :
    (((((((((w.setCell ⟨g, 0, none⟩ (.int .i64 n.u.s)).setCell ⟨g, 1, none⟩ (.int .i64 n.u.h)).setCell ⟨g, 2, none⟩ (.int .i64 n.u.y)).setCell ⟨g, 3, none⟩ (.int .i64 n.u.p)).setCell ⟨g, 4, none⟩ (.int .i64 n.t.s)).setCell ⟨g, 5, none⟩ (.int .i64 n.t.h)).setCell ⟨g, 6, none⟩ (.int .i64 n.t.y)).setCell ⟨g, 7, none⟩ (.int .i64 n.t.p)).setCell ⟨g, 8, none⟩ (.int .i64 n.a)).heap[g]? = some (.cells #[.int .i64 n.u.s, .int .i64 n.u.h, .int .i64 n.u.y, .int .i64 n.u.p, .int .i64 n.t.s, .int .i64 n.t.h, .int .i64 n.t.y, .int .i64 n.t.p, .int .i64 n.a, .bool st] t (0, 0)) := by
  have h1 := (heap_setCell_same _ g 8 _ t (.int .i64 n.a) (heap_setCell_same _ g 7 _ t (.int .i64 n.t.p) (heap_setCell_same _ g 6 _ t (.int .i64 n.t.y) (heap_setCell_same _ g 5 _ t (.int .i64 n.t.h) (heap_setCell_same _ g 4 _ t (.int .i64 n.t.s) (heap_setCell_same _ g 3 _ t (.int .i64 n.u.p) (heap_setCell_same _ g 2 _ t (.int .i64 n.u.y) (heap_setCell_same _ g 1 _ t (.int .i64 n.u.h) (heap_setCell_same _ g 0 _ t (.int .i64 n.u.s) h)))))))))
  simpa using h1

theorem boxSt_stop {w : World} {g : Nat} {t : TypeId} {q : Mc} {st : Bool} (h : w.heap[g]? = some (.cells #[.int .i64 q.u.s, .int .i64 q.u.h, .int .i64 q.u.y, .int .i64 q.u.p, .int .i64 q.t.s, .int .i64 q.t.h, .int .i64 q.t.y, .int .i64 q.t.p, .int .i64 q.a, .bool st] t (0, 0))) :
    (w.setCell ⟨g, 9, none⟩ (.bool true)).heap[g]? = some (.cells #[.int .i64 q.u.s, .int .i64 q.u.h, .int .i64 q.u.y, .int .i64 q.u.p, .int .i64 q.t.s, .int .i64 q.t.h, .int .i64 q.t.y, .int .i64 q.t.p, .int .i64 q.a, .bool true] t (0, 0)) := by
  have h1 := heap_setCell_same _ g 9 _ t (.bool true) h
  simpa using h1

theorem wpList_store_St {ops : Array Oper} {rest : List Oper} {op : Oper} {a : Act} {w : World} {Q : Exit → Act → World → Prop} (hgd : op.guard = none) (x y : Operand) (ho : op.op = .store 29 x y)
    (g : Nat) (q n : Mc) (st : Bool) (t : TypeId) (hx : a.eval x = .pointer (some ⟨g, 0, none⟩)) (hy : a.eval y = (.agg #[.int .i64 n.u.s, .int .i64 n.u.h, .int .i64 n.u.y, .int .i64 n.u.p, .int .i64 n.t.s, .int .i64 n.t.h, .int .i64 n.t.y, .int .i64 n.t.p, .int .i64 n.a])) (hg : w.heap[g]? = some (.cells #[.int .i64 q.u.s, .int .i64 q.u.h, .int .i64 q.u.y, .int .i64 q.u.p, .int .i64 q.t.s, .int .i64 q.t.h, .int .i64 q.t.y, .int .i64 q.t.p, .int .i64 q.a, .bool st] t (0, 0)))
    (h : ∀ w', w'.heap[g]? = some (.cells #[.int .i64 n.u.s, .int .i64 n.u.h, .int .i64 n.u.y, .int .i64 n.u.p, .int .i64 n.t.s, .int .i64 n.t.h, .int .i64 n.t.y, .int .i64 n.t.p, .int .i64 n.a, .bool st] t (0, 0)) → Below g w w' → wpList Try.prog ops Q rest (a.put op.dst undef) w') : wpList Try.prog ops Q (op :: rest) a w := by
  refine wpList_store_mid hgd 29 x y ho g 0 #[.int .i64 n.u.s, .int .i64 n.u.h, .int .i64 n.u.y, .int .i64 n.u.p, .int .i64 n.t.s, .int .i64 n.t.h, .int .i64 n.t.y, .int .i64 n.t.p, .int .i64 n.a] hx hy ?_ info_M (by simp [Value.oneCell']) ?_
  · intro j hj
    rw [Nat.zero_add]
    obtain ⟨⟨c0, c1, c2, c3, c4, c5, c6, c7, c8, c9⟩, ⟨f0, f1, f2, f3, f4, f5, f6, f7, f8, f9⟩, -⟩ := boxSt_at hg
    match j, hj with
    | 0, _ => exact ⟨by rw [c0]; rfl, f0⟩
    | 1, _ => exact ⟨by rw [c1]; rfl, f1⟩
    | 2, _ => exact ⟨by rw [c2]; rfl, f2⟩
    | 3, _ => exact ⟨by rw [c3]; rfl, f3⟩
    | 4, _ => exact ⟨by rw [c4]; rfl, f4⟩
    | 5, _ => exact ⟨by rw [c5]; rfl, f5⟩
    | 6, _ => exact ⟨by rw [c6]; rfl, f6⟩
    | 7, _ => exact ⟨by rw [c7]; rfl, f7⟩
    | 8, _ => exact ⟨by rw [c8]; rfl, f8⟩
  · refine h _ (boxSt_put hg n) ?_
    exact ((((((((((Below.refl g w).setCell (p := ⟨g, 0, none⟩) (Nat.le_refl g) (.int .i64 n.u.s)).setCell (p := ⟨g, 1, none⟩) (Nat.le_refl g) (.int .i64 n.u.h)).setCell (p := ⟨g, 2, none⟩) (Nat.le_refl g) (.int .i64 n.u.y)).setCell (p := ⟨g, 3, none⟩) (Nat.le_refl g) (.int .i64 n.u.p)).setCell (p := ⟨g, 4, none⟩) (Nat.le_refl g) (.int .i64 n.t.s)).setCell (p := ⟨g, 5, none⟩) (Nat.le_refl g) (.int .i64 n.t.h)).setCell (p := ⟨g, 6, none⟩) (Nat.le_refl g) (.int .i64 n.t.y)).setCell (p := ⟨g, 7, none⟩) (Nat.le_refl g) (.int .i64 n.t.p)).setCell (p := ⟨g, 8, none⟩) (Nat.le_refl g) (.int .i64 n.a))

set_option maxHeartbeats 2000000 in
theorem goOn_yes (g : Nat) (m n : Mc) (st : Bool) (hn : OkM n) (w : World) (hg : w.heap[g]? = some (.cells #[.int .i64 m.u.s, .int .i64 m.u.h, .int .i64 m.u.y, .int .i64 m.u.p, .int .i64 m.t.s, .int .i64 m.t.h, .int .i64 m.t.y, .int .i64 m.t.p, .int .i64 m.a, .bool st] 140 (0, 0))) :
    Calls Try.prog 119 #[.pointer (some ⟨g, 0, none⟩), (.agg #[.int .i64 n.u.s, .int .i64 n.u.h, .int .i64 n.u.y, .int .i64 n.u.p, .int .i64 n.t.s, .int .i64 n.t.h, .int .i64 n.t.y, .int .i64 n.t.p, .int .i64 n.a]), .bool true] w fun e w' => e = .returned (.pointer (some ⟨g, 0, none⟩)) ∧ w'.heap[g]? = some (.cells #[.int .i64 n.u.s, .int .i64 n.u.h, .int .i64 n.u.y, .int .i64 n.u.p, .int .i64 n.t.s, .int .i64 n.t.h, .int .i64 n.t.y, .int .i64 n.t.p, .int .i64 n.a, .bool st] 140 (0, 0)) ∧ Below g w w' := by
  have lg := (boxSt_at hg).2.2
  have HG := Lib.hid hg
  have c1 := Lib.hid (fun w => implValid_any n true ⟨fun _ => hn, fun _ => rfl⟩ w)
  clear hg hn
  go_enter Try.func119, Try.ntmps119
  go_wp2_with fail
  refine (c1.out _).mono ?_
  rintro e w1 ⟨rfl, b1⟩
  have G1 := Lib.hid ((b1.block g (by simp only [World.size_alloc]; omega)).trans ((Below.heap_alloc w _ _ lg).trans HG.out))
  have N1 := (b1.block w.heap.size (by simp only [World.size_alloc]; omega)).trans (heap_alloc_new w (.cells #[.int .i64 n.u.s, .int .i64 n.u.h, .int .i64 n.u.y, .int .i64 n.u.p, .int .i64 n.t.s, .int .i64 n.t.h, .int .i64 n.t.y, .int .i64 n.t.p, .int .i64 n.a] 29))
  have B1 : Hid (Below g w w1) := Below.trans (by show Below _ _ _; go_grown) (b1.mono (by simp only [World.size_alloc]; omega))
  obtain ⟨⟨n0, n1, n2, n3, n4, n5, n6, n7, n8⟩, -, ln⟩ := boxMc_at (q := n) N1
  clear b1 N1 HG c1
  go_wp2_with (first | (refine wpList_store_St rfl _ _ rfl g m n st _ rfl rfl G1.out ?_; intro wE hE bE) | fail)
  have PE := Lib.hid hE
  have BE : Hid (Below g w wE) := B1.out.trans bE
  clear hE bE n0 n1 n2 n3 n4 n5 n6 n7 n8
  go_wp2
  go_ret
  exact ⟨rfl, PE.out, BE.out⟩

set_option maxHeartbeats 2000000 in
theorem goOn_no (g : Nat) (m n : Mc) (st ok : Bool) (hn : ¬ (ok = true ∧ OkM n)) (w : World) (hg : w.heap[g]? = some (.cells #[.int .i64 m.u.s, .int .i64 m.u.h, .int .i64 m.u.y, .int .i64 m.u.p, .int .i64 m.t.s, .int .i64 m.t.h, .int .i64 m.t.y, .int .i64 m.t.p, .int .i64 m.a, .bool st] 140 (0, 0))) :
    Calls Try.prog 119 #[.pointer (some ⟨g, 0, none⟩), (.agg #[.int .i64 n.u.s, .int .i64 n.u.h, .int .i64 n.u.y, .int .i64 n.u.p, .int .i64 n.t.s, .int .i64 n.t.h, .int .i64 n.t.y, .int .i64 n.t.p, .int .i64 n.a]), .bool ok] w fun e w' => e = .returned (.pointer (some ⟨g, 0, none⟩)) ∧ w'.heap[g]? = some (.cells #[.int .i64 m.u.s, .int .i64 m.u.h, .int .i64 m.u.y, .int .i64 m.u.p, .int .i64 m.t.s, .int .i64 m.t.h, .int .i64 m.t.y, .int .i64 m.t.p, .int .i64 m.a, .bool true] 140 (0, 0)) ∧ Below g w w' := by
  have lg := (boxSt_at hg).2.2
  have HG := Lib.hid hg
  clear hg
  cases ok with
  | false =>
    clear hn
    have G1 := (Below.heap_alloc w (.cells #[.int .i64 n.u.s, .int .i64 n.u.h, .int .i64 n.u.y, .int .i64 n.u.p, .int .i64 n.t.s, .int .i64 n.t.h, .int .i64 n.t.y, .int .i64 n.t.p, .int .i64 n.a] 29) _ lg).trans HG.out
    have c9 := cell_of_row w g 9 _ _ _ HG.out
    have f9 := frozen_of_row w g 9 _ _ HG.out
    have ne : ¬ g = w.heap.size := by omega
    go_enter Try.func119, Try.ntmps119
    go_wp2
    go_ret
    refine ⟨rfl, ?_, ?_⟩
    · first | exact boxSt_stop G1 | (rw [Below.heap_alloc _ _ _ (by simpa using lg)]; exact boxSt_stop HG.out)
    · go_grown
  | true =>
    have c1 := Lib.hid (fun w => implValid_any n false ⟨fun h => (by cases h), fun h => absurd ⟨rfl, h⟩ hn⟩ w)
    clear hn
    go_enter Try.func119, Try.ntmps119
    go_wp2_with fail
    refine (c1.out _).mono ?_
    rintro e w1 ⟨rfl, b1⟩
    have G1 := (b1.block g (by simp only [World.size_alloc]; omega)).trans ((Below.heap_alloc w _ _ lg).trans HG.out)
    have B1 : Hid (Below g w w1) := Below.trans (by show Below _ _ _; go_grown) (b1.mono (by simp only [World.size_alloc]; omega))
    have c9 := cell_of_row w1 g 9 _ _ _ G1
    have f9 := frozen_of_row w1 g 9 _ _ G1
    have PG := Lib.hid (boxSt_stop G1)
    clear b1 G1 HG c1
    go_wp2
    go_ret
    have b1 := B1.out
    exact ⟨rfl, PG.out, by go_grown⟩

theorem siteOf_any (m : Mc) (v : Bool) (hv : v = true ↔ OkM m) (w : World) :
    Calls Try.prog 72 #[(.agg #[.int .i64 m.u.s, .int .i64 m.u.h, .int .i64 m.u.y, .int .i64 m.u.p, .int .i64 m.t.s, .int .i64 m.t.h, .int .i64 m.t.y, .int .i64 m.t.p, .int .i64 m.a])] w fun e w' => ∃ g q, w.heap.size ≤ g ∧ e = .returned (.pointer (some ⟨g, 0, none⟩)) ∧ w'.heap[g]? = some (.cells #[.int .i64 q.u.s, .int .i64 q.u.h, .int .i64 q.u.y, .int .i64 q.u.p, .int .i64 q.t.s, .int .i64 q.t.h, .int .i64 q.t.y, .int .i64 q.t.p, .int .i64 q.a, .bool (!v)] 140 (0, 0)) ∧ NearM q ∧ (v = true → q = m) ∧ Below w.heap.size w w' := by
  cases v with
  | true =>
    have ok := hv.mp rfl
    have c1 := Lib.hid (fun g w hg => goOn_yes g (⟨⟨0, 0, 0, 0⟩, ⟨0, 0, 0, 0⟩, 0⟩ : Mc) m false ok w hg)
    have OK := Lib.hid ok
    clear hv ok
    go_enter Try.func72, Try.ntmps72
    go_wp2_with fail
    refine (c1.out (w.heap.size + 1) _ (by have h1 := heap_alloc_new (w.alloc (.cells #[.int .i64 m.u.s, .int .i64 m.u.h, .int .i64 m.u.y, .int .i64 m.u.p, .int .i64 m.t.s, .int .i64 m.t.h, .int .i64 m.t.y, .int .i64 m.t.p, .int .i64 m.a] 29)) (.cells #[.int .i64 0, .int .i64 0, .int .i64 0, .int .i64 0, .int .i64 0, .int .i64 0, .int .i64 0, .int .i64 0, .int .i64 0, .bool false] 140); rw [World.size_alloc] at h1; exact h1)).mono ?_
    rintro e w1 ⟨rfl, g1, b1⟩
    have B1 : Hid (Below w.heap.size w w1) := Below.trans (by show Below _ _ _; go_grown) (b1.mono (by simp))
    have G1 := Lib.hid g1
    clear b1 g1
    go_wp2
    go_ret
    exact ⟨_, m, by simp, rfl, G1.out, OK.out.1, fun _ => rfl, B1.out⟩
  | false =>
    have ok : ¬ OkM m := fun h => by cases hv.mpr h
    have c1 := Lib.hid (fun g w hg => goOn_no g (⟨⟨0, 0, 0, 0⟩, ⟨0, 0, 0, 0⟩, 0⟩ : Mc) m false true (fun e => ok e.2) w hg)
    clear hv ok
    go_enter Try.func72, Try.ntmps72
    go_wp2_with fail
    refine (c1.out (w.heap.size + 1) _ (by have h1 := heap_alloc_new (w.alloc (.cells #[.int .i64 m.u.s, .int .i64 m.u.h, .int .i64 m.u.y, .int .i64 m.u.p, .int .i64 m.t.s, .int .i64 m.t.h, .int .i64 m.t.y, .int .i64 m.t.p, .int .i64 m.a] 29)) (.cells #[.int .i64 0, .int .i64 0, .int .i64 0, .int .i64 0, .int .i64 0, .int .i64 0, .int .i64 0, .int .i64 0, .int .i64 0, .bool false] 140); rw [World.size_alloc] at h1; exact h1)).mono ?_
    rintro e w1 ⟨rfl, g1, b1⟩
    have B1 : Hid (Below w.heap.size w w1) := Below.trans (by show Below _ _ _; go_grown) (b1.mono (by simp))
    have G1 := Lib.hid g1
    clear b1 g1
    go_wp2
    go_ret
    exact ⟨_, noM, by simp, rfl, G1.out, noM_near, (fun h => by cases h), B1.out⟩

theorem result_any (g : Nat) (m o : Mc) (st : Bool) (ho : o = if st then (⟨⟨0, 0, 0, 0⟩, ⟨0, 0, 0, 0⟩, 0⟩ : Mc) else m) (w : World) (hg : w.heap[g]? = some (.cells #[.int .i64 m.u.s, .int .i64 m.u.h, .int .i64 m.u.y, .int .i64 m.u.p, .int .i64 m.t.s, .int .i64 m.t.h, .int .i64 m.t.y, .int .i64 m.t.p, .int .i64 m.a, .bool st] 140 (0, 0))) :
    Calls Try.prog 74 #[.pointer (some ⟨g, 0, none⟩)] w fun e w' => e = .returned (.tuple #[(.agg #[.int .i64 o.u.s, .int .i64 o.u.h, .int .i64 o.u.y, .int .i64 o.u.p, .int .i64 o.t.s, .int .i64 o.t.h, .int .i64 o.t.y, .int .i64 o.t.p, .int .i64 o.a]), .bool (!st)]) ∧ Below w.heap.size w w' := by
  obtain ⟨⟨n0, n1, n2, n3, n4, n5, n6, n7, n8, n9⟩, -, lg⟩ := boxSt_at hg
  clear hg
  have RR : Hid ((w.alloc (.cells #[.int .i64 0, .int .i64 0, .int .i64 0, .int .i64 0, .int .i64 0, .int .i64 0, .int .i64 0, .int .i64 0, .int .i64 0] 29)).heap[w.heap.size]? = some (.cells #[.int .i64 0, .int .i64 0, .int .i64 0, .int .i64 0, .int .i64 0, .int .i64 0, .int .i64 0, .int .i64 0, .int .i64 0] 29 (0, 0))) := heap_alloc_new _ _
  have BB : Hid (Below w.heap.size w (w.alloc (.cells #[.int .i64 0, .int .i64 0, .int .i64 0, .int .i64 0, .int .i64 0, .int .i64 0, .int .i64 0, .int .i64 0, .int .i64 0] 29))) := by show Below _ _ _; go_grown
  cases st with
  | true =>
    obtain rfl : o = (⟨⟨0, 0, 0, 0⟩, ⟨0, 0, 0, 0⟩, 0⟩ : Mc) := ho
    go_enter Try.func74, Try.ntmps74
    go_wp2_with (first | (refine wpList_store_M rfl _ _ rfl (w.heap.size) (⟨⟨0, 0, 0, 0⟩, ⟨0, 0, 0, 0⟩, 0⟩ : Mc) (⟨⟨0, 0, 0, 0⟩, ⟨0, 0, 0, 0⟩, 0⟩ : Mc) _ rfl rfl RR.out ?_; intro wE hE oE bE) | fail)
    have PE := Lib.hid hE
    have BE : Hid (Below w.heap.size w wE) := BB.out.trans (bE.mono (by omega))
    clear hE oE bE
    obtain ⟨⟨g0, g1, g2, g3, g4, g5, g6, g7, g8⟩, -, -⟩ := boxMc_at (q := (⟨⟨0, 0, 0, 0⟩, ⟨0, 0, 0, 0⟩, 0⟩ : Mc)) PE.out
    try dsimp only at g0 g1 g2 g3 g4 g5 g6 g7 g8
    go_wp2
    refine bodyPost_ret (v := .tuple #[(.agg #[.int .i64 0, .int .i64 0, .int .i64 0, .int .i64 0, .int .i64 0, .int .i64 0, .int .i64 0, .int .i64 0, .int .i64 0]), .bool false]) (by simp [results, Try.results74, go_sem, g0, g1, g2, g3, g4, g5, g6, g7, g8]; try rfl) rfl ⟨rfl, BE.out⟩
  | false =>
    obtain rfl : o = m := ho
    go_enter Try.func74, Try.ntmps74
    go_wp2_with (first | (refine wpList_store_M rfl _ _ rfl (w.heap.size) (⟨⟨0, 0, 0, 0⟩, ⟨0, 0, 0, 0⟩, 0⟩ : Mc) o _ rfl rfl RR.out ?_; intro wE hE oE bE) | fail)
    have PE := Lib.hid hE
    have BE : Hid (Below w.heap.size w wE) := BB.out.trans (bE.mono (by omega))
    clear hE oE bE
    obtain ⟨⟨g0, g1, g2, g3, g4, g5, g6, g7, g8⟩, -, -⟩ := boxMc_at (q := o) PE.out
    try dsimp only at g0 g1 g2 g3 g4 g5 g6 g7 g8
    go_wp2
    refine bodyPost_ret (v := .tuple #[(.agg #[.int .i64 o.u.s, .int .i64 o.u.h, .int .i64 o.u.y, .int .i64 o.u.p, .int .i64 o.t.s, .int .i64 o.t.h, .int .i64 o.t.y, .int .i64 o.t.p, .int .i64 o.a]), .bool true]) (by simp [results, Try.results74, go_sem, g0, g1, g2, g3, g4, g5, g6, g7, g8]; try rfl) rfl ⟨rfl, BE.out⟩
end Go.Proofs.Ytjapgbeecabkfaa
