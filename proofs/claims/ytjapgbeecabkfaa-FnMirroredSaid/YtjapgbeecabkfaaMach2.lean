/- Boxes of machines that are written whole. -/
import Derived.Test.YtjapgbeecabkfaaMach
import Derived.Deep.MidRow
namespace Go.Proofs.Ytjapgbeecabkfaa
open Go.ChangeShapes Go.WideShapes Go.ChangeAt Go.RowKit
set_option linter.unusedVariables false
set_option linter.unusedSimpArgs false

theorem boxMc_put {w : World} {g : Nat} {t : TypeId} {q : Mc} (h : w.heap[g]? = some (.cells #[.int .i64 q.u.s, .int .i64 q.u.h, .int .i64 q.u.y, .int .i64 q.u.p, .int .i64 q.t.s, .int .i64 q.t.h, .int .i64 q.t.y, .int .i64 q.t.p, .int .i64 q.a] t (0, 0))) (n : Mc) :
    (((((((((w.setCell ⟨g, 0, none⟩ (.int .i64 n.u.s)).setCell ⟨g, 1, none⟩ (.int .i64 n.u.h)).setCell ⟨g, 2, none⟩ (.int .i64 n.u.y)).setCell ⟨g, 3, none⟩ (.int .i64 n.u.p)).setCell ⟨g, 4, none⟩ (.int .i64 n.t.s)).setCell ⟨g, 5, none⟩ (.int .i64 n.t.h)).setCell ⟨g, 6, none⟩ (.int .i64 n.t.y)).setCell ⟨g, 7, none⟩ (.int .i64 n.t.p)).setCell ⟨g, 8, none⟩ (.int .i64 n.a)).heap[g]? = some (.cells #[.int .i64 n.u.s, .int .i64 n.u.h, .int .i64 n.u.y, .int .i64 n.u.p, .int .i64 n.t.s, .int .i64 n.t.h, .int .i64 n.t.y, .int .i64 n.t.p, .int .i64 n.a] t (0, 0)) := by
  have h1 := (heap_setCell_same _ g 8 _ t (.int .i64 n.a) (heap_setCell_same _ g 7 _ t (.int .i64 n.t.p) (heap_setCell_same _ g 6 _ t (.int .i64 n.t.y) (heap_setCell_same _ g 5 _ t (.int .i64 n.t.h) (heap_setCell_same _ g 4 _ t (.int .i64 n.t.s) (heap_setCell_same _ g 3 _ t (.int .i64 n.u.p) (heap_setCell_same _ g 2 _ t (.int .i64 n.u.y) (heap_setCell_same _ g 1 _ t (.int .i64 n.u.h) (heap_setCell_same _ g 0 _ t (.int .i64 n.u.s) h)))))))))
  simpa using h1

theorem heap_alloc_get (w : World) (o : Obj) (j : Nat) : (w.alloc o).heap[j]? = if j = w.heap.size then some o else w.heap[j]? := by
  by_cases h : j = w.heap.size
  · subst h; rw [if_pos rfl]; exact heap_alloc_new w o
  · rw [if_neg h]
    by_cases h2 : j < w.heap.size
    · exact Below.heap_alloc _ _ _ h2
    · rw [Array.getElem?_eq_none (show w.heap.size ≤ j by omega), Array.getElem?_eq_none (by rw [World.size_alloc]; omega)]
theorem heap_drew (w : World) : w.drew.heap = w.heap := rfl

/-- A store of a machine into a box. -/
theorem info_M : (Try.prog.info? 29).map (·.size) = some 9 := by kernel_rfl

theorem wpList_store_M {ops : Array Oper} {rest : List Oper} {op : Oper} {a : Act} {w : World} {Q : Exit → Act → World → Prop} (hgd : op.guard = none) (x y : Operand) (ho : op.op = .store 29 x y)
    (g : Nat) (q n : Mc) (t : TypeId) (hx : a.eval x = .pointer (some ⟨g, 0, none⟩)) (hy : a.eval y = (.agg #[.int .i64 n.u.s, .int .i64 n.u.h, .int .i64 n.u.y, .int .i64 n.u.p, .int .i64 n.t.s, .int .i64 n.t.h, .int .i64 n.t.y, .int .i64 n.t.p, .int .i64 n.a])) (hg : w.heap[g]? = some (.cells #[.int .i64 q.u.s, .int .i64 q.u.h, .int .i64 q.u.y, .int .i64 q.u.p, .int .i64 q.t.s, .int .i64 q.t.h, .int .i64 q.t.y, .int .i64 q.t.p, .int .i64 q.a] t (0, 0)))
    (h : ∀ w', w'.heap[g]? = some (.cells #[.int .i64 n.u.s, .int .i64 n.u.h, .int .i64 n.u.y, .int .i64 n.u.p, .int .i64 n.t.s, .int .i64 n.t.h, .int .i64 n.t.y, .int .i64 n.t.p, .int .i64 n.a] t (0, 0)) → (∀ j, j ≠ g → w'.heap[j]? = w.heap[j]?) → Below g w w' → wpList Try.prog ops Q rest (a.put op.dst undef) w') : wpList Try.prog ops Q (op :: rest) a w := by
  refine wpList_store_mid hgd 29 x y ho g 0 #[.int .i64 n.u.s, .int .i64 n.u.h, .int .i64 n.u.y, .int .i64 n.u.p, .int .i64 n.t.s, .int .i64 n.t.h, .int .i64 n.t.y, .int .i64 n.t.p, .int .i64 n.a] hx hy ?_ info_M (by simp [Value.oneCell']) ?_
  · intro j hj
    rw [Nat.zero_add]
    obtain ⟨⟨c0, c1, c2, c3, c4, c5, c6, c7, c8⟩, ⟨f0, f1, f2, f3, f4, f5, f6, f7, f8⟩, -⟩ := boxMc_at hg
    match j, hj with
    | 0, _ => exact ⟨by rw [c0]; rfl, f0⟩
    | 1, _ => exact ⟨by rw [c1]; rfl, f1⟩
    | 2, _ => exact ⟨by rw [c2]; rfl, f2⟩
    | 3, _ => exact ⟨by rw [c3]; rfl, f3⟩
    | 4, _ => exact ⟨by rw [c4]; rfl, f4⟩
    | 5, _ => exact ⟨by rw [c5]; rfl, f5⟩
    | 6, _ => exact ⟨by rw [c6]; rfl, f6⟩
    | 7, _ => exact ⟨by rw [c7]; rfl, f7⟩
    | 8, _ => exact ⟨by rw [c8]; rfl, f8⟩
  · refine h _ (boxMc_put hg n) ?_ ?_
    · intro j hj
      show (((((((((w.setCell ⟨g, 0, none⟩ (.int .i64 n.u.s)).setCell ⟨g, 1, none⟩ (.int .i64 n.u.h)).setCell ⟨g, 2, none⟩ (.int .i64 n.u.y)).setCell ⟨g, 3, none⟩ (.int .i64 n.u.p)).setCell ⟨g, 4, none⟩ (.int .i64 n.t.s)).setCell ⟨g, 5, none⟩ (.int .i64 n.t.h)).setCell ⟨g, 6, none⟩ (.int .i64 n.t.y)).setCell ⟨g, 7, none⟩ (.int .i64 n.t.p)).setCell ⟨g, 8, none⟩ (.int .i64 n.a)).heap[j]? = _
      rw [Below.heap_setCell _ _ _ _ hj, Below.heap_setCell _ _ _ _ hj, Below.heap_setCell _ _ _ _ hj, Below.heap_setCell _ _ _ _ hj, Below.heap_setCell _ _ _ _ hj, Below.heap_setCell _ _ _ _ hj, Below.heap_setCell _ _ _ _ hj, Below.heap_setCell _ _ _ _ hj, Below.heap_setCell _ _ _ _ hj]
    · exact ((((((((((Below.refl g w).setCell (p := ⟨g, 0, none⟩) (Nat.le_refl g) (.int .i64 n.u.s)).setCell (p := ⟨g, 1, none⟩) (Nat.le_refl g) (.int .i64 n.u.h)).setCell (p := ⟨g, 2, none⟩) (Nat.le_refl g) (.int .i64 n.u.y)).setCell (p := ⟨g, 3, none⟩) (Nat.le_refl g) (.int .i64 n.u.p)).setCell (p := ⟨g, 4, none⟩) (Nat.le_refl g) (.int .i64 n.t.s)).setCell (p := ⟨g, 5, none⟩) (Nat.le_refl g) (.int .i64 n.t.h)).setCell (p := ⟨g, 6, none⟩) (Nat.le_refl g) (.int .i64 n.t.y)).setCell (p := ⟨g, 7, none⟩) (Nat.le_refl g) (.int .i64 n.t.p)).setCell (p := ⟨g, 8, none⟩) (Nat.le_refl g) (.int .i64 n.a))

end Go.Proofs.Ytjapgbeecabkfaa
