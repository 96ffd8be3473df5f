/- A store of a whole axis into its box. -/
import Derived.Test.YthhnnkgfnhggbaaAxM
import Derived.Deep.MidRow
import Derived.Deep.RegionHeld3
namespace Go.Proofs.Ythhnnkgfnhggbaa
open Go.ChangeShapes Go.WideShapes Go.ChangeAt Go.RowKit
set_option linter.unusedVariables false
set_option linter.unusedSimpArgs false

theorem infos_A : (Try.prog.info? 28).map (fun i => i.size) = some 5 := by kernel_rfl
def cellsA (q : Ps) (v : Value) : Array Value := #[.int .i64 q.s, .int .i64 q.h, .int .i64 q.y, .int .i64 q.p, v]
theorem boxA_put {w : World} {g : Nat} {t : TypeId} {q : Ps} {v : Value} (h : w.heap[g]? = some (.cells #[.int .i64 q.s, .int .i64 q.h, .int .i64 q.y, .int .i64 q.p, v] t (0, 0))) (n : Ps) (u : Value) :
    (((((w.setCell ⟨g, 0, none⟩ (.int .i64 n.s)).setCell ⟨g, 1, none⟩ (.int .i64 n.h)).setCell ⟨g, 2, none⟩ (.int .i64 n.y)).setCell ⟨g, 3, none⟩ (.int .i64 n.p)).setCell ⟨g, 4, none⟩ u).heap[g]? = some (.cells #[.int .i64 n.s, .int .i64 n.h, .int .i64 n.y, .int .i64 n.p, u] t (0, 0)) := by
  have e := heap_setCell_same _ g 4 _ t u (heap_setCell_same _ g 3 _ t (.int .i64 n.p) (heap_setCell_same _ g 2 _ t (.int .i64 n.y) (heap_setCell_same _ g 1 _ t (.int .i64 n.h) (heap_setCell_same _ g 0 _ t (.int .i64 n.s) h))))
  exact e
theorem frozA {w : World} {g : Nat} {t : TypeId} {q : Ps} {v : Value} (h : w.heap[g]? = some (.cells #[.int .i64 q.s, .int .i64 q.h, .int .i64 q.y, .int .i64 q.p, v] t (0, 0))) (j : Nat) : w.frozen? ⟨g, j, none⟩ = false := frozen_of_row w g j _ _ h

theorem step_store_A {ops : Array Oper} {op : Oper} {a : Act} {w : World} {K : Act → World → Prop} {Q : Exit → Act → World → Prop} {E : Prop} (hgd : op.guard = none) (x y : Operand) (ho : op.op = .store 28 x y)
    (g : Nat) (q : Ps) (v : Value) (n : Ps) (u : Value) (hcu : u.oneCell' = true) (t : TypeId) (hx : a.eval x = .pointer (some ⟨g, 0, none⟩)) (hy : a.eval y = (.agg #[.int .i64 n.s, .int .i64 n.h, .int .i64 n.y, .int .i64 n.p, u])) (hg : w.heap[g]? = some (.cells #[.int .i64 q.s, .int .i64 q.h, .int .i64 q.y, .int .i64 q.p, v] t (0, 0)))
    (h : ∀ w', w'.heap[g]? = some (.cells #[.int .i64 n.s, .int .i64 n.h, .int .i64 n.y, .int .i64 n.p, u] t (0, 0)) → (∀ j, j ≠ g → w'.heap[j]? = w.heap[j]?) → Below g w w' → K (a.put op.dst undef) w') :
    if Region.wanted op (yielded ops a.tmps) = true then op.wp Try.prog a w K Q else E := by
  have hw : Region.wanted op (yielded ops a.tmps) = true := by simp [Region.wanted, hgd]
  rw [if_pos hw]
  refine wp_store_mid 28 x y ho g 0 #[.int .i64 n.s, .int .i64 n.h, .int .i64 n.y, .int .i64 n.p, u] hx hy ?_ infos_A (by simp [Value.oneCell']; exact hcu) ?_
  · intro j hj
    rw [Nat.zero_add]
    obtain ⟨⟨c0, c1, c2, c3, c4⟩, -⟩ := boxA_at hg
    match j, hj with
    | 0, _ => exact ⟨by rw [c0]; rfl, frozA hg 0⟩
    | 1, _ => exact ⟨by rw [c1]; rfl, frozA hg 1⟩
    | 2, _ => exact ⟨by rw [c2]; rfl, frozA hg 2⟩
    | 3, _ => exact ⟨by rw [c3]; rfl, frozA hg 3⟩
    | 4, _ => exact ⟨by rw [c4]; rfl, frozA hg 4⟩
  · refine h _ (boxA_put hg n u) ?_ ?_
    · intro j hj
      show (((((w.setCell ⟨g, 0, none⟩ (.int .i64 n.s)).setCell ⟨g, 1, none⟩ (.int .i64 n.h)).setCell ⟨g, 2, none⟩ (.int .i64 n.y)).setCell ⟨g, 3, none⟩ (.int .i64 n.p)).setCell ⟨g, 4, none⟩ u).heap[j]? = _
      rw [Below.heap_setCell _ _ _ _ hj, Below.heap_setCell _ _ _ _ hj, Below.heap_setCell _ _ _ _ hj, Below.heap_setCell _ _ _ _ hj, Below.heap_setCell _ _ _ _ hj]
    · exact ((((((Below.refl g w).setCell (p := ⟨g, 0, none⟩) (Nat.le_refl g) (.int .i64 n.s)).setCell (p := ⟨g, 1, none⟩) (Nat.le_refl g) (.int .i64 n.h)).setCell (p := ⟨g, 2, none⟩) (Nat.le_refl g) (.int .i64 n.y)).setCell (p := ⟨g, 3, none⟩) (Nat.le_refl g) (.int .i64 n.p)).setCell (p := ⟨g, 4, none⟩) (Nat.le_refl g) u)
end Go.Proofs.Ythhnnkgfnhggbaa
