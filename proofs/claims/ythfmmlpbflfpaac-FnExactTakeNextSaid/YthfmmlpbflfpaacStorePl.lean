/- A store of a whole pile into its box. -/
import Derived.Test.Ythfmmlpbflfpaacpiles
import Derived.Deep.MidRow
import Derived.Deep.RegionHeld3
namespace Go.Proofs.Ythfmmlpbflfpaac
open Go.ChangeShapes Go.WideShapes Go.ChangeAt Go.RowKit
set_option linter.unusedVariables false
set_option linter.unusedSimpArgs false

theorem infos_Pl : (Try.prog.info? 52).map (fun i => i.size) = some 5 := by kernel_rfl
theorem wpList_store_Pl {ops : Array Oper} {rest : List Oper} {op : Oper} {a : Act} {w : World} {Q : Exit → Act → World → Prop} (hgd : op.guard = none) (x y : Operand) (ho : op.op = .store 52 x y)
    (g : Nat) (q n : Pl) (t : TypeId) (hx : a.eval x = .pointer (some ⟨g, 0, none⟩)) (hy : a.eval y = (.agg #[.int .i64 n.a, .int .i64 n.b, .int .i64 n.c, .int .i64 n.d, .int .i64 n.n])) (hg : w.heap[g]? = some (.cells #[.int .i64 q.a, .int .i64 q.b, .int .i64 q.c, .int .i64 q.d, .int .i64 q.n] t (0, 0)))
    (h : ∀ w', w'.heap[g]? = some (.cells #[.int .i64 n.a, .int .i64 n.b, .int .i64 n.c, .int .i64 n.d, .int .i64 n.n] t (0, 0)) → (∀ j, j ≠ g → w'.heap[j]? = w.heap[j]?) → Below g w w' → wpList Try.prog ops Q rest (a.put op.dst undef) w') : wpList Try.prog ops Q (op :: rest) a w := by
  refine wpList_store_mid hgd 52 x y ho g 0 #[.int .i64 n.a, .int .i64 n.b, .int .i64 n.c, .int .i64 n.d, .int .i64 n.n] hx hy ?_ infos_Pl (by simp [Value.oneCell']) ?_
  · intro j hj
    rw [Nat.zero_add]
    obtain ⟨⟨c0, c1, c2, c3, c4⟩, ⟨f0, f1, f2, f3, f4⟩, -⟩ := boxPl_at hg
    match j, hj with
    | 0, _ => exact ⟨by rw [c0]; rfl, f0⟩
    | 1, _ => exact ⟨by rw [c1]; rfl, f1⟩
    | 2, _ => exact ⟨by rw [c2]; rfl, f2⟩
    | 3, _ => exact ⟨by rw [c3]; rfl, f3⟩
    | 4, _ => exact ⟨by rw [c4]; rfl, f4⟩
  · refine h _ (boxPl_put hg n) ?_ ?_
    · intro j hj
      show (((((w.setCell ⟨g, 0, none⟩ (.int .i64 n.a)).setCell ⟨g, 1, none⟩ (.int .i64 n.b)).setCell ⟨g, 2, none⟩ (.int .i64 n.c)).setCell ⟨g, 3, none⟩ (.int .i64 n.d)).setCell ⟨g, 4, none⟩ (.int .i64 n.n)).heap[j]? = _
      rw [Below.heap_setCell _ _ _ _ hj, Below.heap_setCell _ _ _ _ hj, Below.heap_setCell _ _ _ _ hj, Below.heap_setCell _ _ _ _ hj, Below.heap_setCell _ _ _ _ hj]
    · exact ((((((Below.refl g w).setCell (p := ⟨g, 0, none⟩) (Nat.le_refl g) (.int .i64 n.a)).setCell (p := ⟨g, 1, none⟩) (Nat.le_refl g) (.int .i64 n.b)).setCell (p := ⟨g, 2, none⟩) (Nat.le_refl g) (.int .i64 n.c)).setCell (p := ⟨g, 3, none⟩) (Nat.le_refl g) (.int .i64 n.d)).setCell (p := ⟨g, 4, none⟩) (Nat.le_refl g) (.int .i64 n.n))

theorem step_store_Pl {ops : Array Oper} {op : Oper} {a : Act} {w : World} {K : Act → World → Prop} {Q : Exit → Act → World → Prop} {E : Prop} (hgd : op.guard = none) (x y : Operand) (ho : op.op = .store 52 x y)
    (g : Nat) (q n : Pl) (t : TypeId) (hx : a.eval x = .pointer (some ⟨g, 0, none⟩)) (hy : a.eval y = (.agg #[.int .i64 n.a, .int .i64 n.b, .int .i64 n.c, .int .i64 n.d, .int .i64 n.n])) (hg : w.heap[g]? = some (.cells #[.int .i64 q.a, .int .i64 q.b, .int .i64 q.c, .int .i64 q.d, .int .i64 q.n] t (0, 0)))
    (h : ∀ w', w'.heap[g]? = some (.cells #[.int .i64 n.a, .int .i64 n.b, .int .i64 n.c, .int .i64 n.d, .int .i64 n.n] t (0, 0)) → (∀ j, j ≠ g → w'.heap[j]? = w.heap[j]?) → Below g w w' → K (a.put op.dst undef) w') :
    if Region.wanted op (yielded ops a.tmps) = true then op.wp Try.prog a w K Q else E := by
  have hw : Region.wanted op (yielded ops a.tmps) = true := by simp [Region.wanted, hgd]
  rw [if_pos hw]
  refine wp_store_mid 52 x y ho g 0 #[.int .i64 n.a, .int .i64 n.b, .int .i64 n.c, .int .i64 n.d, .int .i64 n.n] hx hy ?_ infos_Pl (by simp [Value.oneCell']) ?_
  · intro j hj
    rw [Nat.zero_add]
    obtain ⟨⟨c0, c1, c2, c3, c4⟩, ⟨f0, f1, f2, f3, f4⟩, -⟩ := boxPl_at hg
    match j, hj with
    | 0, _ => exact ⟨by rw [c0]; rfl, f0⟩
    | 1, _ => exact ⟨by rw [c1]; rfl, f1⟩
    | 2, _ => exact ⟨by rw [c2]; rfl, f2⟩
    | 3, _ => exact ⟨by rw [c3]; rfl, f3⟩
    | 4, _ => exact ⟨by rw [c4]; rfl, f4⟩
  · refine h _ (boxPl_put hg n) ?_ ?_
    · intro j hj
      show (((((w.setCell ⟨g, 0, none⟩ (.int .i64 n.a)).setCell ⟨g, 1, none⟩ (.int .i64 n.b)).setCell ⟨g, 2, none⟩ (.int .i64 n.c)).setCell ⟨g, 3, none⟩ (.int .i64 n.d)).setCell ⟨g, 4, none⟩ (.int .i64 n.n)).heap[j]? = _
      rw [Below.heap_setCell _ _ _ _ hj, Below.heap_setCell _ _ _ _ hj, Below.heap_setCell _ _ _ _ hj, Below.heap_setCell _ _ _ _ hj, Below.heap_setCell _ _ _ _ hj]
    · exact ((((((Below.refl g w).setCell (p := ⟨g, 0, none⟩) (Nat.le_refl g) (.int .i64 n.a)).setCell (p := ⟨g, 1, none⟩) (Nat.le_refl g) (.int .i64 n.b)).setCell (p := ⟨g, 2, none⟩) (Nat.le_refl g) (.int .i64 n.c)).setCell (p := ⟨g, 3, none⟩) (Nat.le_refl g) (.int .i64 n.d)).setCell (p := ⟨g, 4, none⟩) (Nat.le_refl g) (.int .i64 n.n))
end Go.Proofs.Ythfmmlpbflfpaac
