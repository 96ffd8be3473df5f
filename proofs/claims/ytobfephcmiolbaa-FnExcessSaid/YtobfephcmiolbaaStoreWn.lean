/- A store of a whole window[int64] into its box. -/
import Derived.Test.YtobfephcmiolbaaWn
import Derived.Deep.MidRow
import Derived.Deep.RegionHeld3
namespace Go.Proofs.Ytobfephcmiolbaa
open Go.ChangeShapes Go.WideShapes Go.ChangeAt Go.RowKit
set_option linter.unusedVariables false
set_option linter.unusedSimpArgs false

theorem infos_Wn : (Try.prog.info? 57).map (fun i => i.size) = some 3 := by kernel_rfl
theorem wpList_store_Wn {ops : Array Oper} {rest : List Oper} {op : Oper} {a : Act} {w : World} {Q : Exit → Act → World → Prop} (hgd : op.guard = none) (x y : Operand) (ho : op.op = .store 57 x y)
    (g : Nat) (q n : Wn) (t : TypeId) (hx : a.eval x = .pointer (some ⟨g, 0, none⟩)) (hy : a.eval y = (.agg #[.int .i64 n.f, .int .i64 n.l, .int .i64 n.s])) (hg : w.heap[g]? = some (.cells #[.int .i64 q.f, .int .i64 q.l, .int .i64 q.s] t (0, 0)))
    (h : ∀ w', w'.heap[g]? = some (.cells #[.int .i64 n.f, .int .i64 n.l, .int .i64 n.s] t (0, 0)) → (∀ j, j ≠ g → w'.heap[j]? = w.heap[j]?) → Below g w w' → wpList Try.prog ops Q rest (a.put op.dst undef) w') : wpList Try.prog ops Q (op :: rest) a w := by
  refine wpList_store_mid hgd 57 x y ho g 0 #[.int .i64 n.f, .int .i64 n.l, .int .i64 n.s] hx hy ?_ infos_Wn (by simp [Value.oneCell']) ?_
  · intro j hj
    rw [Nat.zero_add]
    obtain ⟨⟨c0, c1, c2⟩, ⟨f0, f1, f2⟩, -⟩ := boxWn_at hg
    match j, hj with
    | 0, _ => exact ⟨by rw [c0]; rfl, f0⟩
    | 1, _ => exact ⟨by rw [c1]; rfl, f1⟩
    | 2, _ => exact ⟨by rw [c2]; rfl, f2⟩
  · refine h _ (boxWn_put hg n) ?_ ?_
    · intro j hj
      show (((w.setCell ⟨g, 0, none⟩ (.int .i64 n.f)).setCell ⟨g, 1, none⟩ (.int .i64 n.l)).setCell ⟨g, 2, none⟩ (.int .i64 n.s)).heap[j]? = _
      rw [Below.heap_setCell _ _ _ _ hj, Below.heap_setCell _ _ _ _ hj, Below.heap_setCell _ _ _ _ hj]
    · exact ((((Below.refl g w).setCell (p := ⟨g, 0, none⟩) (Nat.le_refl g) (.int .i64 n.f)).setCell (p := ⟨g, 1, none⟩) (Nat.le_refl g) (.int .i64 n.l)).setCell (p := ⟨g, 2, none⟩) (Nat.le_refl g) (.int .i64 n.s))

theorem step_store_Wn {ops : Array Oper} {op : Oper} {a : Act} {w : World} {K : Act → World → Prop} {Q : Exit → Act → World → Prop} {E : Prop} (hgd : op.guard = none) (x y : Operand) (ho : op.op = .store 57 x y)
    (g : Nat) (q n : Wn) (t : TypeId) (hx : a.eval x = .pointer (some ⟨g, 0, none⟩)) (hy : a.eval y = (.agg #[.int .i64 n.f, .int .i64 n.l, .int .i64 n.s])) (hg : w.heap[g]? = some (.cells #[.int .i64 q.f, .int .i64 q.l, .int .i64 q.s] t (0, 0)))
    (h : ∀ w', w'.heap[g]? = some (.cells #[.int .i64 n.f, .int .i64 n.l, .int .i64 n.s] t (0, 0)) → (∀ j, j ≠ g → w'.heap[j]? = w.heap[j]?) → Below g w w' → K (a.put op.dst undef) w') :
    if Region.wanted op (yielded ops a.tmps) = true then op.wp Try.prog a w K Q else E := by
  have hw : Region.wanted op (yielded ops a.tmps) = true := by simp [Region.wanted, hgd]
  rw [if_pos hw]
  refine wp_store_mid 57 x y ho g 0 #[.int .i64 n.f, .int .i64 n.l, .int .i64 n.s] hx hy ?_ infos_Wn (by simp [Value.oneCell']) ?_
  · intro j hj
    rw [Nat.zero_add]
    obtain ⟨⟨c0, c1, c2⟩, ⟨f0, f1, f2⟩, -⟩ := boxWn_at hg
    match j, hj with
    | 0, _ => exact ⟨by rw [c0]; rfl, f0⟩
    | 1, _ => exact ⟨by rw [c1]; rfl, f1⟩
    | 2, _ => exact ⟨by rw [c2]; rfl, f2⟩
  · refine h _ (boxWn_put hg n) ?_ ?_
    · intro j hj
      show (((w.setCell ⟨g, 0, none⟩ (.int .i64 n.f)).setCell ⟨g, 1, none⟩ (.int .i64 n.l)).setCell ⟨g, 2, none⟩ (.int .i64 n.s)).heap[j]? = _
      rw [Below.heap_setCell _ _ _ _ hj, Below.heap_setCell _ _ _ _ hj, Below.heap_setCell _ _ _ _ hj]
    · exact ((((Below.refl g w).setCell (p := ⟨g, 0, none⟩) (Nat.le_refl g) (.int .i64 n.f)).setCell (p := ⟨g, 1, none⟩) (Nat.le_refl g) (.int .i64 n.l)).setCell (p := ⟨g, 2, none⟩) (Nat.le_refl g) (.int .i64 n.s))
end Go.Proofs.Ytobfephcmiolbaa
