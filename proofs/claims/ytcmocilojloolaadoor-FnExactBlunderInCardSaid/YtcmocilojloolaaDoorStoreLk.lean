/- A store of a whole link into its box. -/
import Derived.Test.YtcmocilojloolaaDoorlinks
import Derived.Deep.MidRow
import Derived.Deep.RegionHeld3
namespace Go.Proofs.YtcmocilojloolaaDoor
open Go.ChangeShapes Go.WideShapes Go.ChangeAt Go.RowKit
set_option linter.unusedVariables false
set_option linter.unusedSimpArgs false

theorem infos_Lk : (Tryd.prog.info? 110).map (fun i => i.size) = some 2 := by kernel_rfl
theorem wpList_store_Lk {ops : Array Oper} {rest : List Oper} {op : Oper} {a : Act} {w : World} {Q : Exit → Act → World → Prop} (hgd : op.guard = none) (x y : Operand) (ho : op.op = .store 110 x y)
    (g : Nat) (q n : Lk) (t : TypeId) (hx : a.eval x = .pointer (some ⟨g, 0, none⟩)) (hy : a.eval y = (.agg #[.int .i64 n.p, .int .i64 n.r])) (hg : w.heap[g]? = some (.cells #[.int .i64 q.p, .int .i64 q.r] t (0, 0)))
    (h : ∀ w', w'.heap[g]? = some (.cells #[.int .i64 n.p, .int .i64 n.r] t (0, 0)) → (∀ j, j ≠ g → w'.heap[j]? = w.heap[j]?) → Below g w w' → wpList Tryd.prog ops Q rest (a.put op.dst undef) w') : wpList Tryd.prog ops Q (op :: rest) a w := by
  refine wpList_store_mid hgd 110 x y ho g 0 #[.int .i64 n.p, .int .i64 n.r] hx hy ?_ infos_Lk (by simp [Value.oneCell']) ?_
  · intro j hj
    rw [Nat.zero_add]
    obtain ⟨⟨c0, c1⟩, ⟨f0, f1⟩, -⟩ := boxLk_at hg
    match j, hj with
    | 0, _ => exact ⟨by rw [c0]; rfl, f0⟩
    | 1, _ => exact ⟨by rw [c1]; rfl, f1⟩
  · refine h _ (boxLk_put hg n) ?_ ?_
    · intro j hj
      show ((w.setCell ⟨g, 0, none⟩ (.int .i64 n.p)).setCell ⟨g, 1, none⟩ (.int .i64 n.r)).heap[j]? = _
      rw [Below.heap_setCell _ _ _ _ hj, Below.heap_setCell _ _ _ _ hj]
    · exact (((Below.refl g w).setCell (p := ⟨g, 0, none⟩) (Nat.le_refl g) (.int .i64 n.p)).setCell (p := ⟨g, 1, none⟩) (Nat.le_refl g) (.int .i64 n.r))

theorem step_store_Lk {ops : Array Oper} {op : Oper} {a : Act} {w : World} {K : Act → World → Prop} {Q : Exit → Act → World → Prop} {E : Prop} (hgd : op.guard = none) (x y : Operand) (ho : op.op = .store 110 x y)
    (g : Nat) (q n : Lk) (t : TypeId) (hx : a.eval x = .pointer (some ⟨g, 0, none⟩)) (hy : a.eval y = (.agg #[.int .i64 n.p, .int .i64 n.r])) (hg : w.heap[g]? = some (.cells #[.int .i64 q.p, .int .i64 q.r] t (0, 0)))
    (h : ∀ w', w'.heap[g]? = some (.cells #[.int .i64 n.p, .int .i64 n.r] t (0, 0)) → (∀ j, j ≠ g → w'.heap[j]? = w.heap[j]?) → Below g w w' → K (a.put op.dst undef) w') :
    if Region.wanted op (yielded ops a.tmps) = true then op.wp Tryd.prog a w K Q else E := by
  have hw : Region.wanted op (yielded ops a.tmps) = true := by simp [Region.wanted, hgd]
  rw [if_pos hw]
  refine wp_store_mid 110 x y ho g 0 #[.int .i64 n.p, .int .i64 n.r] hx hy ?_ infos_Lk (by simp [Value.oneCell']) ?_
  · intro j hj
    rw [Nat.zero_add]
    obtain ⟨⟨c0, c1⟩, ⟨f0, f1⟩, -⟩ := boxLk_at hg
    match j, hj with
    | 0, _ => exact ⟨by rw [c0]; rfl, f0⟩
    | 1, _ => exact ⟨by rw [c1]; rfl, f1⟩
  · refine h _ (boxLk_put hg n) ?_ ?_
    · intro j hj
      show ((w.setCell ⟨g, 0, none⟩ (.int .i64 n.p)).setCell ⟨g, 1, none⟩ (.int .i64 n.r)).heap[j]? = _
      rw [Below.heap_setCell _ _ _ _ hj, Below.heap_setCell _ _ _ _ hj]
    · exact (((Below.refl g w).setCell (p := ⟨g, 0, none⟩) (Nat.le_refl g) (.int .i64 n.p)).setCell (p := ⟨g, 1, none⟩) (Nat.le_refl g) (.int .i64 n.r))
end Go.Proofs.YtcmocilojloolaaDoor
