/- A store of a whole course into its box. -/
import Derived.Test.YtkdecpnbbpmooacDoorCourses
import Derived.Deep.MidRow
import Derived.Deep.RegionHeld3
namespace Go.Proofs.YtkdecpnbbpmooacDoor
open Go.ChangeShapes Go.WideShapes Go.ChangeAt Go.RowKit
set_option linter.unusedVariables false
set_option linter.unusedSimpArgs false

theorem infos_Co : (Tryd.prog.info? 27).map (fun i => i.size) = some 3 := by kernel_rfl
theorem wpList_store_Co {ops : Array Oper} {rest : List Oper} {op : Oper} {a : Act} {w : World} {Q : Exit → Act → World → Prop} (hgd : op.guard = none) (x y : Operand) (ho : op.op = .store 27 x y)
    (g : Nat) (q n : Co) (t : TypeId) (hx : a.eval x = .pointer (some ⟨g, 0, none⟩)) (hy : a.eval y = (.agg #[.int .i64 n.o, .int .i64 n.h, .int .i64 n.t])) (hg : w.heap[g]? = some (.cells #[.int .i64 q.o, .int .i64 q.h, .int .i64 q.t] t (0, 0)))
    (h : ∀ w', w'.heap[g]? = some (.cells #[.int .i64 n.o, .int .i64 n.h, .int .i64 n.t] t (0, 0)) → (∀ j, j ≠ g → w'.heap[j]? = w.heap[j]?) → Below g w w' → wpList Tryd.prog ops Q rest (a.put op.dst undef) w') : wpList Tryd.prog ops Q (op :: rest) a w := by
  refine wpList_store_mid hgd 27 x y ho g 0 #[.int .i64 n.o, .int .i64 n.h, .int .i64 n.t] hx hy ?_ infos_Co (by simp [Value.oneCell']) ?_
  · intro j hj
    rw [Nat.zero_add]
    obtain ⟨⟨c0, c1, c2⟩, ⟨f0, f1, f2⟩, -⟩ := boxCo_at hg
    match j, hj with
    | 0, _ => exact ⟨by rw [c0]; rfl, f0⟩
    | 1, _ => exact ⟨by rw [c1]; rfl, f1⟩
    | 2, _ => exact ⟨by rw [c2]; rfl, f2⟩
  · refine h _ (boxCo_put hg n) ?_ ?_
    · intro j hj
      show (((w.setCell ⟨g, 0, none⟩ (.int .i64 n.o)).setCell ⟨g, 1, none⟩ (.int .i64 n.h)).setCell ⟨g, 2, none⟩ (.int .i64 n.t)).heap[j]? = _
      rw [Below.heap_setCell _ _ _ _ hj, Below.heap_setCell _ _ _ _ hj, Below.heap_setCell _ _ _ _ hj]
    · exact ((((Below.refl g w).setCell (p := ⟨g, 0, none⟩) (Nat.le_refl g) (.int .i64 n.o)).setCell (p := ⟨g, 1, none⟩) (Nat.le_refl g) (.int .i64 n.h)).setCell (p := ⟨g, 2, none⟩) (Nat.le_refl g) (.int .i64 n.t))

theorem step_store_Co {ops : Array Oper} {op : Oper} {a : Act} {w : World} {K : Act → World → Prop} {Q : Exit → Act → World → Prop} {E : Prop} (hgd : op.guard = none) (x y : Operand) (ho : op.op = .store 27 x y)
    (g : Nat) (q n : Co) (t : TypeId) (hx : a.eval x = .pointer (some ⟨g, 0, none⟩)) (hy : a.eval y = (.agg #[.int .i64 n.o, .int .i64 n.h, .int .i64 n.t])) (hg : w.heap[g]? = some (.cells #[.int .i64 q.o, .int .i64 q.h, .int .i64 q.t] t (0, 0)))
    (h : ∀ w', w'.heap[g]? = some (.cells #[.int .i64 n.o, .int .i64 n.h, .int .i64 n.t] t (0, 0)) → (∀ j, j ≠ g → w'.heap[j]? = w.heap[j]?) → Below g w w' → K (a.put op.dst undef) w') :
    if Region.wanted op (yielded ops a.tmps) = true then op.wp Tryd.prog a w K Q else E := by
  have hw : Region.wanted op (yielded ops a.tmps) = true := by simp [Region.wanted, hgd]
  rw [if_pos hw]
  refine wp_store_mid 27 x y ho g 0 #[.int .i64 n.o, .int .i64 n.h, .int .i64 n.t] hx hy ?_ infos_Co (by simp [Value.oneCell']) ?_
  · intro j hj
    rw [Nat.zero_add]
    obtain ⟨⟨c0, c1, c2⟩, ⟨f0, f1, f2⟩, -⟩ := boxCo_at hg
    match j, hj with
    | 0, _ => exact ⟨by rw [c0]; rfl, f0⟩
    | 1, _ => exact ⟨by rw [c1]; rfl, f1⟩
    | 2, _ => exact ⟨by rw [c2]; rfl, f2⟩
  · refine h _ (boxCo_put hg n) ?_ ?_
    · intro j hj
      show (((w.setCell ⟨g, 0, none⟩ (.int .i64 n.o)).setCell ⟨g, 1, none⟩ (.int .i64 n.h)).setCell ⟨g, 2, none⟩ (.int .i64 n.t)).heap[j]? = _
      rw [Below.heap_setCell _ _ _ _ hj, Below.heap_setCell _ _ _ _ hj, Below.heap_setCell _ _ _ _ hj]
    · exact ((((Below.refl g w).setCell (p := ⟨g, 0, none⟩) (Nat.le_refl g) (.int .i64 n.o)).setCell (p := ⟨g, 1, none⟩) (Nat.le_refl g) (.int .i64 n.h)).setCell (p := ⟨g, 2, none⟩) (Nat.le_refl g) (.int .i64 n.t))
end Go.Proofs.YtkdecpnbbpmooacDoor
