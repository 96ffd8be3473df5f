/- UncheckedSights: the exact law's two sides. -/
import Derived.Test.YthfmmlpbflfpaaaDoorUncI
namespace Go.Proofs.YthfmmlpbflfpaaaDoor
open Go.ChangeShapes Go.WideShapes Go.ChangeAt Go.RowKit
set_option linter.unusedVariables false
set_option linter.unusedSimpArgs false

theorem exUncheckedSights (g0 : Sv) (n0 : Nat) (e0 : n0 = g0.x.length) (lt : (n0 : Int) ≤ 1048576) : ∃ (ys0 : List Int) (r1 : Bool), (ys0.length ≤ 1048576) ∧
    Hid (∀ (w : World) (k0 : Sv), TSv w → k0.same g0 → k0.caps n0 → RdSv w n0 k0 → Calls Tryd.prog 24 #[(.agg #[.int .i64 k0.p, .slice k0.xa n0 k0.xc])] w fun e w' => ∃ u0, e = .returned (.tuple #[u0, .bool r1]) ∧ OwnIC w' w.heap.size w'.heap.size u0 ys0 ∧ Below w.heap.size w w') ∧
    Hid (∀ (w : World) (k0 : Sv), TSv w → k0.same g0 → k0.caps n0 → RdSv w n0 k0 → Calls Tryd.prog 25 #[(.agg #[.int .i64 k0.p, .slice k0.xa n0 k0.xc])] w fun e w' => ∃ u0, e = .returned (.tuple #[u0, .bool r1]) ∧ OwnIC w' w.heap.size w'.heap.size u0 ys0 ∧ Below w.heap.size w w') := by
  obtain ⟨b, hb⟩ := bool_ofV (Con g0)
  obtain ⟨P, hP⟩ := uncP g0
  obtain ⟨ys, hy⟩ : ∃ ys, ys = if b = true then goodL 0 P n0 else [] := ⟨_, rfl⟩
  have hl : ys.length ≤ 1048576 := by
    rw [hy]
    split
    · have := goodL_len 0 P n0
      omega
    · simp
  have hk : ∀ k : Sv, k.same g0 → ∀ j : Nat, P j = true ↔ ¬ Con (dropSv k j) := fun k s j => by rw [con_same (dropSv_same s j)]; exact hP j
  exact ⟨ys, b, hl, fun w k hT s _ h => specUnc_any k n0 w h (by omega) b (hb.trans (con_same s).symm) P (hk k s) ys hy, fun w k hT s cp h => implUnc_any k n0 w h cp (by omega) hT b (hb.trans (con_same s).symm) P (hk k s) ys hy⟩
end Go.Proofs.YthfmmlpbflfpaaaDoor
