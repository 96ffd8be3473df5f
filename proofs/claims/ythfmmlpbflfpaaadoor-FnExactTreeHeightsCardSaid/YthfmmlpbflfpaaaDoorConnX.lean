/- Connected surveys: the exact laws' two sides. -/
import Derived.Test.YthfmmlpbflfpaaaDoorConnI
namespace Go.Proofs.YthfmmlpbflfpaaaDoor
open Go.ChangeShapes Go.WideShapes Go.ChangeAt Go.RowKit
set_option linter.unusedVariables false
set_option linter.unusedSimpArgs false

theorem exIsConnected (g0 : Sv) (n0 : Nat) (e0 : n0 = g0.x.length) (lt : (n0 : Int) ≤ 1048576) : ∃ r0 : Bool,
    Hid (∀ (w : World) (k0 : Sv), TSv w → k0.same g0 → k0.caps n0 → RdSv w n0 k0 → Calls Tryd.prog 10 #[(.agg #[.int .i64 k0.p, .slice k0.xa n0 k0.xc])] w fun e w' => e = .returned (.bool r0) ∧ Below w.heap.size w w') ∧
    Hid (∀ (w : World) (k0 : Sv), TSv w → k0.same g0 → k0.caps n0 → RdSv w n0 k0 → Calls Tryd.prog 12 #[(.agg #[.int .i64 k0.p, .slice k0.xa n0 k0.xc])] w fun e w' => e = .returned (.bool r0) ∧ Below w.heap.size w w') := by
  obtain ⟨b, hb⟩ := bool_ofV (Con g0)
  exact ⟨b, fun w k hT s _ h => specConn_any k n0 w h (by omega) b (hb.trans (con_same s).symm), fun w k hT s _ h => implConn_any k n0 w h (by omega) hT b (hb.trans (con_same s).symm)⟩

theorem trO_len (n : Nat) (xs : List St) (k : Nat) : (trTo n xs k).o.length ≤ k := by
  induction k with
  | zero => simp [trTo, trInit]
  | succ k ih =>
    simp only [trTo]
    split
    · unfold trStep
      split
      · omega
      · simp; omega
    · omega
theorem trOf_o {g : Sv} (hc : Con g) : (trOf g).o.length ≤ 8 := by
  have := trO_len g.p.toNat g.x g.x.length
  have := hc.1.n0
  unfold trOf; omega

theorem exTreeSights (g0 : Sv) (n0 : Nat) (e0 : n0 = g0.x.length) (lt : (n0 : Int) ≤ 1048576) : ∃ (ys0 : List Int) (r1 : Bool), (ys0.length ≤ 1048576) ∧
    Hid (∀ (w : World) (k0 : Sv), TSv w → k0.same g0 → k0.caps n0 → RdSv w n0 k0 → Calls Tryd.prog 14 #[(.agg #[.int .i64 k0.p, .slice k0.xa n0 k0.xc])] w fun e w' => ∃ u0, e = .returned (.tuple #[u0, .bool r1]) ∧ OwnIC w' w.heap.size w'.heap.size u0 ys0 ∧ Below w.heap.size w w') ∧
    Hid (∀ (w : World) (k0 : Sv), TSv w → k0.same g0 → k0.caps n0 → RdSv w n0 k0 → Calls Tryd.prog 15 #[(.agg #[.int .i64 k0.p, .slice k0.xa n0 k0.xc])] w fun e w' => ∃ u0, e = .returned (.tuple #[u0, .bool r1]) ∧ OwnIC w' w.heap.size w'.heap.size u0 ys0 ∧ Below w.heap.size w w') := by
  obtain ⟨b, hb⟩ := bool_ofV (Con g0)
  obtain ⟨ys, hy⟩ : ∃ ys, ys = if b = true then (trOf g0).o else [] := ⟨_, rfl⟩
  have hl : ys.length ≤ 1048576 := by
    rw [hy]
    split
    · have hc := hb.mp (by assumption)
      have p0 := hc.1.p0
      have n8 := hc.1.n0
      have := trOf_o hc; omega
    · simp
  have hk : ∀ k : Sv, k.same g0 → ys = if b = true then (trOf k).o else [] := fun k s => by rw [hy, trOf_same s]
  exact ⟨ys, b, hl, fun w k hT s _ h => specTreeS_any k n0 w h (by omega) b (hb.trans (con_same s).symm) ys (hk k s), fun w k hT s _ h => implTreeS_any k n0 w h (by omega) hT b (hb.trans (con_same s).symm) ys (hk k s)⟩

theorem exTreeHeights (g0 : Sv) (n0 : Nat) (e0 : n0 = g0.x.length) (lt : (n0 : Int) ≤ 1048576) : ∃ (ys0 : List Int) (r1 : Bool), (ys0.length ≤ 1048576) ∧
    Hid (∀ (w : World) (k0 : Sv), TSv w → k0.same g0 → k0.caps n0 → RdSv w n0 k0 → Calls Tryd.prog 20 #[(.agg #[.int .i64 k0.p, .slice k0.xa n0 k0.xc])] w fun e w' => ∃ u0, e = .returned (.tuple #[u0, .bool r1]) ∧ OwnIC w' w.heap.size w'.heap.size u0 ys0 ∧ Below w.heap.size w w') ∧
    Hid (∀ (w : World) (k0 : Sv), TSv w → k0.same g0 → k0.caps n0 → RdSv w n0 k0 → Calls Tryd.prog 21 #[(.agg #[.int .i64 k0.p, .slice k0.xa n0 k0.xc])] w fun e w' => ∃ u0, e = .returned (.tuple #[u0, .bool r1]) ∧ OwnIC w' w.heap.size w'.heap.size u0 ys0 ∧ Below w.heap.size w w') := by
  obtain ⟨b, hb⟩ := bool_ofV (Con g0)
  obtain ⟨ys, hy⟩ : ∃ ys, ys = if b = true then (trOf g0).h else [] := ⟨_, rfl⟩
  have hl : ys.length ≤ 1048576 := by
    rw [hy]
    split
    · have hc := hb.mp (by assumption)
      have p0 := hc.1.p0
      have n8 := hc.1.n0
      have := (trOf_h hc.1).1; omega
    · simp
  have hk : ∀ k : Sv, k.same g0 → ys = if b = true then (trOf k).h else [] := fun k s => by rw [hy, trOf_same s]
  exact ⟨ys, b, hl, fun w k hT s _ h => specTreeH_any k n0 w h (by omega) b (hb.trans (con_same s).symm) ys (hk k s), fun w k hT s _ h => implTreeH_any k n0 w h (by omega) hT b (hb.trans (con_same s).symm) ys (hk k s)⟩

theorem exLoopErrors (g0 : Sv) (n0 : Nat) (e0 : n0 = g0.x.length) (lt : (n0 : Int) ≤ 1048576) : ∃ (ys0 : List Int) (r1 : Bool), (ys0.length ≤ 1048576) ∧
    Hid (∀ (w : World) (k0 : Sv), TSv w → k0.same g0 → k0.caps n0 → RdSv w n0 k0 → Calls Tryd.prog 22 #[(.agg #[.int .i64 k0.p, .slice k0.xa n0 k0.xc])] w fun e w' => ∃ u0, e = .returned (.tuple #[u0, .bool r1]) ∧ OwnIC w' w.heap.size w'.heap.size u0 ys0 ∧ Below w.heap.size w w') ∧
    Hid (∀ (w : World) (k0 : Sv), TSv w → k0.same g0 → k0.caps n0 → RdSv w n0 k0 → Calls Tryd.prog 23 #[(.agg #[.int .i64 k0.p, .slice k0.xa n0 k0.xc])] w fun e w' => ∃ u0, e = .returned (.tuple #[u0, .bool r1]) ∧ OwnIC w' w.heap.size w'.heap.size u0 ys0 ∧ Below w.heap.size w w') := by
  obtain ⟨b, hb⟩ := bool_ofV (Con g0)
  obtain ⟨ys, hy⟩ : ∃ ys, ys = if b = true then errL 1 (trOf g0).h g0.x else [] := ⟨_, rfl⟩
  have hl : ys.length ≤ 1048576 := by
    rw [hy]
    split
    · have hc := hb.mp (by assumption)
      have p0 := hc.1.p0
      have n8 := hc.1.n0
      rw [errL_len]; omega
    · simp
  have hk : ∀ k : Sv, k.same g0 → ys = if b = true then errL 1 (trOf k).h k.x else [] := fun k s => by rw [hy, trOf_same s, s.2]
  exact ⟨ys, b, hl, fun w k hT s _ h => specLoop_any k n0 w h (by omega) b (hb.trans (con_same s).symm) ys (hk k s), fun w k hT s _ h => implLoop_any k n0 w h (by omega) hT b (hb.trans (con_same s).symm) ys (hk k s)⟩
end Go.Proofs.YthfmmlpbflfpaaaDoor
