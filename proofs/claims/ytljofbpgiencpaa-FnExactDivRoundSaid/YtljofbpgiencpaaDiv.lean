/- Walks of the laws on quotients. -/
import Derived.Test.YtljofbpgiencpaaBase
import Derived.Deep.QuietTactic
import Derived.BigQuiet
namespace Go.Proofs.Ytljofbpgiencpaa
open Go.ChangeShapes Go.WideShapes Go.ChangeAt Go.RowKit
set_option linter.unusedVariables false
set_option linter.unusedSimpArgs false

theorem walkFnExactDivFloor (a0 : Int) (w0 : (Lit.int .i64 a0).wf = true) (a1 : Int) (w1 : (Lit.int .i64 a1).wf = true) (w : World) :
    Calls Try.prog 6 #[.int .i64 a0, .int .i64 a1] w fun e w' => e = .returned (.bool true) ∧ Below w.heap.size w w' := by
  obtain ⟨b00, b01⟩ := bounds_i64 w0
  obtain ⟨b10, b11⟩ := bounds_i64 w1
  go_enter Try.func6, Try.ntmps6
  go_wp2
  all_goals
    go_ret
    exact ⟨rfl, Below.refl _ _⟩

theorem divRound_lo (a0 : Int) (a1 : Int) (b00 : -9223372036854775808 ≤ a0) (b01 : a0 ≤ 9223372036854775807) (b10 : -9223372036854775808 ≤ a1) (h1 : a1 < 1) (w : World) :
    Calls Try.prog 7 #[.int .i64 a0, .int .i64 a1] w fun e w' => e = .returned (.bool true) ∧ Below w.heap.size w w' := by
  have h3 : decide (1 ≤ a1) = false := by simp; omega
  go_enter Try.func7, Try.ntmps7
  go_wp2
  all_goals
    go_ret
    exact ⟨rfl, Below.refl _ _⟩

theorem divRound_hi (a0 : Int) (a1 : Int) (b00 : -9223372036854775808 ≤ a0) (b01 : a0 ≤ 9223372036854775807) (b11 : a1 ≤ 9223372036854775807) (h1 : 1 ≤ a1) (h2 : 1000000000 < a1) (w : World) :
    Calls Try.prog 7 #[.int .i64 a0, .int .i64 a1] w fun e w' => e = .returned (.bool true) ∧ Below w.heap.size w w' := by
  have h3 : decide (a1 ≤ 1000000000) = false := by simp; omega
  go_enter Try.func7, Try.ntmps7
  go_wp2
  all_goals
    go_ret
    exact ⟨rfl, Below.refl _ _⟩

theorem below_drewN {B : Nat} {a w : World} (n : Nat) (h : Below B a w) : Below B a (w.drewN n) := ⟨h.os, h.tape, h.output, h.size, h.block⟩

set_option maxHeartbeats 1000000 in
theorem divRound_in (a0 : Int) (a1 : Int) (b00 : -9223372036854775808 ≤ a0) (b01 : a0 ≤ 9223372036854775807) (h1 : 1 ≤ a1) (h2 : a1 ≤ 1000000000) (c1 : -a1 < a0.tmod a1) (c2 : a0.tmod a1 < a1) (w : World) :
    Calls Try.prog 7 #[.int .i64 a0, .int .i64 a1] w fun e w' => e = .returned (.bool true) ∧ Below w.heap.size w w' := by
  go_enter Try.func7, Try.ntmps7
  go_wp2
  all_goals first
    | (go_ret; exact ⟨rfl, Below.refl _ _⟩)
    | (go_quiet (fail); go_wp2; all_goals (go_ret; exact ⟨rfl, below_drewN _ (Below.refl _ _)⟩))

theorem walkFnExactDivRound (a0 : Int) (w0 : (Lit.int .i64 a0).wf = true) (a1 : Int) (w1 : (Lit.int .i64 a1).wf = true) (w : World) :
    Calls Try.prog 7 #[.int .i64 a0, .int .i64 a1] w fun e w' => e = .returned (.bool true) ∧ Below w.heap.size w w' := by
  obtain ⟨b00, b01⟩ := bounds_i64 w0
  obtain ⟨b10, b11⟩ := bounds_i64 w1
  rcases (by omega : a1 < 1 ∨ (1 ≤ a1 ∧ 1000000000 < a1) ∨ (1 ≤ a1 ∧ a1 ≤ 1000000000)) with h | ⟨h1, h2⟩ | ⟨h1, h2⟩
  · exact divRound_lo a0 a1 b00 b01 b10 h w
  · exact divRound_hi a0 a1 b00 b01 b11 h1 h2 w
  · obtain ⟨c1, c2⟩ := tmod_bd a0 a1 h1
    exact divRound_in a0 a1 b00 b01 h1 h2 c1 c2 w
end Go.Proofs.Ytljofbpgiencpaa
