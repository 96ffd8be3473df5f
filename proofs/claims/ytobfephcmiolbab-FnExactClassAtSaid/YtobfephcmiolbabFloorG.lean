/- Quotients that are rounded down, on both sides. -/
import Derived.Test.YtobfephcmiolbabWithin
import Derived.Test.YtobfephcmiolbabInts
namespace Go.Proofs.Ytobfephcmiolbab
open Go.ChangeShapes Go.WideShapes Go.ChangeAt Go.RowKit
set_option linter.unusedVariables false
set_option linter.unusedSimpArgs false

theorem floor_tdiv (a b : Int) (hb : 1 ≤ b) : (a.tmod b < 0 → a / b = a.tdiv b - 1) ∧ (¬ a.tmod b < 0 → a / b = a.tdiv b) := by
  have h1 := Int.tmod_add_mul_tdiv a b
  obtain ⟨h2, h3⟩ := tmod_bd a b hb
  constructor
  · intro h
    have e : a / b = a.tdiv b - 1 ∧ a % b = a.tmod b + b := (Int.ediv_emod_unique (by omega)).mpr ⟨by rw [Int.mul_sub]; omega, by omega, by omega⟩
    exact e.1
  · intro h
    have e : a / b = a.tdiv b ∧ a % b = a.tmod b := (Int.ediv_emod_unique (by omega)).mpr ⟨h1, by omega, by omega⟩
    exact e.1

theorem tdiv_bd {a b M : Int} (hb : 1 ≤ b) (h0 : -M ≤ a) (h1 : a ≤ M) : -M ≤ a.tdiv b ∧ a.tdiv b ≤ M := by
  have e := Int.natAbs_tdiv_le_natAbs a b
  omega

set_option maxHeartbeats 1000000 in
theorem l01Floor_any (a b : Int) (hb : 1 ≤ b) (hb2 : b ≤ 1000000000) (h0 : -1000000000000000000 ≤ a) (h1 : a ≤ 1000000000000000000) (w : World) :
    Calls Try.prog 96 #[.int .i64 a, .int .i64 b] w fun e w' => e = .returned (.int .i64 (a / b)) ∧ w = w' := by
  obtain ⟨f1, f2⟩ := floor_tdiv a b hb
  obtain ⟨t0, t1⟩ := tmod_bd a b hb
  obtain ⟨d0, d1⟩ := tdiv_bd hb h0 h1
  have z1 : (b == 0) = false := by simp; omega
  have z2 : (0 == b) = false := by simp; omega
  obtain ⟨D, hD⟩ : ∃ D, a / b = D := ⟨_, rfl⟩
  obtain ⟨Q, hQ⟩ : ∃ Q, a.tdiv b = Q := ⟨_, rfl⟩
  rw [hD, hQ] at f1 f2
  rw [hQ] at d0 d1
  have q1 : IntKind.i64.wrap (a.tdiv b) = Q := by rw [hQ]; exact IntWalk.i64_in _ (by omega)
  have q2 : IntKind.i64.wrap (a.tmod b) = a.tmod b := IntWalk.i64_in _ (by omega)
  have HD := Lib.hid hD
  have nz : ¬ b = 0 := by omega
  clear hD hQ
  by_cases g : a.tmod b < 0
  · have e := f1 g
    subst e
    have q3 : IntKind.i64.wrap (Q - 1) = Q - 1 := IntWalk.i64_in _ (by omega)
    have dg : decide (a.tmod b < 0) = true := by simpa using g
    clear f1 f2
    go_enter Try.func96, Try.ntmps96
    go_wp2
    go_ret
    exact ⟨by rw [HD.out]; rfl, rfl⟩
  · have e := f2 g
    subst e
    have dg : decide (a.tmod b < 0) = false := by simpa using g
    clear f1 f2
    go_enter Try.func96, Try.ntmps96
    go_wp2
    go_ret
    exact ⟨by rw [HD.out]; rfl, rfl⟩

set_option maxHeartbeats 1000000 in
theorem divFloor_any (a b : Int) (hb : 1 ≤ b) (hb2 : b ≤ 1000000000) (h0 : -1000000000000000000 ≤ a) (h1 : a ≤ 1000000000000000000) (w : World) :
    Calls Try.prog 98 #[.int .i64 a, .int .i64 b] w fun e w' => e = .returned (.tuple #[.int .i64 (a / b), .bool true]) ∧ w = w' := by
  obtain ⟨f1, f2⟩ := floor_tdiv a b hb
  obtain ⟨t0, t1⟩ := tmod_bd a b hb
  obtain ⟨d0, d1⟩ := tdiv_bd hb h0 h1
  have z1 : (b == 0) = false := by simp; omega
  have z2 : (0 == b) = false := by simp; omega
  obtain ⟨D, hD⟩ : ∃ D, a / b = D := ⟨_, rfl⟩
  obtain ⟨Q, hQ⟩ : ∃ Q, a.tdiv b = Q := ⟨_, rfl⟩
  rw [hD, hQ] at f1 f2
  rw [hQ] at d0 d1
  have q1 : IntKind.i64.wrap (a.tdiv b) = Q := by rw [hQ]; exact IntWalk.i64_in _ (by omega)
  have q2 : IntKind.i64.wrap (a.tmod b) = a.tmod b := IntWalk.i64_in _ (by omega)
  have HD := Lib.hid hD
  have nz : ¬ b = 0 := by omega
  clear hD hQ
  by_cases g : a.tmod b < 0
  · have e := f1 g
    subst e
    have q3 : IntKind.i64.wrap (Q - 1) = Q - 1 := IntWalk.i64_in _ (by omega)
    have dg : decide (a.tmod b < 0) = true := by simpa using g
    clear f1 f2
    go_enter Try.func98, Try.ntmps98
    go_wp2
    go_ret2
    exact ⟨by rw [HD.out]; rfl, rfl⟩
  · have e := f2 g
    subst e
    have dg : decide (a.tmod b < 0) = false := by simpa using g
    clear f1 f2
    go_enter Try.func98, Try.ntmps98
    go_wp2
    go_ret2
    exact ⟨by rw [HD.out]; rfl, rfl⟩
end Go.Proofs.Ytobfephcmiolbab
