/- Walks of the two functions that take a square root, rounded down. -/
import Derived.Test.YtljofbpgiencpaaProg
import Derived.WalkKit
import Derived.ProofKit
import Derived.OpenShut
import Derived.LoopTactic
import Derived.Lib.Hide
namespace Go.Proofs.Ytljofbpgiencpaa
open Go.ChangeShapes Go.WideShapes Go.ChangeAt Go.RowKit
set_option linter.unusedVariables false
set_option linter.unusedSimpArgs false

/-- r is the root of n, rounded down. -/
def IsRoot (n r : Int) : Prop := 0 ≤ r ∧ r * r ≤ n ∧ n < (r + 1) * (r + 1)

theorem IsRoot.le_iff {n r m : Int} (h : IsRoot n r) (hm : 0 ≤ m) : m * m ≤ n ↔ m ≤ r := by
  obtain ⟨h0, h1, h2⟩ := h
  constructor
  · intro hmn
    by_cases hc : m ≤ r
    · exact hc
    · have a1 : (r + 1) * (r + 1) ≤ m * (r + 1) := Int.mul_le_mul_of_nonneg_right (by omega) (by omega)
      have a2 : m * (r + 1) ≤ m * m := Int.mul_le_mul_of_nonneg_left (by omega) (by omega)
      omega
  · intro hmr
    have a1 : m * m ≤ r * m := Int.mul_le_mul_of_nonneg_right hmr hm
    have a2 : r * m ≤ r * r := Int.mul_le_mul_of_nonneg_left hmr h0
    omega

theorem IsRoot.ex (n : Nat) : ∃ r, IsRoot n r := by
  induction n with
  | zero => exact ⟨0, by unfold IsRoot; decide⟩
  | succ n ih =>
    obtain ⟨r, h0, h1, h2⟩ := ih
    by_cases hc : ((n : Int) + 1) < (r + 1) * (r + 1)
    · exact ⟨r, h0, by push_cast; omega, by push_cast; omega⟩
    · refine ⟨r + 1, by omega, by push_cast; omega, ?_⟩
      have e : (r + 1 + 1) * (r + 1 + 1) = (r + 1) * (r + 1) + 2 * r + 3 := by
        rw [Int.mul_add, Int.add_mul, Int.mul_one, Int.one_mul]; omega
      push_cast; omega

theorem IsRoot.bd {n r : Int} (h : IsRoot n r) (hn : n ≤ 1000000000000000000) : r ≤ 1000000000 := by
  by_cases hc : r ≤ 1000000000
  · exact hc
  · have := (h.le_iff (m := 1000000001) (by omega)).mpr (by omega)
    omega

theorem sq_bd {m : Int} (h0 : 0 ≤ m) (h1 : m ≤ 1000000001) : 0 ≤ m * m ∧ m * m ≤ 1000000002000000001 := by
  have a0 := Int.mul_nonneg h0 h0
  have a1 : m * m ≤ 1000000001 * m := Int.mul_le_mul_of_nonneg_right h1 h0
  omega

theorem sq_bd2 {m : Int} (h0 : 0 ≤ m) (h1 : m ≤ 2000000000) : 0 ≤ m * m ∧ m * m ≤ 4000000000000000000 := by
  have a0 := Int.mul_nonneg h0 h0
  have a1 : m * m ≤ 2000000000 * m := Int.mul_le_mul_of_nonneg_right h1 h0
  omega

set_option maxHeartbeats 1000000 in
theorem l01Root_any (n r : Int) (h0 : 0 ≤ n) (h1 : n ≤ 1000000000000000000) (hr : IsRoot n r) (w : World) :
    Calls Try.prog 56 #[.int .i64 n] w fun e w' => e = .returned (.int .i64 r) ∧ w = w' := by
  have hb := hr.bd h1
  have h00 := hr.1
  have HR := Lib.hid hr
  clear hr
  go_enter Try.func56, Try.ntmps56
  go_wp2
  go_loop [3, 4] (fun a b => ∃ lo hi : Int, 0 ≤ lo ∧ lo ≤ r ∧ r ≤ hi ∧ hi ≤ 1000000000 ∧ a = .int .i64 lo ∧ b = .int .i64 hi) (fun a b => (intOf b - intOf a).toNat)
  case atStart => exact ⟨0, 1000000000, by omega, by omega, by omega, by omega, rfl, rfl⟩
  case round =>
    obtain ⟨lo, hi, g1, g2, g3, g4, rfl, rfl⟩ := hrel
    have q := sq_bd (m := (lo + hi + 1) / 2) (by omega) (by omega)
    obtain ⟨q1, q2⟩ := q
    have HI : Hid _ := HR.out.le_iff (m := (lo + hi + 1) / 2) (by omega)
    go_wp2
    · have hlt : (lo + hi + 1) / 2 * ((lo + hi + 1) / 2) ≤ n := by assumption
      have := HI.out.mp hlt
      exact ⟨⟨_, _, by omega, this, by omega, by omega, rfl, rfl⟩, by simp [intOf]; omega⟩
    · have hlt : n < (lo + hi + 1) / 2 * ((lo + hi + 1) / 2) := by assumption
      have : ¬ (lo + hi + 1) / 2 ≤ r := fun h => by have := HI.out.mpr h; omega
      exact ⟨⟨_, _, by omega, by omega, by omega, by omega, rfl, rfl⟩, by simp [intOf]; omega⟩
    · obtain rfl : lo = r := by omega
      go_ret
      exact ⟨rfl, rfl⟩

set_option maxHeartbeats 1000000 in
theorem implRoot_any (n r : Int) (h0 : 0 ≤ n) (h1 : n ≤ 1000000000000000000) (hr : IsRoot n r) (w : World) :
    Calls Try.prog 18 #[.int .i64 n] w fun e w' => e = .returned (.tuple #[.int .i64 r, .bool true]) ∧ w = w' := by
  have hb := hr.bd h1
  have h00 := hr.1
  have HR := Lib.hid hr
  clear hr
  go_enter Try.func18, Try.ntmps18
  go_wp2
  go_loop [4, 5] (fun a b => ∃ (lo : Int) (k : Nat) (p : Int), k ≤ 30 ∧ p = (2 ^ k : Nat) ∧ 0 ≤ lo ∧ lo ≤ r ∧ r < lo + p ∧ a = .int .i64 lo ∧ b = .int .i64 (p / 2)) (fun _ b => (intOf b).toNat)
  case atStart => exact ⟨0, 30, 1073741824, by omega, by decide, by omega, by omega, by omega, rfl, rfl⟩
  case round =>
    obtain ⟨lo, k, p, gk, gp, g1, g2, g3, rfl, rfl⟩ := hrel
    have gp2 : k = 0 ∧ p = 1 ∨ ∃ q : Int, p = 2 * q ∧ q = (2 ^ (k - 1) : Nat) ∧ 1 ≤ q ∧ q ≤ 536870912 := by
      match k, gp with
      | 0, gp => left; exact ⟨rfl, by simpa using gp⟩
      | j + 1, gp =>
        right
        refine ⟨(2 ^ j : Nat), by rw [gp, Nat.pow_succ]; omega, rfl, ?_, ?_⟩
        · have := Nat.two_pow_pos j; omega
        · have : 2 ^ j ≤ 2 ^ 29 := Nat.pow_le_pow_right (by omega) (by omega)
          omega
    rcases gp2 with ⟨rfl, rfl⟩ | ⟨q, rfl, gq, q1, q2⟩
    · have e0 : (1 : Int) / 2 = 0 := by decide
      rw [e0]
      go_wp2
      obtain rfl : lo = r := by omega
      go_ret2
      exact ⟨rfl, rfl⟩
    · have e0 : (2 * q) / 2 = q := by omega
      rw [e0]
      clear e0
      have GQ := Lib.hid gq
      clear gq gp
      obtain ⟨s1, s2⟩ := sq_bd2 (m := lo + q) (by omega) (by omega)
      have HI : Hid _ := HR.out.le_iff (m := lo + q) (by omega)
      go_wp2
      · have hlt : (lo + q) * (lo + q) ≤ n := by assumption
        have := HI.out.mp hlt
        exact ⟨⟨_, k - 1, q, by omega, GQ.out, by omega, this, by omega, rfl, rfl⟩, by simp [intOf]; omega⟩
      · have hlt : n < (lo + q) * (lo + q) := by assumption
        have : ¬ lo + q ≤ r := fun h => by have := HI.out.mpr h; omega
        exact ⟨⟨_, k - 1, q, by omega, GQ.out, by omega, g2, by omega, rfl, rfl⟩, by simp [intOf]; omega⟩

set_option maxHeartbeats 1000000 in
theorem walkFnExactRootFloor (a0 : Int) (w0 : (Lit.int .i64 a0).wf = true) (w : World) :
    Calls Try.prog 8 #[.int .i64 a0] w fun e w' => e = .returned (.bool true) ∧ Below w.heap.size w w' := by
  obtain ⟨b00, b01⟩ := bounds_i64 w0
  by_cases h0 : 0 ≤ a0
  · by_cases h1 : a0 ≤ 1000000000000000000
    · obtain ⟨r, hr⟩ := IsRoot.ex a0.toNat
      rw [Int.toNat_of_nonneg h0] at hr
      have HR := Lib.hid hr
      clear hr
      go_enter Try.func8, Try.ntmps8
      go_wp2_with (first | (go_at_call 56; refine (l01Root_any _ r (by omega) (by omega) HR.out _).mono ?_; rintro e w' ⟨rfl, rfl⟩) | (go_at_call 18; refine (implRoot_any _ r (by omega) (by omega) HR.out _).mono ?_; rintro e w' ⟨rfl, rfl⟩) | go_in)
      go_ret
      exact ⟨rfl, Below.refl _ _⟩
    · have h3 : decide (a0 ≤ 1000000000000000000) = false := by simp; omega
      go_enter Try.func8, Try.ntmps8
      go_wp2
      go_ret
      exact ⟨rfl, Below.refl _ _⟩
  · have h3 : decide (0 ≤ a0) = false := by simp; omega
    go_enter Try.func8, Try.ntmps8
    go_wp2
    go_ret
    exact ⟨rfl, Below.refl _ _⟩
end Go.Proofs.Ytljofbpgiencpaa
