/- The wear of a cutter under a plan: the last change. -/
import Derived.Test.YtgockhlainnnnaaWearM
import Derived.Test.YtgockhlainnnnaaMaskM
import Derived.Lib.BitFns
namespace Go.Proofs.Ytgockhlainnnnaa
open Go.ChangeShapes Go.WideShapes Go.ChangeAt Go.RowKit
set_option linter.unusedVariables false
set_option linter.unusedSimpArgs false

/-- A plan changes cutter c before ring p. -/
def Ch (xs : List Su) (c p : Nat) : Prop := ∃ x ∈ xs, x.r = (p : Int) ∧ (c : Int) ∈ x.t

/-- The last change ahead of n is in ring p, or there is none and p is 0. -/
structure LastLt (xs : List Su) (c n p : Nat) : Prop where
  ch : p = 0 ∨ Ch xs c p
  lt : p < n ∨ p = 0
  no : ∀ q, p < q → q < n → ¬ Ch xs c q

theorem LastLt.zero (xs : List Su) (c : Nat) : LastLt xs c 0 0 := ⟨.inl rfl, .inr rfl, fun q _ h => by omega⟩
theorem LastLt.yes {xs : List Su} {c n p : Nat} (h : LastLt xs c n p) (hc : Ch xs c n) : LastLt xs c (n + 1) n := ⟨.inr hc, .inl (by omega), fun q h1 h2 => by omega⟩
theorem LastLt.same {xs : List Su} {c n p : Nat} (h : LastLt xs c n p) (hc : ¬ Ch xs c n) : LastLt xs c (n + 1) p := ⟨h.ch, by have := h.lt; omega, fun q h1 h2 => by
  by_cases e : q = n
  · subst e; exact hc
  · exact h.no q h1 (by omega)⟩
theorem lastLt_ex (xs : List Su) (c : Nat) : ∀ n, ∃ p, LastLt xs c n p := by
  intro n
  induction n with
  | zero => exact ⟨0, LastLt.zero xs c⟩
  | succ n ih =>
    obtain ⟨p, hp⟩ := ih
    by_cases h : Ch xs c n
    · exact ⟨n, hp.yes h⟩
    · exact ⟨p, hp.same h⟩
theorem LastLt.uniq {xs : List Su} {c n p q : Nat} (h : LastLt xs c n p) (h' : LastLt xs c n q) : p = q := by
  rcases Nat.lt_trichotomy p q with e | e | e
  · have := h'.lt
    rcases h'.ch with h0 | h0
    · omega
    · exact absurd h0 (h.no q e (by omega))
  · exact e
  · have := h.lt
    rcases h.ch with h0 | h0
    · omega
    · exact absurd h0 (h'.no p e (by omega))

theorem ch_same {xs ys : List Su} (e : xs.map Su.so = ys.map Su.so) {c p : Nat} (h : Ch xs c p) : Ch ys c p := by
  obtain ⟨x, hx, h1, h2⟩ := h
  obtain ⟨i, hi, rfl⟩ := List.mem_iff_getElem.1 hx
  obtain ⟨y, hy, hr, ht⟩ := map_so_get e (List.getElem?_eq_getElem hi)
  exact ⟨y, List.mem_of_getElem? hy, by rw [hr]; exact h1, by rw [ht]; exact h2⟩
theorem lastLt_same {xs ys : List Su} (e : xs.map Su.so = ys.map Su.so) {c n p : Nat} (h : LastLt xs c n p) : LastLt ys c n p :=
  ⟨h.ch.imp id (ch_same e), h.lt, fun q h1 h2 hc => h.no q h1 h2 (ch_same e.symm hc)⟩

theorem mask_ch (xs : List Su) (hr : ∀ x ∈ xs, 0 ≤ x.r) (c n : Nat) : (maskTo xs c xs.length).testBit n = true ↔ Ch xs c n := by
  rw [maskTo_bit xs hr c n xs.length (Nat.le_refl _)]
  constructor
  · rintro ⟨i, x, -, hx, h1, h2⟩
    exact ⟨x, List.mem_of_getElem? hx, h1, h2⟩
  · rintro ⟨x, hx, h1, h2⟩
    obtain ⟨i, hi, rfl⟩ := List.mem_iff_getElem.1 hx
    exact ⟨i, _, hi, List.getElem?_eq_getElem hi, h1, h2⟩

theorem bitLen_zero : Lib.bitLen 0 = 0 := by rfl
theorem bitLenAux_spec : ∀ (f x : Nat), x < 2 ^ f → 0 < x → 2 ^ (Lib.bitLenAux f x - 1) ≤ x ∧ x < 2 ^ (Lib.bitLenAux f x) ∧ 0 < Lib.bitLenAux f x := by
  intro f
  induction f with
  | zero => intro x h h0; simp at h; omega
  | succ f ih =>
    intro x h h0
    simp only [Lib.bitLenAux, if_neg (show ¬ x = 0 by omega)]
    by_cases e : x / 2 = 0
    · have e1 : x = 1 := by omega
      subst e1
      cases f with
      | zero => simp [Lib.bitLenAux]
      | succ f => simp [Lib.bitLenAux]
    · obtain ⟨h1, h2, h3⟩ := ih (x / 2) (by rw [Nat.pow_succ] at h; omega) (by omega)
      obtain ⟨b, hb⟩ : ∃ b, Lib.bitLenAux f (x / 2) = b + 1 := ⟨Lib.bitLenAux f (x / 2) - 1, by omega⟩
      rw [hb] at h1 h2 ⊢
      simp only [Nat.add_sub_cancel] at h1
      refine ⟨?_, ?_, by omega⟩
      · show 2 ^ (1 + (b + 1) - 1) ≤ x
        rw [show 1 + (b + 1) - 1 = b + 1 by omega, Nat.pow_succ]; omega
      · rw [show 1 + (b + 1) = (b + 1) + 1 by omega, Nat.pow_succ]; omega

/-- The greatest bit of a set of rings up to n is the last change. -/
theorem last_of_mask (xs : List Su) (hr : ∀ x ∈ xs, 0 ≤ x.r) (c n p : Nat) (hn : n ≤ 60) (h : LastLt xs c (n + 1) p) :
    max ((Lib.bitLen (maskTo xs c xs.length % 2 ^ (n + 1)) : Int) - 1) 0 = (p : Int) := by
  obtain ⟨m, hm⟩ : ∃ m, m = maskTo xs c xs.length % 2 ^ (n + 1) := ⟨_, rfl⟩
  have bit : ∀ q, m.testBit q = true ↔ q < n + 1 ∧ Ch xs c q := by
    intro q
    rw [hm, Nat.testBit_mod_two_pow, Bool.and_eq_true, decide_eq_true_eq, mask_ch xs hr]
  rw [← hm]
  have mlt : m < 2 ^ 64 := by
    rw [hm]
    exact Nat.lt_of_lt_of_le (Nat.mod_lt _ (Nat.two_pow_pos _)) (Nat.pow_le_pow_right (by decide) (by omega))
  by_cases m0 : m = 0
  · have np : ¬ Ch xs c p := fun hc => by
      have := (bit p).mpr ⟨by have := h.lt; omega, hc⟩
      rw [m0] at this; simp at this
    have p0 : p = 0 := h.ch.resolve_right np
    rw [m0, bitLen_zero, p0]; rfl
  · obtain ⟨h1, h2, h3⟩ := bitLenAux_spec 64 m mlt (by omega)
    obtain ⟨b, hb⟩ : ∃ b, Lib.bitLen m = b + 1 := ⟨Lib.bitLen m - 1, by unfold Lib.bitLen; omega⟩
    have hb' : Lib.bitLenAux 64 m = b + 1 := hb
    rw [hb'] at h1 h2
    simp only [Nat.add_sub_cancel] at h1
    have tb : m.testBit b = true := by
      rw [Nat.testBit_eq_decide_div_mod_eq]
      have e : m / 2 ^ b = 1 := by
        have a1 : 1 ≤ m / 2 ^ b := (Nat.le_div_iff_mul_le (Nat.two_pow_pos b)).mpr (by omega)
        have a2 : m / 2 ^ b < 2 := (Nat.div_lt_iff_lt_mul (Nat.two_pow_pos b)).mpr (by rw [Nat.pow_succ] at h2; omega)
        omega
      rw [e]; rfl
    have ch := (bit b).mp tb
    have hi : ∀ q, b < q → ¬ (q < n + 1 ∧ Ch xs c q) := fun q hq hc => by
      have t := (bit q).mpr hc
      have := Nat.testBit_lt_two_pow (show m < 2 ^ q from Nat.lt_of_lt_of_le h2 (Nat.pow_le_pow_right (by decide) (by omega)))
      rw [this] at t; cases t
    have bl : LastLt xs c (n + 1) b := ⟨.inr ch.2, .inl ch.1, fun q h1 h2 hc => hi q h1 ⟨h2, hc⟩⟩
    have e := bl.uniq h
    rw [hb, e]
    push_cast
    omega
end Go.Proofs.Ytgockhlainnnnaa
