/- Sets of rings as bits, by cutter: what a plan changes. -/
import Derived.Test.YtmdddjhlfpmgdacPlanM
import Derived.Laws.Bits64b
namespace Go.Proofs.Ytmdddjhlfpmgdac
open Go.ChangeShapes Go.WideShapes Go.ChangeAt Go.RowKit
set_option linter.unusedVariables false
set_option linter.unusedSimpArgs false

/-- The rings in which the first k stops change cutter c, with a bit for each. -/
def maskTo (xs : List Su) (c : Nat) : Nat → Nat
  | 0 => 0
  | k + 1 => match xs[k]? with
    | none => maskTo xs c k
    | some x => if (c : Int) ∈ x.t then maskTo xs c k ||| 2 ^ x.r.toNat else maskTo xs c k

/-- The same, where of one further stop the first j cutters are in. -/
def maskIn (m b : Nat) (ts : List Int) (j c : Nat) : Nat := if (c : Int) ∈ ts.take j then m ||| b else m

theorem maskTo_succ {xs : List Su} {k : Nat} {x : Su} (hx : xs[k]? = some x) (c : Nat) : maskTo xs c (k + 1) = maskIn (maskTo xs c k) (2 ^ x.r.toNat) x.t x.t.length c := by
  simp only [maskTo, hx, maskIn, List.take_length]

theorem maskIn_zero (m b : Nat) (ts : List Int) (c : Nat) : maskIn m b ts 0 c = m := by simp [maskIn]
theorem maskIn_succ {m b : Nat} {ts : List Int} {j : Nat} {y : Nat} (hy : ts[j]? = some (y : Int)) (c : Nat) : maskIn m b ts (j + 1) c = if c = y then maskIn m b ts j c ||| b else maskIn m b ts j c := by
  have e : ((c : Int) ∈ ts.take (j + 1)) ↔ ((c : Int) ∈ ts.take j ∨ c = y) := by
    rw [List.take_add_one, hy, List.mem_append]
    simp only [Option.toList_some, List.mem_singleton]
    exact or_congr_right (by omega)
  unfold maskIn
  by_cases h1 : (c : Int) ∈ ts.take j
  · rw [if_pos (e.mpr (.inl h1)), if_pos h1]
    split
    · rw [Nat.or_assoc, Nat.or_self]
    · rfl
  · by_cases h2 : c = y
    · rw [if_pos (e.mpr (.inr h2)), if_pos h2, if_neg h1]
    · rw [if_neg (fun h => (e.mp h).elim h1 h2), if_neg h2, if_neg h1]

theorem maskTo_bit (xs : List Su) (hr : ∀ x ∈ xs, 0 ≤ x.r) (c n : Nat) : ∀ k, k ≤ xs.length → ((maskTo xs c k).testBit n = true ↔ ∃ (i : Nat) (x : Su), i < k ∧ xs[i]? = some x ∧ x.r = n ∧ (c : Int) ∈ x.t) := by
  intro k
  induction k with
  | zero => intro _; simp [maskTo]
  | succ k ih =>
    intro hk
    obtain ⟨x, hx⟩ : ∃ x, xs[k]? = some x := ⟨_, List.getElem?_eq_getElem (by omega)⟩
    have h0 := hr x (List.mem_of_getElem? hx)
    have old := ih (by omega)
    have key : (∃ (i : Nat) (y : Su), i < k + 1 ∧ xs[i]? = some y ∧ y.r = n ∧ (c : Int) ∈ y.t) ↔ ((∃ (i : Nat) (y : Su), i < k ∧ xs[i]? = some y ∧ y.r = n ∧ (c : Int) ∈ y.t) ∨ (x.r = n ∧ (c : Int) ∈ x.t)) := by
      constructor
      · rintro ⟨i, y, h1, h2, h3, h4⟩
        by_cases e : i = k
        · subst e; rw [hx] at h2; cases h2; exact .inr ⟨h3, h4⟩
        · exact .inl ⟨i, y, by omega, h2, h3, h4⟩
      · rintro (⟨i, y, h1, h2, h3, h4⟩ | ⟨h3, h4⟩)
        · exact ⟨i, y, by omega, h2, h3, h4⟩
        · exact ⟨k, x, by omega, hx, h3, h4⟩
    rw [key, ← old]
    simp only [maskTo, hx]
    by_cases hc : (c : Int) ∈ x.t
    · rw [if_pos hc, Nat.testBit_or, Bool.or_eq_true, Nat.testBit_two_pow]
      simp only [decide_eq_true_eq, hc, and_true]
      constructor
      · rintro (h | h)
        · exact .inl h
        · exact .inr (by omega)
      · rintro (h | h)
        · exact .inl h
        · exact .inr (by omega)
    · rw [if_neg hc]
      simp [hc]

theorem maskTo_lt (xs : List Su) (hr : ∀ x ∈ xs, 0 ≤ x.r ∧ x.r ≤ 59) (c : Nat) : ∀ k, maskTo xs c k < 2 ^ 60 := by
  intro k
  induction k with
  | zero => simp [maskTo]
  | succ k ih =>
    simp only [maskTo]
    split
    · exact ih
    · rename_i x hx
      split
      · have h0 := hr x (List.mem_of_getElem? hx)
        exact Nat.or_lt_two_pow ih (Nat.pow_lt_pow_right (by decide) (by omega))
      · exact ih
theorem maskIn_lt {m b : Nat} (hm : m < 2 ^ 60) (hb : b < 2 ^ 60) (ts : List Int) (j c : Nat) : maskIn m b ts j c < 2 ^ 60 := by
  unfold maskIn
  split
  · exact Nat.or_lt_two_pow hm hb
  · exact hm

theorem bits_or_u64 (a b : Nat) (ha : a < 2 ^ 60) (hb : b < 2 ^ 60) : bits BinOp.or IntKind.u64 (a : Int) (b : Int) = ((a ||| b : Nat) : Int) :=
  bits_or_u64_nat a b (Nat.lt_of_lt_of_le ha (by decide)) (Nat.lt_of_lt_of_le hb (by decide))
end Go.Proofs.Ytmdddjhlfpmgdac
