/- One more bit in a mask, and how many bits the masks of a plan have. -/
import Derived.Test.YtmdddjhlfpmgdacPopM
namespace Go.Proofs.Ytmdddjhlfpmgdac
open Go.ChangeShapes Go.WideShapes Go.ChangeAt Go.RowKit
set_option linter.unusedVariables false
set_option linter.unusedSimpArgs false
open Lib (popAux)

theorem popAux_set : ∀ (f x r : Nat), r < f → x.testBit r = false → popAux f (x ||| 2 ^ r) = popAux f x + 1 := by
  intro f
  induction f with
  | zero => intro x r h; omega
  | succ f ih =>
    intro x r h ht
    show (x ||| 2 ^ r) % 2 + popAux f ((x ||| 2 ^ r) / 2) = (x % 2 + popAux f (x / 2)) + 1
    have m : (x ||| 2 ^ r) % 2 ^ 1 = (x % 2 ^ 1) ||| (2 ^ r % 2 ^ 1) := Nat.or_mod_two_pow
    have d : (x ||| 2 ^ r) / 2 ^ 1 = (x / 2 ^ 1) ||| (2 ^ r / 2 ^ 1) := Nat.or_div_two_pow
    simp only [Nat.pow_one] at m d
    rw [m, d]
    cases r with
    | zero =>
      have x0 : x % 2 = 0 := by
        have : x.testBit 0 = decide (x % 2 = 1) := Nat.testBit_zero x
        rw [this] at ht
        have := of_decide_eq_false ht
        omega
      rw [x0]
      simp
      omega
    | succ r =>
      have e1 : 2 ^ (r + 1) % 2 = 0 := by omega
      have e2 : 2 ^ (r + 1) / 2 = 2 ^ r := by omega
      rw [e1, e2, Nat.or_zero, ih (x / 2) r (by omega) (by rw [Nat.testBit_succ] at ht; exact ht)]
      omega
theorem popAux_zero : ∀ f, popAux f 0 = 0 := by
  intro f
  induction f with
  | zero => rfl
  | succ f ih => show 0 % 2 + popAux f (0 / 2) = 0; simp [ih]

theorem bitsOf_set {x r : Nat} (hr : r < 64) (h : x.testBit r = false) : bitsOf (x ||| 2 ^ r) = bitsOf x + 1 := popAux_set 64 x r hr h
theorem bitsOf_zero : bitsOf 0 = 0 := popAux_zero 64

/-- How many of the first k stops change the cutter c. -/
def chgTo (xs : List Su) (c : Nat) : Nat → Nat
  | 0 => 0
  | k + 1 => match xs[k]? with
    | none => chgTo xs c k
    | some x => if (c : Int) ∈ x.t then chgTo xs c k + 1 else chgTo xs c k

theorem bitsOf_maskTo (xs : List Su) (up : ∀ (i j : Nat) (x y : Su), i < j → xs[i]? = some x → xs[j]? = some y → x.r < y.r) (hr : ∀ x ∈ xs, 0 ≤ x.r ∧ x.r ≤ 59) (c : Nat) : ∀ k, k ≤ xs.length → bitsOf (maskTo xs c k) = chgTo xs c k := by
  intro k
  induction k with
  | zero => intro _; exact bitsOf_zero
  | succ k ih =>
    intro hk
    obtain ⟨x, hx⟩ : ∃ x, xs[k]? = some x := ⟨_, List.getElem?_eq_getElem (by omega)⟩
    have h0 := hr x (List.mem_of_getElem? hx)
    have old := ih (by omega)
    simp only [maskTo, chgTo, hx]
    by_cases hc : (c : Int) ∈ x.t
    · rw [if_pos hc, if_pos hc, bitsOf_set (by omega), old]
      cases hb : (maskTo xs c k).testBit x.r.toNat with
      | false => rfl
      | true =>
        obtain ⟨i, y, h1, h2, h3, h4⟩ := (maskTo_bit xs (fun x hx => (hr x hx).1) c x.r.toNat k (by omega)).mp hb
        have := up i k y x h1 h2 hx
        omega
    · rw [if_neg hc, if_neg hc, old]
end Go.Proofs.Ytmdddjhlfpmgdac
