/- The wear of a cutter: sums of hardnesses, and how many rings it can drive. -/
import Derived.Test.YtmdddjhlfpmgdacHeadM
namespace Go.Proofs.Ytmdddjhlfpmgdac
open Go.ChangeShapes Go.WideShapes Go.ChangeAt Go.RowKit
set_option linter.unusedVariables false
set_option linter.unusedSimpArgs false

/-- The sum of k hardnesses from f on. -/
def wsum (h : List Int) (f : Nat) : Nat → Int
  | 0 => 0
  | k + 1 => wsum h f k + h.getD (f + k) 0

theorem wsum_succ {h : List Int} {f k : Nat} {x : Int} (hx : h[f + k]? = some x) : wsum h f (k + 1) = wsum h f k + x := by
  simp [wsum, List.getD, hx]

theorem wsum_bound {h : List Int} (hh : ∀ x ∈ h, 0 ≤ x ∧ x ≤ 100) (f k : Nat) : 0 ≤ wsum h f k ∧ wsum h f k ≤ 100 * k := by
  induction k with
  | zero => simp [wsum]
  | succ k ih =>
    have e : 0 ≤ h.getD (f + k) 0 ∧ h.getD (f + k) 0 ≤ 100 := by
      by_cases c : f + k < h.length
      · rw [List.getD_eq_getElem?_getD, List.getElem?_eq_getElem c]
        exact hh _ (List.getElem_mem c)
      · rw [List.getD_eq_getElem?_getD, List.getElem?_eq_none (by omega)]; simp
    rw [wsum]
    push_cast
    omega

theorem wsum_mono {h : List Int} (hh : ∀ x ∈ h, 0 ≤ x ∧ x ≤ 100) (f : Nat) {a b : Nat} (hab : a ≤ b) : wsum h f a ≤ wsum h f b := by
  induction b with
  | zero => obtain rfl : a = 0 := by omega
            exact Int.le_refl _
  | succ b ih =>
    by_cases e : a = b + 1
    · subst e; exact Int.le_refl _
    · have h1 := ih (by omega)
      have h2 : 0 ≤ h.getD (f + b) 0 := by
        by_cases c : f + b < h.length
        · rw [List.getD_eq_getElem?_getD, List.getElem?_eq_getElem c]
          exact (hh _ (List.getElem_mem c)).1
        · rw [List.getD_eq_getElem?_getD, List.getElem?_eq_none (by omega)]; simp
      rw [wsum]; omega

/-- A cutter with track t and limit l that has some wear before ring f can drive m rings of h, and no more. -/
structure Drives (t l w0 : Int) (h : List Int) (f m : Nat) : Prop where
  le : f + m ≤ h.length
  can : ∀ k, k < m → w0 + t * wsum h f (k + 1) ≤ l
  stop : f + m < h.length → l < w0 + t * wsum h f (m + 1)

theorem drives_ex (t l w0 : Int) (h : List Int) (f : Nat) (hf : f ≤ h.length) : ∃ m, Drives t l w0 h f m := by
  have : ∀ d, d ≤ h.length - f → (∃ m, m ≤ d ∧ (∀ k, k < m → w0 + t * wsum h f (k + 1) ≤ l) ∧ (m < d → l < w0 + t * wsum h f (m + 1))) := by
    intro d
    induction d with
    | zero => intro _; exact ⟨0, Nat.le_refl _, fun k hk => by omega, fun h => by omega⟩
    | succ d ih =>
      intro hd
      obtain ⟨m, h1, h2, h3⟩ := ih (by omega)
      by_cases e : m = d
      · subst e
        by_cases c : w0 + t * wsum h f (m + 1) ≤ l
        · exact ⟨m + 1, Nat.le_refl _, fun k hk => by
            by_cases e2 : k = m
            · subst e2; exact c
            · exact h2 k (by omega), fun h => by omega⟩
        · exact ⟨m, by omega, h2, fun _ => by omega⟩
      · exact ⟨m, by omega, h2, fun _ => h3 (by omega)⟩
  obtain ⟨m, h1, h2, h3⟩ := this _ (Nat.le_refl _)
  exact ⟨m, by omega, h2, fun h => h3 (by omega)⟩

/-- Beyond it every sum is too great. -/
theorem Drives.beyond {t l w0 : Int} {h : List Int} {f m : Nat} (d : Drives t l w0 h f m) (ht : 0 ≤ t) (hh : ∀ x ∈ h, 0 ≤ x ∧ x ≤ 100) {k : Nat} (hk : m ≤ k) (hk2 : f + k < h.length) : l < w0 + t * wsum h f (k + 1) := by
  have h1 := d.stop (by omega)
  have h2 := wsum_mono hh f (show m + 1 ≤ k + 1 by omega)
  have h3 := Int.mul_le_mul_of_nonneg_left h2 ht
  omega

theorem Drives.uniq {t l w0 : Int} {h : List Int} {f m m' : Nat} (d : Drives t l w0 h f m) (d' : Drives t l w0 h f m') : m = m' := by
  rcases Nat.lt_trichotomy m m' with c | c | c
  · have h1 := d'.can m c
    have h2 := d.stop (by have := d'.le; omega)
    omega
  · exact c
  · have h1 := d.can m' c
    have h2 := d'.stop (by have := d.le; omega)
    omega
end Go.Proofs.Ytmdddjhlfpmgdac
