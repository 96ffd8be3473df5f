/- Decimal texts: what is said of lists of bytes alone. -/
import Derived.Lib.ItoaNum
import Derived.Lib.ItoaMem
import Derived.Lib.ItoaLen
import Derived.Lib.AtoiTie
import Derived.Lib.ParseIntBTie
namespace Go.Proofs.YtgockhlainnnnabDoor
open Go.Lib
set_option linter.unusedVariables false
set_option linter.unusedSimpArgs false

theorem decFrom_append (acc : Nat) (l : List UInt8) (c : UInt8) : decFrom acc (l ++ [c]) = (decFrom acc l).bind fun v => (digitVal c).map fun d => v * 10 + d := by
  induction l generalizing acc with
  | nil =>
    simp only [List.nil_append, decFrom, Option.bind_some]
    cases digitVal c <;> rfl
  | cons b r ih =>
    simp only [List.cons_append, decFrom]
    cases digitVal b with
    | none => rfl
    | some d => exact ih _

theorem digitVal_of (d : Nat) (h : d < 10) : digitVal (UInt8.ofNat (48 + d)) = some d := by
  have e : (UInt8.ofNat (48 + d)).toNat = 48 + d := by
    rw [UInt8.toNat_ofNat']
    omega
  unfold digitVal
  rw [e, if_pos (by omega)]
  congr 1
  omega

theorem decFrom_digits (u : Nat) : decFrom 0 (decDigits u) = some u := by
  induction u using Nat.strongRecOn with
  | _ u ih =>
    rw [decDigits]
    by_cases h : u < 10
    · rw [dif_pos h]
      simp only [decFrom, digitVal_of u h]
      congr 1; omega
    · rw [dif_neg h, decFrom_append, ih (u / 10) (by omega), digitVal_of _ (by omega)]
      simp only [Option.bind_some, Option.map_some]
      congr 1; omega

theorem decDigits_ne (u : Nat) : decDigits u ≠ [] := by
  intro h
  have h1 := decDigits_length u
  have h2 := nDigits_pos u
  rw [h] at h1
  simp at h1
  omega

/-- Each byte of the digits is a digit. -/
theorem decDigits_digit (u : Nat) : ∀ c ∈ decDigits u, 48 ≤ c.toNat ∧ c.toNat ≤ 57 := by
  induction u using Nat.strongRecOn with
  | _ u ih =>
    have e : ∀ d, d < 10 → (UInt8.ofNat (48 + d)).toNat = 48 + d := fun d hd => by rw [UInt8.toNat_ofNat']; omega
    rw [decDigits]
    by_cases h : u < 10
    · rw [dif_pos h]
      intro c hc
      rw [List.mem_singleton] at hc
      subst hc
      rw [e u h]; omega
    · rw [dif_neg h]
      intro c hc
      rw [List.mem_append, List.mem_singleton] at hc
      rcases hc with hc | hc
      · exact ih (u / 10) (by omega) c hc
      · subst hc
        rw [e _ (by omega)]; omega

theorem nDigits_le (k : Nat) : ∀ u : Nat, u < 10 ^ (k + 1) → nDigits u ≤ k + 1 := by
  induction k with
  | zero =>
    intro u h
    rw [nDigits_small (by simpa using h)]
    omega
  | succ k ih =>
    intro u h
    by_cases h1 : u < 10
    · rw [nDigits_small h1]; omega
    · rw [nDigits_big h1]
      have := ih (u / 10) (by rw [Nat.pow_succ] at h; omega)
      omega

/-- A number that a text may have. -/
def ValI (n : Int) : Prop := -1000000000 ≤ n ∧ n ≤ 1000000000

theorem itoa_len (n : Int) (h : ValI n) : (itoa n).length ≤ 11 := by
  have hd : ∀ u : Nat, u ≤ 1000000000 → (decDigits u).length ≤ 10 := fun u hu => by
    rw [decDigits_length]
    exact nDigits_le 9 u (by have : (10 : Nat) ^ (9 + 1) = 10000000000 := by decide
                             omega)
  unfold ValI at h
  unfold itoa
  split
  · simp only [List.length_cons]
    have := hd n.natAbs (by omega)
    omega
  · have := hd n.toNat (by omega)
    omega

theorem itoa_ne (n : Int) : itoa n ≠ [] := by
  unfold itoa
  split
  · simp
  · exact decDigits_ne _

theorem atoi_itoa (n : Int) : atoi (itoa n) = some n := by
  unfold itoa
  by_cases h : n < 0
  · rw [if_pos h]
    simp only [atoi]
    rw [if_pos (by decide)]
    unfold decNat
    rw [if_neg (by simp [decDigits_ne]), decFrom_digits]
    simp only [Option.map_some]
    congr 1; omega
  · rw [if_neg h]
    obtain ⟨c, r, hc⟩ := List.exists_cons_of_ne_nil (decDigits_ne n.toNat)
    have hdig := decDigits_digit n.toNat c (by rw [hc]; simp)
    have e1 : ¬ (c == 45) = true := by
      intro h; have := beq_iff_eq.1 h; subst this; simp at hdig
    have e2 : ¬ (c == 43) = true := by
      intro h; have := beq_iff_eq.1 h; subst this; simp at hdig
    rw [hc]
    simp only [atoi]
    rw [if_neg e1, if_neg e2, ← hc]
    unfold decNat
    rw [if_neg (by simp [decDigits_ne]), decFrom_digits]
    simp only [Option.map_some]
    congr 1; omega

theorem itoa_inj {n m : Int} (h : itoa n = itoa m) : n = m := by
  have h1 := atoi_itoa n
  rw [h, atoi_itoa] at h1
  exact (Option.some.inj h1).symm

theorem parse_itoa (n : Int) (h : ValI n) : parseIntB 64 (itoa n) = .ok n := by
  rw [parseIntB_64, atoiAll_short _ (by have := itoa_len n h; omega), atoi_itoa]
  rfl

/-- The number of a text, or 0 and false. -/
def DecRes (l : List UInt8) (n : Int) (b : Bool) : Prop := (∃ m, ValI m ∧ l = itoa m ∧ n = m ∧ b = true) ∨ ((∀ m, ValI m → l ≠ itoa m) ∧ n = 0 ∧ b = false)
theorem decRes_of (l : List UInt8) : ∃ n b, DecRes l n b := by
  by_cases h : ∃ m, ValI m ∧ l = itoa m
  · obtain ⟨m, h1, h2⟩ := h
    exact ⟨m, true, .inl ⟨m, h1, h2, rfl, rfl⟩⟩
  · exact ⟨0, false, .inr ⟨fun m h1 h2 => h ⟨m, h1, h2⟩, rfl, rfl⟩⟩
theorem decRes_yes {l : List UInt8} {n : Int} {b : Bool} (h : DecRes l n b) (m : Int) (hm : ValI m) (hl : l = itoa m) : n = m ∧ b = true := by
  rcases h with ⟨k, h1, h2, rfl, rfl⟩ | ⟨h1, _⟩
  · exact ⟨itoa_inj (h2.symm.trans hl), rfl⟩
  · exact absurd hl (h1 m hm)
theorem decRes_no {l : List UInt8} {n : Int} {b : Bool} (h : DecRes l n b) (k : ∀ m, ValI m → l ≠ itoa m) : n = 0 ∧ b = false := by
  rcases h with ⟨m, h1, h2, _⟩ | h
  · exact absurd h2 (k m h1)
  · exact h.2
end Go.Proofs.YtgockhlainnnnabDoor
