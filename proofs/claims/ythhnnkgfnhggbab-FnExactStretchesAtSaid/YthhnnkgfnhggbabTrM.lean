/- Pascal's rows and the parts of a trough, as lists have them. -/
import Derived.Test.YthhnnkgfnhggbabMuckM
namespace Go.Proofs.Ythhnnkgfnhggbab
set_option linter.unusedVariables false
set_option linter.unusedSimpArgs false

def nextRow (r : List Int) : List Int := List.zipWith (· + ·) (r ++ [0]) (0 :: r)
/-- In how many ways 0, 1, 2 .. of n things can be chosen. -/
def rowP : Nat → List Int
  | 0 => [1]
  | n + 1 => nextRow (rowP n)

theorem nextRow_len (r : List Int) : (nextRow r).length = r.length + 1 := by simp [nextRow]
theorem rowP_len (n : Nat) : (rowP n).length = n + 1 := by
  induction n with
  | zero => rfl
  | succ n ih => rw [rowP, nextRow_len, ih]
theorem nextRow_get {r : List Int} {i : Nat} {x y : Int} (hx : (r ++ [0])[i + 1]? = some x) (hy : r[i]? = some y) : (nextRow r)[i + 1]? = some (x + y) := by
  simp [nextRow, List.getElem?_zipWith, hx, hy]
theorem nextRow_zero {r : List Int} {x : Int} (hx : r[0]? = some x) : (nextRow r)[0]? = some x := by
  cases r with
  | nil => simp at hx
  | cons a r => simp at hx; subst hx; simp [nextRow]
theorem nextRow_mid {r : List Int} {i : Nat} {x y : Int} (hx : r[i + 1]? = some x) (hy : r[i]? = some y) : (nextRow r)[i + 1]? = some (y + x) := by
  have hi : i + 1 < r.length := (List.getElem?_eq_some_iff.1 hx).1
  rw [nextRow_get (by rw [List.getElem?_append_left hi]; exact hx) hy, Int.add_comm]
theorem nextRow_last {r : List Int} {n : Nat} {y : Int} (hn : r.length = n + 1) (hy : r[n]? = some y) : (nextRow r)[n + 1]? = some y := by
  rw [nextRow_get (x := 0) (by rw [List.getElem?_append_right (by omega), hn]; simp) hy, Int.zero_add]
theorem rowP_first (n : Nat) : (rowP n)[0]? = some 1 := by
  induction n with
  | zero => rfl
  | succ n ih => exact nextRow_zero ih
theorem rowP_last (n : Nat) : (rowP n)[n]? = some 1 := by
  induction n with
  | zero => rfl
  | succ n ih => exact nextRow_last (rowP_len n) ih
theorem rowP_bd : ∀ n : Fin 12, ∀ x ∈ rowP n.val, (0 : Int) ≤ x ∧ x ≤ 1000 := by decide +kernel
theorem rowP_in {n : Nat} (h : n ≤ 11) : AllIn 0 1000 (rowP n) := rowP_bd ⟨n, by omega⟩

/-- The sum of the first k numbers. -/
def csum (zs : List Int) : Nat → Int
  | 0 => 0
  | k + 1 => csum zs k + zs.getD k 0
theorem csum_succ {zs : List Int} {k : Nat} {x : Int} (h : zs[k]? = some x) : csum zs (k + 1) = csum zs k + x := by simp only [csum, getD_of h]
theorem csum_nonneg {zs : List Int} {hi : Int} (h : AllIn 0 hi zs) (k : Nat) : 0 ≤ csum zs k := by
  induction k with
  | zero => simp [csum]
  | succ k ih =>
    simp only [csum, List.getD]
    cases hx : zs[k]? with
    | none => simp only [Option.getD_none]; omega
    | some g => have := h.at hx; simp only [Option.getD_some]; omega
theorem rowP_sums : ∀ n : Fin 11, ∀ k : Fin 12, csum (rowP n.val) k.val ≤ 2 ^ n.val ∧ csum (rowP n.val) (n.val + 1) = 2 ^ n.val := by decide +kernel
theorem rowP_sum_le {n k : Nat} (hn : n ≤ 10) (hk : k ≤ 11) : csum (rowP n) k ≤ 2 ^ n := (rowP_sums ⟨n, by omega⟩ ⟨k, by omega⟩).1
theorem pow_bd : ∀ n : Fin 11, (1 : Int) ≤ 2 ^ n.val ∧ (2 : Int) ^ n.val ≤ 1024 := by decide +kernel
theorem pow_in {n : Nat} (hn : n ≤ 10) : (1 : Int) ≤ 2 ^ n ∧ (2 : Int) ^ n ≤ 1024 := pow_bd ⟨n, by omega⟩

/-- How much of the volume v lies ahead of part k, of 2 w things. -/
def untilT (v : Int) (n k : Nat) : Int := (v * csum (rowP n) k).tdiv (2 ^ n)
def partT (v : Int) (n k : Nat) : Int := untilT v n (k + 1) - untilT v n k
def troughL (v : Int) (n : Nat) : List Int := (List.range (n + 1)).map (partT v n)
theorem troughL_len (v : Int) (n : Nat) : (troughL v n).length = n + 1 := by simp [troughL]
theorem troughL_get (v : Int) {n k : Nat} (h : k < n + 1) : (troughL v n)[k]? = some (partT v n k) := by simp [troughL, h]
theorem prod_bd {v c : Int} (h0 : 0 ≤ v) (h1 : v ≤ 100000) (c0 : 0 ≤ c) (c1 : c ≤ 1024) : 0 ≤ v * c ∧ v * c ≤ 102400000 := by
  have a : 0 ≤ v * c := Int.mul_nonneg h0 c0
  have b : v * c ≤ 100000 * 1024 := Int.mul_le_mul h1 c1 c0 (by omega)
  omega
theorem untilT_bd {v : Int} {n k : Nat} (h0 : 0 ≤ v) (h1 : v ≤ 100000) (hn : n ≤ 10) (hk : k ≤ 11) : 0 ≤ untilT v n k ∧ untilT v n k ≤ 102400000 := by
  have c0 := csum_nonneg (rowP_in (n := n) (by omega)) k
  have c1 := rowP_sum_le hn hk
  obtain ⟨p0, p1⟩ := pow_in hn
  obtain ⟨m0, m1⟩ := prod_bd h0 h1 c0 (by omega)
  unfold untilT
  rw [Int.tdiv_eq_ediv_of_nonneg m0]
  have := Int.ediv_le_self (2 ^ n) m0
  have := Int.ediv_nonneg m0 (show (0 : Int) ≤ 2 ^ n by omega)
  omega
theorem untilT_zero (v : Int) (n : Nat) : untilT v n 0 = 0 := by simp [untilT, csum]
end Go.Proofs.Ythhnnkgfnhggbab
