/- Works: the fewest moulds, what is reckoned. -/
import Derived.Test.YtmdddjhlfpmgdaaWorkT
namespace Go.Proofs.Ytmdddjhlfpmgdaa
open Go.ChangeShapes Go.WideShapes Go.ChangeAt Go.RowKit
set_option linter.unusedVariables false
set_option linter.unusedSimpArgs false

/-- How many moulds the k-th order needs. -/
def needAt (c u : Int) (xs : List Od) (k : Nat) (x : Od) : Int := (sumP xs (k + 1) + rnd c u x.d - 1).tdiv (rnd c u x.d)
theorem need_le {c u : Int} {xs : List Od} {k : Nat} {x : Od} (hr : 1 ≤ rnd c u x.d) (hs : 0 ≤ sumP xs (k + 1)) (n : Int) : needAt c u xs k x ≤ n ↔ sumP xs (k + 1) ≤ n * rnd c u x.d := by
  unfold needAt
  rw [Int.tdiv_eq_ediv_of_nonneg (by omega)]
  generalize rnd c u x.d = r at *
  generalize sumP xs (k + 1) = S at *
  have h := Int.le_ediv_iff_mul_le (a := n + 1) (b := S + r - 1) (c := r) (by omega)
  have e : (n + 1) * r = n * r + r := by rw [Int.add_mul, Int.one_mul]
  rw [e] at h
  constructor
  · intro h1
    have : ¬ (n + 1 ≤ (S + r - 1) / r) := by omega
    rw [h] at this
    omega
  · intro h1
    have : ¬ (n * r + r ≤ S + r - 1) := by omega
    rw [← h] at this
    omega
theorem need_bd {c u : Int} {xs : List Od} {k : Nat} {x : Od} (hr : 1 ≤ rnd c u x.d) (hx : xs[k]? = some x) (ok : ∀ y ∈ xs, OkOd y) (hk : k ≤ 8) : 1 ≤ needAt c u xs k x ∧ needAt c u xs k x ≤ 1800 := by
  have b := sumP_bd ok (k + 1)
  have b0 := sumP_bd ok k
  have e := sumP_succ hx
  have p := (ok x (List.mem_of_getElem? hx)).2.1
  constructor
  · have := need_le (n := 0) hr b.1
    rw [Int.zero_mul] at this
    by_cases g : needAt c u xs k x ≤ 0
    · have := this.mp g; omega
    · omega
  · rw [need_le hr b.1]
    have := Int.mul_le_mul_of_nonneg_left hr (show (0 : Int) ≤ 1800 by omega)
    omega
/-- The most moulds that one of the first k orders needs, and its day. -/
def bestT (c u : Int) (xs : List Od) : Nat → Int × Int
  | 0 => (0, 0)
  | k + 1 => match xs[k]? with
    | some x => if (bestT c u xs k).1 < needAt c u xs k x then (needAt c u xs k x, x.d) else bestT c u xs k
    | none => bestT c u xs k
theorem bestT_in {c u : Int} {xs : List Od} {k : Nat} {x : Od} (h : xs[k]? = some x) (g : (bestT c u xs k).1 < needAt c u xs k x) : bestT c u xs (k + 1) = (needAt c u xs k x, x.d) := by simp only [bestT, h, if_pos g]
theorem bestT_out {c u : Int} {xs : List Od} {k : Nat} {x : Od} (h : xs[k]? = some x) (g : ¬ (bestT c u xs k).1 < needAt c u xs k x) : bestT c u xs (k + 1) = bestT c u xs k := by simp only [bestT, h, if_neg g]
/-- Some pieces can be ready for each of the first k orders. -/
def NoZero (c u : Int) (xs : List Od) (k : Nat) : Prop := ∀ (i : Nat) x, i < k → xs[i]? = some x → rnd c u x.d ≠ 0
theorem NoZero.succ {c u : Int} {xs : List Od} {k : Nat} {x : Od} (h : NoZero c u xs k) (hx : xs[k]? = some x) (g : rnd c u x.d ≠ 0) : NoZero c u xs (k + 1) := by
  intro i y hi hy
  rcases Nat.lt_or_ge i k with l | l
  · exact h i y l hy
  · obtain rfl : i = k := by omega
    obtain rfl := Option.some.inj (hx.symm.trans hy)
    exact g
theorem rnd_pos {c u d : Int} (hc : 1 ≤ c) (hu : 0 ≤ u) (hd : d ≤ 200) (h : rnd c u d ≠ 0) : 1 ≤ rnd c u d := by
  have := (rnd_bd hc hu hd).1
  omega
theorem bestT_bd {c u : Int} (tm : OkTm c u) {xs : List Od} (ok : ∀ y ∈ xs, OkOd y) {k : Nat} (hk : k ≤ 8) (hz : NoZero c u xs k) : 0 ≤ (bestT c u xs k).1 ∧ (bestT c u xs k).1 ≤ 1800 ∧ (0 < k → k ≤ xs.length → 1 ≤ (bestT c u xs k).1) := by
  induction k with
  | zero => simp [bestT]
  | succ k ih =>
    have h := ih (by omega) (fun i x hi => hz i x (by omega))
    cases hx : xs[k]? with
    | none =>
      have e : bestT c u xs (k + 1) = bestT c u xs k := by simp only [bestT, hx]
      rw [e]
      exact ⟨h.1, h.2.1, fun _ h2 => by rw [List.getElem?_eq_none_iff] at hx; omega⟩
    | some x =>
      have o := ok x (List.mem_of_getElem? hx)
      have b := need_bd (rnd_pos tm.1.1 tm.2.1 o.1.2 (hz k x (by omega) hx)) hx ok (by omega)
      by_cases g : (bestT c u xs k).1 < needAt c u xs k x
      · rw [bestT_in hx g]
        exact ⟨by simp only []; omega, by simp only []; omega, fun _ _ => by simp only []; omega⟩
      · rw [bestT_out hx g]
        exact ⟨h.1, h.2.1, fun _ _ => by omega⟩
theorem best_ge {c u : Int} {xs : List Od} {k i : Nat} {x : Od} (hi : i < k) (hx : xs[i]? = some x) : needAt c u xs i x ≤ (bestT c u xs k).1 := by
  induction k with
  | zero => omega
  | succ k ih =>
    cases hy : xs[k]? with
    | none =>
      have e : bestT c u xs (k + 1) = bestT c u xs k := by simp only [bestT, hy]
      rw [e]
      rcases Nat.lt_or_ge i k with l | l
      · exact ih l
      · obtain rfl : i = k := by omega
        rw [hx] at hy; cases hy
    | some y =>
      by_cases g : (bestT c u xs k).1 < needAt c u xs k y
      · rw [bestT_in hy g]
        rcases Nat.lt_or_ge i k with l | l
        · have := ih l; simp only []; omega
        · obtain rfl : i = k := by omega
          obtain rfl := Option.some.inj (hx.symm.trans hy)
          exact Int.le_refl _
      · rw [bestT_out hy g]
        rcases Nat.lt_or_ge i k with l | l
        · exact ih l
        · obtain rfl : i = k := by omega
          obtain rfl := Option.some.inj (hx.symm.trans hy)
          omega
theorem best_at {c u : Int} {xs : List Od} {k : Nat} (h : 0 < (bestT c u xs k).1) : ∃ i x, i < k ∧ xs[i]? = some x ∧ needAt c u xs i x = (bestT c u xs k).1 ∧ x.d = (bestT c u xs k).2 := by
  induction k with
  | zero => simp [bestT] at h
  | succ k ih =>
    cases hy : xs[k]? with
    | none =>
      have e : bestT c u xs (k + 1) = bestT c u xs k := by simp only [bestT, hy]
      rw [e] at h ⊢
      obtain ⟨i, x, h1, h2⟩ := ih h
      exact ⟨i, x, by omega, h2⟩
    | some y =>
      by_cases g : (bestT c u xs k).1 < needAt c u xs k y
      · rw [bestT_in hy g]
        exact ⟨k, y, by omega, hy, rfl, rfl⟩
      · rw [bestT_out hy g] at h ⊢
        obtain ⟨i, x, h1, h2⟩ := ih h
        exact ⟨i, x, by omega, h2⟩

/-- Can moulds be told? -/
def MouldV (c u : Int) (xs : List Od) : Prop := OkTm c u ∧ OkOs xs ∧ xs ≠ [] ∧ NoZero c u xs xs.length ∧ (bestT c u xs xs.length).1 ≤ 200
/-- What FewestMoulds answers. -/
def MouldRes (c u : Int) (xs : List Od) (n d : Int) (b : Bool) : Prop := (MouldV c u xs ∧ n = (bestT c u xs xs.length).1 ∧ d = (bestT c u xs xs.length).2 ∧ b = true) ∨ (¬ MouldV c u xs ∧ n = 0 ∧ d = 0 ∧ b = false)
theorem mouldRes_ex (c u : Int) (xs : List Od) : ∃ n d b, MouldRes c u xs n d b := by
  by_cases h : MouldV c u xs
  · exact ⟨_, _, _, .inl ⟨h, rfl, rfl, rfl⟩⟩
  · exact ⟨_, _, _, .inr ⟨h, rfl, rfl, rfl⟩⟩
end Go.Proofs.Ytmdddjhlfpmgdaa
