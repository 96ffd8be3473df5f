/- What a plan costs: the masks' bits add up to the stops and their changes. -/
import Derived.Test.YtmdddjhlfpmgdacPopB
import Derived.Test.YtmdddjhlfpmgdacPlanL
namespace Go.Proofs.Ytmdddjhlfpmgdac
open Go.ChangeShapes Go.WideShapes Go.ChangeAt Go.RowKit
set_option linter.unusedVariables false
set_option linter.unusedSimpArgs false

theorem upSu_lt {xs : List Su} (h : UpSu xs) {i j : Nat} {x y : Su} (hij : i < j) (hx : xs[i]? = some x) (hy : xs[j]? = some y) : x.r < y.r := by
  induction j generalizing y with
  | zero => omega
  | succ j ih =>
    have hl : j + 1 < xs.length := (List.getElem?_eq_some_iff.1 hy).1
    obtain ⟨z, hz⟩ : ∃ z, xs[j]? = some z := ⟨_, List.getElem?_eq_getElem (by omega)⟩
    have s := h j z y hz hy
    rcases Nat.lt_or_ge i j with g | g
    · have := ih g hz; omega
    · obtain rfl : i = j := by omega
      obtain rfl := Option.some.inj (hx.symm.trans hz)
      exact s

/-- The rings of the first k stops, with a bit for each. -/
def unionTo (xs : List Su) : Nat → Nat
  | 0 => 0
  | k + 1 => match xs[k]? with
    | none => unionTo xs k
    | some x => unionTo xs k ||| 2 ^ x.r.toNat

theorem unionTo_bit (xs : List Su) (hr : ∀ x ∈ xs, 0 ≤ x.r) (n : Nat) : ∀ k, k ≤ xs.length → ((unionTo xs k).testBit n = true ↔ ∃ (i : Nat) (x : Su), i < k ∧ xs[i]? = some x ∧ x.r = n) := by
  intro k
  induction k with
  | zero => intro _; simp [unionTo]
  | succ k ih =>
    intro hk
    obtain ⟨x, hx⟩ : ∃ x, xs[k]? = some x := ⟨_, List.getElem?_eq_getElem (by omega)⟩
    have h0 := hr x (List.mem_of_getElem? hx)
    have old := ih (by omega)
    have key : (∃ (i : Nat) (y : Su), i < k + 1 ∧ xs[i]? = some y ∧ y.r = n) ↔ ((∃ (i : Nat) (y : Su), i < k ∧ xs[i]? = some y ∧ y.r = n) ∨ x.r = n) := by
      constructor
      · rintro ⟨i, y, h1, h2, h3⟩
        by_cases e : i = k
        · subst e; rw [hx] at h2; cases h2; exact .inr h3
        · exact .inl ⟨i, y, by omega, h2, h3⟩
      · rintro (⟨i, y, h1, h2, h3⟩ | h3)
        · exact ⟨i, y, by omega, h2, h3⟩
        · exact ⟨k, x, by omega, hx, h3⟩
    rw [key, ← old]
    simp only [unionTo, hx]
    rw [Nat.testBit_or, Bool.or_eq_true, Nat.testBit_two_pow]
    simp only [decide_eq_true_eq]
    constructor
    · rintro (h | h)
      · exact .inl h
      · exact .inr (by omega)
    · rintro (h | h)
      · exact .inl h
      · exact .inr (by omega)

theorem bitsOf_unionTo (xs : List Su) (up : UpSu xs) (hr : ∀ x ∈ xs, 0 ≤ x.r ∧ x.r ≤ 59) : ∀ k, k ≤ xs.length → bitsOf (unionTo xs k) = k := by
  intro k
  induction k with
  | zero => intro _; exact bitsOf_zero
  | succ k ih =>
    intro hk
    obtain ⟨x, hx⟩ : ∃ x, xs[k]? = some x := ⟨_, List.getElem?_eq_getElem (by omega)⟩
    have h0 := hr x (List.mem_of_getElem? hx)
    have old := ih (by omega)
    simp only [unionTo, hx]
    rw [bitsOf_set (by omega), old]
    cases hb : (unionTo xs k).testBit x.r.toNat with
    | false => rfl
    | true =>
      obtain ⟨i, y, h1, h2, h3⟩ := (unionTo_bit xs (fun x hx => (hr x hx).1) x.r.toNat k (by omega)).mp hb
      have := upSu_lt up h1 h2 hx
      omega

theorem union_masks (xs : List Su) (hok : ∀ x ∈ xs, ChgSu x) (hne : ∀ x ∈ xs, x.t ≠ []) : (maskTo xs 0 xs.length ||| maskTo xs 1 xs.length ||| maskTo xs 2 xs.length ||| maskTo xs 3 xs.length ||| maskTo xs 4 xs.length) = unionTo xs xs.length := by
  have hr : ∀ x ∈ xs, 0 ≤ x.r := fun x hx => (hok x hx).r.1
  apply Nat.eq_of_testBit_eq
  intro n
  rw [Bool.eq_iff_iff, unionTo_bit xs hr n _ (Nat.le_refl _)]
  simp only [Nat.testBit_or, Bool.or_eq_true]
  have mb := fun c => maskTo_bit xs hr c n xs.length (Nat.le_refl _)
  rw [mb 0, mb 1, mb 2, mb 3, mb 4]
  constructor
  · rintro ((((⟨i, x, h1, h2, h3, -⟩ | ⟨i, x, h1, h2, h3, -⟩) | ⟨i, x, h1, h2, h3, -⟩) | ⟨i, x, h1, h2, h3, -⟩) | ⟨i, x, h1, h2, h3, -⟩) <;> exact ⟨i, x, h1, h2, h3⟩
  · rintro ⟨i, x, h1, h2, h3⟩
    have hm := List.mem_of_getElem? h2
    obtain ⟨y, hy⟩ := List.exists_mem_of_ne_nil _ (hne x hm)
    have b := (hok x hm).t y hy
    have cs : y = ((0 : Nat) : Int) ∨ y = ((1 : Nat) : Int) ∨ y = ((2 : Nat) : Int) ∨ y = ((3 : Nat) : Int) ∨ y = ((4 : Nat) : Int) := by omega
    rcases cs with rfl | rfl | rfl | rfl | rfl
    · exact .inl (.inl (.inl (.inl ⟨i, x, h1, h2, h3, hy⟩)))
    · exact .inl (.inl (.inl (.inr ⟨i, x, h1, h2, h3, hy⟩)))
    · exact .inl (.inl (.inr ⟨i, x, h1, h2, h3, hy⟩))
    · exact .inl (.inr ⟨i, x, h1, h2, h3, hy⟩)
    · exact .inr ⟨i, x, h1, h2, h3, hy⟩

def ind (c : Nat) (ts : List Int) : Nat := if (c : Int) ∈ ts then 1 else 0
theorem ind_nil (c : Nat) : ind c [] = 0 := by simp [ind]
theorem ind_cons (c : Nat) (y : Int) (ts : List Int) (h : y ∉ ts) : ind c (y :: ts) = (if (c : Int) = y then 1 else 0) + ind c ts := by
  unfold ind
  by_cases e : (c : Int) = y
  · subst e; rw [if_pos (by simp), if_pos rfl, if_neg h]
  · rw [if_neg e]
    by_cases m : (c : Int) ∈ ts
    · rw [if_pos (by simp [m]), if_pos m]
    · rw [if_neg (by simp [e, m]), if_neg m]
theorem up_tail {y : Int} {ts : List Int} (h : Up (y :: ts)) : Up ts ∧ y ∉ ts := by
  refine ⟨fun i a b ha hb => h (i + 1) a b (by simpa using ha) (by simpa using hb), fun hm => ?_⟩
  obtain ⟨i, hi, e⟩ := List.mem_iff_getElem.1 hm
  have := up_lt h (show 0 < i + 1 by omega) (x := y) (y := y) (by simp) (by simp [List.getElem?_eq_getElem hi, e])
  omega
theorem len_ind : ∀ (ts : List Int), (∀ y ∈ ts, 0 ≤ y ∧ y ≤ 4) → Up ts → ts.length = ind 0 ts + ind 1 ts + ind 2 ts + ind 3 ts + ind 4 ts := by
  intro ts
  induction ts with
  | nil => intro _ _; simp [ind_nil]
  | cons y ts ih =>
    intro hb hu
    obtain ⟨h1, h2⟩ := up_tail hu
    have e := ih (fun z hz => hb z (by simp [hz])) h1
    rw [List.length_cons, e, ind_cons 0 y ts h2, ind_cons 1 y ts h2, ind_cons 2 y ts h2, ind_cons 3 y ts h2, ind_cons 4 y ts h2]
    have b := hb y (by simp)
    have cs : y = 0 ∨ y = 1 ∨ y = 2 ∨ y = 3 ∨ y = 4 := by omega
    rcases cs with rfl | rfl | rfl | rfl | rfl <;> simp <;> omega

/-- How many changes the first k stops make. -/
def lenTo (xs : List Su) : Nat → Nat
  | 0 => 0
  | k + 1 => match xs[k]? with
    | none => lenTo xs k
    | some x => lenTo xs k + x.t.length
theorem lenTo_succ {xs : List Su} {k : Nat} {x : Su} (hx : xs[k]? = some x) : lenTo xs (k + 1) = lenTo xs k + x.t.length := by simp only [lenTo, hx]
theorem chgTo_succ {xs : List Su} {k : Nat} {x : Su} (hx : xs[k]? = some x) (c : Nat) : chgTo xs c (k + 1) = chgTo xs c k + ind c x.t := by
  simp only [chgTo, hx, ind]
  split <;> rfl
theorem chg_sum (xs : List Su) (hok : ∀ x ∈ xs, ChgSu x) (hup : ∀ x ∈ xs, Up x.t) : ∀ k, k ≤ xs.length → chgTo xs 0 k + chgTo xs 1 k + chgTo xs 2 k + chgTo xs 3 k + chgTo xs 4 k = lenTo xs k := by
  intro k
  induction k with
  | zero => intro _; rfl
  | succ k ih =>
    intro hk
    obtain ⟨x, hx⟩ : ∃ x, xs[k]? = some x := ⟨_, List.getElem?_eq_getElem (by omega)⟩
    have hm := List.mem_of_getElem? hx
    have e := len_ind x.t (hok x hm).t (hup x hm)
    rw [chgTo_succ hx, chgTo_succ hx, chgTo_succ hx, chgTo_succ hx, chgTo_succ hx, lenTo_succ hx, ← ih (by omega), e]
    omega
theorem lenTo_le (xs : List Su) (hok : ∀ x ∈ xs, ChgSu x) : ∀ k, lenTo xs k ≤ 5 * k := by
  intro k
  induction k with
  | zero => simp [lenTo]
  | succ k ih =>
    simp only [lenTo]
    cases hx : xs[k]? with
    | none => simp only []; omega
    | some x => have := (hok x (List.mem_of_getElem? hx)).n; simp only []; omega
theorem lenTo_same {xs ys : List Su} (es : xs.map Su.so = ys.map Su.so) : ∀ k, lenTo xs k = lenTo ys k := by
  intro k
  induction k with
  | zero => rfl
  | succ k ih =>
    simp only [lenTo]
    cases hx : xs[k]? with
    | none =>
      have hy : ys[k]? = none := by
        have h := map_so_len es
        rw [List.getElem?_eq_none_iff] at hx ⊢
        omega
      rw [hy]; exact ih
    | some x =>
      obtain ⟨y, hy, -, ht⟩ := map_so_get es hx
      rw [hy]
      simp only [ht, ih]

/-- What the first k stops cost. -/
def costTo (g : Hd) (xs : List Su) (k : Nat) : Int := g.p * (k : Int) + g.q * ((lenTo xs k : Nat) : Int)
theorem costTo_succ {g : Hd} {xs : List Su} {k : Nat} {x : Su} (hx : xs[k]? = some x) : costTo g xs (k + 1) = costTo g xs k + (g.p + g.q * (x.t.length : Int)) := by
  unfold costTo
  rw [lenTo_succ hx]
  push_cast
  rw [Int.mul_add, Int.mul_add, Int.mul_one]
  omega
theorem costTo_bd {g : Hd} {xs : List Su} (hp : 0 ≤ g.p ∧ g.p ≤ 10000) (hq : 0 ≤ g.q ∧ g.q ≤ 10000) (hok : ∀ x ∈ xs, ChgSu x) {k : Nat} (hk : k ≤ 60) : 0 ≤ costTo g xs k ∧ costTo g xs k ≤ 10000000 := by
  unfold costTo
  have l := lenTo_le xs hok k
  have a0 : 0 ≤ g.p * (k : Int) := Int.mul_nonneg hp.1 (by omega)
  have a1 : g.p * (k : Int) ≤ 10000 * 60 := Int.mul_le_mul hp.2 (by omega) (by omega) (by omega)
  have b0 : 0 ≤ g.q * ((lenTo xs k : Nat) : Int) := Int.mul_nonneg hq.1 (by omega)
  have b1 : g.q * ((lenTo xs k : Nat) : Int) ≤ 10000 * 300 := Int.mul_le_mul hq.2 (by omega) (by omega) (by omega)
  exact ⟨by omega, by omega⟩
/-- A plan has at most as many stops as there are rings. -/
theorem stops_le {xs : List Su} (up : UpSu xs) (hr : ∀ x ∈ xs, 0 ≤ x.r ∧ x.r ≤ 59) : xs.length ≤ 60 := by
  rcases Nat.lt_or_ge 60 xs.length with h | h
  · have key : ∀ k, k < xs.length → ∀ x, xs[k]? = some x → (k : Int) ≤ x.r := by
      intro k
      induction k with
      | zero => intro _ x hx; have := hr x (List.mem_of_getElem? hx); omega
      | succ k ih =>
        intro hk x hx
        obtain ⟨y, hy⟩ : ∃ y, xs[k]? = some y := ⟨_, List.getElem?_eq_getElem (by omega)⟩
        have := ih (by omega) y hy
        have := up k y x hy hx
        push_cast; omega
    obtain ⟨x, hx⟩ : ∃ x, xs[60]? = some x := ⟨_, List.getElem?_eq_getElem (by omega)⟩
    have := key 60 h x hx
    have := hr x (List.mem_of_getElem? hx)
    omega
  · exact h
end Go.Proofs.Ytmdddjhlfpmgdac
