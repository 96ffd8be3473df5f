/- Works: what is reckoned. -/
import Derived.Test.YtmdddjhlfpmgdaaWorkM
namespace Go.Proofs.Ytmdddjhlfpmgdaa
open Go.ChangeShapes Go.WideShapes Go.ChangeAt Go.RowKit
set_option linter.unusedVariables false
set_option linter.unusedSimpArgs false

/-- Pieces of one mould up to a day. -/
def rnd (c u d : Int) : Int := if d < u then 0 else (d - u).tdiv c
theorem rnd_bd {c u d : Int} (hc : 1 ≤ c) (hu : 0 ≤ u) (hd : d ≤ 200) : 0 ≤ rnd c u d ∧ rnd c u d ≤ 200 := by
  unfold rnd
  split
  · omega
  · rw [Int.tdiv_eq_ediv_of_nonneg (by omega)]
    refine ⟨Int.ediv_nonneg (by omega) (by omega), ?_⟩
    have := Int.ediv_le_self c (show 0 ≤ d - u by omega)
    omega
theorem rnd_mono {c u d e : Int} (hc : 1 ≤ c) (h : d ≤ e) : rnd c u d ≤ rnd c u e := by
  unfold rnd
  split
  · split
    · omega
    · rw [Int.tdiv_eq_ediv_of_nonneg (by omega)]; exact Int.ediv_nonneg (by omega) (by omega)
  · rw [if_neg (by omega), Int.tdiv_eq_ediv_of_nonneg (by omega), Int.tdiv_eq_ediv_of_nonneg (by omega)]
    exact Int.ediv_le_ediv (by omega) (by omega)
theorem rnd_max (c u d : Int) : (if d - u < 0 then 0 else d - u).tdiv c = rnd c u d := by
  unfold rnd
  by_cases h : d < u
  · rw [if_pos (by omega), if_pos h]; simp
  · rw [if_neg (by omega), if_neg h]
theorem made_bd {m c u d : Int} (hm : PcsN m) (hc : 1 ≤ c) (hu : 0 ≤ u) (hd : d ≤ 200) : 0 ≤ m * rnd c u d ∧ m * rnd c u d ≤ 40000 := by
  obtain ⟨h0, h1⟩ := rnd_bd hc hu hd
  have a : 0 ≤ m * rnd c u d := Int.mul_nonneg (by have := hm.1; omega) h0
  have b : m * rnd c u d ≤ 200 * 200 := Int.mul_le_mul hm.2 h1 h0 (by omega)
  exact ⟨a, by omega⟩

/-- What the first k orders want. -/
def sumP (xs : List Od) : Nat → Int
  | 0 => 0
  | k + 1 => sumP xs k + (match xs[k]? with | some x => x.p | none => 0)
theorem sumP_succ {xs : List Od} {k : Nat} {x : Od} (h : xs[k]? = some x) : sumP xs (k + 1) = sumP xs k + x.p := by simp only [sumP, h]
theorem sumP_bd {xs : List Od} (h : ∀ c ∈ xs, OkOd c) (k : Nat) : 0 ≤ sumP xs k ∧ sumP xs k ≤ 200 * k := by
  induction k with
  | zero => simp [sumP]
  | succ k ih =>
    simp only [sumP]
    cases hx : xs[k]? with
    | none => simp only []; omega
    | some g => have := (h g (List.mem_of_getElem? hx)).2; unfold PcsN at this; simp only []; omega
/-- What the first k orders want up to a day. -/
def wantTo (xs : List Od) (d : Int) : Nat → Int
  | 0 => 0
  | k + 1 => wantTo xs d k + (match xs[k]? with | some x => if x.d ≤ d then x.p else 0 | none => 0)
theorem wantTo_in {xs : List Od} {d : Int} {k : Nat} {x : Od} (h : xs[k]? = some x) (g : x.d ≤ d) : wantTo xs d (k + 1) = wantTo xs d k + x.p := by simp only [wantTo, h, if_pos g]
theorem wantTo_out {xs : List Od} {d : Int} {k : Nat} {x : Od} (h : xs[k]? = some x) (g : ¬ x.d ≤ d) : wantTo xs d (k + 1) = wantTo xs d k := by simp only [wantTo, h, if_neg g, Int.add_zero]
theorem wantTo_bd {xs : List Od} (h : ∀ c ∈ xs, OkOd c) (d : Int) (k : Nat) : 0 ≤ wantTo xs d k ∧ wantTo xs d k ≤ 200 * k := by
  induction k with
  | zero => simp [wantTo]
  | succ k ih =>
    simp only [wantTo]
    cases hx : xs[k]? with
    | none => simp only []; omega
    | some g =>
      have := (h g (List.mem_of_getElem? hx)).2
      unfold PcsN at this
      simp only []
      split <;> omega
theorem rise_lt {xs : List Od} {n : Nat} (h : RiseTo xs n) {i j : Nat} {x y : Od} (hij : i < j) (hj : j < n) (hx : xs[i]? = some x) (hy : xs[j]? = some y) : x.d < y.d := by
  induction j generalizing y with
  | zero => omega
  | succ j ih =>
    have hl : j + 1 < xs.length := (List.getElem?_eq_some_iff.1 hy).1
    obtain ⟨z, hz⟩ : ∃ z, xs[j]? = some z := ⟨_, List.getElem?_eq_getElem (by omega)⟩
    have s := h j z y (by omega) hz hy
    rcases Nat.lt_or_ge i j with g | g
    · have := ih g (by omega) hz; omega
    · obtain rfl : i = j := by omega
      obtain rfl := Option.some.inj (hx.symm.trans hz)
      exact s
theorem want_at {xs : List Od} (h : RiseTo xs xs.length) {i : Nat} {x : Od} (hx : xs[i]? = some x) : wantTo xs x.d xs.length = sumP xs (i + 1) := by
  have hi : i < xs.length := (List.getElem?_eq_some_iff.1 hx).1
  have a : ∀ k, k ≤ i + 1 → wantTo xs x.d k = sumP xs k := by
    intro k
    induction k with
    | zero => intro _; rfl
    | succ k ih =>
      intro hk
      obtain ⟨y, hy⟩ : ∃ y, xs[k]? = some y := ⟨_, List.getElem?_eq_getElem (by omega)⟩
      have g : y.d ≤ x.d := by
        rcases Nat.lt_or_ge k i with g | g
        · have := rise_lt h g hi hy hx; omega
        · obtain rfl : k = i := by omega
          obtain rfl := Option.some.inj (hx.symm.trans hy)
          omega
      rw [wantTo_in hy g, sumP_succ hy, ih (by omega)]
  have b : ∀ k, i + 1 ≤ k → k ≤ xs.length → wantTo xs x.d k = sumP xs (i + 1) := by
    intro k h1
    induction k with
    | zero => omega
    | succ k ih =>
      intro h2
      rcases Nat.lt_or_ge i k with g | g
      · obtain ⟨y, hy⟩ : ∃ y, xs[k]? = some y := ⟨_, List.getElem?_eq_getElem (by omega)⟩
        have := rise_lt h g (by omega) hx hy
        rw [wantTo_out hy (by omega), ih (by omega) (by omega)]
      · obtain rfl : k = i := by omega
        exact a _ (by omega)
  exact b _ (by omega) (Nat.le_refl _)

/-- The short days among the first k orders, if all casting is put off. -/
def shortT (m c u : Int) (xs : List Od) (off : Int) : Nat → List Int
  | 0 => []
  | k + 1 => shortT m c u xs off k ++ (match xs[k]? with | some x => if m * rnd c u (x.d - off) < sumP xs (k + 1) then [x.d] else [] | none => [])
theorem shortT_in {m c u : Int} {xs : List Od} {off : Int} {k : Nat} {x : Od} (h : xs[k]? = some x) (g : m * rnd c u (x.d - off) < sumP xs (k + 1)) : shortT m c u xs off (k + 1) = shortT m c u xs off k ++ [x.d] := by simp only [shortT, h, if_pos g]
theorem shortT_out {m c u : Int} {xs : List Od} {off : Int} {k : Nat} {x : Od} (h : xs[k]? = some x) (g : ¬ m * rnd c u (x.d - off) < sumP xs (k + 1)) : shortT m c u xs off (k + 1) = shortT m c u xs off k := by simp only [shortT, h, if_neg g, List.append_nil]
theorem shortT_len (m c u : Int) (xs : List Od) (off : Int) (k : Nat) : (shortT m c u xs off k).length ≤ k := by
  induction k with
  | zero => simp [shortT]
  | succ k ih =>
    simp only [shortT, List.length_append]
    cases xs[k]? with
    | none => simp only [List.length_nil]; omega
    | some x => simp only []; split <;> simp <;> omega
theorem shortT_mem {m c u : Int} {xs : List Od} {off : Int} {n : Nat} (hn : n ≤ xs.length) (z : Int) : z ∈ shortT m c u xs off n ↔ ∃ k x, k < n ∧ xs[k]? = some x ∧ x.d = z ∧ m * rnd c u (x.d - off) < sumP xs (k + 1) := by
  induction n with
  | zero => simp [shortT]
  | succ n ih =>
    obtain ⟨y, hy⟩ : ∃ y, xs[n]? = some y := ⟨_, List.getElem?_eq_getElem (by omega)⟩
    by_cases g : m * rnd c u (y.d - off) < sumP xs (n + 1)
    · rw [shortT_in hy g, List.mem_append, ih (by omega)]
      constructor
      · rintro (⟨k, x, h1, h2, h3, h4⟩ | h)
        · exact ⟨k, x, by omega, h2, h3, h4⟩
        · exact ⟨n, y, by omega, hy, (List.mem_singleton.1 h).symm, g⟩
      · rintro ⟨k, x, h1, h2, h3, h4⟩
        rcases Nat.lt_or_ge k n with l | l
        · exact .inl ⟨k, x, l, h2, h3, h4⟩
        · obtain rfl : k = n := by omega
          obtain rfl := Option.some.inj (h2.symm.trans hy)
          exact .inr (by simp [h3])
    · rw [shortT_out hy g, ih (by omega)]
      constructor
      · rintro ⟨k, x, h1, h2, h3, h4⟩
        exact ⟨k, x, by omega, h2, h3, h4⟩
      · rintro ⟨k, x, h1, h2, h3, h4⟩
        rcases Nat.lt_or_ge k n with l | l
        · exact ⟨k, x, l, h2, h3, h4⟩
        · obtain rfl : k = n := by omega
          obtain rfl := Option.some.inj (h2.symm.trans hy)
          exact absurd h4 g
/-- Is there a short day, if all casting is put off? -/
def Short (g : Wk) (xs : List Od) (off : Int) : Prop := shortT g.m g.c g.u xs off xs.length ≠ []
theorem short_iff {g : Wk} {xs : List Od} {off : Int} : Short g xs off ↔ ∃ k x, xs[k]? = some x ∧ g.m * rnd g.c g.u (x.d - off) < sumP xs (k + 1) := by
  unfold Short
  constructor
  · intro h
    obtain ⟨z, hz⟩ := List.exists_mem_of_ne_nil _ h
    obtain ⟨k, x, h1, h2, h3, h4⟩ := (shortT_mem (Nat.le_refl _) z).mp hz
    exact ⟨k, x, h2, h4⟩
  · rintro ⟨k, x, h2, h4⟩ e
    have := (shortT_mem (m := g.m) (c := g.c) (u := g.u) (off := off) (Nat.le_refl xs.length) x.d).mpr ⟨k, x, (List.getElem?_eq_some_iff.1 h2).1, h2, rfl, h4⟩
    rw [e] at this
    cases this
theorem short_mono {g : Wk} (ok : OkWk g) {xs : List Od} {a b : Int} (h : a ≤ b) (hs : Short g xs a) : Short g xs b := by
  rw [short_iff] at hs ⊢
  obtain ⟨k, x, h1, h2⟩ := hs
  refine ⟨k, x, h1, ?_⟩
  have := rnd_mono (c := g.c) (u := g.u) ok.2.1.1 (show x.d - b ≤ x.d - a by omega)
  have := Int.mul_le_mul_of_nonneg_left this (show 0 ≤ g.m by have := ok.1.1; omega)
  omega
end Go.Proofs.Ytmdddjhlfpmgdaa
