/- FnCast: what is reckoned. -/
import Derived.Test.YtmdddjhlfpmgdaaWorkF
namespace Go.Proofs.Ytmdddjhlfpmgdaa
open Go.ChangeShapes Go.WideShapes Go.ChangeAt Go.RowKit
set_option linter.unusedVariables false
set_option linter.unusedSimpArgs false

theorem rnd_shift (c u s d : Int) : rnd c (u + s) d = rnd c u (d - s) := by
  unfold rnd
  by_cases h : d < u + s
  · rw [if_pos h, if_pos (by omega)]
  · rw [if_neg h, if_neg (by omega), show d - (u + s) = d - s - u by omega]
theorem shortT_shift (m c u s : Int) (xs : List Od) (k : Nat) : shortT m c (u + s) xs 0 k = shortT m c u xs s k := by
  induction k with
  | zero => rfl
  | succ k ih =>
    simp only [shortT, ih]
    cases xs[k]? with
    | none => rfl
    | some x => simp only [Int.sub_zero, rnd_shift]
/-- The fewest moulds are enough. -/
theorem mould_ok {c u : Int} {xs : List Od} (h : MouldV c u xs) : OkWk ⟨(bestT c u xs xs.length).1, c, u⟩ := by
  obtain ⟨tm, oks, ne, hz, hb⟩ := h
  have b := bestT_bd tm oks.2.1 oks.1 hz
  exact ⟨⟨b.2.2 (List.length_pos_iff.mpr ne) (Nat.le_refl _), hb⟩, tm⟩
theorem mould_enough {c u : Int} {xs : List Od} (h : MouldV c u xs) : ¬ Short ⟨(bestT c u xs xs.length).1, c, u⟩ xs 0 := by
  obtain ⟨tm, oks, ne, hz, hb⟩ := h
  rw [short_iff]
  rintro ⟨k, x, hx, hk⟩
  have hl := (List.getElem?_eq_some_iff.1 hx).1
  have ok := oks.2.1 x (List.mem_of_getElem? hx)
  have rp := rnd_pos tm.1.1 tm.2.1 ok.1.2 (hz k x hl hx)
  have g := best_ge (c := c) (u := u) hl hx
  rw [need_le rp (sumP_bd oks.2.1 (k + 1)).1] at g
  simp only [Int.sub_zero] at hk
  omega
/-- One mould fewer is too few for the told day. -/
theorem mould_less {c u : Int} {xs : List Od} (h : MouldV c u xs) : (bestT c u xs xs.length).2 ∈ shortT ((bestT c u xs xs.length).1 - 1) c u xs 0 xs.length := by
  have ok := mould_ok h
  obtain ⟨tm, oks, ne, hz, hb⟩ := h
  obtain ⟨k, x, hk, hx, e1, e2⟩ := best_at (c := c) (u := u) (xs := xs) (k := xs.length) (by have := ok.1.1; simp only [] at this; omega)
  have okx := oks.2.1 x (List.mem_of_getElem? hx)
  have rp := rnd_pos tm.1.1 tm.2.1 okx.1.2 (hz k x hk hx)
  rw [shortT_mem (Nat.le_refl _)]
  refine ⟨k, x, hk, hx, e2, ?_⟩
  have g := need_le (k := k) rp (sumP_bd oks.2.1 (k + 1)).1 ((bestT c u xs xs.length).1 - 1)
  rw [e1] at g
  simp only [Int.sub_zero]
  rcases Int.lt_or_le (((bestT c u xs xs.length).1 - 1) * rnd c u x.d) (sumP xs (k + 1)) with l | l
  · exact l
  · have := g.mpr l
    omega
theorem want_all {xs : List Od} {d : Int} : ∀ k, k ≤ xs.length → (∀ (j : Nat) y, j < k → xs[j]? = some y → y.d ≤ d) → wantTo xs d k = sumP xs k := by
  intro k
  induction k with
  | zero => intro _ _; rfl
  | succ k ih =>
    intro hk h
    obtain ⟨y, hy⟩ : ∃ y, xs[k]? = some y := ⟨_, List.getElem?_eq_getElem (by omega)⟩
    rw [wantTo_in hy (h k y (by omega) hy), sumP_succ hy, ih (by omega) (fun j z hj hz => h j z (by omega) hz)]
/-- There is never less than nothing in stock. -/
theorem stock_pos {g : Wk} (ok : OkWk g) {xs : List Od} (oks : OkOs xs) (h : ¬ Short g xs 0) {d : Int} (hd : d ≤ 200) : ∀ k, k ≤ xs.length → wantTo xs d k ≤ g.m * rnd g.c g.u d := by
  intro k
  induction k with
  | zero => intro _; exact (made_bd ok.1 ok.2.1.1 ok.2.2.1 hd).1
  | succ k ih =>
    intro hk
    obtain ⟨x, hx⟩ : ∃ y, xs[k]? = some y := ⟨_, List.getElem?_eq_getElem (by omega)⟩
    by_cases l : x.d ≤ d
    · rw [want_all (k + 1) hk (fun j y hj hy => by
        rcases Nat.lt_or_ge j k with q | q
        · have := rise_lt oks.2.2 q (by omega) hy hx; omega
        · obtain rfl : j = k := by omega
          obtain rfl := Option.some.inj (hx.symm.trans hy)
          exact l)]
      have n : ¬ g.m * rnd g.c g.u (x.d - 0) < sumP xs (k + 1) := fun q => h (short_iff.mpr ⟨k, x, hx, q⟩)
      rw [Int.sub_zero] at n
      have a := rnd_mono (c := g.c) (u := g.u) ok.2.1.1 l
      have b := Int.mul_le_mul_of_nonneg_left a (show 0 ≤ g.m by have := ok.1.1; omega)
      omega
    · rw [wantTo_out hx l]
      exact ih (by omega)
end Go.Proofs.Ytmdddjhlfpmgdaa
