/- Sums of the muck, alarms, and the greatest excess, as lists have them. -/
import Derived.Test.YtcmocilojloolaaDoorInts
namespace Go.Proofs.YtcmocilojloolaaDoor
set_option linter.unusedVariables false
set_option linter.unusedSimpArgs false

/-- Every number of the list is within bounds. -/
def AllIn (lo hi : Int) (zs : List Int) : Prop := ∀ x ∈ zs, lo ≤ x ∧ x ≤ hi

theorem AllIn.at {lo hi : Int} {zs : List Int} (h : AllIn lo hi zs) {k : Nat} {x : Int} (hx : zs[k]? = some x) : lo ≤ x ∧ x ≤ hi := h x (List.mem_of_getElem? hx)
theorem AllIn.take_succ {lo hi : Int} {zs : List Int} {k : Nat} {x : Int} (h : AllIn lo hi (zs.take k)) (hx : zs[k]? = some x) (h1 : lo ≤ x) (h2 : x ≤ hi) : AllIn lo hi (zs.take (k + 1)) := by
  intro y hy
  rw [List.take_add_one, hx] at hy
  rcases List.mem_append.mp hy with hy | hy
  · exact h y hy
  · have : y = x := by simpa using hy
    subst this; exact ⟨h1, h2⟩

/-- A balance. -/
def Bal (zs : List Int) : Prop := zs.length ≤ 60 ∧ AllIn (-1000000) 1000000 zs
def Bnd (n : Int) : Prop := 0 ≤ n ∧ n ≤ 1000000

/-- The cumulative sum behind k rings. -/
def sumAt (zs : List Int) (al : Int) : Nat → Int
  | 0 => 0
  | k + 1 => if sumAt zs al k + zs.getD k 0 - al < 0 then 0 else sumAt zs al k + zs.getD k 0 - al

theorem sumAt_nonneg (zs : List Int) (al : Int) (k : Nat) : 0 ≤ sumAt zs al k := by
  cases k with
  | zero => simp [sumAt]
  | succ k => simp only [sumAt]; split <;> omega

theorem getD_of {zs : List Int} {k : Nat} {x : Int} (hx : zs[k]? = some x) : zs.getD k 0 = x := by simp [List.getD, hx]

theorem sumAt_succ {zs : List Int} {al : Int} {k : Nat} {x : Int} (hx : zs[k]? = some x) : sumAt zs al (k + 1) = if sumAt zs al k + x - al < 0 then 0 else sumAt zs al k + x - al := by
  simp only [sumAt, getD_of hx]

theorem sumAt_le {zs : List Int} {al : Int} (hb : AllIn (-1000000) 1000000 zs) (ha : 0 ≤ al) (k : Nat) (hk : k ≤ zs.length) : sumAt zs al k ≤ 1000000 * k := by
  induction k with
  | zero => simp [sumAt]
  | succ k ih =>
    obtain ⟨x, hx⟩ : ∃ x, zs[k]? = some x := ⟨_, List.getElem?_eq_getElem (by omega)⟩
    have := hb.at hx
    have := ih (by omega)
    rw [sumAt_succ hx]
    push_cast
    split <;> omega

/-- The cumulative sums of the first k rings. -/
def sumsTo (zs : List Int) (al : Int) (k : Nat) : List Int := (List.range k).map fun i => sumAt zs al (i + 1)

theorem sumsTo_len (zs : List Int) (al : Int) (k : Nat) : (sumsTo zs al k).length = k := by simp [sumsTo]
theorem sumsTo_succ (zs : List Int) (al : Int) (k : Nat) : sumsTo zs al (k + 1) = sumsTo zs al k ++ [sumAt zs al (k + 1)] := by simp [sumsTo, List.range_succ]
theorem sumsTo_get (zs : List Int) (al : Int) (n i : Nat) (h : i < n) : (sumsTo zs al n)[i]? = some (sumAt zs al (i + 1)) := by simp [sumsTo, h]

/-- Where the last sum of 0 ends, behind k rings. -/
def fromAt (zs : List Int) (al : Int) : Nat → Nat
  | 0 => 0
  | k + 1 => if sumAt zs al (k + 1) = 0 then k + 1 else fromAt zs al k

theorem fromAt_le (zs : List Int) (al : Int) (k : Nat) : fromAt zs al k ≤ k := by
  induction k with
  | zero => simp [fromAt]
  | succ k ih => simp only [fromAt]; split <;> omega

/-- What AlarmOf answers: where the alarm begins, where it is raised, whether there is one. -/
inductive IsAlarm (zs : List Int) (al lim : Int) : Int → Int → Bool → Prop
  | calm (h : ∀ i, i < zs.length → sumAt zs al (i + 1) ≤ lim) : IsAlarm zs al lim 0 0 false
  | raised (i : Nat) (hi : i < zs.length) (h : lim < sumAt zs al (i + 1)) (hb : ∀ j, j < i → sumAt zs al (j + 1) ≤ lim) : IsAlarm zs al lim (fromAt zs al i) i true

theorem first_or (P : Nat → Prop) (n : Nat) : (∀ i, i < n → ¬ P i) ∨ ∃ i, i < n ∧ P i ∧ ∀ j, j < i → ¬ P j := by
  induction n with
  | zero => exact .inl fun i h => absurd h (by omega)
  | succ n ih =>
    rcases ih with h | ⟨i, hi, h1, h2⟩
    · by_cases hp : P n
      · exact .inr ⟨n, by omega, hp, h⟩
      · refine .inl fun i hi => ?_
        by_cases e : i = n
        · subst e; exact hp
        · exact h i (by omega)
    · exact .inr ⟨i, by omega, h1, h2⟩

theorem alarm_ex (zs : List Int) (al lim : Int) : ∃ f a b, IsAlarm zs al lim f a b := by
  rcases first_or (fun i => lim < sumAt zs al (i + 1)) zs.length with h | ⟨i, hi, h1, h2⟩
  · exact ⟨_, _, _, .calm fun i hi => by have := h i hi; omega⟩
  · exact ⟨_, _, _, .raised i hi h1 fun j hj => by have := h2 j hj; omega⟩

/-- The sum of the excesses of the first k rings. -/
def pre (zs : List Int) (al : Int) : Nat → Int
  | 0 => 0
  | k + 1 => pre zs al k + (zs.getD k 0 - al)

theorem pre_succ {zs : List Int} {al : Int} {k : Nat} {x : Int} (hx : zs[k]? = some x) : pre zs al (k + 1) = pre zs al k + (x - al) := by simp only [pre, getD_of hx]

theorem pre_bd {zs : List Int} {al : Int} (hb : AllIn (-1000000) 1000000 zs) (ha : Bnd al) (k : Nat) (hk : k ≤ zs.length) : -(2000000 * (k : Int)) ≤ pre zs al k ∧ pre zs al k ≤ 1000000 * k := by
  induction k with
  | zero => simp [pre]
  | succ k ih =>
    obtain ⟨x, hx⟩ : ∃ x, zs[k]? = some x := ⟨_, List.getElem?_eq_getElem (by omega)⟩
    have := hb.at hx
    have := ih (by omega)
    obtain ⟨a0, a1⟩ := ha
    rw [pre_succ hx]
    push_cast
    omega

/-- The rings from f to u have the greatest excess m of the first n rings, and are the first ones that have it. -/
structure IsBest (zs : List Int) (al : Int) (n f u : Nat) (m : Int) : Prop where
  le : f ≤ u
  lt : u < n
  eq : m = pre zs al (u + 1) - pre zs al f
  most : ∀ f' u', f' ≤ u' → u' < n → pre zs al (u' + 1) - pre zs al f' ≤ m
  first : ∀ f' u', f' ≤ u' → u' < n → (f' < f ∨ f' = f ∧ u' < u) → pre zs al (u' + 1) - pre zs al f' < m

theorem IsBest.uniq {zs : List Int} {al : Int} {n f u f' u' : Nat} {m m' : Int} (h : IsBest zs al n f u m) (h' : IsBest zs al n f' u' m') : f = f' ∧ u = u' ∧ m = m' := by
  have e : m = m' := by
    have a := h.most f' u' h'.le h'.lt
    have b := h'.most f u h.le h.lt
    have := h.eq; have := h'.eq; omega
  have e1 : ¬ (f' < f ∨ f' = f ∧ u' < u) := fun c => by have := h.first f' u' h'.le h'.lt c; have := h'.eq; omega
  have e2 : ¬ (f < f' ∨ f = f' ∧ u < u') := fun c => by have := h'.first f u h.le h.lt c; have := h.eq; omega
  exact ⟨by omega, by omega, e⟩

/-- The windows of the first k + 1 rings: the greatest one that ends there, and the greatest one of all. -/
structure Wins (zs : List Int) (al : Int) (k hf : Nat) (hs : Int) (f u : Nat) (m : Int) : Prop where
  hle : hf ≤ k
  heq : hs = pre zs al (k + 1) - pre zs al hf
  hmost : ∀ f', f' ≤ k → pre zs al (k + 1) - pre zs al f' ≤ hs
  hfirst : ∀ f', f' < hf → pre zs al (k + 1) - pre zs al f' < hs
  best : IsBest zs al (k + 1) f u m
  ord : f ≤ hf

theorem wins_zero (zs : List Int) (al x : Int) (hx : zs[0]? = some x) : Wins zs al 0 0 (x - al) 0 0 (x - al) := by
  have e : pre zs al (0 + 1) = x - al := by rw [pre_succ hx]; simp [pre]
  have e0 : pre zs al 0 = 0 := rfl
  refine ⟨by omega, by omega, fun f' h => ?_, fun f' h => absurd h (by omega), ⟨by omega, by omega, by omega, fun f' u' h1 h2 => ?_, fun f' u' h1 h2 h3 => ?_⟩, by omega⟩
  · obtain rfl : f' = 0 := by omega
    show pre zs al (0 + 1) - pre zs al 0 ≤ _
    omega
  · obtain rfl : u' = 0 := by omega
    obtain rfl : f' = 0 := by omega
    show pre zs al (0 + 1) - pre zs al 0 ≤ _
    omega
  · omega

theorem wins_step {zs : List Int} {al : Int} {k hf f u : Nat} {hs m x : Int} (h : Wins zs al k hf hs f u m) (hx : zs[k + 1]? = some x) (hf' : Nat) (hs' : Int)
    (hn : (hs < 0 ∧ hf' = k + 1 ∧ hs' = x - al) ∨ (0 ≤ hs ∧ hf' = hf ∧ hs' = hs + (x - al))) (f1 u1 : Nat) (m1 : Int) (hb : (m < hs' ∧ f1 = hf' ∧ u1 = k + 1 ∧ m1 = hs') ∨ (hs' ≤ m ∧ f1 = f ∧ u1 = u ∧ m1 = m)) :
    Wins zs al (k + 1) hf' hs' f1 u1 m1 := by
  have e : pre zs al (k + 1 + 1) = pre zs al (k + 1) + (x - al) := pre_succ hx
  have a1 : hf' ≤ k + 1 := by have := h.hle; omega
  have a2 : hs' = pre zs al (k + 1 + 1) - pre zs al hf' := by
    rcases hn with ⟨h1, rfl, rfl⟩ | ⟨h1, rfl, rfl⟩
    · omega
    · have := h.heq; omega
  have a3 : ∀ g, g ≤ k + 1 → pre zs al (k + 1 + 1) - pre zs al g ≤ hs' := by
    intro g hg
    by_cases eg : g = k + 1
    · subst eg; rcases hn with ⟨h1, -, rfl⟩ | ⟨h1, -, rfl⟩ <;> omega
    · have := h.hmost g (by omega); rcases hn with ⟨h1, -, rfl⟩ | ⟨h1, -, rfl⟩ <;> omega
  have a4 : ∀ g, g < hf' → pre zs al (k + 1 + 1) - pre zs al g < hs' := by
    intro g hg
    rcases hn with ⟨h1, rfl, rfl⟩ | ⟨h1, rfl, rfl⟩
    · have := h.hmost g (by omega); omega
    · have := h.hfirst g hg; omega
  have b4 : f ≤ hf' := by have := h.ord; have := h.hle; omega
  refine ⟨a1, a2, a3, a4, ?_, ?_⟩
  · rcases hb with ⟨h1, rfl, rfl, rfl⟩ | ⟨h1, rfl, rfl, rfl⟩
    · refine ⟨a1, by omega, a2, fun f' u' g1 g2 => ?_, fun f' u' g1 g2 g3 => ?_⟩
      · by_cases eu : u' = k + 1
        · subst eu; exact a3 f' g1
        · have := h.best.most f' u' g1 (by omega); omega
      · by_cases eu : u' = k + 1
        · subst eu; exact a4 f' (by omega)
        · have := h.best.most f' u' g1 (by omega); omega
    · refine ⟨h.best.le, by have := h.best.lt; omega, h.best.eq, fun f' u' g1 g2 => ?_, fun f' u' g1 g2 g3 => ?_⟩
      · by_cases eu : u' = k + 1
        · subst eu; have := a3 f' g1; omega
        · exact h.best.most f' u' g1 (by omega)
      · by_cases eu : u' = k + 1
        · subst eu
          have hu := h.best.lt
          have := a4 f' (by omega)
          omega
        · exact h.best.first f' u' g1 (by omega) g3
  · rcases hb with ⟨h1, rfl, rfl, rfl⟩ | ⟨h1, rfl, rfl, rfl⟩ <;> omega

theorem wins_ex (zs : List Int) (al : Int) (k : Nat) (hk : k < zs.length) : ∃ hf hs f u m, Wins zs al k hf hs f u m := by
  induction k with
  | zero =>
    obtain ⟨x, hx⟩ : ∃ x, zs[0]? = some x := ⟨_, List.getElem?_eq_getElem hk⟩
    exact ⟨_, _, _, _, _, wins_zero zs al x hx⟩
  | succ k ih =>
    obtain ⟨hf, hs, f, u, m, h⟩ := ih (by omega)
    obtain ⟨x, hx⟩ : ∃ x, zs[k + 1]? = some x := ⟨_, List.getElem?_eq_getElem hk⟩
    by_cases c : hs < 0
    · by_cases d : m < x - al
      · exact ⟨_, _, _, _, _, wins_step h hx _ _ (.inl ⟨c, rfl, rfl⟩) _ _ _ (.inl ⟨d, rfl, rfl, rfl⟩)⟩
      · exact ⟨_, _, _, _, _, wins_step h hx _ _ (.inl ⟨c, rfl, rfl⟩) _ _ _ (.inr ⟨by omega, rfl, rfl, rfl⟩)⟩
    · by_cases d : m < hs + (x - al)
      · exact ⟨_, _, _, _, _, wins_step h hx _ _ (.inr ⟨by omega, rfl, rfl⟩) _ _ _ (.inl ⟨d, rfl, rfl, rfl⟩)⟩
      · exact ⟨_, _, _, _, _, wins_step h hx _ _ (.inr ⟨by omega, rfl, rfl⟩) _ _ _ (.inr ⟨by omega, rfl, rfl, rfl⟩)⟩

theorem best_ex (zs : List Int) (al : Int) (h : 0 < zs.length) : ∃ f u m, IsBest zs al zs.length f u m := by
  obtain ⟨hf, hs, f, u, m, w⟩ := wins_ex zs al (zs.length - 1) (by omega)
  have := w.best
  rw [Nat.sub_add_cancel h] at this
  exact ⟨f, u, m, this⟩

/-- What a search by halves for the first number without a property finds. -/
inductive Srch (f : Int → Bool) : Int → Int → Int → Prop
  | done (a : Int) : Srch f a a a
  | yes {a b r : Int} (h : a < b) (hf : f ((a + b) / 2) = true) (k : Srch f ((a + b) / 2 + 1) b r) : Srch f a b r
  | no {a b r : Int} (h : a < b) (hf : f ((a + b) / 2) = false) (k : Srch f a ((a + b) / 2) r) : Srch f a b r

theorem srch_ex (f : Int → Bool) (n : Nat) : ∀ a b : Int, a ≤ b → (b - a).toNat ≤ n → ∃ r, Srch f a b r := by
  induction n with
  | zero => intro a b h1 h2; obtain rfl : a = b := by omega
            exact ⟨a, .done a⟩
  | succ n ih =>
    intro a b h1 h2
    by_cases e : a = b
    · subst e; exact ⟨a, .done a⟩
    · cases hf : f ((a + b) / 2) with
      | true => obtain ⟨r, hr⟩ := ih ((a + b) / 2 + 1) b (by omega) (by omega)
                exact ⟨r, .yes (by omega) hf hr⟩
      | false => obtain ⟨r, hr⟩ := ih a ((a + b) / 2) (by omega) (by omega)
                 exact ⟨r, .no (by omega) hf hr⟩

theorem Srch.range {f : Int → Bool} {a b r : Int} (h : Srch f a b r) : a ≤ r ∧ r ≤ b := by
  induction h with
  | done a => omega
  | yes h _ _ ih => omega
  | no h _ _ ih => omega

theorem Srch.edge {f : Int → Bool} {a b r : Int} (h : Srch f a b r) (ha : ∀ c, a = c + 1 → 0 ≤ c → f c = true) (hb : f b = false) : f r = false ∧ ∀ c, r = c + 1 → 0 ≤ c → f c = true := by
  induction h with
  | done a => exact ⟨hb, ha⟩
  | @yes a b r h hf _ ih => exact ih (fun c e _ => by rw [show c = (a + b) / 2 by omega]; exact hf) hb
  | no h hf _ ih => exact ih ha hf

theorem Srch.step {f : Int → Bool} {a b r : Int} (h : Srch f a b r) (hlt : a < b) : (f ((a + b) / 2) = true ∧ Srch f ((a + b) / 2 + 1) b r) ∨ (f ((a + b) / 2) = false ∧ Srch f a ((a + b) / 2) r) := by
  cases h with
  | done a => omega
  | yes _ hf k => exact .inl ⟨hf, k⟩
  | no _ hf k => exact .inr ⟨hf, k⟩

theorem Srch.last {f : Int → Bool} {a r : Int} (h : Srch f a a r) : r = a := by have := h.range; omega

/-- Whether there is an alarm with an allowance. -/
noncomputable def alarmB (zs : List Int) (lim al : Int) : Bool := decide (∃ i, i < zs.length ∧ lim < sumAt zs al (i + 1))
theorem alarmB_of {zs : List Int} {al lim : Int} {f a : Int} {b : Bool} (h : IsAlarm zs al lim f a b) : alarmB zs lim al = b := by
  unfold alarmB
  cases h with
  | calm h => simp; exact fun i hi => h i hi
  | raised i hi h hb => simp; exact ⟨i, hi, h⟩

theorem sumAt_all {zs : List Int} (hb : AllIn (-1000000) 1000000 zs) (k : Nat) (hk : k ≤ zs.length) : sumAt zs 1000000 k = 0 := by
  induction k with
  | zero => rfl
  | succ k ih =>
    obtain ⟨x, hx⟩ : ∃ x, zs[k]? = some x := ⟨_, List.getElem?_eq_getElem (by omega)⟩
    have := hb.at hx
    rw [sumAt_succ hx, ih (by omega)]
    split <;> omega

theorem alarmB_all {zs : List Int} (hb : AllIn (-1000000) 1000000 zs) {lim : Int} (hl : 0 ≤ lim) : alarmB zs lim 1000000 = false := by
  unfold alarmB
  simp
  intro i hi
  rw [sumAt_all hb (i + 1) (by omega)]
  exact hl
end Go.Proofs.YtcmocilojloolaaDoor
