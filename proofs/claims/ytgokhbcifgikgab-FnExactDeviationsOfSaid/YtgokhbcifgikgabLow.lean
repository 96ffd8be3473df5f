/- Low points: what is reckoned. -/
import Derived.Test.YtgokhbcifgikgabPosesOf
import Derived.Test.YtgokhbcifgikgabInts
import Derived.Deep.AppendLies
namespace Go.Proofs.Ytgokhbcifgikgab
open Go.ChangeShapes Go.WideShapes Go.ChangeAt Go.RowKit
set_option linter.unusedVariables false
set_option linter.unusedSimpArgs false

/-- The heights from i on, up to e, are the same. -/
def Flat (h : Nat → Int) (i e : Nat) : Prop := ∀ j, i ≤ j → j < e → h j = h i
/-- Water gathers at i, as is seen by the first e poses. -/
def LowBy (h : Nat → Int) (n i : Nat) : Prop := 1 ≤ i ∧ h i < h (i - 1) ∧ ∃ e, i < e ∧ e < n ∧ Flat h i e ∧ h i < h e
/-- A rising list of numbers and what lies in it. -/
def Rising (P : Nat → Prop) (xs : List Int) : Prop := xs.Pairwise (· < ·) ∧ ∀ z, z ∈ xs ↔ ∃ i : Nat, z = (i : Int) ∧ P i

theorem rising_eq : ∀ {xs ys : List Int}, xs.Pairwise (· < ·) → ys.Pairwise (· < ·) → (∀ z, z ∈ xs ↔ z ∈ ys) → xs = ys
  | [], [], _, _, _ => rfl
  | [], y :: ys, _, _, h => absurd ((h y).mpr (by simp)) (by simp)
  | x :: xs, [], _, _, h => absurd ((h x).mp (by simp)) (by simp)
  | x :: xs, y :: ys, hx, hy, h => by
    have hx1 := List.pairwise_cons.1 hx
    have hy1 := List.pairwise_cons.1 hy
    have e : x = y := by
      rcases List.mem_cons.1 ((h x).mp (by simp)) with e | hm
      · exact e
      · rcases List.mem_cons.1 ((h y).mpr (by simp)) with e | hm'
        · exact e.symm
        · have := hy1.1 x hm
          have := hx1.1 y hm'
          omega
    subst e
    have : xs = ys := rising_eq hx1.2 hy1.2 fun z => by
      constructor
      · intro hz
        rcases List.mem_cons.1 ((h z).mp (by simp [hz])) with e | hm
        · have := hx1.1 z hz; omega
        · exact hm
      · intro hz
        rcases List.mem_cons.1 ((h z).mpr (by simp [hz])) with e | hm
        · have := hy1.1 z hz; omega
        · exact hm
    rw [this]
theorem Rising.same {P Q : Nat → Prop} {xs ys : List Int} (h : Rising P xs) (k : Rising Q ys) (hpq : ∀ i, P i ↔ Q i) : xs = ys :=
  rising_eq h.1 k.1 fun z => by
    rw [h.2, k.2]
    constructor
    · rintro ⟨i, e, hi⟩; exact ⟨i, e, (hpq i).mp hi⟩
    · rintro ⟨i, e, hi⟩; exact ⟨i, e, (hpq i).mpr hi⟩
theorem Rising.nil {P : Nat → Prop} (h : ∀ i, ¬ P i) : Rising P [] := ⟨List.Pairwise.nil, fun z => ⟨fun hz => (by simp at hz), fun ⟨i, _, hi⟩ => absurd hi (h i)⟩⟩
theorem Rising.snoc {P Q : Nat → Prop} {xs : List Int} (h : Rising P xs) (f : Nat) (hlt : ∀ i, P i → i < f) (hq : ∀ i, Q i ↔ P i ∨ i = f) : Rising Q (xs ++ [(f : Int)]) := by
  refine ⟨List.pairwise_append.2 ⟨h.1, by simp, ?_⟩, fun z => ?_⟩
  · intro a ha b hb
    obtain ⟨i, rfl, hi⟩ := (h.2 a).mp ha
    simp at hb
    subst hb
    have := hlt i hi
    omega
  · rw [List.mem_append, h.2]
    constructor
    · rintro (⟨i, e, hi⟩ | hz)
      · exact ⟨i, e, (hq i).mpr (.inl hi)⟩
      · simp at hz; exact ⟨f, hz, (hq f).mpr (.inr rfl)⟩
    · rintro ⟨i, e, hi⟩
      rcases (hq i).mp hi with hi | rfl
      · exact .inl ⟨i, e, hi⟩
      · exact .inr (by simp [e])
theorem Rising.iff {P Q : Nat → Prop} {xs : List Int} (h : Rising P xs) (hpq : ∀ i, Q i ↔ P i) : Rising Q xs :=
  ⟨h.1, fun z => by
    rw [h.2]
    constructor
    · rintro ⟨i, e, hi⟩; exact ⟨i, e, (hpq i).mpr hi⟩
    · rintro ⟨i, e, hi⟩; exact ⟨i, e, (hpq i).mp hi⟩⟩

/-- The specification's step: the first pose of another height stands at e, or there is none. -/
theorem low_at {h : Nat → Int} {n i e : Nat} (h1 : 1 ≤ i) (hf : Flat h i e) (hie : i < e) (hen : e ≤ n) (hstop : e = n ∨ ¬ h e = h i) : LowBy h n i ↔ e < n ∧ h i < h (i - 1) ∧ h i < h e := by
  constructor
  · rintro ⟨_, hd, e', h2, h3, hf', hu⟩
    have : e' = e := by
      rcases Nat.lt_trichotomy e' e with g | g | g
      · have := hf e' (by omega) g; omega
      · exact g
      · rcases hstop with g2 | g2
        · omega
        · exact absurd (hf' e (by omega) g) g2
    subst this
    exact ⟨h3, hd, hu⟩
  · rintro ⟨h2, h3, h4⟩
    exact ⟨h1, h3, e, hie, h2, hf, h4⟩

/-- Where the axis has fallen last, if it has not risen since; 0 if it hasn't. -/
def Fallen (h : Nat → Int) (i f : Nat) : Prop := (1 ≤ f → f < i ∧ h f < h (f - 1) ∧ Flat h f i) ∧ (f = 0 → ∀ j, 1 ≤ j → j < i → h j < h (j - 1) → ¬ Flat h j i)

theorem flat_succ {h : Nat → Int} {i e : Nat} (hie : i < e) (hf : Flat h i e) (hl : h e = h (e - 1)) : Flat h i (e + 1) := by
  intro j h1 h2
  rcases Nat.lt_or_ge j e with g | g
  · exact hf j h1 g
  · obtain rfl : j = e := by omega
    rw [hl]; exact hf (j - 1) (by omega) (by omega)
theorem flat_cut {h : Nat → Int} {i e : Nat} (hf : Flat h i (e + 1)) : Flat h i e := fun j h1 h2 => hf j h1 (by omega)
theorem flat_last {h : Nat → Int} {i e : Nat} (hie : i < e) (hf : Flat h i (e + 1)) : h e = h (e - 1) := by
  rw [hf e (by omega) (by omega), hf (e - 1) (by omega) (by omega)]

theorem lowBy_same {h : Nat → Int} {i j : Nat} (hn : ¬ (1 ≤ j ∧ j < i ∧ h j < h (j - 1) ∧ Flat h j i ∧ h j < h i)) : LowBy h (i + 1) j ↔ LowBy h i j := by
  constructor
  · rintro ⟨h1, h2, e, h3, h4, h5, h6⟩
    rcases Nat.lt_or_ge e i with g | g
    · exact ⟨h1, h2, e, h3, g, h5, h6⟩
    · obtain rfl : e = i := by omega
      exact absurd ⟨h1, h3, h2, h5, h6⟩ hn
  · rintro ⟨h1, h2, e, h3, h4, h5, h6⟩
    exact ⟨h1, h2, e, h3, by omega, h5, h6⟩

/-- The axis falls. -/
theorem fall_step {h : Nat → Int} {i f : Nat} {xs : List Int} (hi : 1 ≤ i) (hx : Rising (LowBy h i) xs) (hd : h i < h (i - 1)) : Rising (LowBy h (i + 1)) xs ∧ Fallen h (i + 1) i := by
  refine ⟨hx.iff fun j => lowBy_same ?_, ⟨fun _ => ⟨by omega, hd, fun j h1 h2 => by rw [show j = i by omega]⟩, fun h0 => by omega⟩⟩
  rintro ⟨h1, h2, h3, h4, h5⟩
  have := h4 (i - 1) (by omega) (by omega)
  omega
/-- The axis stays as high as it is. -/
theorem stay_step {h : Nat → Int} {i f : Nat} {xs : List Int} (hi : 1 ≤ i) (hx : Rising (LowBy h i) xs) (hf : Fallen h i f) (he : h i = h (i - 1)) : Rising (LowBy h (i + 1)) xs ∧ Fallen h (i + 1) f := by
  refine ⟨hx.iff fun j => lowBy_same ?_, ⟨fun h1 => ?_, fun h0 j h1 h2 h3 h4 => ?_⟩⟩
  · rintro ⟨h1, h2, h3, h4, h5⟩
    have := h4 (i - 1) (by omega) (by omega)
    omega
  · obtain ⟨h2, h3, h4⟩ := hf.1 h1
    exact ⟨by omega, h3, flat_succ h2 h4 he⟩
  · rcases Nat.lt_or_ge j i with g | g
    · exact hf.2 h0 j h1 g h3 (flat_cut h4)
    · obtain rfl : j = i := by omega
      omega
/-- The axis rises, but had not fallen. -/
theorem rise_none {h : Nat → Int} {i : Nat} {xs : List Int} (hi : 1 ≤ i) (hx : Rising (LowBy h i) xs) (hf : Fallen h i 0) (hu : h (i - 1) < h i) : Rising (LowBy h (i + 1)) xs ∧ Fallen h (i + 1) 0 := by
  refine ⟨hx.iff fun j => lowBy_same ?_, ⟨fun h1 => by omega, fun h0 j h1 h2 h3 h4 => ?_⟩⟩
  · rintro ⟨h1, h2, h3, h4, h5⟩
    exact hf.2 rfl j h1 h2 h3 h4
  · rcases Nat.lt_or_ge j i with g | g
    · have := flat_last g h4
      omega
    · obtain rfl : j = i := by omega
      omega
/-- The axis rises, and had fallen at f. -/
theorem rise_low {h : Nat → Int} {i f : Nat} {xs : List Int} (hi : 1 ≤ i) (hx : Rising (LowBy h i) xs) (hf : Fallen h i f) (hf1 : 1 ≤ f) (hu : h (i - 1) < h i) : Rising (LowBy h (i + 1)) (xs ++ [(f : Int)]) ∧ Fallen h (i + 1) 0 := by
  obtain ⟨h2, h3, h4⟩ := hf.1 hf1
  have hb : ∀ j, LowBy h i j → j < f := by
    rintro j ⟨k1, k2, e, k3, k4, k5, k6⟩
    rcases Nat.lt_trichotomy j f with g | g | g
    · exact g
    · subst g
      have := h4 e (by omega) (by omega)
      omega
    · have e1 := h4 j (by omega) (by omega)
      have e2 := h4 (j - 1) (by omega) (by omega)
      omega
  refine ⟨hx.snoc f hb fun j => ?_, ⟨fun h1 => by omega, fun h0 j h1 h2 h3 h4 => ?_⟩⟩
  · by_cases hj : j = f
    · subst hj
      constructor
      · exact fun _ => .inr rfl
      · intro _
        have := h4 (i - 1) (by omega) (by omega)
        exact ⟨hf1, h3, i, h2, by omega, h4, by omega⟩
    · rw [lowBy_same]
      · exact ⟨.inl, fun g => g.resolve_right hj⟩
      · rintro ⟨k1, k2, k3, k4, k5⟩
        rcases Nat.lt_trichotomy j f with g | g | g
        · have e1 := k4 f (by omega) (by omega)
          have e2 := k4 (f - 1) (by omega) (by omega)
          omega
        · exact hj g
        · have e1 := h4 j (by omega) (by omega)
          have e2 := h4 (j - 1) (by omega) (by omega)
          omega
  · rcases Nat.lt_or_ge j i with g | g
    · have := flat_last g h4
      omega
    · obtain rfl : j = i := by omega
      omega
end Go.Proofs.Ytgokhbcifgikgab
