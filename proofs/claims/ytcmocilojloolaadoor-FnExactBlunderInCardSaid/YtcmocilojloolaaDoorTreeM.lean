/- Trees of sights: what the specification and the program compute, and that these are alike. Pure. -/
import Derived.Test.YtcmocilojloolaaDoorSights
import Derived.Test.YtcmocilojloolaaDoorlinks
namespace Go.Proofs.YtcmocilojloolaaDoor
open Go.ChangeShapes Go.WideShapes Go.ChangeAt Go.RowKit
set_option linter.unusedVariables false
set_option linter.unusedSimpArgs false

/-- The specification's state: the least point connected with each point, its height from there, the sights that were chosen. -/
structure Tr where
  p : List Int
  h : List Int
  o : List Int

def trA (s : Tr) (x : St) : Int := s.p.getD x.f.toNat 0
def trB (s : Tr) (x : St) : Int := s.p.getD x.t.toNat 0
def trL (s : Tr) (x : St) : Int := if trB s x < trA s x then -(s.h.getD x.f.toNat 0 + x.r - s.h.getD x.t.toNat 0) else s.h.getD x.f.toNat 0 + x.r - s.h.getD x.t.toNat 0
def pUp (m k : Int) (ps : List Int) : List Int := ps.map fun q => if q = m then k else q
def hUp (m l : Int) (ps hs : List Int) : List Int := List.zipWith (fun q h => if q = m then h + l else h) ps hs

def trStep (s : Tr) (i : Nat) (x : St) : Tr :=
  if trA s x = trB s x then s else
  ⟨pUp (max (trA s x) (trB s x)) (min (trA s x) (trB s x)) s.p, hUp (max (trA s x) (trB s x)) (trL s x) s.p s.h, s.o ++ [(i : Int)]⟩

def trInit (n : Nat) : Tr := ⟨(List.range n).map Int.ofNat, List.replicate n 0, []⟩
def trTo (n : Nat) (xs : List St) : Nat → Tr
  | 0 => trInit n
  | i + 1 => match xs[i]? with
    | some x => trStep (trTo n xs i) i x
    | none => trTo n xs i

def tb : Nat → Int
  | 0 => 0
  | i + 1 => 3 * tb i + 100
theorem tb_nonneg (i : Nat) : 0 ≤ tb i := by induction i with | zero => simp [tb] | succ i ih => simp only [tb]; omega

/-- A sight of a survey of n points. -/
structure OkSt (n : Nat) (x : St) : Prop where
  f0 : 0 ≤ x.f
  f1 : x.f < n
  t0 : 0 ≤ x.t
  t1 : x.t < n
  ne : x.f ≠ x.t
  r0 : -100 ≤ x.r
  r1 : x.r ≤ 100
  v0 : 1 ≤ x.v
  v1 : x.v ≤ 3

structure TrOk (n : Nat) (M : Int) (s : Tr) : Prop where
  lp : s.p.length = n
  lh : s.h.length = n
  lo : ∀ k, k < n → 0 ≤ s.p.getD k 0
  up : ∀ k, k < n → s.p.getD k 0 ≤ k
  h0 : s.h.getD 0 0 = 0
  b0 : ∀ k, k < n → -M ≤ s.h.getD k 0
  b1 : ∀ k, k < n → s.h.getD k 0 ≤ M

theorem pUp_len (m k : Int) (ps : List Int) : (pUp m k ps).length = ps.length := by simp [pUp]
theorem hUp_len (m l : Int) (ps hs : List Int) (h : ps.length = hs.length) : (hUp m l ps hs).length = ps.length := by simp [hUp, h]
theorem pUp_get (m k : Int) (ps : List Int) (i : Nat) (h : i < ps.length) : (pUp m k ps).getD i 0 = if ps.getD i 0 = m then k else ps.getD i 0 := by
  simp [pUp, h]
theorem hUp_get (m l : Int) (ps hs : List Int) (i : Nat) (h : i < ps.length) (h' : i < hs.length) : (hUp m l ps hs).getD i 0 = if ps.getD i 0 = m then hs.getD i 0 + l else hs.getD i 0 := by
  have e : (List.zipWith (fun q h => if q = m then h + l else h) ps hs)[i]? = some (if ps[i] = m then hs[i] + l else hs[i]) := by
    rw [List.getElem?_zipWith]; simp [h, h']
  simp [hUp, e, h, h']

theorem trInit_ok (n : Nat) : TrOk n 0 (trInit n) := by
  constructor <;> simp [trInit]
  · intro k hk
    simp [hk]
  · intro k hk
    simp [hk]
  · by_cases h : n = 0
    · simp [h]
    · simp [show 0 < n by omega]
  · intro k hk; simp [hk]
  · intro k hk; simp [hk]

theorem trStep_ok {n : Nat} {M : Int} {s : Tr} (hM : 0 ≤ M) (h : TrOk n M s) (i : Nat) (x : St) (hx : OkSt n x) : TrOk n (3 * M + 100) (trStep s i x) := by
  unfold trStep
  split
  · exact ⟨h.lp, h.lh, h.lo, h.up, h.h0, fun k hk => by have := h.b0 k hk; omega, fun k hk => by have := h.b1 k hk; omega⟩
  · rename_i hne
    obtain ⟨f0, f1, t0, t1, ne, r0, r1, v0, v1⟩ := hx
    have lA := h.lo x.f.toNat (by omega)
    have uA := h.up x.f.toNat (by omega)
    have lB := h.lo x.t.toNat (by omega)
    have uB := h.up x.t.toNat (by omega)
    have a0 := h.b0 x.f.toNat (by omega)
    have a1 := h.b1 x.f.toNat (by omega)
    have c0 := h.b0 x.t.toNat (by omega)
    have c1 := h.b1 x.t.toNat (by omega)
    have hl := h.lp
    have hl' := h.lh
    have bl : -(2 * M + 100) ≤ trL s x ∧ trL s x ≤ 2 * M + 100 := by
      unfold trL; split <;> omega
    have mm : 0 ≤ min (trA s x) (trB s x) ∧ min (trA s x) (trB s x) < max (trA s x) (trB s x) := by
      unfold trA trB at *; omega
    constructor
    · simp only [pUp_len]; exact hl
    · simp only [hUp_len _ _ _ _ (hl.trans hl'.symm)]; exact hl
    · intro k hk
      simp only
      rw [pUp_get _ _ _ _ (by omega)]
      have := h.lo k hk
      split <;> omega
    · intro k hk
      simp only
      rw [pUp_get _ _ _ _ (by omega)]
      have := h.up k hk
      split <;> omega
    · simp only
      by_cases hn : n = 0
      · omega
      rw [hUp_get _ _ _ _ _ (by omega) (by omega)]
      have := h.up 0 (by omega)
      rw [if_neg (by omega)]
      exact h.h0
    · intro k hk
      simp only
      rw [hUp_get _ _ _ _ _ (by omega) (by omega)]
      have := h.b0 k hk
      split <;> omega
    · intro k hk
      simp only
      rw [hUp_get _ _ _ _ _ (by omega) (by omega)]
      have := h.b1 k hk
      split <;> omega

theorem trTo_ok {n : Nat} {xs : List St} (hx : ∀ x ∈ xs, OkSt n x) (i : Nat) : TrOk n (tb i) (trTo n xs i) := by
  induction i with
  | zero => exact trInit_ok n
  | succ i ih =>
    simp only [trTo, tb]
    split
    · rename_i x h
      exact trStep_ok (tb_nonneg i) ih i x (hx x (List.mem_of_getElem? h))
    · have := tb_nonneg i
      exact ⟨ih.lp, ih.lh, ih.lo, ih.up, ih.h0, fun k hk => by have := ih.b0 k hk; omega, fun k hk => by have := ih.b1 k hk; omega⟩

theorem trTo_succ {n : Nat} {xs : List St} {i : Nat} {x : St} (h : xs[i]? = some x) : trTo n xs (i + 1) = trStep (trTo n xs i) i x := by
  simp only [trTo, h]

/-- Whether all points are connected. -/
def trAll (s : Tr) : Bool := s.p.all (· == 0)

/-- A forest: each link leads to another point of its group, nearer to the group's point. -/
structure Forest (n : Nat) (g : List Lk) (R : Nat → Nat) (S : Nat → Int) (D : Nat → Nat) : Prop where
  len : g.length = n
  lt : ∀ p, p < n → R p < n
  idem : ∀ p, p < n → R (R p) = R p
  zero : ∀ p, p < n → R p = p → D p = 0 ∧ S p = 0 ∧ g[p]? = some ⟨p, 0⟩
  step : ∀ p, p < n → R p ≠ p → ∃ q d, q < n ∧ q ≠ p ∧ g[p]? = some ⟨(q : Nat), d⟩ ∧ R q = R p ∧ S p = d + S q ∧ D q < D p

theorem Forest.short {n : Nat} {g : List Lk} {R : Nat → Nat} {S : Nat → Int} {D : Nat → Nat} (h : Forest n g R S D) (p : Nat) (hp : p < n) (hr : R p ≠ p) : Forest n (g.set p ⟨R p, S p⟩) R S D := by
  refine ⟨by simp [h.len], h.lt, h.idem, ?_, ?_⟩
  · intro k hk hr'
    obtain ⟨h1, h2, h3⟩ := h.zero k hk hr'
    refine ⟨h1, h2, ?_⟩
    rw [List.getElem?_set_ne (by intro e; subst e; exact hr hr')]
    exact h3
  · intro k hk hr'
    by_cases e : p = k
    · subst e
      have z := h.zero (R p) (h.lt p hp) (h.idem p hp)
      obtain ⟨q, d, _, _, _, _, _, hD⟩ := h.step p hp hr
      exact ⟨R p, S p, h.lt p hp, hr, by rw [List.getElem?_set_self (by rw [h.len]; exact hp)], h.idem p hp, by rw [z.2.1]; omega, by rw [z.1]; omega⟩
    · rw [List.getElem?_set_ne e]
      exact h.step k hk hr'

def rJoin (R : Nat → Nat) (f t : Nat) (p : Nat) : Nat := if R p = R t then R f else R p
def sJoin (R : Nat → Nat) (S : Nat → Int) (f t : Nat) (r : Int) (p : Nat) : Int := if R p = R t then S p + (S f + r - S t) else S p
def dJoin (R : Nat → Nat) (D : Nat → Nat) (t : Nat) (p : Nat) : Nat := if R p = R t then D p + 1 else D p

theorem Forest.join {n : Nat} {g : List Lk} {R : Nat → Nat} {S : Nat → Int} {D : Nat → Nat} (h : Forest n g R S D) {f t : Nat} (r : Int) (hf : f < n) (ht : t < n) (hr : R f ≠ R t) :
    Forest n (g.set (R t) ⟨R f, S f + r - S t⟩) (rJoin R f t) (sJoin R S f t r) (dJoin R D t) := by
  have iF := h.idem f hf
  have iT := h.idem t ht
  refine ⟨by simp [h.len], ?_, ?_, ?_, ?_⟩
  · intro p hp
    unfold rJoin
    split
    · exact h.lt f hf
    · exact h.lt p hp
  · intro p hp
    unfold rJoin
    have := h.idem p hp
    by_cases e : R p = R t
    · rw [if_pos e, iF, if_neg hr]
    · rw [if_neg e, this, if_neg e]
  · intro p hp
    unfold rJoin sJoin dJoin
    by_cases e : R p = R t
    · rw [if_pos e]
      intro e2
      subst e2
      rw [iF] at e
      exact absurd e hr
    · rw [if_neg e, if_neg e, if_neg e]
      intro e2
      obtain ⟨h1, h2, h3⟩ := h.zero p hp e2
      refine ⟨h1, h2, ?_⟩
      rw [List.getElem?_set_ne (by intro e3; apply e; rw [← e3, iT])]
      exact h3
  · intro p hp
    unfold rJoin sJoin dJoin
    by_cases e : R p = R t
    · rw [if_pos e, if_pos e, if_pos e]
      intro hne
      by_cases e2 : p = R t
      · subst e2
        have z := h.zero (R f) (h.lt f hf) iF
        have z' := h.zero (R t) (h.lt t ht) iT
        refine ⟨R f, S f + r - S t, h.lt f hf, hr, by rw [List.getElem?_set_self (by rw [h.len]; exact h.lt t ht)], ?_, ?_, ?_⟩
        · rw [iF, if_neg hr]
        · rw [iF, if_neg hr, z.2.1, z'.2.1]; omega
        · rw [iF, if_neg hr, z.1]; omega
      · obtain ⟨q, d, hq, hqp, h1, h2, h3, h4⟩ := h.step p hp (by omega)
        refine ⟨q, d, hq, hqp, by rw [List.getElem?_set_ne (Ne.symm e2)]; exact h1, ?_, ?_, ?_⟩
        · rw [if_pos (by omega)]
        · rw [if_pos (by omega)]; omega
        · rw [if_pos (by omega)]; omega
    · rw [if_neg e, if_neg e, if_neg e]
      intro hne
      obtain ⟨q, d, hq, hqp, h1, h2, h3, h4⟩ := h.step p hp hne
      refine ⟨q, d, hq, hqp, by rw [List.getElem?_set_ne (by intro e3; apply e; rw [← e3, iT])]; exact h1, ?_, ?_, ?_⟩
      · rw [if_neg (by omega)]; exact h2
      · rw [if_neg (by omega)]; exact h3
      · rw [if_neg (by omega)]; exact h4

/-- The groups of the program are the parts of the specification. -/
structure Alike (n : Nat) (s : Tr) (R : Nat → Nat) (S : Nat → Int) : Prop where
  same : ∀ p q, p < n → q < n → (R p = R q ↔ s.p.getD p 0 = s.p.getD q 0)
  rise : ∀ p q, p < n → q < n → R p = R q → S p - S q = s.h.getD p 0 - s.h.getD q 0

theorem Alike.none {n : Nat} {s : Tr} {R : Nat → Nat} {S : Nat → Int} (h : Alike n s R S) {i : Nat} {x : St} (hx : OkSt n x) (he : R x.f.toNat = R x.t.toNat) : trStep s i x = s := by
  have := (h.same x.f.toNat x.t.toNat (by have := hx.f0; have := hx.f1; omega) (by have := hx.t0; have := hx.t1; omega)).1 he
  exact if_pos this

theorem Alike.join {n : Nat} {s : Tr} {R : Nat → Nat} {S : Nat → Int} {M : Int} (h : Alike n s R S) (hs : TrOk n M s) (i : Nat) {x : St} (hx : OkSt n x) (he : R x.f.toNat ≠ R x.t.toNat) :
    Alike n (trStep s i x) (rJoin R x.f.toNat x.t.toNat) (sJoin R S x.f.toNat x.t.toNat x.r) ∧ (trStep s i x).o = s.o ++ [(i : Int)] := by
  obtain ⟨f0, f1, t0, t1, -, r0, r1, -, -⟩ := hx
  obtain ⟨f, hf⟩ : ∃ f, f = x.f.toNat := ⟨_, rfl⟩
  obtain ⟨t, ht⟩ : ∃ t, t = x.t.toNat := ⟨_, rfl⟩
  have lf : f < n := by omega
  have lt : t < n := by omega
  rw [← hf, ← ht] at he ⊢
  have hne : trA s x ≠ trB s x := by
    unfold trA trB
    rw [← hf, ← ht]
    exact fun e => he ((h.same f t lf lt).2 e)
  unfold trStep
  rw [if_neg hne]
  refine ⟨⟨?_, ?_⟩, rfl⟩
  · intro p q hp hq
    simp only
    rw [pUp_get _ _ _ _ (by rw [hs.lp]; exact hp), pUp_get _ _ _ _ (by rw [hs.lp]; exact hq)]
    unfold rJoin
    have e1 := h.same p q hp hq
    have e2 := h.same p t hp lt
    have e3 := h.same q t hq lt
    have e4 := h.same p f hp lf
    have e5 := h.same q f hq lf
    have dA : trA s x = s.p.getD f 0 := by unfold trA; rw [← hf]
    have dB : trB s x = s.p.getD t 0 := by unfold trB; rw [← ht]
    rw [dA, dB] at hne ⊢
    have hx : (max (s.p.getD f 0) (s.p.getD t 0) = s.p.getD f 0 ∧ min (s.p.getD f 0) (s.p.getD t 0) = s.p.getD t 0) ∨ (max (s.p.getD f 0) (s.p.getD t 0) = s.p.getD t 0 ∧ min (s.p.getD f 0) (s.p.getD t 0) = s.p.getD f 0) := by omega
    rcases hx with ⟨hx, hx'⟩ | ⟨hx, hx'⟩ <;> rw [hx, hx'] <;> grind
  · intro p q hp hq
    simp only
    rw [hUp_get _ _ _ _ _ (by rw [hs.lp]; exact hp) (by rw [hs.lh]; exact hp), hUp_get _ _ _ _ _ (by rw [hs.lp]; exact hq) (by rw [hs.lh]; exact hq)]
    unfold rJoin sJoin trL
    have e1 := h.same p q hp hq
    have e2 := h.same p t hp lt
    have e3 := h.same q t hq lt
    have e4 := h.same p f hp lf
    have e5 := h.same q f hq lf
    have g1 := h.rise p q hp hq
    have g2 := h.rise p t hp lt
    have g3 := h.rise q t hq lt
    have g4 := h.rise p f hp lf
    have g5 := h.rise q f hq lf
    have dA : trA s x = s.p.getD f 0 := by unfold trA; rw [← hf]
    have dB : trB s x = s.p.getD t 0 := by unfold trB; rw [← ht]
    rw [dA, dB] at hne ⊢
    rw [← hf, ← ht]
    have hx : (s.p.getD t 0 < s.p.getD f 0 ∧ max (s.p.getD f 0) (s.p.getD t 0) = s.p.getD f 0) ∨ (¬ s.p.getD t 0 < s.p.getD f 0 ∧ max (s.p.getD f 0) (s.p.getD t 0) = s.p.getD t 0) := by omega
    rcases hx with ⟨hx, hx'⟩ | ⟨hx, hx'⟩ <;> rw [hx'] <;> first | rw [if_pos hx] | rw [if_neg hx]
    all_goals grind

/-- How many points stand for their groups. -/
def roots (n : Nat) (R : Nat → Nat) : Nat := (List.range n).countP fun p => R p == p

theorem count_drop (n : Nat) (P Q : Nat → Bool) (k : Nat) (hk : k < n) (hP : P k = true) (hQ : ∀ p, p < n → Q p = (P p && !(p == k))) : (List.range n).countP P = (List.range n).countP Q + 1 := by
  induction n with
  | zero => omega
  | succ n ih =>
    rw [List.range_succ, List.countP_append, List.countP_append]
    by_cases e : k = n
    · subst e
      have e1 : (List.range k).countP P = (List.range k).countP Q := by
        apply List.countP_congr
        intro p hp
        have hp := List.mem_range.1 hp
        rw [hQ p (by omega)]
        simp; omega
      have e2 : Q k = false := by rw [hQ k (by omega)]; simp
      simp [e1, hP, e2]
    · have := ih (by omega) (fun p hp => hQ p (by omega))
      have e2 : Q n = P n := by rw [hQ n (by omega)]; simp; omega
      simp only [List.countP_singleton, this, e2]
      omega

theorem roots_join {n : Nat} {g : List Lk} {R : Nat → Nat} {S : Nat → Int} {D : Nat → Nat} (h : Forest n g R S D) {f t : Nat} (hf : f < n) (ht : t < n) (hr : R f ≠ R t) : roots n R = roots n (rJoin R f t) + 1 := by
  apply count_drop n _ _ (R t) (h.lt t ht) (by simp [h.idem t ht])
  intro p hp
  have iT := h.idem t ht
  have iF := h.idem f hf
  unfold rJoin
  by_cases e : R p = R t
  · rw [if_pos e]
    have : (R f == p) = false := by
      simp; intro e2; subst e2; exact hr (iF.symm.trans e)
    rw [this]
    simp
    intro e3
    omega
  · rw [if_neg e]
    have : (p == R t) = false := by simp; intro e2; subst e2; exact e iT
    rw [this]
    simp

theorem count_one (n : Nat) (P : Nat → Bool) : (List.range n).countP P ≤ 1 ↔ ∀ i j, i < n → j < n → P i = true → P j = true → i = j := by
  induction n with
  | zero => simp
  | succ n ih =>
    rw [List.range_succ, List.countP_append, List.countP_singleton]
    by_cases e : P n = true
    · rw [if_pos e]
      constructor
      · intro h i j hi hj pi pj
        have z : (List.range n).countP P = 0 := by omega
        rw [List.countP_eq_zero] at z
        have : ∀ i, i < n → P i = false := fun i hi => by simpa using z i (List.mem_range.2 hi)
        by_cases e1 : i = n
        · by_cases e2 : j = n
          · omega
          · have := this j (by omega); simp [this] at pj
        · have := this i (by omega); simp [this] at pi
      · intro h
        have : (List.range n).countP P = 0 := by
          rw [List.countP_eq_zero]
          intro a ha hp
          have ha := List.mem_range.1 ha
          have := h a n (by omega) (by omega) hp e
          omega
        omega
    · rw [if_neg e, Nat.add_zero, ih]
      constructor
      · intro h i j hi hj pi pj
        by_cases e1 : i = n
        · subst e1; exact absurd pi e
        · by_cases e2 : j = n
          · subst e2; exact absurd pj e
          · exact h i j (by omega) (by omega) pi pj
      · intro h i j hi hj pi pj
        exact h i j (by omega) (by omega) pi pj

theorem getD_all (xs : List Int) : xs.all (· == 0) = true ↔ ∀ k, k < xs.length → xs.getD k 0 = 0 := by
  rw [List.all_eq_true]
  constructor
  · intro h k hk
    have := h xs[k] (List.getElem_mem hk)
    simpa [hk] using this
  · intro h x hx
    obtain ⟨k, hk, rfl⟩ := List.mem_iff_getElem.1 hx
    have := h k hk
    simpa [hk] using this

theorem trAll_roots {n : Nat} {M : Int} {g : List Lk} {R : Nat → Nat} {S : Nat → Int} {D : Nat → Nat} {s : Tr} (h : Forest n g R S D) (ha : Alike n s R S) (hs : TrOk n M s) : trAll s = true ↔ roots n R ≤ 1 := by
  unfold trAll roots
  rw [getD_all, count_one, hs.lp]
  constructor
  · intro h0 i j hi hj ri rj
    simp at ri rj
    have := (ha.same i j hi hj).2 (by rw [h0 i hi, h0 j hj])
    omega
  · intro h0 k hk
    have z := hs.up 0 (by omega)
    have z' := hs.lo 0 (by omega)
    have e := h0 (R k) (R 0) (h.lt k hk) (h.lt 0 (by omega)) (by simp [h.idem k hk]) (by simp [h.idem 0 (by omega)])
    have := (ha.same k 0 hk (by omega)).1 e
    omega
end Go.Proofs.YtcmocilojloolaaDoor
