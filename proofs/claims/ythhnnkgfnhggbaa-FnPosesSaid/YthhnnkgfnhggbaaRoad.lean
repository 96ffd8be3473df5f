/- Poses of which each is the next one of the one before, and the merged curves between them. -/
import Derived.Test.YthhnnkgfnhggbaaSpecPos
import Derived.Test.YthhnnkgfnhggbaaMerge
import Derived.Test.YthhnnkgfnhggbaaImplPos
namespace Go.Proofs.Ythhnnkgfnhggbaa
open Go.ChangeShapes Go.WideShapes Go.ChangeAt Go.RowKit
set_option linter.unusedVariables false
set_option linter.unusedSimpArgs false

def dif (a b : Ps) : Cv := ⟨1, b.y - a.y, b.p - a.p⟩
def difs (xs : List Ps) : List Cv := List.zipWith dif xs xs.tail
theorem difs_get {xs : List Ps} {i : Nat} {a b : Ps} (ha : xs[i]? = some a) (hb : xs[i + 1]? = some b) : (difs xs)[i]? = some (dif a b) := by
  unfold difs
  rw [List.getElem?_zipWith, ha, List.getElem?_tail, hb]
theorem difs_len (xs : List Ps) : (difs xs).length = xs.length - 1 := by
  simp only [difs, List.length_zipWith, List.length_tail]
  omega
theorem difs_succ {xs : List Ps} {i : Nat} {a b : Ps} (ha : xs[i]? = some a) (hb : xs[i + 1]? = some b) : (difs xs).take (i + 1) = (difs xs).take i ++ [dif a b] := by
  rw [List.take_add_one, difs_get ha hb]
  rfl
theorem difs_mem {xs : List Ps} {c : Cv} (h : c ∈ difs xs) : ∃ i a b, xs[i]? = some a ∧ xs[i + 1]? = some b ∧ c = dif a b := by
  obtain ⟨i, hi⟩ := List.mem_iff_getElem?.1 h
  have hl : i < (difs xs).length := (List.getElem?_eq_some_iff.1 hi).1
  rw [difs_len] at hl
  obtain ⟨a, ha⟩ : ∃ a, xs[i]? = some a := ⟨_, List.getElem?_eq_getElem (by omega)⟩
  obtain ⟨b, hb⟩ : ∃ a, xs[i + 1]? = some a := ⟨_, List.getElem?_eq_getElem (by omega)⟩
  rw [difs_get ha hb] at hi
  exact ⟨i, a, b, ha, hb, (Option.some.inj hi).symm⟩
theorem difs_one {xs : List Ps} : ∀ c ∈ difs xs, c.r = 1 := by
  intro c h
  obtain ⟨i, a, b, _, _, rfl⟩ := difs_mem h
  rfl

def StepOk (a b : Ps) : Prop := OkTurn (b.y - a.y) ∧ OkTurn (b.p - a.p) ∧ stepP a (b.y - a.y) (b.p - a.p) = b
/-- The first k of the poses are valid, and each is the next one of the one before. -/
def Road (xs : List Ps) (k : Nat) : Prop := (∀ j x, j < k → xs[j]? = some x → OkP x) ∧ ∀ j a b, j + 1 < k → xs[j]? = some a → xs[j + 1]? = some b → StepOk a b

theorem Road.zero (xs : List Ps) : Road xs 0 := ⟨fun j x h => by omega, fun j a b h => by omega⟩
theorem Road.one {xs : List Ps} {x : Ps} (h : xs[0]? = some x) (hx : OkP x) : Road xs 1 :=
  ⟨fun j y hj hy => (by
    obtain rfl : j = 0 := by omega
    rw [h] at hy
    cases hy
    exact hx), fun j a b h => (by omega)⟩
theorem Road.next {xs : List Ps} {k : Nat} {a b : Ps} (h : Road xs (k + 1)) (ha : xs[k]? = some a) (hb : xs[k + 1]? = some b) (ho : OkP b) (hs : StepOk a b) : Road xs (k + 2) := by
  refine ⟨fun j x hj hx => ?_, fun j c d hj hc hd => ?_⟩
  · by_cases e : j = k + 1
    · subst e; rw [hb] at hx; cases hx; exact ho
    · exact h.1 j x (by omega) hx
  · by_cases e : j = k
    · subst e; rw [ha] at hc; rw [hb] at hd; cases hc; cases hd; exact hs
    · exact h.2 j c d (by omega) hc hd
theorem Road.less {xs : List Ps} {k l : Nat} (h : Road xs k) (hl : l ≤ k) : Road xs l := ⟨fun j x hj => h.1 j x (by omega), fun j a b hj => h.2 j a b (by omega)⟩

theorem poseN_difs {xs : List Ps} {n : Nat} {x0 : Ps} (h : Road xs n) (h0 : xs[0]? = some x0) : ∀ i x, i < n → xs[i]? = some x → poseN x0 ((difs xs).take i) = x := by
  intro i
  induction i with
  | zero => intro x _ hx; rw [h0] at hx; cases hx; rfl
  | succ i ih =>
    intro x hi hx
    have hl : i + 1 < xs.length := (List.getElem?_eq_some_iff.1 hx).1
    obtain ⟨a, ha⟩ : ∃ a, xs[i]? = some a := ⟨_, List.getElem?_eq_getElem (by omega)⟩
    rw [poseN_succ x0 (difs xs) i (dif a x) (difs_get ha hx), ih a (by omega) ha]
    exact (h.2 i a x hi ha hx).2.2

theorem turnsC_one (cs : List Cv) (h : ∀ c ∈ cs, c.r = 1) : turnsC cs = cs := by
  induction cs with
  | nil => rfl
  | cons c cs ih =>
    have h1 := h c (by simp)
    have h2 := ih fun d hd => h d (by simp [hd])
    unfold turnsC at h2 ⊢
    rw [List.flatMap_cons, h2, h1]
    cases c
    simp only at h1
    subst h1
    rfl

theorem turnsC_mergeOne (out : List Cv) (c : Cv) (h : ∀ d ∈ out, 1 ≤ d.r) (hc : 1 ≤ c.r) : turnsC (mergeOne out c) = turnsC out ++ turnsC [c] := by
  unfold mergeOne
  split
  · rename_i l e
    have hne : out ≠ [] := by intro h0; rw [h0] at e; simp at e
    have e2 : out = out.dropLast ++ [l] := by
      have := List.dropLast_concat_getLast hne
      rw [List.getLast?_eq_some_getLast hne] at e
      rw [← Option.some.inj e]
      exact this.symm
    have hl : 1 ≤ l.r := h l (List.mem_of_getLast? e)
    split
    · rename_i hk
      conv => rhs; rw [e2]
      rw [turnsC_append, turnsC_append, List.append_assoc]
      congr 1
      simp only [turnsC, List.flatMap_cons, List.flatMap_nil, List.append_nil]
      rw [← hk.1, ← hk.2, show (l.r + c.r).toNat = l.r.toNat + c.r.toNat by omega, ← List.replicate_append_replicate]
    · rw [turnsC_append]
  · rename_i e
    rw [List.getLast?_eq_none_iff] at e
    subst e
    rfl
theorem turnsC_merge (cs : List Cv) (h : ∀ d ∈ cs, 1 ≤ d.r) : turnsC (mergeL cs) = turnsC cs := by
  unfold mergeL
  suffices hs : ∀ out : List Cv, (∀ d ∈ out, 1 ≤ d.r) → turnsC (cs.foldl mergeOne out) = turnsC out ++ turnsC cs by simpa [turnsC] using hs [] (by simp)
  induction cs with
  | nil => intro out _; simp [turnsC]
  | cons c cs ih =>
    intro out ho
    rw [List.foldl_cons, ih (fun d hd => h d (by simp [hd])) _ (mergeOne_pos out c ho (h c (by simp))), turnsC_mergeOne out c ho (h c (by simp)), List.append_assoc, ← turnsC_append]
    rfl
theorem mergeOne_turn (out : List Cv) (c : Cv) (h : ∀ d ∈ out, OkTurn d.b ∧ OkTurn d.s) (hc : OkTurn c.b ∧ OkTurn c.s) : ∀ d ∈ mergeOne out c, OkTurn d.b ∧ OkTurn d.s := by
  unfold mergeOne
  split
  · rename_i l e
    split
    · intro d hd
      rcases List.mem_append.1 hd with hd | hd
      · exact h d (List.dropLast_subset _ hd)
      · simp at hd
        subst hd
        exact h l (List.mem_of_getLast? e)
    · intro d hd
      rcases List.mem_append.1 hd with hd | hd
      · exact h d hd
      · simp at hd
        subst hd
        exact hc
  · intro d hd
    simp at hd
    subst hd
    exact hc
theorem mergeL_turn (cs : List Cv) (h : ∀ d ∈ cs, OkTurn d.b ∧ OkTurn d.s) : ∀ d ∈ mergeL cs, OkTurn d.b ∧ OkTurn d.s := by
  unfold mergeL
  suffices hs : ∀ out : List Cv, (∀ d ∈ out, OkTurn d.b ∧ OkTurn d.s) → ∀ d ∈ cs.foldl mergeOne out, OkTurn d.b ∧ OkTurn d.s from hs [] (by simp)
  induction cs with
  | nil => intro out ho; exact ho
  | cons c cs ih =>
    intro out ho
    exact ih (fun d hd => h d (by simp [hd])) _ (mergeOne_turn out c ho (h c (by simp)))
theorem sumR_one (cs : List Cv) (h : ∀ c ∈ cs, c.r = 1) : sumR cs = cs.length := by
  induction cs with
  | nil => rfl
  | cons c cs ih =>
    have h1 := h c (by simp)
    have h2 := ih fun d hd => h d (by simp [hd])
    simp only [sumR, List.length_cons, h1, h2]
    omega

/-- Curves that follow from a road are all well but for their number. -/
theorem road_cv {xs : List Ps} (hr : Road xs xs.length) (h2 : 2 ≤ xs.length) (h1 : xs.length ≤ 61) : (∀ c ∈ mergeL (difs xs), OkCv c) ∧ sumR (mergeL (difs xs)) = xs.length - 1 := by
  have hp : ∀ d ∈ difs xs, 1 ≤ d.r := fun d hd => by rw [difs_one d hd]; omega
  have hs : sumR (mergeL (difs xs)) = ((xs.length - 1 : Nat) : Int) := by rw [mergeL_sum, sumR_one _ difs_one, difs_len]
  have ht : ∀ d ∈ difs xs, OkTurn d.b ∧ OkTurn d.s := by
    intro d hd
    obtain ⟨i, a, b, ha, hb, rfl⟩ := difs_mem hd
    have hl : i + 1 < xs.length := (List.getElem?_eq_some_iff.1 hb).1
    have := hr.2 i a b hl ha hb
    exact ⟨this.1, this.2.1⟩
  refine ⟨fun c hc => ⟨⟨mergeL_pos _ hp c hc, ?_⟩, mergeL_turn _ ht c hc⟩, ?_⟩
  · have := sumR_mem' _ (mergeL_pos _ hp) c hc
    omega
  · omega

theorem road_ok {xs : List Ps} {x0 : Ps} (h0 : xs[0]? = some x0) (hr : Road xs xs.length) (h2 : 2 ≤ xs.length) (h1 : xs.length ≤ 61) : OkA x0 (mergeL (difs xs)) ↔ (mergeL (difs xs)).length ≤ 8 := by
  obtain ⟨hc, hs⟩ := road_cv hr h2 h1
  have hp : ∀ d ∈ difs xs, 1 ≤ d.r := fun d hd => by rw [difs_one d hd]; omega
  have ht : turnsC (mergeL (difs xs)) = difs xs := by rw [turnsC_merge _ hp, turnsC_one _ difs_one]
  rw [okA_iff]
  constructor
  · rintro ⟨⟨⟨_, h⟩, _⟩, _⟩; omega
  · intro h8
    refine ⟨⟨⟨?_, by omega⟩, hc, by omega⟩, ?_⟩
    · by_cases h : (mergeL (difs xs)).length = 0
      · rw [List.eq_nil_of_length_eq_zero h] at hs
        simp only [sumR] at hs
        omega
      · omega
    · intro y hy
      obtain ⟨i, hi⟩ := List.mem_iff_getElem?.1 hy
      have hl : i < (allP x0 (mergeL (difs xs))).length := (List.getElem?_eq_some_iff.1 hi).1
      rw [allP_length, ht, difs_len] at hl
      obtain ⟨x, hx⟩ : ∃ a, xs[i]? = some a := ⟨_, List.getElem?_eq_getElem (by omega)⟩
      rw [allP_get _ _ hc i (by rw [ht, difs_len]; omega), ht, poseN_difs hr h0 i x (by omega) hx] at hi
      rw [← Option.some.inj hi]
      exact hr.1 i x (by omega) hx

end Go.Proofs.Ythhnnkgfnhggbaa
