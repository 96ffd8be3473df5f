/- Blockers: what the specification puts in and what the program sorts. -/
import Derived.Test.YthfmmlpbflfpaacSortY
import Derived.Test.YthfmmlpbflfpaacYardM
namespace Go.Proofs.Ythfmmlpbflfpaac
set_option linter.unusedVariables false
set_option linter.unusedSimpArgs false

/-- x put into a list in its place, once. -/
def putL : List Int → Int → List Int
  | [], x => [x]
  | y :: t, x => if x < y then x :: y :: t else if x = y then y :: t else y :: putL t x
theorem putL_lt {y x : Int} {t : List Int} (h : x < y) : putL (y :: t) x = x :: y :: t := by simp [putL, h]
theorem putL_eq {y : Int} {t : List Int} : putL (y :: t) y = y :: t := by simp [putL]
theorem putL_gt {y x : Int} {t : List Int} (h : y < x) : putL (y :: t) x = y :: putL t x := by
  simp only [putL]; rw [if_neg (by omega), if_neg (by omega)]
theorem putL_mem {t : List Int} {x z : Int} (h : z ∈ putL t x) : z = x ∨ z ∈ t := by
  induction t with
  | nil => simp [putL] at h; exact .inl h
  | cons y t ih =>
    simp only [putL] at h
    split at h
    · simpa using h
    · split at h
      · exact .inr h
      · rcases List.mem_cons.1 h with e | e
        · exact .inr (by rw [e]; simp)
        · rcases ih e with e | e
          · exact .inl e
          · exact .inr (List.mem_cons_of_mem _ e)
theorem putL_len (t : List Int) (x : Int) : (putL t x).length ≤ t.length + 1 := by
  induction t with
  | nil => simp [putL]
  | cons y t ih => simp only [putL]; split <;> (try split) <;> simp <;> omega
theorem putL_perm {t : List Int} {x : Int} (h : x ∉ t) : (putL t x).Perm (x :: t) := by
  induction t with
  | nil => exact List.Perm.refl _
  | cons y t ih =>
    simp only [List.mem_cons, not_or] at h
    simp only [putL]
    split
    · exact List.Perm.refl _
    · rw [if_neg h.1]
      exact ((ih h.2).cons y).trans (List.Perm.swap x y t)
theorem putL_sorted {t : List Int} {x : Int} (h : t.Pairwise (· ≤ ·)) : (putL t x).Pairwise (· ≤ ·) := by
  induction t with
  | nil => simp [putL]
  | cons y t ih =>
    obtain ⟨a, b⟩ := List.pairwise_cons.1 h
    simp only [putL]
    split
    · refine List.pairwise_cons.2 ⟨fun z hz => ?_, h⟩
      rcases List.mem_cons.1 hz with e | e
      · omega
      · have := a z e; omega
    · split
      · exact h
      · refine List.pairwise_cons.2 ⟨fun z hz => ?_, ih b⟩
        rcases putL_mem hz with e | e
        · omega
        · exact a z e
/-- All put in, one after another. -/
def putAll (L : List Int) : List Int := L.foldl putL []
theorem putAll_snoc (L : List Int) (x : Int) : putAll (L ++ [x]) = putL (putAll L) x := by simp [putAll, List.foldl_append]
theorem foldl_put (L : List Int) : ∀ acc : List Int, acc.Pairwise (· ≤ ·) → (acc ++ L).Nodup → (L.foldl putL acc).Pairwise (· ≤ ·) ∧ (L.foldl putL acc).Perm (acc ++ L) := by
  induction L with
  | nil => intro acc h _; simpa using h
  | cons x L ih =>
    intro acc h hn
    have hx : x ∉ acc := fun q => (List.nodup_append.1 hn).2.2 x q x (by simp) rfl
    have p := putL_perm hx
    have pp : (putL acc x ++ L).Perm (acc ++ x :: L) := (p.append_right L).trans (by simpa using (List.perm_middle (a := x) (l₁ := acc) (l₂ := L)).symm)
    obtain ⟨a, b⟩ := ih (putL acc x) (putL_sorted h) (pp.symm.nodup hn)
    exact ⟨a, b.trans pp⟩
theorem putAll_asc {L : List Int} (h : L.Nodup) : putAll L = asc L := by
  obtain ⟨a, b⟩ := foldl_put L [] List.Pairwise.nil (by simpa using h)
  exact List.Perm.eq_of_pairwise (le := (· ≤ ·)) (fun x y _ _ h1 h2 => by omega) a (asc_sorted L) ((b.trans (by simp)).trans (asc_perm L).symm)
theorem putAll_len (L : List Int) : (putAll L).length ≤ L.length := by
  have : ∀ acc : List Int, (L.foldl putL acc).length ≤ acc.length + L.length := by
    induction L with
    | nil => intro acc; simp
    | cons x L ih => intro acc; have := ih (putL acc x); have := putL_len acc x; simp only [List.foldl_cons, List.length_cons]; omega
  simpa [putAll] using this []

def low (t : List Int) (k : Nat) : Int := (t.take k).foldl min 100
theorem low_zero (t : List Int) : low t 0 = 100 := by simp [low]
theorem low_succ {t : List Int} {k : Nat} {x : Int} (h : t[k]? = some x) : low t (k + 1) = min (low t k) x := by
  unfold low; rw [List.take_add_one, h]; simp [List.foldl_append]
def blkTo (t : List Int) : Nat → List Int
  | 0 => []
  | k + 1 => match t[k]? with
    | some x => if low t k < x then blkTo t k ++ [x] else blkTo t k
    | none => blkTo t k
theorem blkTo_yes {t : List Int} {k : Nat} {x : Int} (h : t[k]? = some x) (g : low t k < x) : blkTo t (k + 1) = blkTo t k ++ [x] := by simp [blkTo, h, g]
theorem blkTo_no {t : List Int} {k : Nat} {x : Int} (h : t[k]? = some x) (g : ¬ low t k < x) : blkTo t (k + 1) = blkTo t k := by simp [blkTo, h, g]
theorem blkTo_sub (t : List Int) (k : Nat) : (blkTo t k).Sublist (t.take k) := by
  induction k with
  | zero => simp [blkTo]
  | succ k ih =>
    rw [List.take_add_one]
    cases h : t[k]? with
    | none => simp only [blkTo, h]; simpa using ih
    | some x =>
      by_cases g : low t k < x
      · rw [blkTo_yes h g]; simpa using ih.append (List.Sublist.refl [x])
      · rw [blkTo_no h g]; exact ih.trans (List.sublist_append_left _ _)
theorem blkTo_len (t : List Int) (k : Nat) : (blkTo t k).length ≤ k := by have := (blkTo_sub t k).length_le; rw [List.length_take] at this; omega
/-- The blockers of the first k stacks. -/
def blkS (xs : List (List Int)) (k : Nat) : List Int := (xs.take k).flatMap fun t => blkTo t t.length
theorem blkS_zero (xs : List (List Int)) : blkS xs 0 = [] := by simp [blkS]
theorem blkS_succ {xs : List (List Int)} {k : Nat} {t : List Int} (h : xs[k]? = some t) : blkS xs (k + 1) = blkS xs k ++ blkTo t t.length := by
  unfold blkS; rw [List.take_add_one, h]; simp [List.flatMap_append]
theorem blkS_sub (xs : List (List Int)) (k : Nat) : (blkS xs k).Sublist xs.flatten := by
  have h : ∀ ys : List (List Int), (ys.flatMap fun t => blkTo t t.length).Sublist ys.flatten := by
    intro ys
    induction ys with
    | nil => simp
    | cons t ys ih => simp only [List.flatMap_cons, List.flatten_cons]; exact ((blkTo_sub t t.length).trans (List.take_sublist _ _)).append ih
  exact (h _).trans (by
    have : (xs.take k).flatten.Sublist ((xs.take k).flatten ++ (xs.drop k).flatten) := List.sublist_append_left _ _
    rwa [← List.flatten_append, List.take_append_drop] at this)
theorem blk_all (xs : List (List Int)) : blkS xs xs.length = xs.flatMap fun t => blkTo t t.length := by unfold blkS; rw [List.take_length]
end Go.Proofs.Ythfmmlpbflfpaac
