/- Texts that are divided at a byte: what is said of lists of bytes alone. -/
import Derived.Test.YtkdecpnbbpmooacDoorTxMath
import Derived.Lib.Split
import Derived.Lib.IndexBytes
import Derived.Lib.IndexLaws
namespace Go.Proofs.YtkdecpnbbpmooacDoor
open Go.Lib
set_option linter.unusedVariables false
set_option linter.unusedSimpArgs false

/-- The words of a text, at each byte c. -/
def wordsL (c : UInt8) : List UInt8 → List (List UInt8)
  | [] => [[]]
  | b :: l => if b == c then [] :: wordsL c l else match wordsL c l with
    | [] => [[b]]
    | w :: ws => (b :: w) :: ws

theorem wordsL_ne (c : UInt8) (l : List UInt8) : wordsL c l ≠ [] := by
  cases l with
  | nil => simp [wordsL]
  | cons b l => unfold wordsL; split <;> (try simp); split <;> simp

theorem wordsL_len (c : UInt8) (l : List UInt8) : (wordsL c l).length ≤ l.length + 1 := by
  induction l with
  | nil => simp [wordsL]
  | cons b l ih =>
    unfold wordsL
    split
    · simp only [List.length_cons]; omega
    · split
      · simp
      · rename_i w ws h
        rw [h] at ih
        simp only [List.length_cons] at ih ⊢
        omega

theorem wordsL_miss (c : UInt8) (l : List UInt8) (h : indexByte l c = -1) : wordsL c l = [l] := by
  induction l with
  | nil => rfl
  | cons b l ih =>
    unfold indexByte at h
    unfold wordsL
    by_cases hb : (b == c) = true
    · rw [if_pos hb] at h; cases h
    · rw [if_neg hb] at h
      rw [if_neg hb]
      by_cases h1 : (indexByte l c == -1) = true
      · rw [ih (by simpa using h1)]
      · rw [if_neg h1] at h
        have := indexByte_ge l c
        have h2 : indexByte l c ≠ -1 := by simpa using h1
        omega

theorem wordsL_hit (c : UInt8) (l : List UInt8) : ∀ (o : Nat), indexByte l c = o → wordsL c l = l.take o :: wordsL c (l.drop (o + 1)) := by
  induction l with
  | nil => intro o h; simp [indexByte] at h
  | cons b l ih =>
    intro o h
    unfold indexByte at h
    by_cases hb : (b == c) = true
    · rw [if_pos hb] at h
      obtain rfl : o = 0 := by omega
      rw [wordsL, if_pos hb]
      simp
    · rw [if_neg hb] at h
      by_cases h1 : (indexByte l c == -1) = true
      · rw [if_pos h1] at h; omega
      · rw [if_neg h1] at h
        have h2 : indexByte l c ≠ -1 := by simpa using h1
        have h3 := indexByte_ge l c
        obtain ⟨q, rfl⟩ : ∃ q, o = q + 1 := ⟨o - 1, by omega⟩
        have e := ih q (by omega)
        rw [wordsL, if_neg hb, e]
        simp

theorem splitK_words (c : UInt8) : ∀ (k : Nat) (l : List UInt8), (wordsL c l).length ≤ k + 1 → splitK [c] 0 k l = wordsL c l := by
  intro k
  induction k with
  | zero =>
    intro l h
    by_cases hi : indexByte l c = -1
    · rw [wordsL_miss c l hi]; rfl
    · have := indexByte_ge l c
      obtain ⟨o, ho⟩ : ∃ o : Nat, indexByte l c = o := ⟨(indexByte l c).toNat, by omega⟩
      rw [wordsL_hit c l o ho] at h
      have := List.length_pos_iff.2 (wordsL_ne c (l.drop (o + 1)))
      simp only [List.length_cons] at h
      omega
  | succ k ih =>
    intro l h
    unfold splitK
    rw [index_one]
    by_cases hi : indexByte l c = -1
    · rw [if_pos (by simp [hi]), wordsL_miss c l hi]
    · have := indexByte_ge l c
      obtain ⟨o, ho⟩ : ∃ o : Nat, indexByte l c = o := ⟨(indexByte l c).toNat, by omega⟩
      have e := wordsL_hit c l o ho
      rw [e] at h
      simp only [List.length_cons] at h
      rw [if_neg (by simp [hi]), e, ho]
      simp only [Int.toNat_natCast, Nat.add_zero, List.length_singleton]
      rw [ih _ (by omega)]

theorem splitK_many (c : UInt8) : ∀ (k : Nat) (l : List UInt8), k + 1 ≤ (wordsL c l).length → (splitK [c] 0 k l).length = k + 1 := by
  intro k
  induction k with
  | zero => intro l _; rfl
  | succ k ih =>
    intro l h
    unfold splitK
    rw [index_one]
    by_cases hi : indexByte l c = -1
    · rw [wordsL_miss c l hi] at h
      simp at h
    · have := indexByte_ge l c
      obtain ⟨o, ho⟩ : ∃ o : Nat, indexByte l c = o := ⟨(indexByte l c).toNat, by omega⟩
      have e := wordsL_hit c l o ho
      rw [e] at h
      simp only [List.length_cons] at h
      rw [if_neg (by simp [hi]), ho]
      simp only [Int.toNat_natCast, Nat.add_zero, List.length_cons, List.length_nil, Nat.zero_add]
      rw [ih _ (by omega)]

/-- Each word is the text of a number. -/
def Reads (V : List (List UInt8)) (xs : List Int) : Prop := V.length = xs.length ∧ ∀ (i : Nat) (w : List UInt8) (x : Int), V[i]? = some w → xs[i]? = some x → ValI x ∧ w = itoa x
theorem Reads.nil : Reads [] [] := ⟨rfl, fun i w x h => by simp at h⟩
theorem Reads.snoc {V : List (List UInt8)} {xs : List Int} (h : Reads V xs) (w : List UInt8) (x : Int) (hx : ValI x) (hw : w = itoa x) : Reads (V ++ [w]) (xs ++ [x]) := by
  refine ⟨by simp [h.1], fun i u y hu hy => ?_⟩
  by_cases hi : i < V.length
  · rw [List.getElem?_append_left hi] at hu
    rw [List.getElem?_append_left (by rw [← h.1]; exact hi)] at hy
    exact h.2 i u y hu hy
  · rw [List.getElem?_append_right (by omega)] at hu
    rw [List.getElem?_append_right (by rw [← h.1]; omega)] at hy
    have e : i - V.length = 0 := by
      have := (List.getElem?_eq_some_iff.1 hu).1
      simp at this; omega
    rw [e] at hu
    rw [← h.1, e] at hy
    simp only [List.getElem?_cons_zero, Option.some.injEq] at hu hy
    subst hu; subst hy
    exact ⟨hx, hw⟩
theorem Reads.uniq {V : List (List UInt8)} {xs ys : List Int} (h : Reads V xs) (k : Reads V ys) : xs = ys := by
  apply List.ext_getElem?
  intro i
  by_cases hi : i < V.length
  · obtain ⟨x, hx⟩ : ∃ x, xs[i]? = some x := ⟨_, List.getElem?_eq_getElem (by rw [← h.1]; exact hi)⟩
    obtain ⟨y, hy⟩ : ∃ y, ys[i]? = some y := ⟨_, List.getElem?_eq_getElem (by rw [← k.1]; exact hi)⟩
    obtain ⟨w, hw⟩ : ∃ w, V[i]? = some w := ⟨_, List.getElem?_eq_getElem hi⟩
    have a := h.2 i w x hw hx
    have b := k.2 i w y hw hy
    rw [hx, hy, itoa_inj (a.2.symm.trans b.2)]
  · rw [List.getElem?_eq_none (by rw [← h.1]; omega), List.getElem?_eq_none (by rw [← k.1]; omega)]
theorem Reads.bad {V : List (List UInt8)} {i : Nat} {w : List UInt8} (hw : V[i]? = some w) (hn : ∀ m, ValI m → w ≠ itoa m) (xs : List Int) : ¬ Reads V xs := by
  intro h
  obtain ⟨x, hx⟩ : ∃ x, xs[i]? = some x := ⟨_, List.getElem?_eq_getElem (by rw [← h.1]; exact (List.getElem?_eq_some_iff.1 hw).1)⟩
  have := h.2 i w x hw hx
  exact hn x this.1 this.2

/-- The numbers of a text of at most 'most' words. -/
def SplitRes (c : UInt8) (most : Nat) (l : List UInt8) (xs : List Int) (b : Bool) : Prop :=
  ((wordsL c l).length ≤ most ∧ Reads (wordsL c l) xs ∧ b = true) ∨ (¬ ((wordsL c l).length ≤ most ∧ ∃ ys, Reads (wordsL c l) ys) ∧ xs = [] ∧ b = false)
theorem splitRes_of (c : UInt8) (most : Nat) (l : List UInt8) : ∃ xs b, SplitRes c most l xs b := by
  by_cases h : (wordsL c l).length ≤ most ∧ ∃ ys, Reads (wordsL c l) ys
  · obtain ⟨h1, ys, h2⟩ := h
    exact ⟨ys, true, .inl ⟨h1, h2, rfl⟩⟩
  · exact ⟨[], false, .inr ⟨h, rfl, rfl⟩⟩
theorem splitRes_no {c : UInt8} {most : Nat} {l : List UInt8} {xs : List Int} {b : Bool} (h : SplitRes c most l xs b) (n : ¬ ((wordsL c l).length ≤ most ∧ ∃ ys, Reads (wordsL c l) ys)) : xs = [] ∧ b = false := by
  rcases h with h | h
  · exact absurd ⟨h.1, xs, h.2.1⟩ n
  · exact h.2
theorem splitRes_yes {c : UInt8} {most : Nat} {l : List UInt8} {xs ys : List Int} {b : Bool} (h : SplitRes c most l xs b) (n : (wordsL c l).length ≤ most) (r : Reads (wordsL c l) ys) : xs = ys ∧ b = true := by
  rcases h with h | h
  · exact ⟨h.2.1.uniq r, h.2.2⟩
  · exact absurd ⟨n, ys, r⟩ h.1
end Go.Proofs.YtkdecpnbbpmooacDoor
