/- A fresh slice is appended to slices; what a channel's block has to do with them; stretches of a list. -/
import Derived.Test.YthhnnkgfnhggbabSS2
import Derived.Test.YthhnnkgfnhggbabChan
import Derived.Deep.AppendLies
namespace Go.Proofs.Ythhnnkgfnhggbab
open Go.ChangeShapes Go.WideShapes Go.ChangeAt Go.RowKit
set_option linter.unusedVariables false
set_option linter.unusedSimpArgs false

theorem ownI_two (w : World) (B : Nat) (h : B ≤ w.heap.size) (x y : Int) : OwnI (w.alloc (.cells #[.int .i64 x, .int .i64 y] 2)) B (.slice (some ⟨w.heap.size, 0, none⟩) 2 2) [x, y] := by
  refine ⟨by simp, .inr ⟨w.heap.size, 2, _, rfl, h, heap_alloc_new w _, by simp, by unfold maxLen; omega, by simp, by simp⟩⟩

theorem OwnSS.nil (w : World) (B C : Nat) (hC : C ≤ w.heap.size) : OwnSS w B C (.slice none 0 0) [] :=
  ⟨OwnS.nil w B, fun k e => by simp [Value.ownBlock] at e, fun x hx => by simp at hx, fun x hx => by simp at hx, fun i j x y k h => by simp at h, hC⟩

theorem OwnSS.built (w : World) (B : Nat) (hB : B ≤ w.heap.size) : OwnSS (w.alloc (.cells #[] 22)) B (w.heap.size + 1) (.slice (some ⟨w.heap.size, 0, none⟩) 0 0) [] :=
  ⟨⟨by simp, .inr ⟨w.heap.size, 0, _, rfl, hB, heap_alloc_new w _, by simp, by unfold maxLen; omega, by simp, by simp⟩⟩, fun k e => by simp [Value.ownBlock] at e; omega, fun x hx => by simp at hx, fun x hx => by simp at hx, fun i j x y k h => by simp at h, by simp⟩

/-- A slice of two numbers is made, then a slice of it, and this is appended. -/
theorem OwnSS.pushed {w w5 : World} {B C m : Nat} {v v' : Value} {xs : List Sl} {f p : Int} {o2 : Obj} (own : OwnSS w B C v xs) (hB : B ≤ w.heap.size)
    (hrow : w5.ownsRow B 22 1 v' (m + 1) (xs.flatMap encSl ++ [.slice (some ⟨w.heap.size, 0, none⟩) 2 2])) (hm : m = xs.length)
    (hg : ((w.alloc (.cells #[.int .i64 f, .int .i64 p] 2)).alloc o2).grownBy w5 v.ownBlock) :
    OwnSS w5 B w5.heap.size v' (xs ++ [⟨some ⟨w.heap.size, 0, none⟩, 2, [f, p]⟩]) := by
  subst hm
  have hrow' : OwnS 22 1 encSl w5 B v' (xs ++ [⟨some ⟨w.heap.size, 0, none⟩, 2, [f, p]⟩]) := by
    unfold OwnS
    rw [List.length_append, List.flatMap_append]
    exact hrow
  have hs := hg.size
  simp only [World.size_alloc] at hs
  have old : ∀ k, v.ownBlock = some k → k < w.heap.size := fun k e => (own.rows.lt k e).2
  have keep : ∀ x ∈ xs, OwnI w5 B x.u x.t := by
    intro x hx
    have ox := own.tops x hx
    refine ox.of_blockS fun k hk => ?_
    have kl := (ox.lt k hk).2
    have kne : v.ownBlock ≠ some k := fun c => own_typesS own.rows ox c hk rfl
    rw [hg.block k (by simp only [World.size_alloc]; omega) (fun c => kne c.symm), Below.heap_alloc _ _ _ (by simp only [World.size_alloc]; omega), Below.heap_alloc _ _ _ (by omega)]
  have new : OwnI w5 B (.slice (some ⟨w.heap.size, 0, none⟩) 2 2) [f, p] := by
    refine ((ownI_two w B hB f p).of_blockS (w' := w5) fun k hk => ?_)
    have e : w.heap.size = k := by simpa [Value.ownBlock] using hk
    subst e
    rw [hg.block _ (by simp only [World.size_alloc]; omega) (fun c => by have := old _ c.symm; omega), Below.heap_alloc _ _ _ (by simp only [World.size_alloc]; omega)]
  have newu : (⟨some ⟨w.heap.size, 0, none⟩, 2, [f, p]⟩ : Sl).u = .slice (some ⟨w.heap.size, 0, none⟩) 2 2 := rfl
  have at' : ∀ (i : Nat) x k, (xs ++ [(⟨some ⟨w.heap.size, 0, none⟩, 2, [f, p]⟩ : Sl)])[i]? = some x → x.u.ownBlock = some k → (i < xs.length ∧ xs[i]? = some x ∧ k < w.heap.size) ∨ (i = xs.length ∧ k = w.heap.size) := by
    intro i x k hx hk
    by_cases hi : i < xs.length
    · rw [List.getElem?_append_left hi] at hx
      exact .inl ⟨hi, hx, ((own.tops x (List.mem_of_getElem? hx)).lt k hk).2⟩
    · have hi2 : i < xs.length + 1 := by have := (List.getElem?_eq_some_iff.1 hx).1; simpa using this
      obtain rfl : i = xs.length := by omega
      rw [List.getElem?_append_right (Nat.le_refl _), Nat.sub_self] at hx
      have hx2 := Option.some.inj hx
      subst hx2
      refine .inr ⟨rfl, ?_⟩
      have e : w.heap.size = k := by simpa [Sl.u, Value.ownBlock] using hk
      exact e.symm
  refine ⟨hrow', fun k e => (World.ownsRow.lt hrow k e).2, fun x hx => ?_, fun x hx k hk => ?_, fun i j x y k hi hj hx hy => ?_, Nat.le_refl _⟩
  · rcases List.mem_append.1 hx with h | h
    · exact keep x h
    · have : x = ⟨some ⟨w.heap.size, 0, none⟩, 2, [f, p]⟩ := by simpa using h
      subst this; exact new
  · rcases List.mem_append.1 hx with h | h
    · have := ((own.tops x h).lt k hk).2; omega
    · have : x = ⟨some ⟨w.heap.size, 0, none⟩, 2, [f, p]⟩ := by simpa using h
      subst this
      exact (new.lt k hk).2
  · rcases at' i x k hi hx with ⟨a1, a2, a3⟩ | ⟨a1, a2⟩
    · rcases at' j y k hj hy with ⟨b1, b2, b3⟩ | ⟨b1, b2⟩
      · exact own.apart i j x y k a2 b2 hx hy
      · omega
    · rcases at' j y k hj hy with ⟨b1, b2, b3⟩ | ⟨b1, b2⟩
      · omega
      · omega

/-- A channel's block is no row's. -/
theorem OwnI.setChan {w : World} {B c cap cap' s s' r r' : Nat} {buf buf' : Array Value} {cl cl' tm tm' : Bool} {v : Value} {zs : List Int} (h : OwnI w B v zs) (hc : w.heap[c]? = some (.chan cap buf cl s r tm)) : OwnI (w.setChan c cap' buf' cl' s' r' tm') B v zs := by
  refine h.of_blockS fun k hk => ?_
  have hne : c ≠ k := by
    rintro rfl
    obtain ⟨-, h2 | ⟨g, cap2, cur, rfl, h3, h4, h5⟩⟩ := h
    · rw [h2.1] at hk; simp [Value.ownBlock] at hk
    · have e : g = c := by simpa [Value.ownBlock] using hk
      subst e
      rw [hc] at h4
      simp at h4
  simp only [World.setChan]
  rw [Array.getElem?_setIfInBounds_ne hne]

theorem OwnSS.setChan {w : World} {B C c cap s r : Nat} {buf : Array Value} {cl tm : Bool} {v : Value} {xs : List Sl} (h : OwnSS w B C v xs) (hc : c < B) : OwnSS (w.setChan c cap buf cl s r tm) B C v xs :=
  h.of_blocks (by rw [Go.Conc.size_setChan]; exact Nat.le_refl _) fun k h1 h2 => by simp only [World.setChan]; rw [Array.getElem?_setIfInBounds_ne (by omega)]

theorem OwnSS.wide {w : World} {B C B' : Nat} {v : Value} {xs : List Sl} (h : OwnSS w B C v xs) (hB : B' ≤ B) : OwnSS w B' w.heap.size v xs :=
  ⟨h.rows.mono hB, fun k e => (h.rows.lt k e).2, fun x hx => (h.tops x hx).mono hB, fun x hx k e => ((h.tops x hx).lt k e).2, h.apart, Nat.le_refl _⟩

/-- The stretches that ended ahead of point k, and where one goes on. -/
def strS (zs : List Int) (L : Int) : Nat → List (List Int) × Option Nat
  | 0 => ([], none)
  | k + 1 => if L ≤ zs.getD k 0 then ((strS zs L k).1, some ((strS zs L k).2.getD k)) else
    match (strS zs L k).2 with
    | none => ((strS zs L k).1, none)
    | some f => ((strS zs L k).1 ++ [[(f : Int), (k : Int) - 1]], none)

/-- All stretches up to point k. -/
def strF (zs : List Int) (L : Int) (k : Nat) : List (List Int) :=
  match (strS zs L k).2 with
  | none => (strS zs L k).1
  | some f => (strS zs L k).1 ++ [[(f : Int), (k : Int) - 1]]

theorem strS_len (zs : List Int) (L : Int) (k : Nat) : (strS zs L k).1.length + (if (strS zs L k).2.isSome then 1 else 0) ≤ k := by
  induction k with
  | zero => simp [strS]
  | succ k ih =>
    unfold strS
    split
    · simp only [Option.isSome_some, if_true]
      have : (strS zs L k).1.length ≤ k := by omega
      omega
    · cases h : (strS zs L k).2 with
      | none => simp only [Option.isSome_none]; rw [h] at ih; simp at ih; simp; omega
      | some f => rw [h] at ih; simp at ih; simp; omega

theorem strS_le (zs : List Int) (L : Int) (k f : Nat) (h : (strS zs L k).2 = some f) : f < k := by
  induction k generalizing f with
  | zero => simp [strS] at h
  | succ k ih =>
    unfold strS at h
    split at h
    · simp only [Option.some.injEq] at h
      cases hk : (strS zs L k).2 with
      | none => rw [hk] at h; simp at h; omega
      | some g => rw [hk] at h; simp at h; have := ih g hk; omega
    · cases hk : (strS zs L k).2 with
      | none => rw [hk] at h; simp at h
      | some g => rw [hk] at h; simp at h

theorem strS_open (zs : List Int) (L : Int) (k : Nat) : (strS zs L (k + 1)).2.isSome = decide (L ≤ zs.getD k 0) := by
  rw [strS]
  split
  · rename_i h; exact (decide_eq_true h).symm
  · rename_i h; rw [decide_eq_false h]; cases hk : (strS zs L k).2 <;> rfl

theorem strS_append (zs ys : List Int) (L : Int) (k : Nat) (h : k ≤ zs.length) : strS (zs ++ ys) L k = strS zs L k := by
  induction k with
  | zero => rfl
  | succ k ih =>
    have e : (zs ++ ys).getD k 0 = zs.getD k 0 := by
      rw [List.getD_eq_getElem?_getD, List.getD_eq_getElem?_getD, List.getElem?_append_left (by omega)]
    rw [strS, strS, ih (by omega), e]

theorem strS_closed (zs : List Int) (L : Int) (hL : 0 < L) : (strS (zs ++ [0]) L (zs.length + 1)).1 = strF zs L zs.length := by
  have e : (zs ++ [0]).getD zs.length 0 = 0 := by rw [List.getD_eq_getElem?_getD, List.getElem?_append_right (Nat.le_refl _), Nat.sub_self]; rfl
  rw [strS, e, if_neg (by omega), strS_append _ _ _ _ (Nat.le_refl _), strF]
  cases (strS zs L zs.length).2 <;> rfl

theorem strF_below {zs : List Int} {L : Int} {k : Nat} (h : ¬ L ≤ zs.getD k 0) : strF zs L (k + 1) = strF zs L k := by
  rw [strF, strS, if_neg h, strF]
  cases (strS zs L k).2 <;> rfl
theorem strF_new {zs : List Int} {L : Int} {k : Nat} (h : L ≤ zs.getD k 0) (ho : (strS zs L k).2 = none) : strF zs L (k + 1) = strF zs L k ++ [[(k : Int), (k : Int)]] := by
  rw [strF, strS, if_pos h, strF, ho]
  simp
theorem strF_on {zs : List Int} {L : Int} {k f : Nat} (h : L ≤ zs.getD k 0) (ho : (strS zs L k).2 = some f) : strF zs L k = (strS zs L k).1 ++ [[(f : Int), (k : Int) - 1]] ∧ strF zs L (k + 1) = (strS zs L k).1 ++ [[(f : Int), (k : Int)]] := by
  constructor
  · rw [strF, ho]
  · rw [strF, strS, if_pos h, ho]
    simp
theorem strF_len {zs : List Int} {L : Int} {k m : Nat} {xs : List Sl} (hm : m = xs.length) (hx : xs.map Sl.t = strF zs L k) : m ≤ k := by
  have e := congrArg List.length hx
  rw [List.length_map, ← hm] at e
  have := strS_len zs L k
  rw [strF] at e
  cases h : (strS zs L k).2 with
  | none => rw [h] at e this; simp at e this; omega
  | some f => rw [h] at e this; simp at e this; omega
theorem map_snoc {xs : List Sl} {D : List (List Int)} {t : List Int} (h : xs.map Sl.t = D ++ [t]) : ∃ ys z, xs = ys ++ [z] ∧ ys.map Sl.t = D ∧ z.t = t := by
  rcases List.eq_nil_or_concat xs with e | ⟨ys, z, e⟩
  · rw [e] at h; simp at h
  · rw [List.concat_eq_append] at e
    subst e
    rw [List.map_append] at h
    have := List.append_inj' h rfl
    exact ⟨ys, z, rfl, this.1, by simpa using this.2⟩
theorem ownI_frozen {w : World} {B g cap n : Nat} {zs : List Int} (hn : n = zs.length) (h : OwnI w B (.slice (some ⟨g, 0, none⟩) n cap) zs) (j : Nat) : w.frozen? ⟨g, j, none⟩ = false := by
  subst hn
  exact World.ownsRow.frozenAt h j
end Go.Proofs.Ythhnnkgfnhggbab
