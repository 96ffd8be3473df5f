/- A row of the call's own is appended to slices of its own. -/
import Derived.Test.YtcmocilojloolaaDoorSSY
import Derived.Deep.AppendLies
namespace Go.Proofs.YtcmocilojloolaaDoor
open Go.ChangeShapes Go.WideShapes Go.ChangeAt Go.RowKit
set_option linter.unusedVariables false
set_option linter.unusedSimpArgs false

theorem OwnSS.noneR (w : World) (B C : Nat) (hC : C ≤ w.heap.size) : OwnSS w B C (.slice none 0 0) [] :=
  ⟨OwnS.nil w B, fun k e => by simp [Value.ownBlock] at e, fun x hx => by simp at hx, fun x hx => by simp at hx, fun i j x y k h => by simp at h, hC⟩

/-- A row x is made, then a slice of it, and this is appended. -/
theorem OwnSS.pushRowR {w w5 : World} {B C m : Nat} {v v' : Value} {xs : List Sl} {x : Sl} {o2 : Obj} (own : OwnSS w B C v xs) (hB : B ≤ w.heap.size) (ox : OwnI w B x.u x.t) (hxC : ∀ k, x.u.ownBlock = some k → C ≤ k)
    (hrow : w5.ownsRow B 28 1 v' (m + 1) (xs.flatMap encSl ++ encSl x)) (hm : m = xs.length) (hg : (w.alloc o2).grownBy w5 v.ownBlock) :
    OwnSS w5 B w5.heap.size v' (xs ++ [x]) := by
  subst hm
  have hrow' : OwnS 28 1 encSl w5 B v' (xs ++ [x]) := by
    unfold OwnS
    rw [List.length_append, List.flatMap_append]
    simpa using hrow
  have hs := hg.size
  simp only [World.size_alloc] at hs
  have keep1 : ∀ y : Sl, OwnI w B y.u y.t → (∀ k, y.u.ownBlock = some k → v.ownBlock ≠ some k) → OwnI w5 B y.u y.t := by
    intro y oy hy
    refine oy.of_blockS fun k hk => ?_
    have kl := (oy.lt k hk).2
    have kne := hy k hk
    rw [hg.block k (by simp only [World.size_alloc]; omega) (fun c => kne c.symm), Below.heap_alloc _ _ _ (by omega)]
  have keep : ∀ y ∈ xs, OwnI w5 B y.u y.t := fun y hy => keep1 y (own.tops y hy) fun k hk c => own_typesS own.rows (own.tops y hy) c hk rfl
  have new : OwnI w5 B x.u x.t := keep1 x ox fun k hk c => by have := own.rb k c; have := hxC k hk; omega
  have at' : ∀ (i : Nat) y k, (xs ++ [x])[i]? = some y → y.u.ownBlock = some k → (i < xs.length ∧ xs[i]? = some y ∧ k < C) ∨ (i = xs.length ∧ C ≤ k) := by
    intro i y k hy hk
    by_cases hi : i < xs.length
    · rw [List.getElem?_append_left hi] at hy
      exact .inl ⟨hi, hy, own.tb y (List.mem_of_getElem? hy) k hk⟩
    · have hi2 : i < xs.length + 1 := by have := (List.getElem?_eq_some_iff.1 hy).1; simpa using this
      obtain rfl : i = xs.length := by omega
      rw [List.getElem?_append_right (Nat.le_refl _), Nat.sub_self] at hy
      have hx2 := Option.some.inj hy
      subst hx2
      exact .inr ⟨rfl, hxC k hk⟩
  refine ⟨hrow', fun k e => (World.ownsRow.lt hrow k e).2, fun y hy => ?_, fun y hy k hk => ?_, fun i j y z k hi hj hy hz => ?_, Nat.le_refl _⟩
  · rcases List.mem_append.1 hy with h | h
    · exact keep y h
    · have : y = x := by simpa using h
      subst this; exact new
  · rcases List.mem_append.1 hy with h | h
    · have := own.tb y h k hk; have := own.cb; omega
    · have : y = x := by simpa using h
      subst this
      exact (new.lt k hk).2
  · rcases at' i y k hi hy with ⟨a1, a2, a3⟩ | ⟨a1, a2⟩
    · rcases at' j z k hj hz with ⟨b1, b2, b3⟩ | ⟨b1, b2⟩
      · exact own.apart i j y z k a2 b2 hy hz
      · omega
    · rcases at' j z k hj hz with ⟨b1, b2, b3⟩ | ⟨b1, b2⟩
      · omega
      · omega
theorem ownSS_lenR {w : World} {B C m c : Nat} {ad : Option Addr} {xs : List Sl} (hm : m = xs.length) (o : OwnSS w B C (.slice ad m c) xs) : w.ownsRow B 28 1 (.slice ad m c) m (xs.flatMap encSl) := by
  have := o.rows
  unfold OwnS at this
  rwa [← hm] at this
end Go.Proofs.YtcmocilojloolaaDoor
