/- Plans of a head. (Written by tools/mkplan.py.) -/
import Derived.Test.YtmdddjhlfpmgdacHeadM
import Derived.Test.YtmdddjhlfpmgdacStops3
namespace Go.Proofs.Ytmdddjhlfpmgdac
open Go.ChangeShapes Go.WideShapes Go.ChangeAt Go.RowKit
set_option linter.unusedVariables false
set_option linter.unusedSimpArgs false

/-- A stop of a plan of g. -/
def OkSu (g : Hd) (x : Su) : Prop := x.r ∈ g.s ∧ x.t ≠ [] ∧ RisesIn 0 ((g.c.length : Int) - 1) x.t
def UpSu (xs : List Su) : Prop := ∀ (i : Nat) x y, xs[i]? = some x → xs[i + 1]? = some y → x.r < y.r
structure OkPlan (g : Hd) (xs : List Su) : Prop where
  ok : ∀ x ∈ xs, OkSu g x
  up : UpSu xs

theorem okPlan_same {g k : Hd} {xs ys : List Su} (h : OkPlan g xs) (e : g.same k) (es : xs.map Su.so = ys.map Su.so) : OkPlan k ys := by
  refine ⟨fun y hy => ?_, fun i x y hx hy => ?_⟩
  · obtain ⟨i, hi, rfl⟩ := List.mem_iff_getElem.1 hy
    obtain ⟨x, hx, hr, ht⟩ := map_so_get es.symm (List.getElem?_eq_getElem hi)
    have := h.ok x (List.mem_of_getElem? hx)
    unfold OkSu at this ⊢
    rw [hr, ht, e.1, e.2.2.1] at this
    exact this
  · obtain ⟨x', hx', hr, -⟩ := map_so_get es.symm hx
    obtain ⟨y', hy', hr', -⟩ := map_so_get es.symm hy
    have := h.up i x' y' hx' hy'
    omega

/-- What is so far a plan. -/
def PlanTo (g : Hd) (xs : List Su) (k : Nat) : Prop := (∀ (i : Nat) x, i < k → xs[i]? = some x → OkSu g x) ∧ (∀ (i : Nat) x y, i + 1 < k → xs[i]? = some x → xs[i + 1]? = some y → x.r < y.r)
theorem PlanTo.all {g : Hd} {xs : List Su} (h : PlanTo g xs xs.length) : OkPlan g xs := by
  refine ⟨fun x hx => ?_, fun i x y hx hy => ?_⟩
  · obtain ⟨i, hi, rfl⟩ := List.mem_iff_getElem.1 hx
    exact h.1 i _ hi (List.getElem?_eq_getElem hi)
  · exact h.2 i x y (List.getElem?_eq_some_iff.1 hy).1 hx hy
theorem PlanTo.push {g : Hd} {xs : List Su} {k : Nat} {x : Su} (h : PlanTo g xs k) (hx : xs[k]? = some x) (ok : OkSu g x) (up : ∀ p, 0 < k → xs[k - 1]? = some p → p.r < x.r) : PlanTo g xs (k + 1) := by
  refine ⟨fun i y hi hy => ?_, fun i y z hi hy hz => ?_⟩
  · by_cases e : i = k
    · subst e; rw [hx] at hy; rw [← Option.some.inj hy]; exact ok
    · exact h.1 i y (by omega) hy
  · by_cases e : i + 1 = k
    · subst e
      rw [hx] at hz; rw [← Option.some.inj hz]
      exact up y (by omega) (by simpa using hy)
    · exact h.2 i y z (by omega) hy hz

theorem RdSt.drewN {w : World} {v : Value} {xs : List Su} (h : RdSt w v xs) (n : Nat) : RdSt (w.drewN n) v xs := ⟨h.rows.drewN n, fun x hx => (h.tops x hx).drewN n⟩
theorem RdSt.lenE {w : World} {a : Option Addr} {n c : Nat} {xs : List Su} (h : RdSt w (.slice a n c) xs) : n = xs.length := by
  obtain ⟨_, _, e, _⟩ := h.rows
  simp only [Value.slice.injEq] at e
  exact e.2.1
end Go.Proofs.Ytmdddjhlfpmgdac
