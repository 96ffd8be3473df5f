/- Plans: what is known of their stops. -/
import Derived.Test.YtmdddjhlfpmgdacChgI
namespace Go.Proofs.Ytmdddjhlfpmgdac
open Go.ChangeShapes Go.WideShapes Go.ChangeAt Go.RowKit
set_option linter.unusedVariables false
set_option linter.unusedSimpArgs false

/-- A rising list within bounds is short. -/
theorem rises_len5 {lo hi : Int} {zs : List Int} (h : RisesIn lo hi zs) : (zs.length : Int) ≤ hi - lo + 1 ∨ zs = [] := by
  by_cases e : zs = []
  · exact .inr e
  · left
    have l0 : 0 < zs.length := List.length_pos_iff.mpr e
    have step : ∀ i, (hi' : i < zs.length) → lo + (i : Int) ≤ zs[i] := by
      intro i
      induction i with
      | zero => intro hi'; have := (h.1 _ (List.getElem_mem hi')).1; simpa using this
      | succ i ih =>
        intro hi'
        have h1 := ih (by omega)
        have h2 := h.2 i _ _ (List.getElem?_eq_getElem (by omega)) (List.getElem?_eq_getElem hi')
        push_cast
        omega
    have h1 := step (zs.length - 1) (by omega)
    have h2 := (h.1 _ (List.getElem_mem (show zs.length - 1 < zs.length by omega))).2
    omega

theorem chg_ok {g : Hd} {xs : List Su} (h : OkHd g) (hp : OkPlan g xs) : ∀ x ∈ xs, ChgSu x := fun x hx => by
  have o := hp.ok x hx
  have h1 := h.s1.1 x.r o.1
  have h0 := h.h0
  have hc := h.c0
  have hl := rises_len5 o.2.2
  refine ⟨by omega, fun y hy => ?_, ?_⟩
  · have := o.2.2.1 y hy
    omega
  · rcases hl with hl | hl
    · omega
    · rw [hl]; simp

end Go.Proofs.Ytmdddjhlfpmgdac
