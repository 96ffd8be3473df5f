/- Whether a list has a number: the specification's side. -/
import Derived.Test.YtmdddjhlfpmgdaaInts
import Derived.Test.YtmdddjhlfpmgdaaWithin
namespace Go.Proofs.Ytmdddjhlfpmgdaa
open Go.ChangeShapes Go.WideShapes Go.ChangeAt Go.RowKit
set_option linter.unusedVariables false
set_option linter.unusedSimpArgs false

theorem RdI.at1 {w : World} {a : Option Addr} {n cap : Nat} {xs : List Int} (h : RdI w (.slice a n cap) xs) (i : Nat) (x : Int) (hx : xs[i]? = some x) :
    ∃ b off, a = some ⟨b, off, none⟩ ∧ w.cell? ⟨b, off + i, none⟩ = some (.int .i64 x) := by
  obtain ⟨a', c', hv, h⟩ := h
  simp only [Value.slice.injEq] at hv
  obtain ⟨rfl, -, -⟩ := hv
  obtain ⟨b, off, rfl, h2⟩ := h.resolve_left (by intro e; rw [e] at hx; simp at hx)
  exact ⟨b, off, rfl, h2 i x hx⟩

end Go.Proofs.Ytmdddjhlfpmgdaa
