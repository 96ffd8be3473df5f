/- Losses: what is valid, on both sides. (Written by tools/mkloss.py.) -/
import Derived.Test.YthhnnkgfnhggbabLitM
import Derived.Test.YthhnnkgfnhggbabLosss
namespace Go.Proofs.Ythhnnkgfnhggbab
open Go.ChangeShapes Go.WideShapes Go.ChangeAt Go.RowKit
set_option linter.unusedVariables false
set_option linter.unusedSimpArgs false

def OkLo (x : Lo) : Prop := Litres x.v ∧ (0 ≤ x.w ∧ x.w ≤ 5) ∧ (x.w ≤ x.s ∧ x.s ≤ 23 - x.w)
def OkLs (xs : List Lo) : Prop := xs.length ≤ 12 ∧ (∀ c ∈ xs, OkLo c)

theorem RdS.at3l {w : World} {a : Option Addr} {n cap : Nat} {xs : List Lo} (h : RdS 3 encLo w (.slice a n cap) xs) (i : Nat) (x : Lo) (hx : xs[i]? = some x) :
    ∃ b off, a = some ⟨b, off, none⟩ ∧ w.cell? ⟨b, off + i * 3, none⟩ = some (.int .i64 x.s) ∧ w.cell? ⟨b, off + i * 3 + 1, none⟩ = some (.int .i64 x.v) ∧ w.cell? ⟨b, off + i * 3 + 2, none⟩ = some (.int .i64 x.w) := by
  obtain ⟨a', c', hv, h⟩ := h
  simp only [Value.slice.injEq] at hv
  obtain ⟨rfl, -, -⟩ := hv
  obtain ⟨b, off, rfl, h2⟩ := h.resolve_left (by intro e; rw [e] at hx; simp at hx)
  exact ⟨b, off, rfl, h2 i x hx 0 _ rfl, h2 i x hx 1 _ rfl, h2 i x hx 2 _ rfl⟩





end Go.Proofs.Ythhnnkgfnhggbab
