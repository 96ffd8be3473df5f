/- Troughs on the specification's side. -/
import Derived.Test.YthhnnkgfnhggbabTrM
import Derived.Test.YthhnnkgfnhggbabAppI
import Derived.Test.YthhnnkgfnhggbabLossM
import Derived.Deep.RegionLaw
namespace Go.Proofs.Ythhnnkgfnhggbab
open Go.ChangeShapes Go.WideShapes Go.ChangeAt Go.RowKit
set_option linter.unusedVariables false
set_option linter.unusedSimpArgs false

theorem grownBy_alloc_drew (w : World) (o : Obj) (row : Option Nat) : w.grownBy (w.alloc o).drew row := by
  have h := World.grownBy_alloc w o row
  exact ⟨h.os, h.tape, h.output, h.size, h.block⟩

/-- The cells of a row of numbers. -/
theorem RdI.cellAt {w : World} {b n c : Nat} {L : List Int} (h : RdI w (.slice (some ⟨b, 0, none⟩) n c) L) {i : Nat} {x : Int} (hx : L[i]? = some x) : w.cell? ⟨b, i, none⟩ = some (.int .i64 x) := by
  obtain ⟨a', c', e, h1 | ⟨b', off, e2, h1⟩⟩ := h
  · rw [h1] at hx; simp at hx
  · simp only [Value.slice.injEq] at e
    rw [e2] at e
    simp only [Option.some.injEq, Addr.mk.injEq, and_true] at e
    obtain ⟨⟨rfl, rfl⟩, -, -⟩ := e
    have := h1 i x hx
    rwa [Nat.zero_add] at this

theorem OwnI.formed {w : World} {B : Nat} {v : Value} {L : List Int} {n : Nat} (h : OwnI w B v L) (hn : L.length = n) (h0 : 0 < n) : ∃ g c, v = .slice (some ⟨g, 0, none⟩) n c ∧ B ≤ g ∧ g < w.heap.size := by
  subst hn
  have hl := h.lt
  obtain ⟨-, hx | ⟨g, c, cur, rfl, -⟩⟩ := h
  · exact absurd hx.2 (by omega)
  · exact ⟨g, c, rfl, hl g rfl⟩

theorem own_one (w : World) (N : Nat) (hN : N = w.heap.size) (L : List Int) (x : Int) (hL : L[0]? = some x) : OwnI (w.alloc (.cells #[.int .i64 x] 2)) N (.slice (some ⟨N, 0, none⟩) 1 1) (L.take 1) := by
  subst hN
  have e : L.take 1 = [x] := by rw [List.take_add_one, hL]; simp
  rw [e]
  refine ⟨by simp, .inr ⟨w.heap.size, 1, _, rfl, Nat.le_refl _, heap_alloc_new w _, Nat.le_refl _, by unfold maxLen; omega, by simp, by simp⟩⟩

end Go.Proofs.Ythhnnkgfnhggbab
