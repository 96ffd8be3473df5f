/- A row of structs that is read behind a change of another row. -/
import Derived.Test.YthhnnkgfnhggbaaRecs
import Derived.Test.YthhnnkgfnhggbaaInts
namespace Go.Proofs.Ythhnnkgfnhggbaa
open Go.ChangeShapes Go.WideShapes Go.ChangeAt Go.RowKit

theorem RdS.grown {T : Type} {k : Nat} {enc : T → List Value} {w w' : World} {v : Value} {xs : List T} {row : Option Nat} (h : RdS k enc w v xs) (hg : w.grownBy w' row) (hne : ∀ b, v.ownBlock = some b → row ≠ some b) : RdS k enc w' v xs := by
  obtain ⟨a, cap, rfl, h | ⟨b, off, rfl, h⟩⟩ := h
  · exact ⟨a, cap, rfl, .inl h⟩
  · refine ⟨_, cap, rfl, .inr ⟨b, off, rfl, fun i x hx j u hu => ?_⟩⟩
    have c := h i x hx j u hu
    have hb := block_lt_of_cell c
    exact (World.cell?_of_block (w := w) (a := ⟨b, off + (i * k + j), none⟩) (hg.block b hb (fun e => hne b rfl e.symm))).trans c
theorem RdI.grown {w w' : World} {v : Value} {xs : List Int} {row : Option Nat} (h : RdI w v xs) (hg : w.grownBy w' row) (hne : ∀ b, v.ownBlock = some b → row ≠ some b) : RdI w' v xs := by
  obtain ⟨a, cap, rfl, h | ⟨b, off, rfl, h⟩⟩ := h
  · exact ⟨a, cap, rfl, .inl h⟩
  · refine ⟨_, cap, rfl, .inr ⟨b, off, rfl, fun i x hx => ?_⟩⟩
    have c := h i x hx
    have hb := block_lt_of_cell c
    exact (World.cell?_of_block (w := w) (a := ⟨b, off + i, none⟩) (hg.block b hb (fun e => hne b rfl e.symm))).trans c

end Go.Proofs.Ythhnnkgfnhggbaa
