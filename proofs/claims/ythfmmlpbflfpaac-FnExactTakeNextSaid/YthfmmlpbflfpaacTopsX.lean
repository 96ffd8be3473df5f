/- TopsOf on both sides. -/
import Derived.Test.YthfmmlpbflfpaacYardX
import Derived.Test.YthfmmlpbflfpaacPileI
import Derived.Test.YthfmmlpbflfpaacPart
import Derived.Test.YthfmmlpbflfpaacAppI
namespace Go.Proofs.Ythfmmlpbflfpaac
open Go.ChangeShapes Go.WideShapes Go.ChangeAt Go.RowKit
set_option linter.unusedVariables false
set_option linter.unusedSimpArgs false

theorem ownI_none (w : World) (B : Nat) : OwnI w B (.slice none 0 0) [] := World.ownsRow_nil _ _ _ _

/-- What TopsOf answers. -/
def TopsRes (g : Yd) (L : List Int) (b : Bool) : Prop := (OkYd g ∧ L = g.x.map (fun x => topOf x.t) ∧ b = true) ∨ (¬ OkYd g ∧ L = [] ∧ b = false)
theorem topOf_get {t : List Int} {k : Nat} {z : Int} (h : t[k]? = some z) (e : t.length = k + 1) : topOf t = z := by
  unfold topOf
  rw [List.getLastD_eq_getLast?, List.getLast?_eq_getElem?, e, Nat.add_sub_cancel, h]
  rfl
theorem tops_same {g k : Yd} (h : g.same k) : g.x.map (fun x => topOf x.t) = k.x.map (fun x => topOf x.t) := by
  have := congrArg (List.map topOf) h.2
  rw [List.map_map, List.map_map] at this
  exact this
theorem tops_get {g : Yd} {i : Nat} {x : Sl} (h : g.x[i]? = some x) : (g.x.map (fun x => topOf x.t))[i]? = some (topOf x.t) := by rw [List.getElem?_map, h]; rfl
theorem TopsRes.same {g k : Yd} {L : List Int} {b : Bool} (h : TopsRes g L b) (e : g.same k) : TopsRes k L b := by
  rcases h with ⟨a, c, d⟩ | ⟨a, c, d⟩
  · exact .inl ⟨a.same e, by rw [c, tops_same e], d⟩
  · exact .inr ⟨fun q => a (q.same (Yd.same_symm e)), c, d⟩


end Go.Proofs.Ythfmmlpbflfpaac
