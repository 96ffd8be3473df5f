/- BlockersOf: the specification's side. -/
import Derived.Test.YthfmmlpbflfpaacPutI
import Derived.Test.YthfmmlpbflfpaacYardX
namespace Go.Proofs.Ythfmmlpbflfpaac
open Go.ChangeShapes Go.WideShapes Go.ChangeAt Go.RowKit
set_option linter.unusedVariables false
set_option linter.unusedSimpArgs false

theorem ownI_none' (w : World) (B : Nat) : OwnI w B (.slice none 0 0) [] := World.ownsRow_nil _ _ _ _
def bS (g : Yd) (i : Nat) : List Int := blkS (g.x.map Sl.t) i
theorem bS_succ {g : Yd} {i : Nat} {x : Sl} (h : g.x[i]? = some x) : bS g (i + 1) = bS g i ++ blkTo x.t x.t.length := blkS_succ (by rw [List.getElem?_map, h]; rfl)
theorem bS_nodup {g : Yd} (ok : OkYd g) (k : Nat) : (bS g k).Nodup := (blkS_sub _ k).nodup (by have := ok.l1.2; rwa [flat_map_t] at this)
theorem bS_len {g : Yd} (ok : OkYd g) (k : Nat) : (bS g k).length ≤ 7 := by
  have h := (blkS_sub (g.x.map Sl.t) k).length_le
  rw [← flat_map_t, ← catS_all, catS_len, List.take_length] at h
  have := ok.l0
  unfold bS; omega


/-- What BlockersOf answers. -/
def BlkRes (g : Yd) (L : List Int) (b : Bool) : Prop := (OkYd g ∧ L = asc (bS g g.x.length) ∧ b = true) ∨ (¬ OkYd g ∧ L = [] ∧ b = false)
theorem BlkRes.same {g k : Yd} {L : List Int} {b : Bool} (h : BlkRes g L b) (e : g.same k) : BlkRes k L b := by
  rcases h with ⟨a, c, d⟩ | ⟨a, c, d⟩
  · exact .inl ⟨a.same e, by rw [c, ← e.len]; unfold bS; rw [e.2], d⟩
  · exact .inr ⟨fun q => a (q.same (Yd.same_symm e)), c, d⟩

end Go.Proofs.Ythfmmlpbflfpaac
