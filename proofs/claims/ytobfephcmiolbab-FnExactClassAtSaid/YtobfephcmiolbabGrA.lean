/- ValidGround on both sides. -/
import Derived.Test.YtobfephcmiolbabHoleV
namespace Go.Proofs.Ytobfephcmiolbab
open Go.ChangeShapes Go.WideShapes Go.ChangeAt Go.RowKit
set_option linter.unusedVariables false
set_option linter.unusedSimpArgs false

/-- The form of a value that is a ground like another one. -/
theorem Gu.lens {k g : Gu} (h : k.same g) : k.d.length = g.d.length ∧ k.xs.length = g.xs.length := ⟨by rw [h.1], map_ho_len h.2⟩

theorem specValid_any (g : Gu) (w : World) (h : RdG w g) (lt : g.tot ≤ 1048576) (b : Bool) (hb : b = true ↔ OkG g) :
    Calls Try.prog 12 #[.agg #[.slice g.da g.d.length g.dc, .slice g.ha g.xs.length g.hc]] w fun e w' => e = .returned (.bool b) ∧ Below w.heap.size w w' := by
  have C := Lib.hid (fun (w : World) hG hr => l06Is_any w.heap.size 30 g (w.alloc (.cells #[.slice g.da g.d.length g.dc, .slice g.ha g.xs.length g.hc] 30)) hG hr lt b hb)
  have H := Lib.hid h
  generalize g.d.length = n at *
  generalize g.xs.length = m at *
  clear h lt hb
  go_enter Try.func12, Try.ntmps12
  go_wp2_with fail
  refine (C.out _ (heap_alloc_new w _) (H.out.later (by go_grown))).mono ?_
  rintro e w1 ⟨rfl, q, rfl⟩
  go_wp2
  go_ret
  exact ⟨rfl, Below.trans (show Below w.heap.size w (w.alloc _) by go_grown) ⟨rfl, rfl, rfl, Nat.le_refl _, fun _ _ => rfl⟩⟩

theorem exValidGround (g : Gu) (lt : g.tot ≤ 1048576) : ∃ (b : Bool),
    Hid (∀ (w : World) (k : Gu), True → k.same g → RdG w k → Calls Try.prog 12 #[.agg #[.slice k.da g.d.length k.dc, .slice k.ha g.xs.length k.hc]] w fun e w' => e = .returned (.bool b) ∧ Below w.heap.size w w') ∧
    Hid (∀ (w : World) (k : Gu), True → k.same g → RdG w k → Calls Try.prog 14 #[.agg #[.slice k.da g.d.length k.dc, .slice k.ha g.xs.length k.hc]] w fun e w' => e = .returned (.bool b) ∧ Below w.heap.size w w') := by
  obtain ⟨b, hb⟩ := ok_boolG (OkG g)
  have hk : ∀ k : Gu, k.same g → (b = true ↔ OkG k) := fun k h => hb.trans ⟨okG_same h, okG_same (Gu.same_symm h)⟩
  refine ⟨b, fun w k _ hs hr => ?_, fun w k _ hs hr => ?_⟩
  · have := specValid_any k w hr (by rw [Gu.same_tot hs]; exact lt) b (hk k hs)
    rwa [(Gu.lens hs).1, (Gu.lens hs).2] at this
  · have := implValid_any k w hr (by rw [Gu.same_tot hs]; exact lt) b (hk k hs)
    rwa [(Gu.lens hs).1, (Gu.lens hs).2] at this
end Go.Proofs.Ytobfephcmiolbab
