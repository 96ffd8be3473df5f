/- ValidTube on both sides. -/
import Derived.Test.YtpphbjgaldidaaaSpecT
namespace Go.Proofs.Ytpphbjgaldidaaa
open Go.ChangeShapes Go.WideShapes Go.ChangeAt Go.RowKit
set_option linter.unusedVariables false
set_option linter.unusedSimpArgs false

theorem bool_of (P : Prop) : ∃ b : Bool, b = true ↔ P := by
  by_cases h : P
  · exact ⟨true, fun _ => h, fun _ => rfl⟩
  · exact ⟨false, fun e => (by cases e), fun e => absurd e h⟩

theorem specTube_any (v : Value) (xs : List Rg) (w : World) (h : RdS 2 encRg w v xs) (lz : xs.length ≤ 1048576) (b : Bool) (hb : b = true ↔ OkT xs) :
    Calls Try.prog 7 #[v] w fun e w' => e = .returned (.bool b) ∧ Below w.heap.size w w' := by
  have c := Lib.hid (fun w (h : RdS 2 encRg w v xs) => l03Tube_any v xs w h lz b hb)
  have H := Lib.hid h
  obtain ⟨a, cap, rfl, _⟩ := h
  clear hb
  go_enter Try.func7, Try.ntmps7
  go_wp2_with fail
  refine (c.out _ H.out).mono ?_
  rintro e w' ⟨rfl, b⟩
  have B := Lib.hid b
  clear b
  go_wp2
  go_ret
  exact ⟨rfl, B.out⟩

theorem exValidTube (xs : List Rg) (lz : xs.length ≤ 1048576) : ∃ r : Bool,
    Hid (∀ (w : World) (v0 : Value), (fun _ => True) w → RdS 2 encRg w v0 xs → Calls Try.prog 7 #[v0] w fun e w' => e = .returned (.bool r) ∧ Below w.heap.size w w') ∧
    Hid (∀ (w : World) (v0 : Value), (fun _ => True) w → RdS 2 encRg w v0 xs → Calls Try.prog 9 #[v0] w fun e w' => e = .returned (.bool r) ∧ Below w.heap.size w w') := by
  obtain ⟨b, hb⟩ := bool_of (OkT xs)
  exact ⟨b, fun w v _ h => specTube_any v xs w h lz b hb, fun w v _ h => implTube_any v xs w h lz b hb⟩
end Go.Proofs.Ytpphbjgaldidaaa
