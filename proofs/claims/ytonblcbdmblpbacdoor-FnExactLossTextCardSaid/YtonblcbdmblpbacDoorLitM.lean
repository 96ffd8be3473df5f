/- Numbers of litres; bools. (Out of GroutM.) -/
import Derived.Test.YtonblcbdmblpbacDoorWithin
import Derived.Handy
import Derived.IntWalk
import Derived.Deep.RegionHeld3
import Derived.BigQuiet
import Derived.WalkSmall
namespace Go.Proofs.YtonblcbdmblpbacDoor
open Go.ChangeShapes Go.WideShapes Go.ChangeAt Go.RowKit
set_option linter.unusedVariables false
set_option linter.unusedSimpArgs false

theorem bool_of (P : Prop) : ∃ b : Bool, b = true ↔ P := by
  by_cases h : P
  · exact ⟨true, by simp [h]⟩
  · exact ⟨false, by simp [h]⟩
theorem band_of {b b1 b2 : Bool} {P Q R : Prop} (h : b = true ↔ R) (h1 : b1 = true ↔ P) (h2 : b2 = true ↔ Q) (hr : R ↔ P ∧ Q) : b = (b1 && b2) := by
  rw [Bool.eq_iff_iff, Bool.and_eq_true, h, h1, h2, hr]

def Litres (n : Int) : Prop := 0 ≤ n ∧ n ≤ 100000
theorem l07Litres_any (n : Int) (b : Bool) (hb : b = true ↔ Litres n) (w : World) :
    Calls Tryd.prog 19 #[.int .i64 n] w fun e w' => e = .returned (.bool b) ∧ w = w' := by
  have HB := Lib.hid hb
  clear hb
  go_enter Tryd.func19, Tryd.ntmps19
  go_wp2_with fail
  refine (in_any n 0 100000 b HB.out w).mono ?_
  rintro e w' ⟨rfl, rfl⟩
  go_wp2
  go_ret
  exact ⟨rfl, rfl⟩

theorem isVolume_any (n : Int) (b : Bool) (hb : b = true ↔ Litres n) (w : World) :
    Calls Tryd.prog 23 #[.int .i64 n] w fun e w' => e = .returned (.bool b) ∧ w = w' := by
  have HB := Lib.hid hb
  clear hb
  go_enter Tryd.func23, Tryd.ntmps23
  go_wp2_with fail
  refine (within_any n 0 100000 b HB.out w).mono ?_
  rintro e w' ⟨rfl, rfl⟩
  go_wp2
  go_ret
  exact ⟨rfl, rfl⟩

end Go.Proofs.YtonblcbdmblpbacDoor
