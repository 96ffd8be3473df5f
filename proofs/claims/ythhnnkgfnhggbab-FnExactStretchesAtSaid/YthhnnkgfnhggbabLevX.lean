/- LevelsOf on both sides. (Written by tools/mklev.py.) -/
import Derived.Test.YthhnnkgfnhggbabSettM
import Derived.Test.YthhnnkgfnhggbabAppI
namespace Go.Proofs.Ythhnnkgfnhggbab
open Go.ChangeShapes Go.WideShapes Go.ChangeAt Go.RowKit
set_option linter.unusedVariables false
set_option linter.unusedSimpArgs false

def levOf (wt st x : Int) : Int := if st ≤ x then 2 else if wt ≤ x then 1 else 0
def levL (zs : List Int) (wt st : Int) : List Int := zs.map (levOf wt st)
theorem levL_len (zs : List Int) (wt st : Int) : (levL zs wt st).length = zs.length := by simp [levL]
theorem levL_get {zs : List Int} {wt st : Int} {k : Nat} {x : Int} (hx : zs[k]? = some x) : (levL zs wt st)[k]? = some (levOf wt st x) := by simp [levL, hx]
def LevV (zs : List Int) (wt st : Int) : Prop := OkSe zs ∧ (1 ≤ st ∧ st ≤ 2000000) ∧ (1 ≤ wt ∧ wt ≤ st)

theorem isDepth_any (n : Int) (b : Bool) (hb : b = true ↔ 1 ≤ n ∧ n ≤ 2000000) (w : World) :
    Calls Try.prog 15 #[.int .i64 n] w fun e w' => e = .returned (.bool b) ∧ w = w' := by
  have HB := Lib.hid hb
  clear hb
  go_enter Try.func15, Try.ntmps15
  go_wp2_with fail
  refine (within_any n 1 2000000 b HB.out w).mono ?_
  rintro e w' ⟨rfl, rfl⟩
  go_wp2
  go_ret
  exact ⟨rfl, rfl⟩


end Go.Proofs.Ythhnnkgfnhggbab
