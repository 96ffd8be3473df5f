/- Limits and courses: what is valid, on both sides, and the course one ring further. -/
import Derived.Test.YtkdecpnbbpmooacDoorWithin
import Derived.Test.YtkdecpnbbpmooacDoorLimitss
import Derived.Test.YtkdecpnbbpmooacDoorCourses
import Derived.Handy
import Derived.IntWalk
namespace Go.Proofs.YtkdecpnbbpmooacDoor
open Go.ChangeShapes Go.WideShapes Go.ChangeAt Go.RowKit
set_option linter.unusedVariables false
set_option linter.unusedSimpArgs false

theorem bool_of (P : Prop) : ∃ b : Bool, b = true ↔ P := by
  by_cases h : P
  · exact ⟨true, by simp [h]⟩
  · exact ⟨false, by simp [h]⟩
theorem band_of {b b1 b2 : Bool} {P Q R : Prop} (h : b = true ↔ R) (h1 : b1 = true ↔ P) (h2 : b2 = true ↔ Q) (hr : R ↔ P ∧ Q) : b = (b1 && b2) := by
  rw [Bool.eq_iff_iff, Bool.and_eq_true, h, h1, h2, hr]
theorem bool_iff_true {b : Bool} {P : Prop} (h : P) (hb : b = true ↔ P) : b = true := hb.mpr h

def OkL (l : Lm) : Prop := (1 ≤ l.m ∧ l.m ≤ 3) ∧ (1 ≤ l.c ∧ l.c ≤ 6)
def NearC (c : Co) : Prop := (-40 ≤ c.o ∧ c.o ≤ 40) ∧ (-10 ≤ c.h ∧ c.h ≤ 10)
def InC (m : Int) (c : Co) : Prop := NearC c ∧ (-m ≤ c.t ∧ c.t ≤ m)
def OkC (l : Lm) (c : Co) : Prop := OkL l ∧ InC l.m c
def nextC (c : Co) (t : Int) : Co := ⟨c.o + c.h, c.h + t, t⟩
/-- The turn t can be taken. -/
def Goes (l : Lm) (c : Co) (t : Int) : Prop := ((-l.m ≤ t ∧ t ≤ l.m) ∧ (-l.c ≤ t - c.t ∧ t - c.t ≤ l.c)) ∧ InC l.m (nextC c t)
def noC : Co := ⟨0, 0, 0⟩
/-- The answer of the next course. -/
def NextRes (P : Prop) (c : Co) (t : Int) (o : Co) (v : Bool) : Prop := (P ∧ o = nextC c t ∧ v = true) ∨ (¬ P ∧ o = noC ∧ v = false)
theorem nextRes_of (P : Prop) (c : Co) (t : Int) : ∃ o v, NextRes P c t o v := by
  by_cases h : P
  · exact ⟨_, _, .inl ⟨h, rfl, rfl⟩⟩
  · exact ⟨_, _, .inr ⟨h, rfl, rfl⟩⟩




set_option maxHeartbeats 1000000 in
theorem isNear_any (c : Co) (b : Bool) (hb : b = true ↔ NearC c) (w : World) :
    Calls Tryd.prog 37 #[(.agg #[.int .i64 c.o, .int .i64 c.h, .int .i64 c.t])] w fun e w' => e = .returned (.bool b) ∧ w' = w.alloc (.cells #[.int .i64 c.o, .int .i64 c.h, .int .i64 c.t] 27) := by
  obtain ⟨b1, h1⟩ := bool_of (-40 ≤ c.o ∧ c.o ≤ 40)
  obtain ⟨b2, h2⟩ := bool_of (-10 ≤ c.h ∧ c.h ≤ 10)
  obtain rfl : b = (b1 && b2) := band_of hb h1 h2 Iff.rfl
  have H1 := Lib.hid h1
  have H2 := Lib.hid h2
  clear hb h1 h2
  go_enter Tryd.func37, Tryd.ntmps37
  go_wp2_with fail
  refine (within_any c.o (-40) 40 b1 H1.out _).mono ?_
  rintro e w1 ⟨rfl, rfl⟩
  cases b1
  · go_wp2
    go_ret
    exact ⟨rfl, rfl⟩
  · go_wp2_with fail
    refine (within_any c.h (-10) 10 b2 H2.out _).mono ?_
    rintro e w1 ⟨rfl, rfl⟩
    go_wp2
    go_ret
    exact ⟨rfl, rfl⟩

end Go.Proofs.YtkdecpnbbpmooacDoor
