/- TubeText on both sides. -/
import Derived.Test.YthhnnkgfnhggbabDoorTubeT
import Derived.Test.YthhnnkgfnhggbabDoorJoinRg
import Derived.Test.YthhnnkgfnhggbabDoorTubes
import Derived.Test.YthhnnkgfnhggbabDoorSpecT
namespace Go.Proofs.YthhnnkgfnhggbabDoor
open Go.ChangeShapes Go.WideShapes Go.ChangeAt Go.RowKit
set_option linter.unusedVariables false
set_option linter.unusedSimpArgs false

def tubeL (xs : List Rg) : List UInt8 := joinG [32] (xs.map textRg) xs.length

set_option maxHeartbeats 4000000 in
theorem implTubeText_any (v : Value) (xs : List Rg) (w : World) (hr : RdS 2 encRg w v xs) (lx : xs.length ≤ 1048576) (b : Bool) (hb : b = true ↔ OkT xs) (l : List UInt8) (h : l = if b = true then tubeL xs else []) (hT : TDec w) :
    Calls Tryd.prog 35 #[v] w fun e w' => e = .returned (.tuple #[.string ⟨l.toArray⟩, .bool b]) ∧ Below w.heap.size w w' := by
  have C1 := Lib.hid (fun w hr => implTube_any v xs w hr lx b hb)
  have HR := Lib.hid hr
  have HT := Lib.hid hT
  have HB := Lib.hid hb
  clear hb hT hr
  cases b with
  | false =>
    obtain rfl : l = [] := by simpa using h
    clear h
    go_enter Tryd.func35, Tryd.ntmps35
    go_wp2_with fail
    refine (C1.out _ HR.out).mono ?_
    rintro e w1 ⟨rfl, b1⟩
    have B1 := Lib.hid b1
    clear b1 C1
    go_wp2
    go_ret2
    exact ⟨rfl, B1.out⟩
  | true =>
    obtain rfl : l = tubeL xs := by simpa using h
    have ok := HB.out.mp rfl
    have C2 := Lib.hid (fun w hr hT => joinRg_any textRg v xs [32] (by simp) w hr lx 30 (by omega) (fun x hx => textRg_len (ok.2.1 x hx)) TDec (fun _ _ h b => h.later b) hT (fun x hx w hT => ringText_any x (ok.2.1 x hx) w hT))
    clear h ok HB
    go_enter Tryd.func35, Tryd.ntmps35
    go_wp2_with fail
    refine (C1.out _ HR.out).mono ?_
    rintro e w1 ⟨rfl, b1⟩
    have B1 := Lib.hid b1
    clear b1 C1
    go_wp2_with fail
    refine (C2.out _ (HR.out.later B1.out) (HT.out.later B1.out)).mono ?_
    rintro e w2 ⟨rfl, b2⟩
    have B2 : Hid (Below w.heap.size w w2) := B1.out.trans (b2.mono B1.out.size)
    clear b2 C2 B1
    go_wp2
    go_ret2
    exact ⟨rfl, B2.out⟩

set_option maxHeartbeats 4000000 in
theorem specTubeText_any (v : Value) (xs : List Rg) (w : World) (hr : RdS 2 encRg w v xs) (lx : xs.length ≤ 1048576) (b : Bool) (hb : b = true ↔ OkT xs) (l : List UInt8) (h : l = if b = true then tubeL xs else []) :
    Calls Tryd.prog 34 #[v] w fun e w' => e = .returned (.tuple #[.string ⟨l.toArray⟩, .bool b]) ∧ Below w.heap.size w w' := by
  have C1 := Lib.hid (fun w hr => l03Tube_any v xs w hr lx b hb)
  have HR := Lib.hid hr
  have HB := Lib.hid hb
  clear hb hr
  cases b with
  | false =>
    obtain rfl : l = [] := by simpa using h
    clear h
    go_enter Tryd.func34, Tryd.ntmps34
    go_wp2_with fail
    refine (C1.out _ HR.out).mono ?_
    rintro e w1 ⟨rfl, b1⟩
    have B1 := Lib.hid b1
    clear b1 C1
    go_wp2
    go_ret2
    exact ⟨rfl, B1.out⟩
  | true =>
    obtain rfl : l = tubeL xs := by simpa using h
    have ok := HB.out.mp rfl
    have C2 := Lib.hid (fun w hr => l03Text_any v xs w hr ok.2.1 (by have := ok.1; omega))
    clear h ok HB
    go_enter Tryd.func34, Tryd.ntmps34
    go_wp2_with fail
    refine (C1.out _ HR.out).mono ?_
    rintro e w1 ⟨rfl, b1⟩
    have B1 := Lib.hid b1
    clear b1 C1
    go_wp2_with fail
    refine (C2.out _ (HR.out.later B1.out)).mono ?_
    rintro e w2 ⟨rfl, b2⟩
    have B2 : Hid (Below w.heap.size w w2) := B1.out.trans (b2.mono B1.out.size)
    clear b2 C2 B1
    go_wp2
    go_ret2
    exact ⟨rfl, B2.out⟩

open Classical in
theorem exTubeText (xs : List Rg) (lx : xs.length ≤ 1048576) : ∃ (A : ByteArray) (b : Bool),
    (Hid (∀ v w, RdS 2 encRg w v xs → Calls Tryd.prog 34 #[v] w fun e w' => e = .returned (.tuple #[.string A, .bool b]) ∧ Below w.heap.size w w')) ∧
    (Hid (∀ v w, RdS 2 encRg w v xs → TDec w → Calls Tryd.prog 35 #[v] w fun e w' => e = .returned (.tuple #[.string A, .bool b]) ∧ Below w.heap.size w w')) := by
  obtain ⟨b, hb⟩ : ∃ b : Bool, b = true ↔ OkT xs := ⟨decide (OkT xs), by simp⟩
  exact ⟨_, b, fun v w hr => specTubeText_any v xs w hr lx b hb _ rfl, fun v w hr hT => implTubeText_any v xs w hr lx b hb _ rfl hT⟩
end Go.Proofs.YthhnnkgfnhggbabDoor
