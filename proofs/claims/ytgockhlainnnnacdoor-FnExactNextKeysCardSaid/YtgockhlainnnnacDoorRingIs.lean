/- Valid rings, on both sides. -/
import Derived.Test.YtgockhlainnnnacDoorRings
import Derived.Test.YtgockhlainnnnacDoorWithin
namespace Go.Proofs.YtgockhlainnnnacDoor
open Go.ChangeShapes Go.WideShapes Go.ChangeAt Go.RowKit
set_option linter.unusedVariables false
set_option linter.unusedSimpArgs false

def OkR (q : Rg) : Prop := (0 ≤ q.k ∧ q.k ≤ 1) ∧ (0 ≤ q.y ∧ q.y ≤ 15)

set_option maxHeartbeats 1000000 in
theorem l03Is_any (q : Rg) (b : Bool) (hb : b = true ↔ OkR q) (w : World) :
    Calls Tryd.prog 41 #[(.agg #[.int .i64 q.k, .int .i64 q.y])] w fun e w' => e = .returned (.bool b) ∧ Below w.heap.size w w' := by
  by_cases h1 : 0 ≤ q.k ∧ q.k ≤ 1
  · by_cases h2 : 0 ≤ q.y ∧ q.y ≤ 15
    · obtain rfl : b = true := hb.mpr ⟨h1, h2⟩
      have c1 := Lib.hid (fun w => in_any q.k 0 1 true ⟨fun _ => h1, fun _ => rfl⟩ w)
      have c2 := Lib.hid (fun w => in_any q.y 0 15 true ⟨fun _ => h2, fun _ => rfl⟩ w)
      clear hb h1 h2
      go_enter Tryd.func41, Tryd.ntmps41
      go_wp2_with fail
      refine (c1.out _).mono ?_
      rintro e w' ⟨rfl, rfl⟩
      go_wp2_with fail
      refine (c2.out _).mono ?_
      rintro e w' ⟨rfl, rfl⟩
      go_wp2
      go_ret
      exact ⟨rfl, by go_grown⟩
    · obtain rfl : b = false := b_false hb fun h => h2 h.2
      have c1 := Lib.hid (fun w => in_any q.k 0 1 true ⟨fun _ => h1, fun _ => rfl⟩ w)
      have c2 := Lib.hid (fun w => in_any q.y 0 15 false ⟨fun h => (by cases h), fun h => absurd h h2⟩ w)
      clear hb h1 h2
      go_enter Tryd.func41, Tryd.ntmps41
      go_wp2_with fail
      refine (c1.out _).mono ?_
      rintro e w' ⟨rfl, rfl⟩
      go_wp2_with fail
      refine (c2.out _).mono ?_
      rintro e w' ⟨rfl, rfl⟩
      go_wp2
      go_ret
      exact ⟨rfl, by go_grown⟩
  · obtain rfl : b = false := b_false hb fun h => h1 h.1
    have c1 := Lib.hid (fun w => in_any q.k 0 1 false ⟨fun h => (by cases h), fun h => absurd h h1⟩ w)
    clear hb h1
    go_enter Tryd.func41, Tryd.ntmps41
    go_wp2_with fail
    refine (c1.out _).mono ?_
    rintro e w' ⟨rfl, rfl⟩
    go_wp2
    go_ret
    exact ⟨rfl, by go_grown⟩

set_option maxHeartbeats 1000000 in
theorem implRing_any (q : Rg) (b : Bool) (hb : b = true ↔ OkR q) (w : World) :
    Calls Tryd.prog 43 #[(.agg #[.int .i64 q.k, .int .i64 q.y])] w fun e w' => e = .returned (.bool b) ∧ Below w.heap.size w w' := by
  by_cases h1 : 0 ≤ q.k ∧ q.k ≤ 1
  · by_cases h2 : 0 ≤ q.y ∧ q.y ≤ 15
    · obtain rfl : b = true := hb.mpr ⟨h1, h2⟩
      have c1 := Lib.hid (fun w => within_any q.k 0 1 true ⟨fun _ => h1, fun _ => rfl⟩ w)
      have c2 := Lib.hid (fun w => within_any q.y 0 15 true ⟨fun _ => h2, fun _ => rfl⟩ w)
      clear hb h1 h2
      go_enter Tryd.func43, Tryd.ntmps43
      go_wp2_with fail
      refine (c1.out _).mono ?_
      rintro e w' ⟨rfl, rfl⟩
      go_wp2_with fail
      refine (c2.out _).mono ?_
      rintro e w' ⟨rfl, rfl⟩
      go_wp2
      go_ret
      exact ⟨rfl, by go_grown⟩
    · obtain rfl : b = false := b_false hb fun h => h2 h.2
      have c1 := Lib.hid (fun w => within_any q.k 0 1 true ⟨fun _ => h1, fun _ => rfl⟩ w)
      have c2 := Lib.hid (fun w => within_any q.y 0 15 false ⟨fun h => (by cases h), fun h => absurd h h2⟩ w)
      clear hb h1 h2
      go_enter Tryd.func43, Tryd.ntmps43
      go_wp2_with fail
      refine (c1.out _).mono ?_
      rintro e w' ⟨rfl, rfl⟩
      go_wp2_with fail
      refine (c2.out _).mono ?_
      rintro e w' ⟨rfl, rfl⟩
      go_wp2
      go_ret
      exact ⟨rfl, by go_grown⟩
  · obtain rfl : b = false := b_false hb fun h => h1 h.1
    have c1 := Lib.hid (fun w => within_any q.k 0 1 false ⟨fun h => (by cases h), fun h => absurd h h1⟩ w)
    clear hb h1
    go_enter Tryd.func43, Tryd.ntmps43
    go_wp2_with fail
    refine (c1.out _).mono ?_
    rintro e w' ⟨rfl, rfl⟩
    go_wp2
    go_ret
    exact ⟨rfl, by go_grown⟩

end Go.Proofs.YtgockhlainnnnacDoor
