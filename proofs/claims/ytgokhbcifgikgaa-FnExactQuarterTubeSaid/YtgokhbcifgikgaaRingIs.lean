/- Valid rings, on both sides. -/
import Derived.Test.YtgokhbcifgikgaaRings
import Derived.Test.YtgokhbcifgikgaaWithin
namespace Go.Proofs.Ytgokhbcifgikgaa
open Go.ChangeShapes Go.WideShapes Go.ChangeAt Go.RowKit
set_option linter.unusedVariables false
set_option linter.unusedSimpArgs false

def OkR (q : Rg) : Prop := (0 ≤ q.k ∧ q.k ≤ 1) ∧ (0 ≤ q.y ∧ q.y ≤ 15)

set_option maxHeartbeats 1000000 in
theorem l03Is_any (q : Rg) (b : Bool) (hb : b = true ↔ OkR q) (w : World) :
    Calls Try.prog 21 #[(.agg #[.int .i64 q.k, .int .i64 q.y])] w fun e w' => e = .returned (.bool b) ∧ Below w.heap.size w w' := by
  by_cases h1 : 0 ≤ q.k ∧ q.k ≤ 1
  · by_cases h2 : 0 ≤ q.y ∧ q.y ≤ 15
    · obtain rfl : b = true := hb.mpr ⟨h1, h2⟩
      have c1 := Lib.hid (fun w => in_any q.k 0 1 true ⟨fun _ => h1, fun _ => rfl⟩ w)
      have c2 := Lib.hid (fun w => in_any q.y 0 15 true ⟨fun _ => h2, fun _ => rfl⟩ w)
      clear hb h1 h2
      go_enter Try.func21, Try.ntmps21
      go_wp2_with fail
      refine (c1.out _).mono ?_
      rintro e w' ⟨rfl, rfl⟩
      go_wp2_with fail
      refine (c2.out _).mono ?_
      rintro e w' ⟨rfl, rfl⟩
      go_wp2
      go_ret
      exact ⟨rfl, by go_grown⟩
    · obtain rfl : b = false := b_false hb fun h => h2 h.2
      have c1 := Lib.hid (fun w => in_any q.k 0 1 true ⟨fun _ => h1, fun _ => rfl⟩ w)
      have c2 := Lib.hid (fun w => in_any q.y 0 15 false ⟨fun h => (by cases h), fun h => absurd h h2⟩ w)
      clear hb h1 h2
      go_enter Try.func21, Try.ntmps21
      go_wp2_with fail
      refine (c1.out _).mono ?_
      rintro e w' ⟨rfl, rfl⟩
      go_wp2_with fail
      refine (c2.out _).mono ?_
      rintro e w' ⟨rfl, rfl⟩
      go_wp2
      go_ret
      exact ⟨rfl, by go_grown⟩
  · obtain rfl : b = false := b_false hb fun h => h1 h.1
    have c1 := Lib.hid (fun w => in_any q.k 0 1 false ⟨fun h => (by cases h), fun h => absurd h h1⟩ w)
    clear hb h1
    go_enter Try.func21, Try.ntmps21
    go_wp2_with fail
    refine (c1.out _).mono ?_
    rintro e w' ⟨rfl, rfl⟩
    go_wp2
    go_ret
    exact ⟨rfl, by go_grown⟩

set_option maxHeartbeats 1000000 in
theorem implRing_any (q : Rg) (b : Bool) (hb : b = true ↔ OkR q) (w : World) :
    Calls Try.prog 9 #[(.agg #[.int .i64 q.k, .int .i64 q.y])] w fun e w' => e = .returned (.bool b) ∧ Below w.heap.size w w' := by
  by_cases h1 : 0 ≤ q.k ∧ q.k ≤ 1
  · by_cases h2 : 0 ≤ q.y ∧ q.y ≤ 15
    · obtain rfl : b = true := hb.mpr ⟨h1, h2⟩
      have c1 := Lib.hid (fun w => within_any q.k 0 1 true ⟨fun _ => h1, fun _ => rfl⟩ w)
      have c2 := Lib.hid (fun w => within_any q.y 0 15 true ⟨fun _ => h2, fun _ => rfl⟩ w)
      clear hb h1 h2
      go_enter Try.func9, Try.ntmps9
      go_wp2_with fail
      refine (c1.out _).mono ?_
      rintro e w' ⟨rfl, rfl⟩
      go_wp2_with fail
      refine (c2.out _).mono ?_
      rintro e w' ⟨rfl, rfl⟩
      go_wp2
      go_ret
      exact ⟨rfl, by go_grown⟩
    · obtain rfl : b = false := b_false hb fun h => h2 h.2
      have c1 := Lib.hid (fun w => within_any q.k 0 1 true ⟨fun _ => h1, fun _ => rfl⟩ w)
      have c2 := Lib.hid (fun w => within_any q.y 0 15 false ⟨fun h => (by cases h), fun h => absurd h h2⟩ w)
      clear hb h1 h2
      go_enter Try.func9, Try.ntmps9
      go_wp2_with fail
      refine (c1.out _).mono ?_
      rintro e w' ⟨rfl, rfl⟩
      go_wp2_with fail
      refine (c2.out _).mono ?_
      rintro e w' ⟨rfl, rfl⟩
      go_wp2
      go_ret
      exact ⟨rfl, by go_grown⟩
  · obtain rfl : b = false := b_false hb fun h => h1 h.1
    have c1 := Lib.hid (fun w => within_any q.k 0 1 false ⟨fun h => (by cases h), fun h => absurd h h1⟩ w)
    clear hb h1
    go_enter Try.func9, Try.ntmps9
    go_wp2_with fail
    refine (c1.out _).mono ?_
    rintro e w' ⟨rfl, rfl⟩
    go_wp2
    go_ret
    exact ⟨rfl, by go_grown⟩

theorem specRing_any (q : Rg) (b : Bool) (hb : b = true ↔ OkR q) (w : World) :
    Calls Try.prog 7 #[(.agg #[.int .i64 q.k, .int .i64 q.y])] w fun e w' => e = .returned (.bool b) ∧ Below w.heap.size w w' := by
  have c := Lib.hid (fun w => l03Is_any q b hb w)
  clear hb
  go_enter Try.func7, Try.ntmps7
  go_wp2_with fail
  refine (c.out _).mono ?_
  rintro e w' ⟨rfl, b⟩
  have B := Lib.hid b
  clear b
  go_wp2
  go_ret
  exact ⟨rfl, Below.trans (by go_grown) (B.out.mono (by simp))⟩

theorem exValidRing (q : Rg) : ∃ r : Bool,
    Hid (∀ (w : World), (fun _ => True) w → Calls Try.prog 7 #[(.agg #[.int .i64 q.k, .int .i64 q.y])] w fun e w' => e = .returned (.bool r) ∧ Below w.heap.size w w') ∧
    Hid (∀ (w : World), (fun _ => True) w → Calls Try.prog 9 #[(.agg #[.int .i64 q.k, .int .i64 q.y])] w fun e w' => e = .returned (.bool r) ∧ Below w.heap.size w w') := by
  obtain ⟨b, hb⟩ : ∃ b : Bool, b = true ↔ OkR q := by
    by_cases h : OkR q
    · exact ⟨true, by simp [h]⟩
    · exact ⟨false, by simp [h]⟩
  exact ⟨b, fun w _ => specRing_any q b hb w, fun w _ => implRing_any q b hb w⟩
end Go.Proofs.Ytgokhbcifgikgaa
