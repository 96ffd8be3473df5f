/- slices.Contains of integers. -/
import Derived.Test.YtmdddjhlfpmgdacInts
namespace Go.Proofs.Ytmdddjhlfpmgdac
open Go.ChangeShapes Go.WideShapes Go.ChangeAt Go.RowKit
set_option linter.unusedVariables false
set_option linter.unusedSimpArgs false

set_option maxHeartbeats 2000000 in
theorem indexC_any (v : Value) (zs : List Int) (w : World) (hr : RdI w v zs) (hn2 : zs.length ≤ 1048576) (x : Int) :
    Calls Try.prog 122 #[v, .int .i64 x] w fun e w' => (∃ z : Int, e = .returned (.int .i64 z) ∧ (0 ≤ z ↔ x ∈ zs)) ∧ w = w' := by
  obtain ⟨a, cap, rfl, hc⟩ := hr
  obtain ⟨n, hn⟩ : ∃ n, n = zs.length := ⟨_, rfl⟩
  rw [← hn] at hn2
  rw [← hn]
  have HC := Lib.hid hc
  have HN := Lib.hid hn
  clear hc hn
  go_enter Try.func122, Try.ntmps122
  go_wp2
  go_loopw [8] (fun j wr => ∃ (k : Nat), k ≤ n ∧ j = .int .i64 k ∧ wr = w ∧ Hid (x ∉ zs.take k)) (fun j _ => n - (intOf j).toNat)
  case atStart => exact ⟨0, by omega, rfl, rfl, (show x ∉ zs.take 0 by simp)⟩
  case round =>
    obtain ⟨k, hk, rfl, rfl, hno⟩ := hrel
    by_cases hlt : k < n
    · obtain ⟨z, hz⟩ : ∃ z, zs[k]? = some z := ⟨_, List.getElem?_eq_getElem (by have := HN.out; omega)⟩
      obtain ⟨b, off, rfl, hc1⟩ := HC.out.resolve_left (by intro h; have := HN.out; rw [h] at this; simp at this; omega)
      have c1 := hc1 k z hz
      have HZ := Lib.hid hz
      have lt : (k : Int) < n := by omega
      clear hc1 hz
      by_cases hxz : x = z
      · subst hxz
        have M : Hid (x ∈ zs) := List.mem_of_getElem? HZ.out
        clear hno
        go_wp2
        go_ret
        exact ⟨⟨_, rfl, ⟨fun _ => M.out, fun _ => by omega⟩⟩, rfl⟩
      · have hne : ¬ z = x := fun h => hxz h.symm
        have A1 : Hid (x ∉ zs.take (k + 1)) := by
          show x ∉ zs.take (k + 1)
          rw [List.take_add_one, HZ.out]
          intro h
          rcases List.mem_append.mp h with h | h
          · exact hno.out h
          · have : x = z := by simpa using h
            exact hxz this
        clear hno
        go_wp2
        exact ⟨⟨k + 1, by omega, by go_num, by trivial, A1⟩, by simp only [intOf]; omega⟩
    · obtain rfl : k = n := by omega
      have M : Hid (x ∉ zs) := by show x ∉ zs; have := hno.out; rwa [List.take_of_length_le (by have := HN.out; omega)] at this
      clear hno
      go_wp2
      go_ret
      exact ⟨⟨_, rfl, ⟨fun h => by omega, fun h => absurd h M.out⟩⟩, rfl⟩

theorem contains_any (v : Value) (zs : List Int) (w : World) (hr : RdI w v zs) (hn2 : zs.length ≤ 1048576) (x : Int) (b : Bool) (hb : b = true ↔ x ∈ zs) :
    Calls Try.prog 121 #[v, .int .i64 x] w fun e w' => e = .returned (.bool b) ∧ w = w' := by
  have C := Lib.hid (fun w hr => indexC_any v zs w hr hn2 x)
  have HR := Lib.hid hr
  have HB := Lib.hid hb
  obtain ⟨a, cap, rfl, -⟩ := hr
  generalize zs.length = n at *
  clear hb
  go_enter Try.func121, Try.ntmps121
  go_wp2_with fail
  refine (C.out _ HR.out).mono ?_
  rintro e w' ⟨⟨z, rfl, hz⟩, rfl⟩
  have HZ := Lib.hid hz
  clear hz
  go_wp2
  go_ret
  exact ⟨by
    have : decide (0 ≤ z) = b := by rw [Bool.eq_iff_iff, HB.out, ← HZ.out]; simp
    simp [← this], rfl⟩
end Go.Proofs.Ytmdddjhlfpmgdac
