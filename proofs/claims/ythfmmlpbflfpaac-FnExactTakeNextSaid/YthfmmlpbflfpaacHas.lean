/- Whether a list has a number: the specification's side. -/
import Derived.Test.YthfmmlpbflfpaacInts
import Derived.Test.YthfmmlpbflfpaacWithin
namespace Go.Proofs.Ythfmmlpbflfpaac
open Go.ChangeShapes Go.WideShapes Go.ChangeAt Go.RowKit
set_option linter.unusedVariables false
set_option linter.unusedSimpArgs false

theorem RdI.at1 {w : World} {a : Option Addr} {n cap : Nat} {xs : List Int} (h : RdI w (.slice a n cap) xs) (i : Nat) (x : Int) (hx : xs[i]? = some x) :
    ∃ b off, a = some ⟨b, off, none⟩ ∧ w.cell? ⟨b, off + i, none⟩ = some (.int .i64 x) := by
  obtain ⟨a', c', hv, h⟩ := h
  simp only [Value.slice.injEq] at hv
  obtain ⟨rfl, -, -⟩ := hv
  obtain ⟨b, off, rfl, h2⟩ := h.resolve_left (by intro e; rw [e] at hx; simp at hx)
  exact ⟨b, off, rfl, h2 i x hx⟩

set_option maxHeartbeats 1000000 in
theorem l00Has_any (v : Value) (xs : List Int) (n : Int) (w : World) (h : RdI w v xs) (lx : xs.length ≤ 1048576) (b : Bool) (hb : b = true ↔ n ∈ xs) :
    Calls Try.prog 23 #[v, .int .i64 n] w fun e w' => e = .returned (.bool b) ∧ w' = w := by
  have H := Lib.hid h
  have HB := Lib.hid hb
  obtain ⟨a, cap, rfl, _⟩ := h
  obtain ⟨N, hN⟩ : ∃ N, N = xs.length := ⟨_, rfl⟩
  rw [← hN] at H lx
  rw [← hN]
  have HN := Lib.hid hN
  clear hN hb
  go_enter Try.func23, Try.ntmps23
  go_wp2
  go_loop [5] (fun i => ∃ k : Nat, k ≤ N ∧ i = .int .i64 k ∧ Hid (n ∉ xs.take k)) (fun i => N - (intOf i).toNat)
  case atStart => exact ⟨0, by omega, rfl, by show _ ∉ _; simp⟩
  case round =>
    obtain ⟨k, hk, rfl, hno⟩ := hrel
    by_cases hlt : k < N
    · obtain ⟨x, hx⟩ : ∃ x, xs[k]? = some x := ⟨_, List.getElem?_eq_getElem (by have := HN.out; omega)⟩
      obtain ⟨ba, oa, rfl, e0⟩ := H.out.at1 k x hx
      by_cases hxn : x = n
      · obtain rfl : b = true := HB.out.mpr (by rw [← hxn]; exact List.mem_of_getElem? hx)
        subst hxn
        clear hx hno
        go_wp2
        go_ret
        exact ⟨rfl, rfl⟩
      · have hne : ((x == n) : Bool) = false := by simpa using hxn
        have hno' : Hid (n ∉ xs.take (k + 1)) := by
          show _ ∉ _
          rw [List.take_add_one, hx]
          simp only [Option.toList_some, List.mem_append, List.mem_singleton, not_or]
          exact ⟨hno.out, fun e => hxn e.symm⟩
        clear hx hno hxn
        go_wp2
        exact ⟨⟨k + 1, by omega, by go_num, hno'⟩, by simp only [intOf]; omega⟩
    · obtain rfl : k = N := by omega
      obtain rfl : b = false := b_false HB.out (by have := hno.out; rwa [List.take_of_length_le (by have := HN.out; omega)] at this)
      go_wp2
      go_ret
      exact ⟨rfl, rfl⟩
end Go.Proofs.Ythfmmlpbflfpaac
