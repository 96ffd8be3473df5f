/- Sets of numbers: rising lists, on both sides. (Written by tools/mkhead.py.) -/
import Derived.Test.YthfmmlpbflfpaacWithin
import Derived.Test.YthfmmlpbflfpaacChg
import Derived.Deep.QuietTactic
import Derived.Handy
namespace Go.Proofs.Ythfmmlpbflfpaac
open Go.ChangeShapes Go.WideShapes Go.ChangeAt Go.RowKit
set_option linter.unusedVariables false
set_option linter.unusedSimpArgs false

theorem ok_boolS (P : Prop) : ∃ b : Bool, b = true ↔ P := by
  by_cases h : P
  · exact ⟨true, by simp [h]⟩
  · exact ⟨false, by simp [h]⟩

/-- A rising list. -/
def Up (zs : List Int) : Prop := ∀ (i : Nat) x y, zs[i]? = some x → zs[i + 1]? = some y → x < y

theorem Up.take {zs : List Int} (h : Up zs) (k : Nat) : Up (zs.take k) := by
  intro i x y hx hy
  have hi : i + 1 < k := by have := (List.getElem?_eq_some_iff.1 hy).1; simp at this; omega
  rw [List.getElem?_take, if_pos (by omega)] at hx
  rw [List.getElem?_take, if_pos hi] at hy
  exact h i x y hx hy

theorem up_lt {zs : List Int} (h : Up zs) {i j : Nat} {x y : Int} (hij : i < j) (hx : zs[i]? = some x) (hy : zs[j]? = some y) : x < y := by
  induction j generalizing y with
  | zero => omega
  | succ j ih =>
    by_cases e : i = j
    · subst e; exact h i x y hx hy
    · obtain ⟨z, hz⟩ : ∃ z, zs[j]? = some z := ⟨_, List.getElem?_eq_getElem (by have := (List.getElem?_eq_some_iff.1 hy).1; omega)⟩
      have h1 := ih (by omega) hz
      have h2 := h j z y hz hy
      omega

/-- A set of numbers within bounds. -/
def RisesIn (lo hi : Int) (zs : List Int) : Prop := (∀ x ∈ zs, lo ≤ x ∧ x ≤ hi) ∧ Up zs

theorem RisesIn.push {lo hi : Int} {zs : List Int} {k : Nat} {x : Int} (h : RisesIn lo hi (zs.take k)) (hx : zs[k]? = some x) (hb : lo ≤ x ∧ x ≤ hi) (hu : ∀ p, 0 < k → zs[k - 1]? = some p → p < x) : RisesIn lo hi (zs.take (k + 1)) := by
  have hk : k < zs.length := (List.getElem?_eq_some_iff.1 hx).1
  refine ⟨fun y hy => ?_, fun i y z hy hz => ?_⟩
  · rw [List.take_add_one, hx] at hy
    rcases List.mem_append.mp hy with hy | hy
    · exact h.1 y hy
    · have : y = x := by simpa using hy
      subst this; exact hb
  · have hi : i + 1 < k + 1 := by have := (List.getElem?_eq_some_iff.1 hz).1; simp at this; omega
    rw [List.getElem?_take, if_pos (by omega)] at hy
    rw [List.getElem?_take, if_pos hi] at hz
    by_cases e : i + 1 = k
    · subst e
      rw [hx] at hz
      have := Option.some.inj hz
      subst this
      exact hu y (by omega) (by simpa using hy)
    · exact h.2 i y z (by rw [List.getElem?_take, if_pos (by omega)]; exact hy) (by rw [List.getElem?_take, if_pos (by omega)]; exact hz)

theorem up1_any (x y : Int) (b : Bool) (hb : b = decide (x < y)) (w : World) : Calls Try.prog 51 #[.int .i64 x, .int .i64 y] w fun e w' => e = .returned (.bool b) ∧ w = w' := by
  have HB := Lib.hid hb
  clear hb
  go_enter Try.func51, Try.ntmps51
  go_wp2
  go_ret
  exact ⟨by simp [HB.out], rfl⟩

set_option maxHeartbeats 2000000 in
theorem everyTwo_up (v : Value) (zs : List Int) (w : World) (h : RdI w v zs) (lz : zs.length ≤ 1099511627776) (b : Bool) (hb : b = true ↔ Up zs) :
    Calls Try.prog 50 #[v, .func (Fn.func 51) #[] #[]] w fun e w' => e = .returned (.bool b) ∧ Below w.heap.size w w' := by
  obtain ⟨a, cap, rfl, ra⟩ := h
  obtain ⟨n, hn⟩ : ∃ n, n = zs.length := ⟨_, rfl⟩
  rw [← hn] at lz
  rw [← hn]
  have RA := Lib.hid ra
  have HN := Lib.hid hn
  have HB := Lib.hid hb
  clear ra hn hb
  go_enter Try.func50, Try.ntmps50
  go_wp2
  go_loopw [5] (fun i wr => ∃ k : Nat, 1 ≤ k ∧ k ≤ n + 1 ∧ i = .int .i64 k ∧ Hid (∀ (i : Nat) x y, i + 1 < k → zs[i]? = some x → zs[i + 1]? = some y → x < y) ∧ Hid (∃ q, wr = w.drewN q)) (fun i _ => n + 1 - (intOf i).toNat)
  case atStart => exact ⟨1, by omega, by omega, rfl, fun i x y h => by omega, ⟨0, rfl⟩⟩
  case round =>
    obtain ⟨k, k1, hk, rfl, ha, hw⟩ := hrel
    obtain ⟨q, rfl⟩ := hw.out
    by_cases hlt : k < n
    · obtain ⟨j, hj⟩ : ∃ j, k = j + 1 := ⟨k - 1, by omega⟩
      obtain ⟨x, hx⟩ : ∃ x, zs[j]? = some x := ⟨_, List.getElem?_eq_getElem (by have := HN.out; omega)⟩
      obtain ⟨y, hy⟩ : ∃ y, zs[k]? = some y := ⟨_, List.getElem?_eq_getElem (by have := HN.out; omega)⟩
      obtain ⟨ba, oa, rfl, ca'⟩ := RA.out.resolve_left (by intro h; have := HN.out; rw [h] at this; simp at this; omega)
      have c0 := ca' j x hx
      have c1 := ca' k y hy
      have HX := Lib.hid hx
      have HY := Lib.hid hy
      have HJ := Lib.hid hj
      have q1 : IntKind.i64.wrap ((k : Int) - 1) = (j : Int) := by rw [IntWalk.i64_in _ (by omega)]; omega
      have jn : j < n := by omega
      clear ca' hx hy hj
      by_cases hv : x < y
      · have C := Lib.hid (fun w => up1_any x y true (by simpa using hv) w)
        have A1 : Hid (∀ (i : Nat) x y, i + 1 < k + 1 → zs[i]? = some x → zs[i + 1]? = some y → x < y) := fun i x' y' hi hx' hy' => by
          by_cases e : i = j
          · subst e
            rw [HX.out] at hx'
            rw [← HJ.out, HY.out] at hy'
            rw [← Option.some.inj hx', ← Option.some.inj hy']; exact hv
          · exact ha.out i x' y' (by have := HJ.out; omega) hx' hy'
        clear ha hv
        go_wp2
        go_quiet ((go_at_call 51; exact (C.out _).mono fun _ _ h => ⟨h.1, ⟨_, h.2.symm⟩⟩))
        go_wp2
        exact ⟨⟨k + 1, by omega, by omega, by go_num, A1, ⟨_, rfl⟩⟩, by simp only [intOf]; omega⟩
      · have C := Lib.hid (fun w => up1_any x y false (by simpa using hv) w)
        obtain rfl : b = false := b_false HB.out (fun hA => hv (hA j x y HX.out (by rw [← HJ.out]; exact HY.out)))
        clear ha hv
        go_wp2
        go_quiet ((go_at_call 51; exact (C.out _).mono fun _ _ h => ⟨h.1, ⟨_, h.2.symm⟩⟩))
        go_wp2
        go_ret
        exact ⟨rfl, ⟨rfl, rfl, rfl, Nat.le_refl _, fun _ _ => rfl⟩⟩
    · obtain rfl : b = true := HB.out.mpr (fun i x y hx hy => ha.out i x y (by have := (List.getElem?_eq_some_iff.1 hy).1; have := HN.out; omega) hx hy)
      clear ha
      go_wp2
      go_ret
      exact ⟨rfl, ⟨rfl, rfl, rfl, Nat.le_refl _, fun _ _ => rfl⟩⟩

end Go.Proofs.Ythfmmlpbflfpaac
