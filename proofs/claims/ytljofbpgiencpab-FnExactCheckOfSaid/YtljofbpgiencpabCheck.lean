/- Walks of the functions that compute check numbers. -/
import Derived.Test.YtljofbpgiencpabBase
namespace Go.Proofs.Ytljofbpgiencpab
open Go.ChangeShapes Go.WideShapes Go.ChangeAt Go.RowKit
set_option linter.unusedVariables false
set_option linter.unusedSimpArgs false

/-- The check number behind the first k bytes. -/
def chkTo (n : Int) (s : ByteArray) : Nat → Int
  | 0 => n
  | k + 1 => if h : k < s.size then (257 * chkTo n s k + (s[k].toNat : Int) + 1) % 99991 else chkTo n s k

theorem chkTo_bd (n : Int) (h0 : 0 ≤ n) (h1 : n ≤ 99990) (s : ByteArray) (k : Nat) : 0 ≤ chkTo n s k ∧ chkTo n s k ≤ 99990 := by
  induction k with
  | zero => exact ⟨h0, h1⟩
  | succ k ih =>
    simp only [chkTo]
    split
    · omega
    · exact ih

theorem chkTo_succ (n : Int) (s : ByteArray) (k : Nat) (h : k < s.size) : chkTo n s (k + 1) = (257 * chkTo n s k + (s[k].toNat : Int) + 1) % 99991 := by
  simp [chkTo, h]

set_option maxHeartbeats 1000000 in
theorem l01Check_any (n : Int) (s : ByteArray) (h0 : 0 ≤ n) (h1 : n ≤ 99990) (hs : s.size ≤ 1099511627776) (w : World) :
    Calls Try.prog 14 #[.int .i64 n, .string s] w fun e w' => e = .returned (.int .i64 (chkTo n s s.size)) ∧ w = w' := by
  go_enter Try.func14, Try.ntmps14
  go_wp2
  go_loop [5, 6] (fun v i => ∃ (k : Nat) (c : Int), k ≤ s.size ∧ i = .int .i64 k ∧ v = .int .i64 c ∧ 0 ≤ c ∧ c ≤ 99990 ∧ Hid (c = chkTo n s k)) (fun _ i => s.size - (intOf i).toNat)
  case atStart => exact ⟨0, n, by omega, rfl, rfl, h0, h1, rfl⟩
  case round =>
    obtain ⟨k, c, hk, rfl, rfl, c0, c1, hc⟩ := hrel
    by_cases hlt : k < s.size
    · have hb := s[k].toNat_lt
      have hn := chkTo_succ n s k hlt
      rw [← hc.out] at hn
      have HN : Hid _ := hn.symm
      clear hn
      go_wp2
      exact ⟨⟨k + 1, _, by omega, by go_num, rfl, by omega, by omega, HN⟩, by simp only [intOf]; omega⟩
    · obtain rfl : k = s.size := by omega
      have e := hc.out
      subst e
      go_wp2
      go_ret
      exact ⟨rfl, rfl⟩

set_option maxHeartbeats 1000000 in
theorem implCheck_yes (n : Int) (s : ByteArray) (h0 : 0 ≤ n) (h1 : n ≤ 99990) (hs : s.size ≤ 1099511627776) (w : World) :
    Calls Try.prog 10 #[.int .i64 n, .string s] w fun e w' => e = .returned (.tuple #[.int .i64 (chkTo n s s.size), .bool true]) ∧ w = w' := by
  go_enter Try.func10, Try.ntmps10
  go_wp2
  go_loop [6, 14] (fun v i => ∃ (k : Nat) (c : Int), k ≤ s.size ∧ i = .int .i64 k ∧ v = .int .i64 c ∧ 0 ≤ c ∧ c ≤ 99990 ∧ Hid (c = chkTo n s k)) (fun _ i => s.size - (intOf i).toNat)
  case atStart => exact ⟨0, n, by omega, rfl, rfl, h0, h1, rfl⟩
  case round =>
    obtain ⟨k, c, hk, rfl, rfl, c0, c1, hc⟩ := hrel
    by_cases hlt : k < s.size
    · have hb := s[k].toNat_lt
      have hn := chkTo_succ n s k hlt
      rw [← hc.out] at hn
      have HN : Hid _ := hn.symm
      clear hn
      go_wp2
      exact ⟨⟨k + 1, _, by omega, by go_num, rfl, by omega, by omega, HN⟩, by simp only [intOf]; omega⟩
    · obtain rfl : k = s.size := by omega
      have e := hc.out
      subst e
      go_wp2
      go_ret2
      exact ⟨rfl, rfl⟩

theorem walkFnExactCheckOf (n : Int) (w0 : (Lit.int .i64 n).wf = true) (s : ByteArray) (hs : s.size ≤ maxLen) (w : World) :
    Calls Try.prog 4 #[.int .i64 n, .string s] w fun e w' => e = .returned (.bool true) ∧ Below w.heap.size w w' := by
  obtain ⟨b0, b1⟩ := bounds_i64 w0
  unfold maxLen at hs
  by_cases hl : (s.size : Int) ≤ 1048576
  · by_cases h0 : 0 ≤ n
    · by_cases h1 : n ≤ 99990
      · go_enter Try.func4, Try.ntmps4
        go_wp2_with (first | (go_at_call 14; (with_reducible refine (l01Check_any n s h0 h1 (by omega) _).mono ?_); rintro e w' ⟨rfl, rfl⟩) | (go_at_call 10; (with_reducible refine (implCheck_yes n s h0 h1 (by omega) _).mono ?_); rintro e w' ⟨rfl, rfl⟩) | go_in)
        go_ret
        exact ⟨rfl, Below.refl _ _⟩
      · have h3 : decide (n ≤ 99990) = false := by simpa using h1
        clear h1
        go_enter Try.func4, Try.ntmps4
        go_wp2
        go_ret
        exact ⟨rfl, Below.refl _ _⟩
    · have h3 : decide (0 ≤ n) = false := by simpa using h0
      clear h0
      go_enter Try.func4, Try.ntmps4
      go_wp2
      go_ret
      exact ⟨rfl, Below.refl _ _⟩
  · have hl' : 1048576 < (s.size : Int) := by omega
    clear hl
    go_enter Try.func4, Try.ntmps4
    go_wp2
    go_ret
    exact ⟨rfl, Below.refl _ _⟩
end Go.Proofs.Ytljofbpgiencpab
