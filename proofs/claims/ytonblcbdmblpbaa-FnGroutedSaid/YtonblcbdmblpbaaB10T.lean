/- Draws of stage 7's laws: whether the bytes are too many, numbers out of bytes, sums. -/
import Derived.Test.YtonblcbdmblpbaaSrc2
import Derived.Test.YtonblcbdmblpbaaMuckM
import Derived.Handy
import Derived.IntWalk
namespace Go.Proofs.Ytonblcbdmblpbaa
open Go.ChangeShapes Go.WideShapes Go.ChangeAt Go.RowKit
set_option linter.unusedVariables false
set_option linter.unusedSimpArgs false

set_option maxHeartbeats 1000000 in
theorem b10Long_any (a c : Option Addr) (n m p q : Nat) (b : Bool) (hb : b = (decide (1048576 < n) || decide (1048576 < m))) (w : World) :
    Calls Try.prog 10 #[.slice a n p, .slice c m q] w fun e w' => e = .returned (.bool b) ∧ w = w' := by
  by_cases h1 : 1048576 < n
  · obtain rfl : b = true := by simp [hb, h1]
    have h1' : (1048576 : Int) < (n : Int) := by omega
    clear hb
    go_enter Try.func10, Try.ntmps10
    go_wp2
    go_ret
    exact ⟨rfl, rfl⟩
  · by_cases h2 : 1048576 < m
    · obtain rfl : b = true := by simp [hb, h2]
      have h1' : ¬ (1048576 : Int) < (n : Int) := by omega
      have h2' : (1048576 : Int) < (m : Int) := by omega
      clear hb
      go_enter Try.func10, Try.ntmps10
      go_wp2
      go_ret
      exact ⟨rfl, rfl⟩
    · obtain rfl : b = false := by simp [hb, h1, h2]
      have h1' : ¬ (1048576 : Int) < (n : Int) := by omega
      have h2' : ¬ (1048576 : Int) < (m : Int) := by omega
      clear hb
      go_enter Try.func10, Try.ntmps10
      go_wp2
      go_ret
      exact ⟨rfl, rfl⟩

set_option maxHeartbeats 1000000 in
theorem b10At_any (a : Option Addr) (len cap : Nat) (zs : List Int) (w : World) (h : IsRow .u8 w a len cap zs) (lz : len ≤ 1048576) (k : Nat) (hk : k ≤ 1000) (n : Int) (hn : 2 ≤ n) (hn2 : n ≤ 1000000) :
    Calls Try.prog 11 #[.slice a len cap, .int .i64 k, .int .i64 n] w fun e w' => ∃ r : Int, e = .returned (.int .i64 r) ∧ 0 ≤ r ∧ r < n ∧ w = w' := by
  have z0 : ¬ n ≤ 1 := by omega
  have z1 : (n == 0) = false := by simp; omega
  have z2 : (0 == n) = false := by simp; omega
  have q0 : IntKind.i64.wrap (len : Int) = (len : Int) := IntWalk.i64_in _ (by omega)
  by_cases hlt : k < len
  · rcases h with ⟨_, h0, _⟩ | ⟨x, rfl, h1, h2, h3, h4, h5⟩
    · omega
    · obtain ⟨d, hd⟩ : ∃ d, zs.getD k 0 = d := ⟨_, rfl⟩
      have c0 := h4 k (by omega)
      have cz := h4 0 (by omega)
      rw [hd] at c0
      have hm : d ∈ zs := by rw [← hd, List.getD_eq_getElem?_getD, List.getElem?_eq_getElem (by omega)]; simp
      have hw := h5 d hm
      have d0 : 0 ≤ d ∧ d ≤ 255 := by
        simp [Lit.wf, IntKind.min, IntKind.max, IntKind.signed, IntKind.bits] at hw
        omega
      have q1 : IntKind.i64.wrap d = d := IntWalk.i64_in _ (by omega)
      have hb := tmod_bd d n (by omega)
      have hp : 0 ≤ d.tmod n := by rw [Int.tmod_eq_emod_of_nonneg d0.1]; exact Int.emod_nonneg _ (by omega)
      have q2 : IntKind.i64.wrap (d.tmod n) = d.tmod n := IntWalk.i64_in _ (by omega)
      have i1 : (0 : Int) ≤ (k : Int) := by omega
      have i2 : (k : Int) < (len : Int) := by omega
      have hr : Hid (0 ≤ d.tmod n ∧ d.tmod n < n) := ⟨hp, hb.2⟩
      obtain ⟨e, he⟩ : ∃ e, d.tmod n = e := ⟨_, rfl⟩
      have q3 : d % n = e := by rw [← he, Int.tmod_eq_emod_of_nonneg d0.1]
      rw [he] at q2 hr
      clear hd hm hw h4 h5 hb hp h3
      obtain ⟨bx, ox, sx⟩ := x
      have hspot : sx = none := by simpa [Addr.add] using World.cell?_spot cz
      subst hspot
      rw [Go.WideShapes.add_plain] at c0
      clear cz
      go_enter Try.func11, Try.ntmps11
      go_wp2
      go_ret
      first | exact ⟨e, rfl, hr.out.1, hr.out.2, rfl⟩ | exact ⟨_, rfl, by have := hr.out; omega, by have := hr.out; omega, rfl⟩
  · have z3 : ¬ ((k : Int) < (len : Int)) := by omega
    have q1 : IntKind.i64.wrap ((k : Int) * 37) = (k : Int) * 37 := IntWalk.i64_in _ (by omega)
    have q2 : IntKind.i64.wrap ((k : Int) * 37 + 11) = (k : Int) * 37 + 11 := IntWalk.i64_in _ (by omega)
    have hb := tmod_bd ((k : Int) * 37 + 11) n (by omega)
    have hp : 0 ≤ ((k : Int) * 37 + 11).tmod n := by rw [Int.tmod_eq_emod_of_nonneg (by omega)]; exact Int.emod_nonneg _ (by omega)
    have q3 : IntKind.i64.wrap (((k : Int) * 37 + 11).tmod n) = ((k : Int) * 37 + 11).tmod n := IntWalk.i64_in _ (by omega)
    have hr : Hid (0 ≤ ((k : Int) * 37 + 11).tmod n ∧ ((k : Int) * 37 + 11).tmod n < n) := ⟨hp, hb.2⟩
    obtain ⟨e, he⟩ : ∃ e, ((k : Int) * 37 + 11).tmod n = e := ⟨_, rfl⟩
    have q4 : ((k : Int) * 37 + 11) % n = e := by rw [← he, Int.tmod_eq_emod_of_nonneg (by omega)]
    rw [he] at q3 hr
    clear hb hp h
    go_enter Try.func11, Try.ntmps11
    go_wp2
    go_ret
    first | exact ⟨e, rfl, hr.out.1, hr.out.2, rfl⟩ | exact ⟨_, rfl, by have := hr.out; omega, by have := hr.out; omega, rfl⟩



theorem IsRow.later7 {k : IntKind} {w w' : World} {a : Option Addr} {len cap : Nat} {zs : List Int} (h : IsRow k w a len cap zs) (hb : Below w.heap.size w w') : IsRow k w' a len cap zs := by
  rcases h with h | ⟨x, rfl, h1, h2, h3, h4, h5⟩
  · exact .inl h
  · refine .inr ⟨x, rfl, h1, h2, h3, fun i hi => ?_, h5⟩
    have c := h4 i hi
    have lt : (x.add i).block < w.heap.size := World.block_lt_of_cell? w _ c
    exact (hb.cell lt).trans c

/-- The sum of the first k numbers. -/
def sumB (zs : List Int) : Nat → Int
  | 0 => 0
  | k + 1 => sumB zs k + zs.getD k 0
theorem sumB_succ {zs : List Int} {k : Nat} {x : Int} (h : zs[k]? = some x) : sumB zs (k + 1) = sumB zs k + x := by simp only [sumB, getD_of h]
theorem sumB_bd {zs : List Int} {hi : Int} (h0 : 0 ≤ hi) (h : AllIn 0 hi zs) (k : Nat) : 0 ≤ sumB zs k ∧ sumB zs k ≤ hi * k := by
  induction k with
  | zero => simp [sumB]
  | succ k ih =>
    simp only [sumB, List.getD]
    rw [show hi * ((k + 1 : Nat) : Int) = hi * k + hi by push_cast; rw [Int.mul_add, Int.mul_one]]
    cases hx : zs[k]? with
    | none => simp only [Option.getD_none]; omega
    | some g => have := h.at hx; simp only [Option.getD_some]; omega

set_option maxHeartbeats 1000000 in
theorem b10Sum_any (v : Value) (zs : List Int) (w : World) (h : RdI w v zs) (lz : zs.length ≤ 1000) (hb : AllIn 0 1000000000 zs) :
    Calls Try.prog 13 #[v] w fun e w' => e = .returned (.int .i64 (sumB zs zs.length)) ∧ w = w' := by
  obtain ⟨a, cap, rfl, ra⟩ := h
  obtain ⟨n, hn⟩ : ∃ n, n = zs.length := ⟨_, rfl⟩
  rw [← hn] at lz
  rw [← hn]
  have RA := Lib.hid ra
  have HN := Lib.hid hn
  have HB := Lib.hid hb
  obtain ⟨N, hN⟩ : ∃ N, sumB zs n = N := ⟨_, rfl⟩
  rw [hN]
  have HNN := Lib.hid hN
  clear ra hn hb hN
  go_enter Try.func13, Try.ntmps13
  go_wp2
  go_loop [3, 4] (fun s i => ∃ k : Nat, k ≤ n ∧ i = .int .i64 k ∧ s = .int .i64 (sumB zs k)) (fun _ i => n - (intOf i).toNat)
  case atStart => exact ⟨0, by omega, rfl, rfl⟩
  case round =>
    obtain ⟨k, hk, rfl, rfl⟩ := hrel
    by_cases hlt : k < n
    · obtain ⟨x, hx⟩ : ∃ x, zs[k]? = some x := ⟨_, List.getElem?_eq_getElem (by have := HN.out; omega)⟩
      obtain ⟨ba, oa, rfl, ca'⟩ := RA.out.resolve_left (by intro h; have := HN.out; rw [h] at this; simp at this; omega)
      have c1 := ca' k x hx
      have bx := HB.out.at hx
      have bd := sumB_bd (by omega) HB.out k
      have q := Lib.hid (sumB_succ hx)
      have q1 : IntKind.i64.wrap (sumB zs k + x) = sumB zs k + x := IntWalk.i64_in _ (by omega)
      clear ca' hx
      go_wp2
      exact ⟨⟨k + 1, by omega, by go_num, by rw [q.out]⟩, by simp only [intOf]; omega⟩
    · obtain rfl : k = n := by omega
      go_wp2
      go_ret
      exact ⟨by rw [← HNN.out]; rfl, rfl⟩
theorem b10Abs_any (x m : Int) (hx : -1000000000000 ≤ x ∧ x ≤ 1000000000000) (hm : (if x < 0 then -x else x) = m) (w : World) :
    Calls Try.prog 14 #[.int .i64 x] w fun e w' => e = .returned (.int .i64 m) ∧ w = w' := by
  have q1 : IntKind.i64.wrap (-x) = -x := IntWalk.i64_in _ (by omega)
  by_cases g : x < 0
  · rw [if_pos g] at hm
    subst hm
    clear hx
    go_enter Try.func14, Try.ntmps14
    go_wp2
    go_ret
    exact ⟨rfl, rfl⟩
  · rw [if_neg g] at hm
    subst hm
    have g' : 0 ≤ x := by omega
    clear hx
    go_enter Try.func14, Try.ntmps14
    go_wp2
    go_ret
    exact ⟨rfl, rfl⟩
end Go.Proofs.Ytonblcbdmblpbaa
