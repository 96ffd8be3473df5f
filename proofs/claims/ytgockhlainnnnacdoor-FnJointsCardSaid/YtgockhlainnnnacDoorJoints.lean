/- The law FnJoints: helpers, and what is reckoned. -/
import Derived.Test.YtgockhlainnnnacDoorRingD3
import Derived.Test.YtgockhlainnnnacDoorRingD2
namespace Go.Proofs.YtgockhlainnnnacDoor
open Go.ChangeShapes Go.WideShapes Go.ChangeAt Go.RowKit
set_option linter.unusedVariables false
set_option linter.unusedSimpArgs false

set_option maxHeartbeats 1000000 in
theorem b10Long_any (a c : Option Addr) (n m p q : Nat) (b : Bool) (hb : b = (decide (1048576 < n) || decide (1048576 < m))) (w : World) :
    Calls Tryd.prog 23 #[.slice a n p, .slice c m q] w fun e w' => e = .returned (.bool b) ∧ w = w' := by
  by_cases h1 : 1048576 < n
  · obtain rfl : b = true := by simp [hb, h1]
    have h1' : (1048576 : Int) < (n : Int) := by omega
    clear hb
    go_enter Tryd.func23, Tryd.ntmps23
    go_wp2
    go_ret
    exact ⟨rfl, rfl⟩
  · by_cases h2 : 1048576 < m
    · obtain rfl : b = true := by simp [hb, h2]
      have h1' : ¬ (1048576 : Int) < (n : Int) := by omega
      have h2' : (1048576 : Int) < (m : Int) := by omega
      clear hb
      go_enter Tryd.func23, Tryd.ntmps23
      go_wp2
      go_ret
      exact ⟨rfl, rfl⟩
    · obtain rfl : b = false := by simp [hb, h1, h2]
      have h1' : ¬ (1048576 : Int) < (n : Int) := by omega
      have h2' : ¬ (1048576 : Int) < (m : Int) := by omega
      clear hb
      go_enter Tryd.func23, Tryd.ntmps23
      go_wp2
      go_ret
      exact ⟨rfl, rfl⟩

set_option maxHeartbeats 1000000 in
theorem b10At_any (a : Option Addr) (len cap : Nat) (zs : List Int) (w : World) (h : IsRow .u8 w a len cap zs) (lz : len ≤ 1048576) (k : Nat) (hk : k ≤ 1000) (n : Int) (hn : 2 ≤ n) (hn2 : n ≤ 1000000) :
    Calls Tryd.prog 24 #[.slice a len cap, .int .i64 k, .int .i64 n] w fun e w' => ∃ r : Int, e = .returned (.int .i64 r) ∧ 0 ≤ r ∧ r < n ∧ w = w' := by
  have z0 : ¬ n ≤ 1 := by omega
  have z1 : (n == 0) = false := by simp; omega
  have z2 : (0 == n) = false := by simp; omega
  have q0 : IntKind.i64.wrap (len : Int) = (len : Int) := IntWalk.i64_in _ (by omega)
  by_cases hlt : k < len
  · rcases h with ⟨_, h0, _⟩ | ⟨x, rfl, h1, h2, h3, h4, h5⟩
    · omega
    · obtain ⟨d, hd⟩ : ∃ d, zs.getD k 0 = d := ⟨_, rfl⟩
      have c0 := h4 k (by omega)
      have cz := h4 0 (by omega)
      rw [hd] at c0
      have hm : d ∈ zs := by rw [← hd, List.getD_eq_getElem?_getD, List.getElem?_eq_getElem (by omega)]; simp
      have hw := h5 d hm
      have d0 : 0 ≤ d ∧ d ≤ 255 := by
        simp [Lit.wf, IntKind.min, IntKind.max, IntKind.signed, IntKind.bits] at hw
        omega
      have q1 : IntKind.i64.wrap d = d := IntWalk.i64_in _ (by omega)
      have hb := tmod_bd d n (by omega)
      have hp : 0 ≤ d.tmod n := by rw [Int.tmod_eq_emod_of_nonneg d0.1]; exact Int.emod_nonneg _ (by omega)
      have q2 : IntKind.i64.wrap (d.tmod n) = d.tmod n := IntWalk.i64_in _ (by omega)
      have i1 : (0 : Int) ≤ (k : Int) := by omega
      have i2 : (k : Int) < (len : Int) := by omega
      have hr : Hid (0 ≤ d.tmod n ∧ d.tmod n < n) := ⟨hp, hb.2⟩
      obtain ⟨e, he⟩ : ∃ e, d.tmod n = e := ⟨_, rfl⟩
      have q3 : d % n = e := by rw [← he, Int.tmod_eq_emod_of_nonneg d0.1]
      rw [he] at q2 hr
      clear hd hm hw h4 h5 hb hp h3
      obtain ⟨bx, ox, sx⟩ := x
      have hspot : sx = none := by simpa [Addr.add] using World.cell?_spot cz
      subst hspot
      rw [Go.WideShapes.add_plain] at c0
      clear cz
      go_enter Tryd.func24, Tryd.ntmps24
      go_wp2
      go_ret
      first | exact ⟨e, rfl, hr.out.1, hr.out.2, rfl⟩ | exact ⟨_, rfl, by have := hr.out; omega, by have := hr.out; omega, rfl⟩
  · have z3 : ¬ ((k : Int) < (len : Int)) := by omega
    have q1 : IntKind.i64.wrap ((k : Int) * 37) = (k : Int) * 37 := IntWalk.i64_in _ (by omega)
    have q2 : IntKind.i64.wrap ((k : Int) * 37 + 11) = (k : Int) * 37 + 11 := IntWalk.i64_in _ (by omega)
    have hb := tmod_bd ((k : Int) * 37 + 11) n (by omega)
    have hp : 0 ≤ ((k : Int) * 37 + 11).tmod n := by rw [Int.tmod_eq_emod_of_nonneg (by omega)]; exact Int.emod_nonneg _ (by omega)
    have q3 : IntKind.i64.wrap (((k : Int) * 37 + 11).tmod n) = ((k : Int) * 37 + 11).tmod n := IntWalk.i64_in _ (by omega)
    have hr : Hid (0 ≤ ((k : Int) * 37 + 11).tmod n ∧ ((k : Int) * 37 + 11).tmod n < n) := ⟨hp, hb.2⟩
    obtain ⟨e, he⟩ : ∃ e, ((k : Int) * 37 + 11).tmod n = e := ⟨_, rfl⟩
    have q4 : ((k : Int) * 37 + 11) % n = e := by rw [← he, Int.tmod_eq_emod_of_nonneg (by omega)]
    rw [he] at q3 hr
    clear hb hp h
    go_enter Tryd.func24, Tryd.ntmps24
    go_wp2
    go_ret
    first | exact ⟨e, rfl, hr.out.1, hr.out.2, rfl⟩ | exact ⟨_, rfl, by have := hr.out; omega, by have := hr.out; omega, rfl⟩

set_option maxHeartbeats 1000000 in
theorem b10Has_any (v : Value) (xs : List Int) (n : Int) (w : World) (h : RdI w v xs) (lx : xs.length ≤ 1048576) (b : Bool) (hb : b = true ↔ n ∈ xs) :
    Calls Tryd.prog 25 #[v, .int .i64 n] w fun e w' => e = .returned (.bool b) ∧ w = w' := by
  have H := Lib.hid h
  have HB := Lib.hid hb
  obtain ⟨a, cap, rfl, _⟩ := h
  obtain ⟨N, hN⟩ : ∃ N, N = xs.length := ⟨_, rfl⟩
  rw [← hN] at H lx
  rw [← hN]
  have HN := Lib.hid hN
  clear hN hb
  go_enter Tryd.func25, Tryd.ntmps25
  go_wp2
  go_loop [5] (fun i => ∃ k : Nat, k ≤ N ∧ i = .int .i64 k ∧ Hid (n ∉ xs.take k)) (fun i => N - (intOf i).toNat)
  case atStart => exact ⟨0, by omega, rfl, by show _ ∉ _; simp⟩
  case round =>
    obtain ⟨k, hk, rfl, hno⟩ := hrel
    by_cases hlt : k < N
    · obtain ⟨x, hx⟩ : ∃ x, xs[k]? = some x := ⟨_, List.getElem?_eq_getElem (by have := HN.out; omega)⟩
      obtain ⟨ba, oa, rfl, e0⟩ := H.out.at1 k x hx
      by_cases hxn : x = n
      · obtain rfl : b = true := HB.out.mpr (by rw [← hxn]; exact List.mem_of_getElem? hx)
        subst hxn
        clear hx hno
        go_wp2
        go_ret
        exact ⟨rfl, rfl⟩
      · have hne : ((x == n) : Bool) = false := by simpa using hxn
        have hno' : Hid (n ∉ xs.take (k + 1)) := by
          show _ ∉ _
          rw [List.take_add_one, hx]
          simp only [Option.toList_some, List.mem_append, List.mem_singleton, not_or]
          exact ⟨hno.out, fun e => hxn e.symm⟩
        clear hx hno hxn
        go_wp2
        exact ⟨⟨k + 1, by omega, by go_num, hno'⟩, by simp only [intOf]; omega⟩
    · obtain rfl : k = N := by omega
      obtain rfl : b = false := b_false HB.out (by have := hno.out; rwa [List.take_of_length_le (by have := HN.out; omega)] at this)
      go_wp2
      go_ret
      exact ⟨rfl, rfl⟩

theorem joints_len_fin : ∀ a : Fin 16, (jointsL (a.val : Int)).length = 6 ∧ (nextL (a.val : Int)).length = 5 := by decide +kernel
theorem next_meet_fin : ∀ a b : Fin 16, (meetL (a.val : Int) (b.val : Int) = [] ↔ (b.val : Int) ∈ nextL (a.val : Int)) := by decide +kernel
theorem lens (a : Int) (h : 0 ≤ a ∧ a ≤ 15) : (jointsL a).length = 6 ∧ (nextL a).length = 5 := by
  obtain ⟨f, rfl⟩ := fin16 a h
  exact joints_len_fin f
theorem next_meet (a b : Int) (h : 0 ≤ a ∧ a ≤ 15) (h' : 0 ≤ b ∧ b ≤ 15) : meetL a b = [] ↔ b ∈ nextL a := by
  obtain ⟨f, rfl⟩ := fin16 a h
  obtain ⟨g, rfl⟩ := fin16 b h'
  exact next_meet_fin f g
theorem meet_mem (a b i : Int) : i ∈ meetL a b ↔ i ∈ jointsL a ∧ i ∈ jointsL b := by simp [meetL]
theorem okT_two (q r : Rg) (hq : OkR q) (hr : OkR r) : OkT [q, r] ↔ Free q.y r.y := by
  constructor
  · intro h
    exact h.2.2 0 q r rfl rfl
  · intro h
    refine ⟨by simp, by intro x hx; simp at hx; rcases hx with rfl | rfl <;> assumption, fun i x y h1 h2 => ?_⟩
    have hi : i = 0 := by
      have := (List.getElem?_eq_some_iff.1 h2).1
      simp at this
      omega
    subst hi
    simp at h1 h2
    subst h1 h2
    exact h
end Go.Proofs.YtgockhlainnnnacDoor
