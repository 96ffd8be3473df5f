/- The wear of the cutters under a plan: the program's side. -/
import Derived.Test.YtgockhlainnnnaaWornS
import Derived.Test.YtgockhlainnnnaaChgI
import Derived.Test.YtgockhlainnnnaaWearI
import Derived.Test.YtgockhlainnnnaaPart
import Derived.Test.YtgockhlainnnnaaPlanX
import Derived.Test.YtgockhlainnnnaaShelf
namespace Go.Proofs.Ytgockhlainnnnaa
open Go.ChangeShapes Go.WideShapes Go.ChangeAt Go.RowKit
set_option linter.unusedVariables false
set_option linter.unusedSimpArgs false

/-- A rising list within bounds is short. -/
theorem rises_len5 {lo hi : Int} {zs : List Int} (h : RisesIn lo hi zs) : (zs.length : Int) ≤ hi - lo + 1 ∨ zs = [] := by
  by_cases e : zs = []
  · exact .inr e
  · left
    have l0 : 0 < zs.length := List.length_pos_iff.mpr e
    have step : ∀ i, (hi' : i < zs.length) → lo + (i : Int) ≤ zs[i] := by
      intro i
      induction i with
      | zero => intro hi'; have := (h.1 _ (List.getElem_mem hi')).1; simpa using this
      | succ i ih =>
        intro hi'
        have h1 := ih (by omega)
        have h2 := h.2 i _ _ (List.getElem?_eq_getElem (by omega)) (List.getElem?_eq_getElem hi')
        push_cast
        omega
    have h1 := step (zs.length - 1) (by omega)
    have h2 := (h.1 _ (List.getElem_mem (show zs.length - 1 < zs.length by omega))).2
    omega

theorem u64_nat (n : Nat) (h : n < 1152921504606846976) : IntKind.u64.wrap (n : Int) = (n : Int) := by
  unfold IntKind.wrap
  simp [IntKind.bits, IntKind.signed]
  omega
theorem p60 : (2 : Nat) ^ 60 = 1152921504606846976 := by decide
theorem sh_eq (a s : Nat) (ha : a < 2 ^ 60) : IntKind.u64.wrap ((a : Int) / 2 ^ s * 2 ^ s) = (((a / 2 ^ s) * 2 ^ s : Nat) : Int) := by
  have e : (((a / 2 ^ s) * 2 ^ s : Nat) : Int) = (a : Int) / 2 ^ s * 2 ^ s := by push_cast; rfl
  have l := Nat.div_mul_le_self a (2 ^ s)
  rw [← e]
  exact u64_nat _ (by rw [p60] at ha; omega)
theorem shift_back (a s : Nat) : (a / 2 ^ s) * 2 ^ s ≤ a := Nat.div_mul_le_self _ _

/-- What is left of a set without what lies behind s. -/
theorem bits_andNot_mod (a s : Nat) (ha : a < 2 ^ 60) : bits BinOp.andNot IntKind.u64 (a : Int) (((a / 2 ^ s) * 2 ^ s : Nat) : Int) = ((a % 2 ^ s : Nat) : Int) := by
  obtain ⟨b, hb⟩ : ∃ b, b = (a / 2 ^ s) * 2 ^ s := ⟨_, rfl⟩
  have hba : b ≤ a := by rw [hb]; exact shift_back a s
  rw [← hb]
  have e : bits BinOp.andNot IntKind.u64 (a : Int) (b : Int) = IntKind.u64.wrap (((BitVec.ofInt 64 (a : Int)) &&& ~~~(BitVec.ofInt 64 (b : Int))).toNat : Int) := rfl
  have h1 : (BitVec.ofInt 64 (a : Int)) = BitVec.ofNat 64 a := BitVec.ofInt_natCast _ _
  have h2 : (BitVec.ofInt 64 (b : Int)) = BitVec.ofNat 64 b := BitVec.ofInt_natCast _ _
  have key : ((BitVec.ofNat 64 a) &&& ~~~(BitVec.ofNat 64 b)).toNat = a % 2 ^ s := by
    apply Nat.eq_of_testBit_eq
    intro i
    rw [BitVec.testBit_toNat, BitVec.getLsbD_and, BitVec.getLsbD_not, BitVec.getLsbD_ofNat, BitVec.getLsbD_ofNat, Nat.testBit_mod_two_pow]
    have tb : b.testBit i = (decide (s ≤ i) && a.testBit i) := by
      rw [hb, Nat.testBit_mul_two_pow, Nat.testBit_div_two_pow]
      by_cases c : s ≤ i
      · simp [c]
      · simp [c]
    rw [tb]
    by_cases h64 : i < 64
    · by_cases c : i < s
      · simp [h64, c, show ¬ s ≤ i by omega]
      · have c' : s ≤ i := by omega
        simp [h64, c, c']
    · have : a.testBit i = false := Nat.testBit_lt_two_pow (Nat.lt_of_lt_of_le ha (Nat.pow_le_pow_right (by decide) (by omega)))
      simp [this]
  rw [e, h1, h2, key]
  exact u64_nat _ (by have hm := Nat.mod_le a (2 ^ s); rw [p60] at ha; omega)

theorem behind_any (a r : Nat) (ha : a < 2 ^ 60) (hr : r ≤ 60) (w : World) :
    Calls Try.prog 80 #[.int .u64 (a : Int), .int .i64 r] w fun e w' => e = .returned (.int .u64 (((a / 2 ^ (r + 1)) * 2 ^ (r + 1) : Nat) : Int)) ∧ w' = w := by
  have q1 : IntKind.i64.wrap ((r : Int) + 1) = (r : Int) + 1 := IntWalk.i64_in _ (by omega)
  have E := Lib.hid (sh_eq a (r + 1) ha)
  go_enter Try.func80, Try.ntmps80
  go_wp2
  go_ret
  exact ⟨by rw [← E.out]; rfl, rfl⟩

theorem until_any (a r : Nat) (ha : a < 2 ^ 60) (hr : r ≤ 60) (w : World) :
    Calls Try.prog 58 #[.int .u64 (a : Int), .int .i64 r] w fun e w' => e = .returned (.int .u64 ((a % 2 ^ (r + 1) : Nat) : Int)) ∧ w' = w := by
  obtain ⟨b, hb⟩ : ∃ b, b = (a / 2 ^ (r + 1)) * 2 ^ (r + 1) := ⟨_, rfl⟩
  obtain ⟨m, hm⟩ : ∃ m, m = a % 2 ^ (r + 1) := ⟨_, rfl⟩
  have C := Lib.hid (fun w => behind_any a r ha hr w)
  have q := bits_andNot_mod a (r + 1) ha
  rw [← hb, ← hm] at q
  rw [← hb] at C
  rw [← hm]
  clear hb hm
  go_enter Try.func58, Try.ntmps58
  go_wp2_with fail
  refine (C.out _).mono ?_
  rintro e w1 ⟨rfl, hw⟩
  subst hw
  go_wp2
  go_ret
  exact ⟨rfl, rfl⟩

theorem last_any (m : Nat) (hm : m < 2 ^ 60) (w : World) :
    Calls Try.prog 59 #[.int .u64 (m : Int)] w fun e w' => e = .returned (.int .i64 ((Lib.bitLen m : Int) - 1)) ∧ w' = w := by
  have C := Lib.hid (fun w => Try.bits_Len64 (m : Int) w (by omega) (by rw [p60] at hm; omega))
  have l64 : Lib.bitLen m ≤ 64 := by
    have : ∀ f x, Lib.bitLenAux f x ≤ f := by
      intro f
      induction f with
      | zero => intro x; simp [Lib.bitLenAux]
      | succ f ih =>
        intro x
        simp only [Lib.bitLenAux]
        split
        · omega
        · have := ih (x / 2); omega
    exact this 64 m
  rw [Int.toNat_natCast] at C
  obtain ⟨b, hb⟩ : ∃ b, b = Lib.bitLen m := ⟨_, rfl⟩
  rw [← hb] at C l64 ⊢
  have q : IntKind.i64.wrap ((b : Int) - 1) = (b : Int) - 1 := IntWalk.i64_in _ (by omega)
  clear hb
  go_enter Try.func59, Try.ntmps59
  go_wp2_with fail
  refine (C.out _).mono ?_
  rintro e w1 ⟨rfl, hw⟩
  subst hw
  go_wp2
  go_ret
  exact ⟨rfl, rfl⟩
end Go.Proofs.Ytgockhlainnnnaa
