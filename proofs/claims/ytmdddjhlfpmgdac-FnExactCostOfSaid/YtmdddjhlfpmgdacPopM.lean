/- The number of the bits of a mask, as math/bits.OnesCount64 counts them. -/
import Derived.Test.YtmdddjhlfpmgdacMaskM
import Derived.Laws.Bits64b
import Derived.Lib.BitFns
namespace Go.Proofs.Ytmdddjhlfpmgdac
open Go.ChangeShapes Go.WideShapes Go.ChangeAt Go.RowKit
set_option linter.unusedVariables false
set_option linter.unusedSimpArgs false

theorem nat_and_dig (a A m M : Nat) (ha : a < 256) (hm : m < 256) : (a + 256 * A) &&& (m + 256 * M) = (a &&& m) + 256 * (A &&& M) := by
  have h1 : ((a + 256 * A) &&& (m + 256 * M)) % 2 ^ 8 = (a &&& m) := by
    rw [Nat.and_mod_two_pow]
    have e1 : (a + 256 * A) % 2 ^ 8 = a := by omega
    have e2 : (m + 256 * M) % 2 ^ 8 = m := by omega
    rw [e1, e2]
  have h2 : ((a + 256 * A) &&& (m + 256 * M)) / 2 ^ 8 = (A &&& M) := by
    rw [Nat.and_div_two_pow]
    have e1 : (a + 256 * A) / 2 ^ 8 = A := by omega
    have e2 : (m + 256 * M) / 2 ^ 8 = M := by omega
    rw [e1, e2]
  omega

open Lib (popAux)

def sw1 (M x : Nat) : Nat := ((x / 2) &&& M) + (x &&& M)
def sw2 (M x : Nat) : Nat := ((x / 4) &&& M) + (x &&& M)
def sw3 (M x : Nat) : Nat := (x / 16 + x) &&& M

theorem sw1_t : ∀ (a : Fin 256) (t : Fin 2), (a.val / 2 + 128 * t.val) &&& 0x55 = (a.val / 2) &&& 0x55 := by decide +kernel
theorem sw2_t : ∀ (a : Fin 256) (t : Fin 4), (a.val / 4 + 64 * t.val) &&& 0x33 = (a.val / 4) &&& 0x33 := by decide +kernel
theorem sw3_t : ∀ (a : Fin 69) (t : Fin 5), (a.val / 16 + a.val + 16 * t.val) &&& 0x0f = (a.val / 16 + a.val) &&& 0x0f := by decide +kernel

theorem sw1_dig (a A M : Nat) (ha : a < 256) : sw1 (0x55 + 256 * M) (a + 256 * A) = sw1 0x55 a + 256 * sw1 M A := by
  have t := sw1_t ⟨a, ha⟩ ⟨A % 2, by omega⟩
  simp only at t
  unfold sw1
  have e : (a + 256 * A) / 2 = (a / 2 + 128 * (A % 2)) + 256 * (A / 2) := by omega
  rw [e, nat_and_dig _ _ _ _ (by omega) (by omega), nat_and_dig _ _ _ _ ha (by omega), t]
  omega
theorem sw2_dig (a A M : Nat) (ha : a < 256) : sw2 (0x33 + 256 * M) (a + 256 * A) = sw2 0x33 a + 256 * sw2 M A := by
  have t := sw2_t ⟨a, ha⟩ ⟨A % 4, by omega⟩
  simp only at t
  unfold sw2
  have e : (a + 256 * A) / 4 = (a / 4 + 64 * (A % 4)) + 256 * (A / 4) := by omega
  rw [e, nat_and_dig _ _ _ _ (by omega) (by omega), nat_and_dig _ _ _ _ ha (by omega), t]
  omega
theorem sw3_dig (a A M : Nat) (ha : a < 69) (hA : A % 16 < 5) : sw3 (0x0f + 256 * M) (a + 256 * A) = sw3 0x0f a + 256 * sw3 M A := by
  have t := sw3_t ⟨a, ha⟩ ⟨A % 16, hA⟩
  simp only at t
  unfold sw3
  have e : (a + 256 * A) / 16 + (a + 256 * A) = (a / 16 + a + 16 * (A % 16)) + 256 * (A / 16 + A) := by omega
  rw [e, nat_and_dig _ _ _ _ (by omega) (by omega), t]

theorem sw_t : ∀ a : Fin 256, sw1 0x55 a.val < 256 ∧ sw2 0x33 (sw1 0x55 a.val) < 69 ∧ sw2 0x33 (sw1 0x55 a.val) % 16 < 5 ∧ sw3 0x0f (sw2 0x33 (sw1 0x55 a.val)) = popAux 8 a.val ∧ popAux 8 a.val ≤ 8 := by decide +kernel

theorem sw_zero (x : Nat) : sw1 0 x = 0 ∧ sw2 0 x = 0 ∧ sw3 0 x = 0 := by simp [sw1, sw2, sw3]

theorem popAux_split : ∀ (k f x : Nat), popAux (k + f) x = popAux k (x % 2 ^ k) + popAux f (x / 2 ^ k) := by
  intro k
  induction k with
  | zero => intro f x; simp [popAux]
  | succ k ih =>
    intro f x
    have e : k + 1 + f = (k + f) + 1 := by omega
    have q1 : x % 2 ^ (k + 1) % 2 = x % 2 := Nat.mod_mod_of_dvd _ (Nat.pow_dvd_pow 2 (by omega : 1 ≤ k + 1))
    have q2 : x % 2 ^ (k + 1) / 2 = x / 2 % 2 ^ k := by
      rw [Nat.pow_succ, Nat.mul_comm, Nat.mod_mul_right_div_self]
    have q3 : x / 2 ^ (k + 1) = x / 2 / 2 ^ k := by rw [Nat.pow_succ, Nat.mul_comm, Nat.div_div_eq_div_mul]
    rw [e]
    show x % 2 + popAux (k + f) (x / 2) = (x % 2 ^ (k + 1) % 2 + popAux k (x % 2 ^ (k + 1) / 2)) + popAux f (x / 2 ^ (k + 1))
    rw [ih, q1, q2, q3]
    omega

set_option maxHeartbeats 4000000 in
/-- The three steps, digit by digit. -/
theorem sw_digs (x : Nat) (hx : x < 2 ^ 64) : ∃ p0 p1 p2 p3 p4 p5 p6 p7 : Nat, (p0 ≤ 8 ∧ p1 ≤ 8 ∧ p2 ≤ 8 ∧ p3 ≤ 8 ∧ p4 ≤ 8 ∧ p5 ≤ 8 ∧ p6 ≤ 8 ∧ p7 ≤ 8) ∧ popAux 64 x = p0 + p1 + p2 + p3 + p4 + p5 + p6 + p7 ∧
    sw1 0x5555555555555555 x < 18446744073709551616 ∧ sw2 0x3333333333333333 (sw1 0x5555555555555555 x) < 9223372036854775808 ∧
    sw3 0x0f0f0f0f0f0f0f0f (sw2 0x3333333333333333 (sw1 0x5555555555555555 x)) = p0 + 256 * (p1 + 256 * (p2 + 256 * (p3 + 256 * (p4 + 256 * (p5 + 256 * (p6 + 256 * p7)))))) := by
  obtain ⟨a0, A0, e0, h0⟩ : ∃ a A, x = a + 256 * A ∧ a < 256 := ⟨x % 256, x / 256, by omega, by omega⟩
  obtain ⟨a1, A1, e1, h1⟩ : ∃ a A, A0 = a + 256 * A ∧ a < 256 := ⟨A0 % 256, A0 / 256, by omega, by omega⟩
  obtain ⟨a2, A2, e2, h2⟩ : ∃ a A, A1 = a + 256 * A ∧ a < 256 := ⟨A1 % 256, A1 / 256, by omega, by omega⟩
  obtain ⟨a3, A3, e3, h3⟩ : ∃ a A, A2 = a + 256 * A ∧ a < 256 := ⟨A2 % 256, A2 / 256, by omega, by omega⟩
  obtain ⟨a4, A4, e4, h4⟩ : ∃ a A, A3 = a + 256 * A ∧ a < 256 := ⟨A3 % 256, A3 / 256, by omega, by omega⟩
  obtain ⟨a5, A5, e5, h5⟩ : ∃ a A, A4 = a + 256 * A ∧ a < 256 := ⟨A4 % 256, A4 / 256, by omega, by omega⟩
  obtain ⟨a6, a7, e6, h6⟩ : ∃ a A, A5 = a + 256 * A ∧ a < 256 := ⟨A5 % 256, A5 / 256, by omega, by omega⟩
  have h7 : a7 < 256 := by omega
  subst e6 e5 e4 e3 e2 e1 e0
  have T0 := sw_t ⟨a0, h0⟩; have T1 := sw_t ⟨a1, h1⟩; have T2 := sw_t ⟨a2, h2⟩; have T3 := sw_t ⟨a3, h3⟩
  have T4 := sw_t ⟨a4, h4⟩; have T5 := sw_t ⟨a5, h5⟩; have T6 := sw_t ⟨a6, h6⟩; have T7 := sw_t ⟨a7, h7⟩
  simp only at T0 T1 T2 T3 T4 T5 T6 T7
  have d (k a A : Nat) (ha : a < 256) : popAux (8 + k) (a + 256 * A) = popAux 8 a + popAux k A := by
    rw [popAux_split 8 k]
    have q1 : (a + 256 * A) % 2 ^ 8 = a := by omega
    have q2 : (a + 256 * A) / 2 ^ 8 = A := by omega
    rw [q1, q2]
  have P : popAux 64 (a0 + 256 * (a1 + 256 * (a2 + 256 * (a3 + 256 * (a4 + 256 * (a5 + 256 * (a6 + 256 * a7))))))) = popAux 8 a0 + (popAux 8 a1 + (popAux 8 a2 + (popAux 8 a3 + (popAux 8 a4 + (popAux 8 a5 + (popAux 8 a6 + popAux 8 a7)))))) := by
    rw [d 56 _ _ h0, d 48 _ _ h1, d 40 _ _ h2, d 32 _ _ h3, d 24 _ _ h4, d 16 _ _ h5, d 8 _ _ h6]
  have M1 : (0x5555555555555555 : Nat) = 0x55 + 256 * (0x55 + 256 * (0x55 + 256 * (0x55 + 256 * (0x55 + 256 * (0x55 + 256 * (0x55 + 256 * 0x55)))))) := by decide
  have M2 : (0x3333333333333333 : Nat) = 0x33 + 256 * (0x33 + 256 * (0x33 + 256 * (0x33 + 256 * (0x33 + 256 * (0x33 + 256 * (0x33 + 256 * 0x33)))))) := by decide
  have M3 : (0x0f0f0f0f0f0f0f0f : Nat) = 0x0f + 256 * (0x0f + 256 * (0x0f + 256 * (0x0f + 256 * (0x0f + 256 * (0x0f + 256 * (0x0f + 256 * 0x0f)))))) := by decide
  have S1 : sw1 0x5555555555555555 (a0 + 256 * (a1 + 256 * (a2 + 256 * (a3 + 256 * (a4 + 256 * (a5 + 256 * (a6 + 256 * a7))))))) = sw1 0x55 a0 + 256 * (sw1 0x55 a1 + 256 * (sw1 0x55 a2 + 256 * (sw1 0x55 a3 + 256 * (sw1 0x55 a4 + 256 * (sw1 0x55 a5 + 256 * (sw1 0x55 a6 + 256 * sw1 0x55 a7)))))) := by
    rw [M1, sw1_dig _ _ _ h0, sw1_dig _ _ _ h1, sw1_dig _ _ _ h2, sw1_dig _ _ _ h3, sw1_dig _ _ _ h4, sw1_dig _ _ _ h5, sw1_dig _ _ _ h6]
  rw [P, S1]
  generalize sw1 85 a0 = b0 at *
  generalize sw1 85 a1 = b1 at *
  generalize sw1 85 a2 = b2 at *
  generalize sw1 85 a3 = b3 at *
  generalize sw1 85 a4 = b4 at *
  generalize sw1 85 a5 = b5 at *
  generalize sw1 85 a6 = b6 at *
  generalize sw1 85 a7 = b7 at *
  have S2 : sw2 0x3333333333333333 (b0 + 256 * (b1 + 256 * (b2 + 256 * (b3 + 256 * (b4 + 256 * (b5 + 256 * (b6 + 256 * b7))))))) = sw2 0x33 b0 + 256 * (sw2 0x33 b1 + 256 * (sw2 0x33 b2 + 256 * (sw2 0x33 b3 + 256 * (sw2 0x33 b4 + 256 * (sw2 0x33 b5 + 256 * (sw2 0x33 b6 + 256 * sw2 0x33 b7)))))) := by
    rw [M2, sw2_dig _ _ _ T0.1, sw2_dig _ _ _ T1.1, sw2_dig _ _ _ T2.1, sw2_dig _ _ _ T3.1, sw2_dig _ _ _ T4.1, sw2_dig _ _ _ T5.1, sw2_dig _ _ _ T6.1]
  rw [S2]
  obtain ⟨t0, T0⟩ := T0; obtain ⟨t1, T1⟩ := T1; obtain ⟨t2, T2⟩ := T2; obtain ⟨t3, T3⟩ := T3
  obtain ⟨t4, T4⟩ := T4; obtain ⟨t5, T5⟩ := T5; obtain ⟨t6, T6⟩ := T6; obtain ⟨t7, T7⟩ := T7
  clear P S1 S2 M1 M2 d
  generalize sw2 51 b0 = c0 at *
  generalize sw2 51 b1 = c1 at *
  generalize sw2 51 b2 = c2 at *
  generalize sw2 51 b3 = c3 at *
  generalize sw2 51 b4 = c4 at *
  generalize sw2 51 b5 = c5 at *
  generalize sw2 51 b6 = c6 at *
  generalize sw2 51 b7 = c7 at *
  have S3 : sw3 0x0f0f0f0f0f0f0f0f (c0 + 256 * (c1 + 256 * (c2 + 256 * (c3 + 256 * (c4 + 256 * (c5 + 256 * (c6 + 256 * c7))))))) = sw3 0x0f c0 + 256 * (sw3 0x0f c1 + 256 * (sw3 0x0f c2 + 256 * (sw3 0x0f c3 + 256 * (sw3 0x0f c4 + 256 * (sw3 0x0f c5 + 256 * (sw3 0x0f c6 + 256 * sw3 0x0f c7)))))) := by
    rw [M3, sw3_dig _ _ _ T0.1 (by omega), sw3_dig _ _ _ T1.1 (by omega), sw3_dig _ _ _ T2.1 (by omega), sw3_dig _ _ _ T3.1 (by omega), sw3_dig _ _ _ T4.1 (by omega), sw3_dig _ _ _ T5.1 (by omega), sw3_dig _ _ _ T6.1 (by omega)]
  rw [S3, T0.2.2.1, T1.2.2.1, T2.2.2.1, T3.2.2.1, T4.2.2.1, T5.2.2.1, T6.2.2.1, T7.2.2.1]
  clear S3 M3
  generalize popAux 8 a0 = p0 at *
  generalize popAux 8 a1 = p1 at *
  generalize popAux 8 a2 = p2 at *
  generalize popAux 8 a3 = p3 at *
  generalize popAux 8 a4 = p4 at *
  generalize popAux 8 a5 = p5 at *
  generalize popAux 8 a6 = p6 at *
  generalize popAux 8 a7 = p7 at *
  have g1 : b0 + 256 * (b1 + 256 * (b2 + 256 * (b3 + 256 * (b4 + 256 * (b5 + 256 * (b6 + 256 * b7)))))) < 18446744073709551616 := by omega
  have g2 : c0 + 256 * (c1 + 256 * (c2 + 256 * (c3 + 256 * (c4 + 256 * (c5 + 256 * (c6 + 256 * c7)))))) < 9223372036854775808 := by omega
  refine ⟨p0, p1, p2, p3, p4, p5, p6, p7, ⟨T0.2.2.2, T1.2.2.2, T2.2.2.2, T3.2.2.2, T4.2.2.2, T5.2.2.2, T6.2.2.2, T7.2.2.2⟩, ?_, g1, g2, rfl⟩
  simp only [Nat.add_assoc]

set_option maxHeartbeats 4000000 in
/-- What is left of the bits: 'y += y >> 8; y += y >> 16; y += y >> 32', mod 128. -/
theorem sw_sum (p0 p1 p2 p3 p4 p5 p6 p7 y : Nat) (h : p0 ≤ 8 ∧ p1 ≤ 8 ∧ p2 ≤ 8 ∧ p3 ≤ 8 ∧ p4 ≤ 8 ∧ p5 ≤ 8 ∧ p6 ≤ 8 ∧ p7 ≤ 8) (hy : y = p0 + 256 * (p1 + 256 * (p2 + 256 * (p3 + 256 * (p4 + 256 * (p5 + 256 * (p6 + 256 * p7))))))) :
    y < 2 ^ 60 ∧ y + y / 256 < 2 ^ 61 ∧ (y + y / 256) + (y + y / 256) / 65536 < 2 ^ 62 ∧ ((y + y / 256) + (y + y / 256) / 65536) + ((y + y / 256) + (y + y / 256) / 65536) / 4294967296 < 2 ^ 63 ∧
    (((y + y / 256) + (y + y / 256) / 65536) + ((y + y / 256) + (y + y / 256) / 65536) / 4294967296) % 128 = p0 + p1 + p2 + p3 + p4 + p5 + p6 + p7 := by
  obtain ⟨y1, h1⟩ : ∃ z, z = y + y / 256 := ⟨_, rfl⟩
  rw [← h1]
  have e1 : y1 = (p0 + p1) + 256 * ((p1 + p2) + 256 * ((p2 + p3) + 256 * ((p3 + p4) + 256 * ((p4 + p5) + 256 * ((p5 + p6) + 256 * ((p6 + p7) + 256 * p7)))))) := by omega
  obtain ⟨y2, h2⟩ : ∃ z, z = y1 + y1 / 65536 := ⟨_, rfl⟩
  rw [← h2]
  have e2 : y2 = (p0 + p1 + p2 + p3) + 256 * ((p1 + p2 + p3 + p4) + 256 * ((p2 + p3 + p4 + p5) + 256 * ((p3 + p4 + p5 + p6) + 256 * ((p4 + p5 + p6 + p7) + 256 * ((p5 + p6 + p7) + 256 * ((p6 + p7) + 256 * p7)))))) := by omega
  have e3 : y2 / 4294967296 = (p4 + p5 + p6 + p7) + 256 * ((p5 + p6 + p7) + 256 * ((p6 + p7) + 256 * p7)) := by omega
  rw [e3]
  clear h1 h2
  refine ⟨by omega, by omega, by omega, by omega, by omega⟩

theorem and127_nat (n : Nat) (h : n < 9223372036854775808) : bits BinOp.and IntKind.i64 (wrap64 (n : Int)) 127 = ((n % 128 : Nat) : Int) := by
  have e0 : wrap64 (n : Int) = (n : Int) := by unfold wrap64; omega
  rw [e0]
  have h1 : (BitVec.ofInt 64 (n : Int)).toNat = n := by
    rw [BitVec.ofInt_natCast, BitVec.toNat_ofNat]; exact Nat.mod_eq_of_lt (by omega)
  have h2 : (BitVec.ofInt 64 127).toNat = 127 := by decide
  show IntKind.i64.wrap ((BitVec.ofInt 64 (n : Int) &&& BitVec.ofInt 64 127).toNat : Int) = _
  rw [BitVec.toNat_and, h1, h2, show (127 : Nat) = 2 ^ 7 - 1 from rfl, Nat.and_two_pow_sub_one_eq_mod]
  unfold IntKind.wrap
  simp [IntKind.bits, IntKind.signed]
  omega

/-- The number of the bits. -/
def bitsOf (x : Nat) : Nat := popAux 64 x

theorem andc (X M : Int) (x m : Nat) (hX : X = (x : Int)) (hM : M = (m : Int)) (hx : x < 18446744073709551616) (hm : m < 18446744073709551616) : bits .and .u64 X M = ((x &&& m : Nat) : Int) := by
  subst hX hM
  exact bits_and_u64_nat x m hx hm
theorem q1_nat (s a : Nat) (hs : s < 18446744073709551616) (ha : a < 18446744073709551616) (h : a = sw1 0x5555555555555555 s) : IntKind.u64.wrap (bits BinOp.and IntKind.u64 ((s : Int) / 2) 6148914691236517205 + bits BinOp.and IntKind.u64 (s : Int) 6148914691236517205) = (a : Int) := by
  rw [andc _ _ (s / 2) 6148914691236517205 (by omega) (by omega) (by omega) (by omega), andc _ _ s 6148914691236517205 rfl (by omega) hs (by omega), IntKind.wrap_u64]
  unfold sw1 at h
  generalize s / 2 &&& 6148914691236517205 = u at *
  generalize s &&& 6148914691236517205 = v at *
  omega
theorem q2_nat (s a : Nat) (hs : s < 18446744073709551616) (ha : a < 18446744073709551616) (h : a = sw2 0x3333333333333333 s) : IntKind.u64.wrap (bits BinOp.and IntKind.u64 ((s : Int) / 4) 3689348814741910323 + bits BinOp.and IntKind.u64 (s : Int) 3689348814741910323) = (a : Int) := by
  rw [andc _ _ (s / 4) 3689348814741910323 (by omega) (by omega) (by omega) (by omega), andc _ _ s 3689348814741910323 rfl (by omega) hs (by omega), IntKind.wrap_u64]
  unfold sw2 at h
  generalize s / 4 &&& 3689348814741910323 = u at *
  generalize s &&& 3689348814741910323 = v at *
  omega
theorem q3_nat (s a : Nat) (hs : s < 9223372036854775808) (h : a = sw3 0x0f0f0f0f0f0f0f0f s) : bits BinOp.and IntKind.u64 (IntKind.u64.wrap ((s : Int) / 16 + (s : Int))) 1085102592571150095 = (a : Int) := by
  rw [andc _ _ (s / 16 + s) 1085102592571150095 (by rw [IntKind.wrap_u64]; omega) (by omega) (by omega) (by omega)]
  unfold sw3 at h
  rw [h]
theorem r_nat (s k : Nat) (K : Int) (hK : K = (k : Int)) (h : s + s / k < 18446744073709551616) : IntKind.u64.wrap ((s : Int) + (s : Int) / K) = ((s + s / k : Nat) : Int) := by
  subst hK
  have e : (s : Int) / (k : Int) = ((s / k : Nat) : Int) := by push_cast; rfl
  rw [IntKind.wrap_u64, e]
  generalize s / k = u at *
  omega
end Go.Proofs.Ytmdddjhlfpmgdac
