/- The law on quotients, ratios and roots. -/
import Derived.Test.YtljofbpgiencpaaSrc
import Derived.Test.YtljofbpgiencpaaRoot
import Derived.Test.YtljofbpgiencpaaRatios
namespace Go.Proofs.Ytljofbpgiencpaa
open Go.ChangeShapes Go.WideShapes Go.ChangeAt Go.RowKit
set_option linter.unusedVariables false
set_option linter.unusedSimpArgs false

theorem wrap_in {x : Int} (h0 : -9223372036854775808 ≤ x) (h1 : x ≤ 9223372036854775807) : wrap64 x = x := by unfold wrap64; omega

theorem mul_bd {x y X Y : Int} (x0 : 0 ≤ x) (x1 : x ≤ X) (y0 : 0 ≤ y) (y1 : y ≤ Y) : 0 ≤ x * y ∧ x * y ≤ X * Y :=
  ⟨Int.mul_nonneg x0 y0, Int.mul_le_mul x1 y1 y0 (by omega)⟩

def Ratio10 (w : World) (e : Ending) (w' : World) : Prop :=
  ∃ a b : Int, e = .returned (.tuple #[.int .i64 a, .int .i64 b]) ∧ -2399900001 ≤ a ∧ a ≤ 3599880001 ∧ 1 ≤ b ∧ b ≤ 539992 ∧ Below w.heap.size w w'

set_option maxHeartbeats 1000000 in
theorem b10Ratio_any (w : World) (v : Value) (zs : List Int) (h : RdB w v zs) (lz : zs.length ≤ 1099511627776) :
    Calls Try.prog 13 #[v] w (Ratio10 w) := by
  have H := Lib.hid h
  clear h
  go_enter Try.func13, Try.ntmps13
  go_wp2_with fail
  refine (from_any w v zs H.out).mono ?_
  rintro e w0 ⟨rfl, s0, b0⟩
  have S0 := Lib.hid s0
  have B0 := Lib.hid b0
  clear s0 b0 H
  go_wp2_with fail
  refine (pick_any w0 _ v zs 0 60000 S0.out (by omega) lz (by omega) (by omega)).mono ?_
  rintro e w1 ⟨x1, m1, rfl, p1, q1, -, l1, u1, s1, g1⟩
  have S1 := Lib.hid s1
  have Q1 := q1 (by omega)
  have B1 : Hid (Below w.heap.size w w1) := B0.out.grown g1 B0.out.size (fun k hk => by cases hk; exact Nat.le_refl _)
  clear s1 g1 q1 S0 B0
  go_wp2_with fail
  refine (pick_any w1 _ v zs m1 60000 S1.out (by omega) lz (by omega) (by omega)).mono ?_
  rintro e w2 ⟨x2, m2, rfl, p2, q2, -, l2, u2, s2, g2⟩
  have S2 := Lib.hid s2
  have Q2 := q2 (by omega)
  have B2 : Hid (Below w.heap.size w w2) := B1.out.grown g2 B1.out.size (fun k hk => by cases hk; exact Nat.le_refl _)
  obtain ⟨y1, z1⟩ := mul_bd p1 (show x1 ≤ 59999 by omega) p2 (show x2 ≤ 59999 by omega)
  clear s2 g2 q2 S1 B1
  go_wp2_with fail
  refine (pick_any w2 _ v zs m2 60000 S2.out (by omega) lz (by omega) (by omega)).mono ?_
  rintro e w3 ⟨x3, m3, rfl, p3, q3, -, l3, u3, s3, g3⟩
  have S3 := Lib.hid s3
  have Q3 := q3 (by omega)
  have B3 : Hid (Below w.heap.size w w3) := B2.out.grown g3 B2.out.size (fun k hk => by cases hk; exact Nat.le_refl _)
  clear s3 g3 q3 S2 B2
  go_wp2_with fail
  refine (pick_any w3 _ v zs m3 40000 S3.out (by omega) lz (by omega) (by omega)).mono ?_
  rintro e w4 ⟨x4, m4, rfl, p4, q4, -, l4, u4, s4, g4⟩
  have S4 := Lib.hid s4
  have Q4 := q4 (by omega)
  have B4 : Hid (Below w.heap.size w w4) := B3.out.grown g4 B3.out.size (fun k hk => by cases hk; exact Nat.le_refl _)
  obtain ⟨y3, z3⟩ := mul_bd p3 (show x3 ≤ 59999 by omega) p4 (show x4 ≤ 39999 by omega)
  clear s4 g4 q4 S3 B3
  go_wp2_with fail
  refine (pick_any w4 _ v zs m4 60000 S4.out (by omega) lz (by omega) (by omega)).mono ?_
  rintro e w5 ⟨x5, m5, rfl, p5, q5, -, l5, u5, s5, g5⟩
  have S5 := Lib.hid s5
  have Q5 := q5 (by omega)
  have B5 : Hid (Below w.heap.size w w5) := B4.out.grown g5 B4.out.size (fun k hk => by cases hk; exact Nat.le_refl _)
  clear s5 g5 q5 S4 B4
  go_wp2_with fail
  refine (pick_any w5 _ v zs m5 9 S5.out (by omega) lz (by omega) (by omega)).mono ?_
  rintro e w6 ⟨x6, m6, rfl, p6, q6, -, l6, u6, s6, g6⟩
  have Q6 := q6 (by omega)
  have B6 : Hid (Below w.heap.size w w6) := B5.out.grown g6 B5.out.size (fun k hk => by cases hk; exact Nat.le_refl _)
  obtain ⟨y5, z5⟩ := mul_bd p5 (show x5 ≤ 59999 by omega) (show 0 ≤ 1 + x6 by omega) (show 1 + x6 ≤ 9 by omega)
  clear s6 g6 q6 S5 B5
  go_wp2
  go_ret2
  exact ⟨_, _, rfl, by omega, by omega, by omega, by omega, B6.out⟩

theorem b10Abs_any (x : Int) (h0 : -4611686018427387904 ≤ x) (h1 : x ≤ 4611686018427387904) (w : World) :
    Calls Try.prog 17 #[.int .i64 x] w fun e w' => e = .returned (.int .i64 (x.natAbs : Int)) ∧ w = w' := by
  by_cases h : x < 0
  · have e : Hid ((x.natAbs : Int) = -x) := by show _ = _; omega
    rw [e.out]
    go_enter Try.func17, Try.ntmps17
    go_wp2
    go_ret
    exact ⟨rfl, rfl⟩
  · have e : Hid ((x.natAbs : Int) = x) := by show _ = _; omega
    rw [e.out]
    go_enter Try.func17, Try.ntmps17
    go_wp2
    go_ret
    exact ⟨rfl, rfl⟩

theorem b10Long_any (a b : Option Addr) (l m c d : Nat) (hl : (l : Int) ≤ 9223372036854775807) (hm : (m : Int) ≤ 9223372036854775807) (r : Bool) (hr : r = true ↔ 1048576 < l ∨ 1048576 < m) (w : World) :
    Calls Try.prog 12 #[.slice a l c, .slice b m d] w fun e w' => e = .returned (.bool r) ∧ w = w' := by
  by_cases h1 : (1048576 : Int) < l
  · obtain rfl : r = true := hr.mpr (by omega)
    clear hr
    go_enter Try.func12, Try.ntmps12
    go_wp2
    go_ret
    exact ⟨rfl, rfl⟩
  · by_cases h2 : (1048576 : Int) < m
    · obtain rfl : r = true := hr.mpr (by omega)
      have h3 : decide ((1048576 : Int) < m) = true := by simpa using h2
      clear hr h2
      go_enter Try.func12, Try.ntmps12
      go_wp2
      go_ret
      exact ⟨rfl, rfl⟩
    · obtain rfl : r = false := by
        cases r with
        | false => rfl
        | true => have := hr.mp rfl; omega
      have h3 : decide ((1048576 : Int) < m) = false := by simpa using h2
      clear hr h2
      go_enter Try.func12, Try.ntmps12
      go_wp2
      go_ret
      exact ⟨rfl, rfl⟩

theorem implFloor_any (a b p : Int) (ha1 : -1000000000000000000 ≤ a) (ha2 : a ≤ 1000000000000000000) (hb1 : 1 ≤ b) (hb2 : b ≤ 1000000000) (h1 : a - b < p * b) (h2 : p * b ≤ a) (w : World) :
    Calls Try.prog 14 #[.int .i64 a, .int .i64 b] w fun e w' => e = .returned (.tuple #[.int .i64 p, .bool true]) ∧ w = w' := by
  have hh := tdiv_of hb1 h1 h2
  obtain ⟨g1, g2, g3⟩ := p_bd hb1 h1 h2
  have G : -1000000000000000001 ≤ p ∧ p ≤ 1000000000000000000 := by omega
  obtain ⟨G1, G2⟩ := G
  obtain ⟨m1, m2⟩ := tmod_bd a b hb1
  clear h1 h2 g1 g2 g3
  rcases hh with ⟨k1, k2⟩ | ⟨k1, k2⟩
  · have K : Hid (a.tdiv b = p) := k2
    clear k2
    go_enter Try.func14, Try.ntmps14
    go_wp2
    obtain rfl := K.out
    go_ret2
    exact ⟨rfl, rfl⟩
  · have K : Hid (a.tdiv b - 1 = p) := k2
    have B1 : a.tdiv b ≤ 2000000000000000000 := by omega
    have B2 : -2000000000000000000 ≤ a.tdiv b := by omega
    clear k2
    go_enter Try.func14, Try.ntmps14
    go_wp2
    obtain rfl := K.out
    go_ret2
    exact ⟨rfl, rfl⟩

theorem mul_self_bd {x b : Int} (hb : 1 ≤ b) : (0 ≤ x → x ≤ x * b) ∧ (x ≤ 0 → x * b ≤ x) := by
  constructor
  · intro h; have : x * 1 ≤ x * b := Int.mul_le_mul_of_nonneg_left hb h; omega
  · intro h; have : x * b ≤ x * 1 := Int.mul_le_mul_of_nonpos_left h hb; omega

set_option maxHeartbeats 1000000 in
theorem implRound_any (a b : Int) (ha1 : -1000000000000000000 ≤ a) (ha2 : a ≤ 1000000000000000000) (hb1 : 1 ≤ b) (hb2 : b ≤ 1000000000) (w : World) :
    Calls Try.prog 15 #[.int .i64 a, .int .i64 b] w fun e w' => ∃ (p : Int) (n : Nat), e = .returned (.tuple #[.int .i64 p, .bool true]) ∧ 2 * (a - p * b) ≤ b ∧ -2 * (a - p * b) ≤ b ∧ w' = w.drewN n := by
  obtain ⟨m1, m2⟩ := tmod_bd a b hb1
  have e1 := Int.tmod_add_mul_tdiv a b
  rw [Int.mul_comm] at e1
  have s := mul_self_bd (x := a.tdiv b) hb1
  have B1 : a.tdiv b ≤ 2000000000000000000 := by omega
  have B2 : -2000000000000000000 ≤ a.tdiv b := by omega
  have E1 := Lib.hid e1
  clear e1 s
  go_enter Try.func15, Try.ntmps15
  go_wp2
  go_quiet (fail)
  go_wp2
  · have ht : b ≤ 2 * a.tmod b := by assumption
    go_ret2
    refine ⟨_, _, rfl, ?_, ?_, rfl⟩
    · have := E1.out; rw [Int.add_mul, Int.one_mul]; omega
    · have := E1.out; rw [Int.add_mul, Int.one_mul]; omega
  · have ht : 2 * a.tmod b < b := by assumption
    have ht2 : b ≤ -2 * a.tmod b := by assumption
    go_ret2
    refine ⟨_, _, rfl, ?_, ?_, rfl⟩
    · have := E1.out; rw [Int.sub_mul, Int.one_mul]; omega
    · have := E1.out; rw [Int.sub_mul, Int.one_mul]; omega
  · have ht : 2 * a.tmod b < b := by assumption
    have ht2 : -2 * a.tmod b < b := by assumption
    go_ret2
    exact ⟨_, _, rfl, by have := E1.out; omega, by have := E1.out; omega, rfl⟩

set_option maxRecDepth 100000 in
set_option maxHeartbeats 2000000 in
theorem divided_law (w : World) (a0 : Option Addr) (l0 c0 : Nat) (z0 : List Int) (r0 : RdB w (.slice a0 l0 c0) z0) (a1 : Option Addr) (l1 c1 : Nat) (z1 : List Int) (r1 : RdB w (.slice a1 l1 c1) z1)
    (hl0 : (l0 : Int) ≤ 1048576) (hl1 : (l1 : Int) ≤ 1048576) (hz0 : z0.length ≤ 1099511627776) (hz1 : z1.length ≤ 1099511627776) :
    Calls Try.prog 3 #[.slice a0 l0 c0, .slice a1 l1 c1] w fun e w' => e = .returned (.bool true) ∧ Below w.heap.size w w' := by
  have R0 := Lib.hid r0
  have R1 := Lib.hid r1
  clear r0 r1
  go_enter Try.func3, Try.ntmps3
  go_wp2_with fail
  refine (b10Long_any a0 a1 l0 l1 c0 c1 (by omega) (by omega) false ⟨(fun h => nomatch h), (fun h => by omega)⟩ w).mono ?_
  rintro e w' ⟨rfl, rfl⟩
  go_wp2_with fail
  refine (b10Ratio_any w _ z0 R0.out hz0).mono ?_
  rintro e w1 ⟨a, b, rfl, ba1, ba2, bb1, bb2, e1⟩
  have E1 := Lib.hid e1
  clear e1
  go_wp2_with fail
  refine (b10Ratio_any w1 _ z1 (R1.out.later E1.out) hz1).mono ?_
  rintro e w2 ⟨c, d, rfl, bc1, bc2, bd1, bd2, e2⟩
  have E2 : Hid (Below w.heap.size w w2) := E1.out.trans (e2.mono E1.out.size)
  clear e2 E1 R0 R1
  obtain ⟨q, q1, q2⟩ := floor_of a b bb1
  go_wp2_with fail
  refine (implFloor_any a b q (by omega) (by omega) bb1 (by omega) q1 q2 w2).mono ?_
  rintro e w' ⟨rfl, rfl⟩
  go_wp2_with fail
  refine (implRound_any a b (by omega) (by omega) bb1 (by omega) w2).mono ?_
  rintro e w3 ⟨r, n, rfl, r1, r2, rfl⟩
  obtain ⟨x, hx⟩ := IsCmp.ex (a * d) (c * b)
  have HX := Lib.hid hx
  clear hx
  go_wp2_with fail
  refine (implCompare_any a b c d x (by omega) (by omega) bb1 (by omega) (by omega) (by omega) bd1 (by omega) HX.out _).mono ?_
  rintro e w' ⟨rfl, rfl⟩
  go_wp2_with fail
  refine (implCompare_any c d a b (-x) (by omega) (by omega) bd1 (by omega) (by omega) (by omega) bb1 (by omega) HX.out.neg _).mono ?_
  rintro e w' ⟨rfl, rfl⟩
  go_wp2_with fail
  obtain ⟨N, hN⟩ : ∃ N : Int, N = ((a - r * b).natAbs : Int) := ⟨_, rfl⟩
  have N0 : 0 ≤ N := by omega
  have N1 : 2 * N ≤ b := by omega
  refine (b10Abs_any (a - r * b) (by omega) (by omega) _).mono ?_
  rintro e w' ⟨rfl, rfl⟩
  rw [← hN]
  clear hN r1 r2
  have X1 : -1 ≤ x := by have := HX.out; unfold IsCmp at this; omega
  have X2 : x ≤ 1 := by have := HX.out; unfold IsCmp at this; omega
  have X3 : (x != - -x) = false := by simp
  have X4 : - -x = x := by omega
  obtain ⟨M, hM⟩ : ∃ M : Int, M = (a.natAbs : Int) := ⟨_, rfl⟩
  obtain ⟨s, hs⟩ := IsRoot.ex a.natAbs
  rw [← hM] at hs
  have hs' := hs
  obtain ⟨s0, s1, s2⟩ := hs
  have sb := hs'.bd (by omega)
  have HS := Lib.hid hs'
  have sq := sq_bd s0 (show s ≤ 1000000001 by omega)
  have sq1 := sq_bd (m := s + 1) (by omega) (by omega)
  have M0 : 0 ≤ M := by omega
  have M1 : M ≤ 3599880001 := by omega
  have HM := Lib.hid hM
  obtain ⟨sq2, sq3⟩ := sq
  obtain ⟨sq4, sq5⟩ := sq1
  have P1 := Int.mul_le_mul_of_nonneg_right ba2 (show 0 ≤ d by omega)
  have P2 := Int.mul_le_mul_of_nonneg_right ba1 (show 0 ≤ d by omega)
  have P3 := Int.mul_le_mul_of_nonneg_right bc2 (show 0 ≤ b by omega)
  have P4 := Int.mul_le_mul_of_nonneg_right bc1 (show 0 ≤ b by omega)
  have K1 : -1500000000000000 ≤ a * d := by omega
  have K2 : a * d ≤ 2000000000000000 := by omega
  have K3 : -1500000000000000 ≤ c * b := by omega
  have K4 : c * b ≤ 2000000000000000 := by omega
  clear hs' hM P1 P2 P3 P4
  have E3 : Hid (Below w.heap.size w (w2.drewN n)) := below_drewN E2.out n
  have HX' := HX.out
  unfold IsCmp at HX'
  rcases HX' with ⟨k, rfl⟩ | ⟨k, rfl⟩ | ⟨k, rfl⟩
  all_goals
    clear HX
    go_wp2_with fail
    refine (b10Abs_any a (by omega) (by omega) _).mono ?_
    rintro e w' ⟨rfl, rfl⟩
    rw [← HM.out]
    go_wp2_with fail
    refine (implRoot_any M s M0 (by omega) HS.out _).mono ?_
    rintro e w' ⟨rfl, rfl⟩
    go_wp2
    go_ret
    exact ⟨rfl, E3.out⟩

set_option maxRecDepth 100000 in
theorem walkFnDivided (w : World) (a0 : Option Addr) (l0 c0 : Nat) (z0 : List Int) (r0 : IsRow .u8 w a0 l0 c0 z0) (a1 : Option Addr) (l1 c1 : Nat) (z1 : List Int) (r1 : IsRow .u8 w a1 l1 c1 z1) :
    Calls Try.prog 3 #[.slice a0 l0 c0, .slice a1 l1 c1] w fun e w' => e = .returned (.bool true) ∧ Below w.heap.size w w' := by
  have m0 := r0.len_le
  have m1 := r1.len_le
  obtain ⟨R0, e0⟩ := r0.rdB
  obtain ⟨R1, e1⟩ := r1.rdB
  by_cases h : (l0 : Int) ≤ 1048576 ∧ (l1 : Int) ≤ 1048576
  · exact divided_law w a0 l0 c0 _ R0 a1 l1 c1 _ R1 h.1 h.2 (by omega) (by omega)
  · clear R0 R1 e0 e1 r0 r1
    go_enter Try.func3, Try.ntmps3
    go_wp2_with fail
    refine (b10Long_any a0 a1 l0 l1 c0 c1 (by omega) (by omega) true ⟨(fun _ => by omega), (fun _ => rfl)⟩ w).mono ?_
    rintro e w' ⟨rfl, rfl⟩
    go_wp2
    go_ret
    exact ⟨rfl, Below.refl _ _⟩
end Go.Proofs.Ytljofbpgiencpaa
