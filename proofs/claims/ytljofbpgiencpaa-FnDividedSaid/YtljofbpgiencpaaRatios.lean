/- Walks of the functions that compare ratios. -/
import Derived.Test.YtljofbpgiencpaaBase
import Derived.Test.YtljofbpgiencpaaShelf
namespace Go.Proofs.Ytljofbpgiencpaa
open Go.ChangeShapes Go.WideShapes Go.ChangeAt Go.RowKit
set_option linter.unusedVariables false
set_option linter.unusedSimpArgs false

/-- r says how x stands to y. -/
def IsCmp (x y r : Int) : Prop := (x < y ∧ r = -1) ∨ (x = y ∧ r = 0) ∨ (y < x ∧ r = 1)

theorem IsCmp.ex (x y : Int) : ∃ r, IsCmp x y r := by
  rcases Int.lt_trichotomy x y with h | h | h
  · exact ⟨-1, .inl ⟨h, rfl⟩⟩
  · exact ⟨0, .inr (.inl ⟨h, rfl⟩)⟩
  · exact ⟨1, .inr (.inr ⟨h, rfl⟩)⟩

theorem IsCmp.neg {x y r : Int} (h : IsCmp x y r) : IsCmp y x (-r) := by
  unfold IsCmp at *; omega

theorem floor_of (a b : Int) (h : 1 ≤ b) : ∃ p, a - b < p * b ∧ p * b ≤ a := by
  refine ⟨a / b, ?_, ?_⟩
  · have := Int.emod_lt_of_pos a (show 0 < b by omega); have e := Int.emod_add_mul_ediv a b; rw [Int.mul_comm] at e; omega
  · have := Int.emod_nonneg a (show b ≠ 0 by omega); have e := Int.emod_add_mul_ediv a b; rw [Int.mul_comm] at e; omega

theorem tdiv_of {a b p : Int} (h : 1 ≤ b) (h1 : a - b < p * b) (h2 : p * b ≤ a) : (0 ≤ a.tmod b ∧ a.tdiv b = p) ∨ (a.tmod b < 0 ∧ a.tdiv b - 1 = p) := by
  have e1 := Int.tmod_add_mul_tdiv a b
  obtain ⟨m1, m2⟩ := tmod_bd a b h
  by_cases hm : 0 ≤ a.tmod b
  · left; refine ⟨hm, ?_⟩
    have u1 : b * (a.tdiv b - p) < b * 1 := by rw [Int.mul_sub, Int.mul_comm b p]; omega
    have u2 : b * (-1) < b * (a.tdiv b - p) := by rw [Int.mul_sub, Int.mul_comm b p]; omega
    have v1 := Int.lt_of_mul_lt_mul_left u1 (by omega)
    have v2 := Int.lt_of_mul_lt_mul_left u2 (by omega)
    omega
  · right; refine ⟨by omega, ?_⟩
    have u1 : b * (a.tdiv b - 1 - p) < b * 1 := by rw [Int.mul_sub, Int.mul_sub, Int.mul_comm b p]; omega
    have u2 : b * (-1) < b * (a.tdiv b - 1 - p) := by rw [Int.mul_sub, Int.mul_sub, Int.mul_comm b p]; omega
    have v1 := Int.lt_of_mul_lt_mul_left u1 (by omega)
    have v2 := Int.lt_of_mul_lt_mul_left u2 (by omega)
    omega

theorem p_bd {a b p : Int} (h : 1 ≤ b) (h1 : a - b < p * b) (h2 : p * b ≤ a) : (0 ≤ a → p ≤ a) ∧ (a < 0 → p < 0 ∧ a ≤ p) ∧ (0 ≤ a → 0 ≤ p) := by
  refine ⟨fun ha => ?_, fun ha => ⟨?_, ?_⟩, fun ha => ?_⟩
  · by_cases hp : p ≤ 0
    · omega
    · have : p * 1 ≤ p * b := Int.mul_le_mul_of_nonneg_left h (by omega); omega
  · by_cases hp : p < 0
    · exact hp
    · have : 0 ≤ p * b := Int.mul_nonneg (by omega) (by omega); omega
  · by_cases hp : p ≤ a - 1
    · have : p * b ≤ (a - 1) * b := Int.mul_le_mul_of_nonneg_right hp (by omega)
      have e : (a - 1) * b = a * b - b := by rw [Int.sub_mul, Int.one_mul]
      have : a * b ≤ a * 1 := Int.mul_le_mul_of_nonpos_left (by omega) h
      omega
    · omega
  · by_cases hp : 0 ≤ p
    · exact hp
    · have : (p + 1) * b ≤ 0 * b := Int.mul_le_mul_of_nonneg_right (by omega) (by omega)
      have e : (p + 1) * b = p * b + b := by rw [Int.add_mul, Int.one_mul]
      omega

theorem l01Floor_any (a b p : Int) (ha1 : -1000000000000000000 ≤ a) (ha2 : a ≤ 1000000000000000000) (hb1 : 1 ≤ b) (hb2 : b ≤ 1000000000000000000) (h1 : a - b < p * b) (h2 : p * b ≤ a) (w : World) :
    Calls Try.prog 53 #[.int .i64 a, .int .i64 b] w fun e w' => e = .returned (.int .i64 p) ∧ w = w' := by
  have hh := tdiv_of hb1 h1 h2
  obtain ⟨g1, g2, g3⟩ := p_bd hb1 h1 h2
  have G : -1000000000000000001 ≤ p ∧ p ≤ 1000000000000000000 := by omega
  obtain ⟨G1, G2⟩ := G
  obtain ⟨m1, m2⟩ := tmod_bd a b hb1
  clear h1 h2 g1 g2 g3
  rcases hh with ⟨k1, k2⟩ | ⟨k1, k2⟩
  · have K : Hid (a.tdiv b = p) := k2
    clear k2
    go_enter Try.func53, Try.ntmps53
    go_wp2
    obtain rfl := K.out
    go_ret
    exact ⟨rfl, rfl⟩
  · have K : Hid (a.tdiv b - 1 = p) := k2
    have B1 : a.tdiv b ≤ 2000000000000000000 := by omega
    have B2 : -2000000000000000000 ≤ a.tdiv b := by omega
    clear k2
    go_enter Try.func53, Try.ntmps53
    go_wp2
    obtain rfl := K.out
    go_ret
    exact ⟨rfl, rfl⟩

/-- One step of the comparison: the whole parts are equal, what is left is compared the other way round. -/
theorem IsCmp.step {a b c d p r : Int} (h : IsCmp (a * d) (c * b) r) : IsCmp (b * (c - p * d)) (d * (a - p * b)) (-r) := by
  have e1 : b * (c - p * d) = c * b - p * (b * d) := by rw [Int.mul_sub, Int.mul_comm b c, Int.mul_comm p (b * d), Int.mul_assoc, Int.mul_comm d p]
  have e2 : d * (a - p * b) = a * d - p * (b * d) := by rw [Int.mul_sub, Int.mul_comm d a, Int.mul_comm p (b * d), Int.mul_comm b d, Int.mul_assoc, Int.mul_comm b p]
  rw [e1, e2]
  unfold IsCmp at *; omega

theorem IsCmp.of_floor {a b c d p q r : Int} (hb : 1 ≤ b) (hd : 1 ≤ d) (h1 : a - b < p * b) (h2 : p * b ≤ a) (h3 : c - d < q * d) (h4 : q * d ≤ c) (h : IsCmp (a * d) (c * b) r) (hpq : p < q) : r = -1 := by
  have u1 : (a + 1) * d ≤ ((p + 1) * b) * d := Int.mul_le_mul_of_nonneg_right (by rw [Int.add_mul, Int.one_mul]; omega) (by omega)
  have u2 : (p + 1) * (b * d) ≤ q * (b * d) := Int.mul_le_mul_of_nonneg_right (by omega) (Int.mul_nonneg (by omega) (by omega))
  have u3 : (q * d) * b ≤ c * b := Int.mul_le_mul_of_nonneg_right h4 (by omega)
  have e1 : ((p + 1) * b) * d = (p + 1) * (b * d) := by rw [Int.mul_assoc]
  have e2 : (q * d) * b = q * (b * d) := by rw [Int.mul_assoc, Int.mul_comm d b]
  have e3 : (a + 1) * d = a * d + d := by rw [Int.add_mul, Int.one_mul]
  unfold IsCmp at h; omega

theorem IsCmp.rem {a b c d p r : Int} (hb : 1 ≤ b) (hd : 1 ≤ d) (h : IsCmp (a * d) (c * b) r) (h2 : p * b ≤ a) (h4 : p * d ≤ c) :
    (a - p * b = 0 → c - p * d = 0 → r = 0) ∧ (a - p * b = 0 → c - p * d ≠ 0 → r = -1) ∧ (a - p * b ≠ 0 → c - p * d = 0 → r = 1) := by
  have e : a * d - c * b = (a - p * b) * d - (c - p * d) * b := by
    rw [Int.sub_mul, Int.sub_mul]
    have : p * b * d = p * d * b := by rw [Int.mul_assoc, Int.mul_assoc, Int.mul_comm b d]
    omega
  refine ⟨fun x y => ?_, fun x y => ?_, fun x y => ?_⟩
  · rw [x, y, Int.zero_mul, Int.zero_mul] at e; unfold IsCmp at h; omega
  · rw [x, Int.zero_mul] at e
    have : 1 * 1 ≤ (c - p * d) * b := Int.mul_le_mul (by omega) hb (by omega) (by omega)
    unfold IsCmp at h; omega
  · rw [y, Int.zero_mul] at e
    have : 1 * 1 ≤ (a - p * b) * d := Int.mul_le_mul (by omega) hd (by omega) (by omega)
    unfold IsCmp at h; omega

set_option maxHeartbeats 1000000 in
theorem l01Compare_any (a b c d r : Int) (ha1 : -1000000000000000000 ≤ a) (ha2 : a ≤ 1000000000000000000) (hb1 : 1 ≤ b) (hb2 : b ≤ 1000000000000000000) (hc1 : -1000000000000000000 ≤ c) (hc2 : c ≤ 1000000000000000000) (hd1 : 1 ≤ d) (hd2 : d ≤ 1000000000000000000) (hr : IsCmp (a * d) (c * b) r) (w : World) :
    Calls Try.prog 57 #[.int .i64 a, .int .i64 b, .int .i64 c, .int .i64 d] w fun e w' => e = .returned (.int .i64 r) ∧ w = w' := by
  have HR0 := Lib.hid hr
  clear hr
  go_enter Try.func57, Try.ntmps57
  go_wp2
  go_loop [0, 1, 2, 3, 9] (fun va vb vc vd vs => ∃ a b c d s t : Int, Hid (IsCmp (a * d) (c * b) t) ∧ (s = 1 ∧ r = t ∨ s = -1 ∧ r = -t) ∧ -1000000000000000000 ≤ a ∧ a ≤ 1000000000000000000 ∧ 1 ≤ b ∧ b ≤ 1000000000000000000 ∧ -1000000000000000000 ≤ c ∧ c ≤ 1000000000000000000 ∧ 1 ≤ d ∧ d ≤ 1000000000000000000 ∧ va = .int .i64 a ∧ vb = .int .i64 b ∧ vc = .int .i64 c ∧ vd = .int .i64 d ∧ vs = .int .i64 s) (fun _ b _ _ _ => (intOf b).toNat)
  case atStart => exact ⟨a, b, c, d, 1, r, HR0, .inl ⟨rfl, rfl⟩, ha1, ha2, hb1, hb2, hc1, hc2, hd1, hd2, rfl, rfl, rfl, rfl, rfl⟩
  case round =>
    clear HR0 ha1 ha2 hb1 hb2 hc1 hc2 hd1 hd2 a b c d
    obtain ⟨a, b, c, d, s, t, HR, hs, ha1, ha2, hb1, hb2, hc1, hc2, hd1, hd2, rfl, rfl, rfl, rfl, rfl⟩ := hrel
    obtain ⟨p, p1, p2⟩ := floor_of a b hb1
    obtain ⟨q, q1, q2⟩ := floor_of c d hd1
    have HS := Lib.hid hs
    have s1 : -1 ≤ s := by omega
    have s2 : s ≤ 1 := by omega
    have s3 : -1 ≤ -s := by omega
    clear hs
    rcases Int.lt_trichotomy p q with hpq | rfl | hpq
    · have e : t = -1 := HR.out.of_floor hb1 hd1 p1 p2 q1 q2 hpq
      have HE := Lib.hid e
      clear e
      go_wp2_with (go_at_call 53; first | ((with_reducible refine (l01Floor_any a b p ha1 ha2 hb1 hb2 p1 p2 _).mono ?_); rintro e w' ⟨rfl, rfl⟩) | ((with_reducible refine (l01Floor_any c d q hc1 hc2 hd1 hd2 q1 q2 _).mono ?_); rintro e w' ⟨rfl, rfl⟩))
      have := HE.out
      obtain rfl : -s = r := by have := HS.out; omega
      go_ret
      exact ⟨rfl, rfl⟩
    · have g := HR.out.rem hb1 hd1 p2 q2
      have st : Hid _ := (HR.out.step (p := p))
      have G := Lib.hid g
      clear g
      have x1 : 0 ≤ a - p * b := by omega
      have x2 : a - p * b < b := by omega
      have y1 : 0 ≤ c - p * d := by omega
      have y2 : c - p * d < d := by omega
      by_cases hx : a - p * b = 0
      · have hx' : ((a - p * b == 0) : Bool) = true := by simpa using hx
        by_cases hy : c - p * d = 0
        · have hy' : ((c - p * d == 0) : Bool) = true := by simpa using hy
          have e := G.out.1 hx hy
          have HE := Lib.hid e
          clear e hx hy
          go_wp2_with (go_at_call 53; first | ((with_reducible refine (l01Floor_any a b p ha1 ha2 hb1 hb2 p1 p2 _).mono ?_); rintro e w' ⟨rfl, rfl⟩) | ((with_reducible refine (l01Floor_any c d p hc1 hc2 hd1 hd2 q1 q2 _).mono ?_); rintro e w' ⟨rfl, rfl⟩))
          have := HE.out
          obtain rfl : r = 0 := by have := HS.out; omega
          go_ret
          exact ⟨rfl, rfl⟩
        · have hy' : ((c - p * d == 0) : Bool) = false := by simpa using hy
          have e := G.out.2.1 hx hy
          have HE := Lib.hid e
          clear e hx hy
          go_wp2_with (go_at_call 53; first | ((with_reducible refine (l01Floor_any a b p ha1 ha2 hb1 hb2 p1 p2 _).mono ?_); rintro e w' ⟨rfl, rfl⟩) | ((with_reducible refine (l01Floor_any c d p hc1 hc2 hd1 hd2 q1 q2 _).mono ?_); rintro e w' ⟨rfl, rfl⟩))
          have := HE.out
          obtain rfl : -s = r := by have := HS.out; omega
          go_ret
          exact ⟨rfl, rfl⟩
      · have hx' : ((a - p * b == 0) : Bool) = false := by simpa using hx
        by_cases hy : c - p * d = 0
        · have hy' : ((c - p * d == 0) : Bool) = true := by simpa using hy
          have e := G.out.2.2 hx hy
          have HE := Lib.hid e
          clear e hx hy
          go_wp2_with (go_at_call 53; first | ((with_reducible refine (l01Floor_any a b p ha1 ha2 hb1 hb2 p1 p2 _).mono ?_); rintro e w' ⟨rfl, rfl⟩) | ((with_reducible refine (l01Floor_any c d p hc1 hc2 hd1 hd2 q1 q2 _).mono ?_); rintro e w' ⟨rfl, rfl⟩))
          have := HE.out
          obtain rfl : s = r := by have := HS.out; omega
          go_ret
          exact ⟨rfl, rfl⟩
        · have hy' : ((c - p * d == 0) : Bool) = false := by simpa using hy
          have x3 : 1 ≤ a - p * b := by omega
          have y3 : 1 ≤ c - p * d := by omega
          clear hx hy
          go_wp2_with (go_at_call 53; first | ((with_reducible refine (l01Floor_any a b p ha1 ha2 hb1 hb2 p1 p2 _).mono ?_); rintro e w' ⟨rfl, rfl⟩) | ((with_reducible refine (l01Floor_any c d p hc1 hc2 hd1 hd2 q1 q2 _).mono ?_); rintro e w' ⟨rfl, rfl⟩))
          refine ⟨⟨_, _, _, _, _, -t, st, ?_, ?_, ?_, ?_, ?_, ?_, ?_, ?_, ?_, rfl, rfl, rfl, rfl, rfl⟩, ?_⟩
          any_goals (clear st G HR; omega)
          · have := HS.out; omega
          · simp only [intOf]; omega
    · have e : -t = -1 := HR.out.neg.of_floor hd1 hb1 q1 q2 p1 p2 hpq
      have HE := Lib.hid e
      clear e
      go_wp2_with (go_at_call 53; first | ((with_reducible refine (l01Floor_any a b p ha1 ha2 hb1 hb2 p1 p2 _).mono ?_); rintro e w' ⟨rfl, rfl⟩) | ((with_reducible refine (l01Floor_any c d q hc1 hc2 hd1 hd2 q1 q2 _).mono ?_); rintro e w' ⟨rfl, rfl⟩))
      have := HE.out
      obtain rfl : s = r := by have := HS.out; omega
      go_ret
      exact ⟨rfl, rfl⟩

theorem cmpU64_any (x y r : Int) (hr : IsCmp x y r) (w : World) :
    Calls Try.prog 62 #[.int .u64 x, .int .u64 y] w fun e w' => e = .returned (.int .i64 r) ∧ w = w' := by
  rcases hr with ⟨h, rfl⟩ | ⟨h, rfl⟩ | ⟨h, rfl⟩
  · go_enter Try.func62, Try.ntmps62
    go_wp2
    go_ret
    exact ⟨rfl, rfl⟩
  · subst h
    go_enter Try.func62, Try.ntmps62
    go_wp2
    go_ret
    exact ⟨rfl, rfl⟩
  · go_enter Try.func62, Try.ntmps62
    go_wp2
    go_ret
    exact ⟨rfl, rfl⟩

theorem cmpI64_any (x y r : Int) (hr : IsCmp x y r) (w : World) :
    Calls Try.prog 44 #[.int .i64 x, .int .i64 y] w fun e w' => e = .returned (.int .i64 r) ∧ w = w' := by
  rcases hr with ⟨h, rfl⟩ | ⟨h, rfl⟩ | ⟨h, rfl⟩
  · go_enter Try.func44, Try.ntmps44
    go_wp2
    go_ret
    exact ⟨rfl, rfl⟩
  · subst h
    go_enter Try.func44, Try.ntmps44
    go_wp2
    go_ret
    exact ⟨rfl, rfl⟩
  · go_enter Try.func44, Try.ntmps44
    go_wp2
    go_ret
    exact ⟨rfl, rfl⟩

theorem mul64_any (x y : Nat) (hx : x < 18446744073709551616) (hy : y < 18446744073709551616) (w : World) :
    Calls Try.prog 61 #[.int .u64 x, .int .u64 y] w fun e w' => e = .returned (.tuple #[.int .u64 ((x * y / 18446744073709551616 : Nat) : Int), .int .u64 ((x * y % 18446744073709551616 : Nat) : Int)]) ∧ w = w' :=
  (Try.bits_Mul64 x y hx hy w).mono fun _ _ ⟨h, h'⟩ => ⟨h, h'.symm⟩

set_option maxHeartbeats 1000000 in
theorem compareProducts_any (a b c d : Nat) (r : Int) (ha : a ≤ 1000000000000000000) (hb : b ≤ 1000000000000000000) (hc : c ≤ 1000000000000000000) (hd : d ≤ 1000000000000000000) (hr : IsCmp ((a : Int) * b) ((c : Int) * d) r) (w : World) :
    Calls Try.prog 43 #[.int .i64 a, .int .i64 b, .int .i64 c, .int .i64 d] w fun e w' => e = .returned (.int .i64 r) ∧ w = w' := by
  have h1 : ∃ h l : Nat, h = a * b / 18446744073709551616 ∧ l = a * b % 18446744073709551616 := ⟨_, _, rfl, rfl⟩
  have h2 : ∃ h l : Nat, h = c * d / 18446744073709551616 ∧ l = c * d % 18446744073709551616 := ⟨_, _, rfl, rfl⟩
  obtain ⟨h, l, eh, el⟩ := h1
  obtain ⟨h', l', eh', el'⟩ := h2
  have hr' : IsCmp ((a * b : Nat) : Int) ((c * d : Nat) : Int) r := by push_cast; exact hr
  have key : (h = h' → IsCmp (l : Int) l' r) ∧ (h ≠ h' → IsCmp (h : Int) h' r) := by
    unfold IsCmp at *; omega
  have K := Lib.hid key
  have EH := Lib.hid eh
  have EL := Lib.hid el
  have EH' := Lib.hid eh'
  have EL' := Lib.hid el'
  clear key hr hr' eh el eh' el'
  by_cases hh : (h : Int) = h'
  · have e := K.out.1 (by omega)
    obtain rfl : h = h' := by omega
    clear hh
    go_enter Try.func43, Try.ntmps43
    go_wp2_with (first | (go_at_call 61; first | ((with_reducible refine (mul64_any a b (by omega) (by omega) _).mono ?_); rintro e w' ⟨rfl, rfl⟩; rw [← EH.out, ← EL.out]) | ((with_reducible refine (mul64_any c d (by omega) (by omega) _).mono ?_); rintro e w' ⟨rfl, rfl⟩; rw [← EH'.out, ← EL'.out])) | (go_at_call 62; refine (cmpU64_any _ _ r e _).mono ?_; rintro e w' ⟨rfl, rfl⟩))
    go_ret
    exact ⟨rfl, rfl⟩
  · have e := K.out.2 (by omega)
    have hx : (((h : Int) != (h' : Int)) : Bool) = true := by simpa using hh
    have hx2 : (((h : Int) == (h' : Int)) : Bool) = false := by simpa using hh
    clear hh
    go_enter Try.func43, Try.ntmps43
    go_wp2_with (first | (go_at_call 61; first | ((with_reducible refine (mul64_any a b (by omega) (by omega) _).mono ?_); rintro e w' ⟨rfl, rfl⟩; rw [← EH.out, ← EL.out]) | ((with_reducible refine (mul64_any c d (by omega) (by omega) _).mono ?_); rintro e w' ⟨rfl, rfl⟩; rw [← EH'.out, ← EL'.out])) | (go_at_call 62; refine (cmpU64_any _ _ r e _).mono ?_; rintro e w' ⟨rfl, rfl⟩))
    go_ret
    exact ⟨rfl, rfl⟩

def ratioB (a b : Int) : Bool := decide (-1000000000000000000 ≤ a ∧ a ≤ 1000000000000000000 ∧ 1 ≤ b ∧ b ≤ 1000000000000000000)

theorem cross_neg {a b c d r : Int} (h : IsCmp (a * d) (c * b) r) : IsCmp (-c * b) (-a * d) r := by
  rw [Int.neg_mul, Int.neg_mul]; unfold IsCmp at *; omega

theorem cross_lt {a b c d r : Int} (hb : 1 ≤ b) (hd : 1 ≤ d) (ha : a < 0) (hc : 0 ≤ c) (h : IsCmp (a * d) (c * b) r) : r = -1 := by
  have := Int.mul_nonneg hc (show 0 ≤ b by omega)
  have : a * d ≤ -1 * d := Int.mul_le_mul_of_nonneg_right (by omega) (by omega)
  unfold IsCmp at h; omega

set_option maxHeartbeats 2000000 in
theorem implCompare_any (a b c d r : Int) (ha1 : -1000000000000000000 ≤ a) (ha2 : a ≤ 1000000000000000000) (hb1 : 1 ≤ b) (hb2 : b ≤ 1000000000000000000) (hc1 : -1000000000000000000 ≤ c) (hc2 : c ≤ 1000000000000000000) (hd1 : 1 ≤ d) (hd2 : d ≤ 1000000000000000000) (hr : IsCmp (a * d) (c * b) r) (w : World) :
    Calls Try.prog 16 #[.int .i64 a, .int .i64 b, .int .i64 c, .int .i64 d] w fun e w' => e = .returned (.tuple #[.int .i64 r, .bool true]) ∧ w = w' := by
  obtain ⟨b, rfl⟩ : ∃ n : Nat, b = n := ⟨b.toNat, by omega⟩
  obtain ⟨d, rfl⟩ : ∃ n : Nat, d = n := ⟨d.toNat, by omega⟩
  by_cases ha : a < 0
  · by_cases hc : c < 0
    · obtain ⟨a', rfl⟩ : ∃ n : Nat, a = -n := ⟨a.natAbs, by omega⟩
      obtain ⟨c', rfl⟩ : ∃ n : Nat, c = -n := ⟨c.natAbs, by omega⟩
      have hr' := cross_neg hr
      rw [Int.neg_neg, Int.neg_neg] at hr'
      have HR := Lib.hid hr'
      have ea : -(-(a' : Int)) = a' := by omega
      have ec : -(-(c' : Int)) = c' := by omega
      clear hr hr'
      go_enter Try.func16, Try.ntmps16
      go_wp2_with (first | (go_at_call 43; (with_reducible refine (compareProducts_any c' b a' d r (by omega) (by omega) (by omega) (by omega) HR.out _).mono ?_); rintro e w' ⟨rfl, rfl⟩) | go_in)
      go_ret2
      exact ⟨rfl, rfl⟩
    · obtain rfl : r = -1 := cross_lt hb1 hd1 ha (by omega) hr
      clear hr
      have hc' : 0 ≤ c := by omega
      clear hc
      go_enter Try.func16, Try.ntmps16
      go_wp2_with (first | (go_at_call 44; (with_reducible refine (cmpI64_any a c (-1) (.inl ⟨by omega, rfl⟩) _).mono ?_); rintro e w' ⟨rfl, rfl⟩) | go_in)
      go_ret2
      exact ⟨rfl, rfl⟩
  · have ha' : 0 ≤ a := by omega
    clear ha
    by_cases hc : c < 0
    · obtain rfl : r = 1 := by have := cross_lt hd1 hb1 hc ha' hr.neg; omega
      clear hr
      go_enter Try.func16, Try.ntmps16
      go_wp2_with (first | (go_at_call 44; (with_reducible refine (cmpI64_any a c 1 (.inr (.inr ⟨by omega, rfl⟩)) _).mono ?_); rintro e w' ⟨rfl, rfl⟩) | go_in)
      go_ret2
      exact ⟨rfl, rfl⟩
    · have hc' : 0 ≤ c := by omega
      clear hc
      obtain ⟨a, rfl⟩ : ∃ n : Nat, a = n := ⟨a.toNat, by omega⟩
      obtain ⟨c, rfl⟩ : ∃ n : Nat, c = n := ⟨c.toNat, by omega⟩
      have HR := Lib.hid hr
      clear hr
      go_enter Try.func16, Try.ntmps16
      go_wp2_with (first | (go_at_call 43; (with_reducible refine (compareProducts_any a d c b r (by omega) (by omega) (by omega) (by omega) HR.out _).mono ?_); rintro e w' ⟨rfl, rfl⟩) | go_in)
      go_ret2
      exact ⟨rfl, rfl⟩

set_option maxHeartbeats 2000000 in
theorem compareRatios_no (a b c d : Int) (w : World)
    (h : decide (-1000000000000000000 ≤ a) = false ∨ (-1000000000000000000 ≤ a ∧ decide (a ≤ 1000000000000000000) = false) ∨
      (-1000000000000000000 ≤ a ∧ a ≤ 1000000000000000000 ∧ (decide (-1000000000000000000 ≤ c) = false ∨ (-1000000000000000000 ≤ c ∧ decide (c ≤ 1000000000000000000) = false) ∨
      (-1000000000000000000 ≤ c ∧ c ≤ 1000000000000000000 ∧ (decide (1 ≤ b) = false ∨ (1 ≤ b ∧ decide (b ≤ 1000000000000000000) = false) ∨
      (1 ≤ b ∧ b ≤ 1000000000000000000 ∧ (decide (1 ≤ d) = false ∨ (1 ≤ d ∧ decide (d ≤ 1000000000000000000) = false)))))))) :
    Calls Try.prog 9 #[.int .i64 a, .int .i64 b, .int .i64 c, .int .i64 d] w fun e w' => e = .returned (.bool true) ∧ Below w.heap.size w w' := by
  rcases h with h | ⟨h1, h⟩ | ⟨h1, h2, h | ⟨h3, h⟩ | ⟨h3, h4, h | ⟨h5, h⟩ | ⟨h5, h6, h | ⟨h7, h⟩⟩⟩⟩
  all_goals
    go_enter Try.func9, Try.ntmps9
    go_wp2
    go_ret
    exact ⟨rfl, Below.refl _ _⟩

set_option maxHeartbeats 2000000 in
theorem walkFnExactCompareRatios (a : Int) (w0 : (Lit.int .i64 a).wf = true) (b : Int) (w1 : (Lit.int .i64 b).wf = true) (c : Int) (w2 : (Lit.int .i64 c).wf = true) (d : Int) (w3 : (Lit.int .i64 d).wf = true) (w : World) :
    Calls Try.prog 9 #[.int .i64 a, .int .i64 b, .int .i64 c, .int .i64 d] w fun e w' => e = .returned (.bool true) ∧ Below w.heap.size w w' := by
  by_cases hv : (-1000000000000000000 ≤ a ∧ a ≤ 1000000000000000000) ∧ (1 ≤ b ∧ b ≤ 1000000000000000000) ∧ (-1000000000000000000 ≤ c ∧ c ≤ 1000000000000000000) ∧ (1 ≤ d ∧ d ≤ 1000000000000000000)
  · obtain ⟨⟨ha1, ha2⟩, ⟨hb1, hb2⟩, ⟨hc1, hc2⟩, ⟨hd1, hd2⟩⟩ := hv
    obtain ⟨r, hr⟩ := IsCmp.ex (a * d) (c * b)
    have HR := Lib.hid hr
    clear hr w0 w1 w2 w3
    go_enter Try.func9, Try.ntmps9
    go_wp2_with (first | (go_at_call 57; (with_reducible refine (l01Compare_any a b c d r ha1 ha2 hb1 hb2 hc1 hc2 hd1 hd2 HR.out _).mono ?_); rintro e w' ⟨rfl, rfl⟩) | (go_at_call 16; (with_reducible refine (implCompare_any a b c d r ha1 ha2 hb1 hb2 hc1 hc2 hd1 hd2 HR.out _).mono ?_); rintro e w' ⟨rfl, rfl⟩) | go_in)
    go_ret
    exact ⟨rfl, Below.refl _ _⟩
  · refine compareRatios_no a b c d w ?_
    simp only [decide_eq_false_iff_not]
    omega
end Go.Proofs.Ytljofbpgiencpaa
