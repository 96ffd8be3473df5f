/- What a plan costs: its price. -/
import Derived.Test.YtmdddjhlfpmgdacCostJ
import Derived.Test.YtmdddjhlfpmgdacPlanX
namespace Go.Proofs.Ytmdddjhlfpmgdac
open Go.ChangeShapes Go.WideShapes Go.ChangeAt Go.RowKit
set_option linter.unusedVariables false
set_option linter.unusedSimpArgs false

theorem price_in (p q : Int) (a b : Nat) (hp : 0 ≤ p ∧ p ≤ 10000) (hq : 0 ≤ q ∧ q ≤ 10000) (ha : a ≤ 1000) (hb : b ≤ 1000) : wrap64 (p * (a : Int)) = p * (a : Int) ∧ wrap64 (q * (b : Int)) = q * (b : Int) ∧ wrap64 (p * (a : Int) + q * (b : Int)) = p * (a : Int) + q * (b : Int) := by
  have u1 : p * (a : Int) ≤ 10000 * 1000 := Int.mul_le_mul hp.2 (by omega) (by omega) (by omega)
  have u2 : 0 ≤ p * (a : Int) := Int.mul_nonneg hp.1 (by omega)
  have u3 : q * (b : Int) ≤ 10000 * 1000 := Int.mul_le_mul hq.2 (by omega) (by omega) (by omega)
  have u4 : 0 ≤ q * (b : Int) := Int.mul_nonneg hq.1 (by omega)
  generalize p * (a : Int) = x at *
  generalize q * (b : Int) = y at *
  unfold wrap64
  omega

set_option maxRecDepth 100000 in
set_option maxHeartbeats 4000000 in
theorem priceOf_any (g : Hd) (n0 n1 n2 : Nat) (hp : 0 ≤ g.p ∧ g.p ≤ 10000) (hq : 0 ≤ g.q ∧ g.q ≤ 10000) (a b : Nat) (ha : a ≤ 1000) (hb : b ≤ 1000) (w : World) : Calls Try.prog 78 #[(.agg #[.slice g.ca n0 g.cc, .slice g.ha n1 g.hc, .slice g.sa n2 g.sc, .int .i64 g.p, .int .i64 g.q]), .int .i64 a, .int .i64 b] w fun e w' => e = .returned (.int .i64 (g.p * (a : Int) + g.q * (b : Int))) ∧ Below w.heap.size w w' := by
  obtain ⟨e1, e2, e3⟩ := price_in g.p g.q a b hp hq ha hb
  have E1 := Lib.hid e1
  have E2 := Lib.hid e2
  have E3 := Lib.hid e3
  clear e1 e2 e3 hp hq ha hb
  go_enter Try.func78, Try.ntmps78
  go_wp2
  go_ret
  refine ⟨?_, (Below.refl _ _).alloc (Nat.le_refl _) _⟩
  show Ending.returned (.int .i64 (wrap64 (wrap64 (g.p * (a : Int)) + wrap64 (g.q * (b : Int))))) = _
  rw [E1.out, E2.out, E3.out]

set_option maxRecDepth 100000 in
set_option maxHeartbeats 4000000 in
theorem costOf_any (g : Hd) (n0 n1 n2 : Nat) (hp : 0 ≤ g.p ∧ g.p ≤ 10000) (hq : 0 ≤ g.q ∧ g.q ≤ 10000) (a b c d e : Nat) (ha : a < 2 ^ 60) (hb : b < 2 ^ 60) (hc : c < 2 ^ 60) (hd : d < 2 ^ 60) (he : e < 2 ^ 60) (w : World) : Calls Try.prog 42 #[(.agg #[.slice g.ca n0 g.cc, .slice g.ha n1 g.hc, .slice g.sa n2 g.sc, .int .i64 g.p, .int .i64 g.q]), .agg #[.int .u64 (a : Nat), .int .u64 (b : Nat), .int .u64 (c : Nat), .int .u64 (d : Nat), .int .u64 (e : Nat)]] w fun r w' => r = .returned (.int .i64 (g.p * ((bitsOf (a ||| b ||| c ||| d ||| e) : Nat) : Int) + g.q * ((bitsOf a + bitsOf b + bitsOf c + bitsOf d + bitsOf e : Nat) : Int))) ∧ Below w.heap.size w w' := by
  have l : a ||| b ||| c ||| d ||| e < 2 ^ 60 := Nat.or_lt_two_pow (Nat.or_lt_two_pow (Nat.or_lt_two_pow (Nat.or_lt_two_pow ha hb) hc) hd) he
  have C1 := Lib.hid (fun w => counts_any a b c d e ha hb hc hd he w)
  have C2 := Lib.hid (fun w => stops_any a b c d e ha hb hc hd he w)
  have C3 := Lib.hid (fun w => count_any (a ||| b ||| c ||| d ||| e) (Nat.lt_trans l (by decide)) w)
  have b1 := bitsOf_le _ (Nat.lt_trans l (by decide))
  have b2 := bitsOf_le a (Nat.lt_trans ha (by decide))
  have b3 := bitsOf_le b (Nat.lt_trans hb (by decide))
  have b4 := bitsOf_le c (Nat.lt_trans hc (by decide))
  have b5 := bitsOf_le d (Nat.lt_trans hd (by decide))
  have b6 := bitsOf_le e (Nat.lt_trans he (by decide))
  obtain ⟨N, hN⟩ : ∃ N, N = bitsOf a + bitsOf b + bitsOf c + bitsOf d + bitsOf e := ⟨_, rfl⟩
  rw [← hN] at C1 ⊢
  have C4 := Lib.hid (fun w => priceOf_any g n0 n1 n2 hp hq (bitsOf (a ||| b ||| c ||| d ||| e)) N (by omega) (by omega) w)
  generalize a ||| b ||| c ||| d ||| e = M at *
  generalize bitsOf M = K at *
  clear l b1 b2 b3 b4 b5 b6 hN ha hb hc hd he hp hq
  go_enter Try.func42, Try.ntmps42
  go_wp2_with fail
  refine (C1.out _).mono ?_
  have B0 : Hid (Below w.heap.size w ((w.alloc (.cells #[.slice g.ca n0 g.cc, .slice g.ha n1 g.hc, .slice g.sa n2 g.sc, .int .i64 g.p, .int .i64 g.q] 33)).alloc (.cells #[.int .u64 (a : Nat), .int .u64 (b : Nat), .int .u64 (c : Nat), .int .u64 (d : Nat), .int .u64 (e : Nat)] 87))) := ((Below.refl _ _).alloc (Nat.le_refl _) _).alloc (by simp) _
  have NH := Lib.hid (box2_0 w (.cells #[.slice g.ca n0 g.cc, .slice g.ha n1 g.hc, .slice g.sa n2 g.sc, .int .i64 g.p, .int .i64 g.q] 33) (.cells #[.int .u64 (a : Nat), .int .u64 (b : Nat), .int .u64 (c : Nat), .int .u64 (d : Nat), .int .u64 (e : Nat)] 87))
  have NC := Lib.hid (box2_1 w (.cells #[.slice g.ca n0 g.cc, .slice g.ha n1 g.hc, .slice g.sa n2 g.sc, .int .i64 g.p, .int .i64 g.q] 33) (.cells #[.int .u64 (a : Nat), .int .u64 (b : Nat), .int .u64 (c : Nat), .int .u64 (d : Nat), .int .u64 (e : Nat)] 87))
  have y0 : w.heap.size + 2 ≤ ((w.alloc (.cells #[.slice g.ca n0 g.cc, .slice g.ha n1 g.hc, .slice g.sa n2 g.sc, .int .i64 g.p, .int .i64 g.q] 33)).alloc (.cells #[.int .u64 (a : Nat), .int .u64 (b : Nat), .int .u64 (c : Nat), .int .u64 (d : Nat), .int .u64 (e : Nat)] 87)).heap.size := by simp
  generalize (w.alloc (.cells #[.slice g.ca n0 g.cc, .slice g.ha n1 g.hc, .slice g.sa n2 g.sc, .int .i64 g.p, .int .i64 g.q] 33)).alloc (.cells #[.int .u64 (a : Nat), .int .u64 (b : Nat), .int .u64 (c : Nat), .int .u64 (d : Nat), .int .u64 (e : Nat)] 87) = w0 at *
  rintro r1 w1 ⟨⟨z, rfl⟩, b1⟩
  have NH1 := Lib.hid ((b1.block w.heap.size (by omega)).trans NH.out)
  have NC1 := Lib.hid ((b1.block (w.heap.size + 1) (by omega)).trans NC.out)
  have B1 : Hid (Below w.heap.size w w1) := B0.out.trans (b1.mono B0.out.size)
  have y1 : w.heap.size + 2 ≤ w1.heap.size := by have := b1.size; omega
  clear b1 B0 NH NC y0
  have KS : Hid (∀ w', Below w1.heap.size w1 w' → (w'.cell? ⟨w.heap.size, 0, none⟩ = some (.slice g.ca n0 g.cc) ∧ w'.cell? ⟨w.heap.size, 1, none⟩ = some (.slice g.ha n1 g.hc) ∧ w'.cell? ⟨w.heap.size, 2, none⟩ = some (.slice g.sa n2 g.sc) ∧ w'.cell? ⟨w.heap.size, 3, none⟩ = some (.int .i64 g.p) ∧ w'.cell? ⟨w.heap.size, 4, none⟩ = some (.int .i64 g.q) ∧ w'.cell? ⟨w.heap.size + 1, 0, none⟩ = some (.int .u64 (a : Nat)) ∧ w'.cell? ⟨w.heap.size + 1, 1, none⟩ = some (.int .u64 (b : Nat)) ∧ w'.cell? ⟨w.heap.size + 1, 2, none⟩ = some (.int .u64 (c : Nat)) ∧ w'.cell? ⟨w.heap.size + 1, 3, none⟩ = some (.int .u64 (d : Nat)) ∧ w'.cell? ⟨w.heap.size + 1, 4, none⟩ = some (.int .u64 (e : Nat)))) := by
    intro w' b
    obtain ⟨⟨p0, p1, p2, p3, p4⟩, -, -⟩ := boxedHd_at ((b.block w.heap.size (by omega)).trans NH1.out)
    have hh := (b.block (w.heap.size + 1) (by omega)).trans NC1.out
    have k0 := cell_of_row w' (w.heap.size + 1) 0 _ _ _ hh
    have k1 := cell_of_row w' (w.heap.size + 1) 1 _ _ _ hh
    have k2 := cell_of_row w' (w.heap.size + 1) 2 _ _ _ hh
    have k3 := cell_of_row w' (w.heap.size + 1) 3 _ _ _ hh
    have k4 := cell_of_row w' (w.heap.size + 1) 4 _ _ _ hh
    exact ⟨p0, p1, p2, p3, p4, by simpa using k0, by simpa using k1, by simpa using k2, by simpa using k3, by simpa using k4⟩
  go_wp2_with fail
  go_region_held3 (fun w' => (w'.cell? ⟨w.heap.size, 0, none⟩ = some (.slice g.ca n0 g.cc) ∧ w'.cell? ⟨w.heap.size, 1, none⟩ = some (.slice g.ha n1 g.hc) ∧ w'.cell? ⟨w.heap.size, 2, none⟩ = some (.slice g.sa n2 g.sc) ∧ w'.cell? ⟨w.heap.size, 3, none⟩ = some (.int .i64 g.p) ∧ w'.cell? ⟨w.heap.size, 4, none⟩ = some (.int .i64 g.q) ∧ w'.cell? ⟨w.heap.size + 1, 0, none⟩ = some (.int .u64 (a : Nat)) ∧ w'.cell? ⟨w.heap.size + 1, 1, none⟩ = some (.int .u64 (b : Nat)) ∧ w'.cell? ⟨w.heap.size + 1, 2, none⟩ = some (.int .u64 (c : Nat)) ∧ w'.cell? ⟨w.heap.size + 1, 3, none⟩ = some (.int .u64 (d : Nat)) ∧ w'.cell? ⟨w.heap.size + 1, 4, none⟩ = some (.int .u64 (e : Nat))))
    (first | exact KS.out _ D2.out | exact KS.out _ D1.out | exact KS.out _ (Below.refl _ _).drew)
    (first
      | (go_at_call 79; refine (C2.out _).mono ?_; rintro e2 w2 ⟨rfl, b2⟩; have D1 : Hid (Below w1.heap.size w1 w2) := (Below.refl _ _).drew.trans b2; have s1 := b2.size)
      | (go_at_call 80; refine (C3.out _).mono ?_; rintro e3 w3 ⟨rfl, rfl⟩)
      | (go_at_call 78; refine (C4.out _).mono ?_; rintro e4 w4 ⟨rfl, b4⟩; have D2 : Hid (Below w1.heap.size w1 w4) := D1.out.trans (b4.mono D1.out.size)))
  all_goals
    rename_i hHeld
    have B2 : Hid (Below w.heap.size w w4) := B1.out.trans (D2.out.mono B1.out.size)
    clear hHeld KS C1 C2 C3 C4
    try go_wp2
    go_ret
    exact ⟨rfl, B2.out⟩
end Go.Proofs.Ytmdddjhlfpmgdac
