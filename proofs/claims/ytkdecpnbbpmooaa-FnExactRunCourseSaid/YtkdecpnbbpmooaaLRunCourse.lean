/- The law of RunCourse. -/
import Derived.Test.YtkdecpnbbpmooaaSteerR2
import Derived.Test.YtkdecpnbbpmooaaExKit
import Derived.Deep.RegionHeld3
namespace Go.Proofs.Ytkdecpnbbpmooaa
open Go.ChangeShapes Go.WideShapes Go.ChangeAt Go.RowKit
set_option linter.unusedVariables false
set_option linter.unusedSimpArgs false

set_option maxRecDepth 100000 in
set_option maxHeartbeats 8000000 in
theorem runCourse_law (q0 : Lm) (q1 : Co) (s2 : Option Addr) (p2 : Nat) (xs2 : List Int) (w : World) (T : World → Prop) (hT : ∀ w', Below w.heap.size w w' → T w') (hc2 : RdI w (.slice s2 xs2.length p2) xs2) (lz : xs2.length ≤ 1048576) (ys0 : List Co) (r1 : Bool) (ly0 : ys0.length ≤ 1048576)
    (c1 : Hid (∀ (w : World) (v2 : Value), T w → RdI w v2 xs2 → Calls Try.prog 26 #[(.agg #[.int .i64 q0.m, .int .i64 q0.c]), (.agg #[.int .i64 q1.o, .int .i64 q1.h, .int .i64 q1.t]), v2] w fun e w' => ∃ u0, e = .returned (.tuple #[u0, .bool r1]) ∧ OwnS 31 3 encCo w' w.heap.size u0 ys0 ∧ Below w.heap.size w w'))
    (c2 : Hid (∀ (w : World) (v2 : Value), T w → RdI w v2 xs2 → Calls Try.prog 28 #[(.agg #[.int .i64 q0.m, .int .i64 q0.c]), (.agg #[.int .i64 q1.o, .int .i64 q1.h, .int .i64 q1.t]), v2] w fun e w' => ∃ u0, e = .returned (.tuple #[u0, .bool r1]) ∧ OwnS 31 3 encCo w' w.heap.size u0 ys0 ∧ Below w.heap.size w w')) :
    Calls Try.prog 7 #[(.agg #[.int .i64 q0.m, .int .i64 q0.c]), (.agg #[.int .i64 q1.o, .int .i64 q1.h, .int .i64 q1.t]), .slice s2 xs2.length p2] w fun e w' => e = .returned (.bool true) ∧ Below w.heap.size w w' := by
  have HT := Lib.hid hT
  have H2 := Lib.hid hc2
  have LZ := Lib.hid lz
  have LY0 := Lib.hid ly0
  have g2 : ¬ ((1048576 : Int) < xs2.length) := by omega
  clear hT hc2 lz ly0
  go_enter Try.func7, Try.ntmps7
  have KS1 : Hid (∀ w', Below (w.heap.size + 2) ((w.alloc (.cells #[.int .i64 q0.m, .int .i64 q0.c] 23)).alloc (.cells #[.int .i64 q1.o, .int .i64 q1.h, .int .i64 q1.t] 29)) w' → (w'.cell? ⟨w.heap.size, 0, none⟩ = some (.int .i64 q0.m) ∧ w'.cell? ⟨w.heap.size, 1, none⟩ = some (.int .i64 q0.c) ∧ w'.cell? ⟨w.heap.size + 1, 0, none⟩ = some (.int .i64 q1.o) ∧ w'.cell? ⟨w.heap.size + 1, 1, none⟩ = some (.int .i64 q1.h) ∧ w'.cell? ⟨w.heap.size + 1, 2, none⟩ = some (.int .i64 q1.t))) := by
    intro w' b
    obtain ⟨⟨k0_0, k0_1⟩, -⟩ := boxLm_at ((b.block (w.heap.size) (by omega)).trans (box2_0 w _ _))
    obtain ⟨⟨k1_0, k1_1, k1_2⟩, -⟩ := boxCo_at ((b.block (w.heap.size + 1) (by omega)).trans (box2_1 w _ _))
    exact ⟨k0_0, k0_1, k1_0, k1_1, k1_2⟩
  go_wp2_with fail
  go_region_held3 (fun w' => (w'.cell? ⟨w.heap.size, 0, none⟩ = some (.int .i64 q0.m) ∧ w'.cell? ⟨w.heap.size, 1, none⟩ = some (.int .i64 q0.c) ∧ w'.cell? ⟨w.heap.size + 1, 0, none⟩ = some (.int .i64 q1.o) ∧ w'.cell? ⟨w.heap.size + 1, 1, none⟩ = some (.int .i64 q1.h) ∧ w'.cell? ⟨w.heap.size + 1, 2, none⟩ = some (.int .i64 q1.t)))
    (first | exact KS1.out _ D5.out | exact KS1.out _ D4.out | exact KS1.out _ D3.out | exact KS1.out _ D2.out | exact KS1.out _ (Below.refl _ _).drew)
    (first
      | (go_at_call 26; refine (c1.out _ _ (HT.out _ (Below.trans (by go_grown) (D4.out.mono (by omega)))) ((o4).rd)).mono ?_; rintro e w5 ⟨vw0, rfl, ow0, b5⟩; have D5 : Hid (Below (w.heap.size + 2) ((w.alloc (.cells #[.int .i64 q0.m, .int .i64 q0.c] 23)).alloc (.cells #[.int .i64 q1.o, .int .i64 q1.h, .int .i64 q1.t] 29)) w5) := D4.out.trans (b5.mono (by have e := D4.out.size; first | exact e | (simp only [World.size_alloc] at e; exact e))))
      | (go_at_call 27; refine (toInts_any _ xs2 _ (H2.out.later (Below.trans (by go_grown) (D3.out.mono (by omega)))) (by have := LZ.out; omega)).mono ?_; rintro e w4 ⟨vwa2, rfl, o4, b4⟩; have D4 : Hid (Below (w.heap.size + 2) ((w.alloc (.cells #[.int .i64 q0.m, .int .i64 q0.c] 23)).alloc (.cells #[.int .i64 q1.o, .int .i64 q1.h, .int .i64 q1.t] 29)) w4) := D3.out.trans (b4.mono (by have e := D3.out.size; first | exact e | (simp only [World.size_alloc] at e; exact e))))
      | (go_at_call 16; (first | with_reducible refine (toCourse_blw q1 _).mono ?_); rintro e w3 ⟨rfl, b3⟩; have D3 : Hid (Below (w.heap.size + 2) ((w.alloc (.cells #[.int .i64 q0.m, .int .i64 q0.c] 23)).alloc (.cells #[.int .i64 q1.o, .int .i64 q1.h, .int .i64 q1.t] 29)) w3) := D2.out.trans (b3.mono (by have e := D2.out.size; first | exact e | (simp only [World.size_alloc] at e; exact e))))
      | (go_at_call 13; (first | with_reducible refine (toLimits_blw q0 _).mono ?_); rintro e w2 ⟨rfl, b2⟩; have D2 : Hid (Below (w.heap.size + 2) ((w.alloc (.cells #[.int .i64 q0.m, .int .i64 q0.c] 23)).alloc (.cells #[.int .i64 q1.o, .int .i64 q1.h, .int .i64 q1.t] 29)) w2) := (Below.refl _ _).drew.trans (b2.mono (by simp))))
  have zz5 := D4.out.size
  have bb5 : Below (w.heap.size + 2) ((w.alloc (.cells #[.int .i64 q0.m, .int .i64 q0.c] 23)).alloc (.cells #[.int .i64 q1.o, .int .i64 q1.h, .int .i64 q1.t] 29)) w5 := D5.out
  have dd5 := D5.out
  clear o4
  have OOw0 := Lib.hid (ow0.mono (show (w.heap.size + 2) ≤ w4.heap.size by have e := D4.out.size; first | exact e | (simp only [World.size_alloc] at e; exact e)))
  clear KS1 zz5 D2 D3 D4 D5 ow0
  clear bb5
  have y5 : w.heap.size + 2 ≤ w5.heap.size := by have e := dd5.size; simp only [World.size_alloc] at e; omega
  have E5 : Hid (Below w.heap.size w w5) := Below.trans (by go_grown) (dd5.mono (by omega))
  have N0_5 := Lib.hid ((dd5.block (w.heap.size) (by omega)).trans (box2_0 w _ _))
  have N1_5 := Lib.hid ((dd5.block (w.heap.size + 1) (by omega)).trans (box2_1 w _ _))
  clear dd5
  have Ow0_5 := Lib.hid OOw0.out
  have LRw0 := Lib.hid Ow0_5.out.lt
  clear OOw0
  go_wp2_with fail
  refine (toInts_any _ xs2 _ (H2.out.later E5.out) (by have := LZ.out; omega)).mono ?_
  rintro e w6 ⟨vx2, rfl, o6, b6⟩
  have z6 : w5.heap.size ≤ w6.heap.size := b6.size
  have y6 : w.heap.size + 2 ≤ w6.heap.size := by omega
  have E6 : Hid (Below w.heap.size w w6) := E5.out.trans (b6.mono (by omega))
  have N0_6 := Lib.hid ((b6.block (w.heap.size) (by omega)).trans N0_5.out)
  have N1_6 := Lib.hid ((b6.block (w.heap.size + 1) (by omega)).trans N1_5.out)
  have Ow0_6 := Lib.hid (Ow0_5.out.later b6)
  clear b6 E5 N0_5 N1_5 Ow0_5
  have Ox2_6 := Lib.hid o6
  have LRx2 := Lib.hid Ox2_6.out.lt
  clear o6
  have KS7 : Hid (∀ w', Below w6.heap.size w6 w' → (w'.cell? ⟨w.heap.size, 0, none⟩ = some (.int .i64 q0.m) ∧ w'.cell? ⟨w.heap.size, 1, none⟩ = some (.int .i64 q0.c) ∧ w'.cell? ⟨w.heap.size + 1, 0, none⟩ = some (.int .i64 q1.o) ∧ w'.cell? ⟨w.heap.size + 1, 1, none⟩ = some (.int .i64 q1.h) ∧ w'.cell? ⟨w.heap.size + 1, 2, none⟩ = some (.int .i64 q1.t))) := by
    intro w' b
    obtain ⟨⟨k0_0, k0_1⟩, -⟩ := boxLm_at ((b.block (w.heap.size) (by omega)).trans (N0_6.out))
    obtain ⟨⟨k1_0, k1_1, k1_2⟩, -⟩ := boxCo_at ((b.block (w.heap.size + 1) (by omega)).trans (N1_6.out))
    exact ⟨k0_0, k0_1, k1_0, k1_1, k1_2⟩
  go_wp2_with fail
  go_region_held3 (fun w' => (w'.cell? ⟨w.heap.size, 0, none⟩ = some (.int .i64 q0.m) ∧ w'.cell? ⟨w.heap.size, 1, none⟩ = some (.int .i64 q0.c) ∧ w'.cell? ⟨w.heap.size + 1, 0, none⟩ = some (.int .i64 q1.o) ∧ w'.cell? ⟨w.heap.size + 1, 1, none⟩ = some (.int .i64 q1.h) ∧ w'.cell? ⟨w.heap.size + 1, 2, none⟩ = some (.int .i64 q1.t)))
    (first | exact KS7.out _ D10.out | exact KS7.out _ D9.out | exact KS7.out _ D8.out | exact KS7.out _ (Below.refl _ _).drew)
    (first
      | (go_at_call 28; refine (c2.out _ _ (HT.out _ (E6.out.trans (D9.out.mono (by omega)))) ((Ox2_6.out.later D9.out).rd)).mono ?_; rintro e w10 ⟨vg0, rfl, og0, b10⟩; have D10 : Hid (Below w6.heap.size w6 w10) := D9.out.trans (b10.mono (by have e := D9.out.size; first | exact e | (simp only [World.size_alloc] at e; exact e))))
      | (go_at_call 16; (first | with_reducible refine (toCourse_blw q1 _).mono ?_); rintro e w9 ⟨rfl, b9⟩; have D9 : Hid (Below w6.heap.size w6 w9) := D8.out.trans (b9.mono (by have e := D8.out.size; first | exact e | (simp only [World.size_alloc] at e; exact e))))
      | (go_at_call 13; (first | with_reducible refine (toLimits_blw q0 _).mono ?_); rintro e w8 ⟨rfl, b8⟩; have D8 : Hid (Below w6.heap.size w6 w8) := (Below.refl _ _).drew.trans (b8.mono (by simp))))
  have zz10 := D9.out.size
  have dd10 := D10.out
  have OOg0 := Lib.hid (og0.mono (show w6.heap.size ≤ w9.heap.size by have e := D9.out.size; first | exact e | (simp only [World.size_alloc] at e; exact e)))
  clear KS7 zz10 D8 D9 D10 og0
  have z10 : w6.heap.size ≤ w10.heap.size := dd10.size
  have y10 : w.heap.size + 2 ≤ w10.heap.size := by omega
  have E10 : Hid (Below w.heap.size w w10) := E6.out.trans (dd10.mono (by omega))
  have N0_10 := Lib.hid ((dd10.block (w.heap.size) (by omega)).trans N0_6.out)
  have N1_10 := Lib.hid ((dd10.block (w.heap.size + 1) (by omega)).trans N1_6.out)
  have Ow0_10 := Lib.hid (Ow0_6.out.later dd10)
  have Ox2_10 := Lib.hid (Ox2_6.out.later dd10)
  clear dd10 E6 N0_6 N1_6 Ow0_6 Ox2_6
  have Og0_10 := Lib.hid OOg0.out
  have LRg0 := Lib.hid Og0_10.out.lt
  clear OOg0
  go_wp2_with fail
  refine (eqCourseS_same _ _ ys0 _ ((Og0_10.out).rd encCo_len) ((Ow0_10.out).rd encCo_len) (by have := LY0.out; omega)).mono ?_
  rintro e w11 ⟨rfl, b11⟩
  have z11 : w10.heap.size ≤ w11.heap.size := b11.size
  have y11 : w.heap.size + 2 ≤ w11.heap.size := by omega
  have E11 : Hid (Below w.heap.size w w11) := E10.out.trans (b11.mono (by omega))
  have N0_11 := Lib.hid ((b11.block (w.heap.size) (by omega)).trans N0_10.out)
  have N1_11 := Lib.hid ((b11.block (w.heap.size + 1) (by omega)).trans N1_10.out)
  have Ow0_11 := Lib.hid (Ow0_10.out.later b11)
  have Ox2_11 := Lib.hid (Ox2_10.out.later b11)
  have Og0_11 := Lib.hid (Og0_10.out.later b11)
  clear b11 E10 N0_10 N1_10 Ow0_10 Ox2_10 Og0_10
  go_wp2_with fail
  refine (toInts_any _ xs2 _ (H2.out.later E11.out) (by have := LZ.out; omega)).mono ?_
  rintro e w12 ⟨vt2, rfl, o12, b12⟩
  have z12 : w11.heap.size ≤ w12.heap.size := b12.size
  have y12 : w.heap.size + 2 ≤ w12.heap.size := by omega
  have E12 : Hid (Below w.heap.size w w12) := E11.out.trans (b12.mono (by omega))
  have N0_12 := Lib.hid ((b12.block (w.heap.size) (by omega)).trans N0_11.out)
  have N1_12 := Lib.hid ((b12.block (w.heap.size + 1) (by omega)).trans N1_11.out)
  have Ow0_12 := Lib.hid (Ow0_11.out.later b12)
  have Ox2_12 := Lib.hid (Ox2_11.out.later b12)
  have Og0_12 := Lib.hid (Og0_11.out.later b12)
  clear b12 E11 N0_11 N1_11 Ow0_11 Ox2_11 Og0_11
  have Ot2_12 := Lib.hid o12
  have LRt2 := Lib.hid Ot2_12.out.lt
  clear o12
  go_wp2_with fail
  refine (eqInt64S_same _ _ xs2 _ ((Ox2_12.out).rd) ((Ot2_12.out).rd) (by have := LZ.out; omega)).mono ?_
  rintro e w13 ⟨rfl, b13⟩
  have z13 : w12.heap.size ≤ w13.heap.size := b13.size
  have y13 : w.heap.size + 2 ≤ w13.heap.size := by omega
  have E13 : Hid (Below w.heap.size w w13) := E12.out.trans (b13.mono (by omega))
  have N0_13 := Lib.hid ((b13.block (w.heap.size) (by omega)).trans N0_12.out)
  have N1_13 := Lib.hid ((b13.block (w.heap.size + 1) (by omega)).trans N1_12.out)
  have Ow0_13 := Lib.hid (Ow0_12.out.later b13)
  have Ox2_13 := Lib.hid (Ox2_12.out.later b13)
  have Og0_13 := Lib.hid (Og0_12.out.later b13)
  have Ot2_13 := Lib.hid (Ot2_12.out.later b13)
  clear b13 E12 N0_12 N1_12 Ow0_12 Ox2_12 Og0_12 Ot2_12
  clear Ot2_13 LRt2
  go_wp2_with fail
  refine (markInts_any _ xs2 _ _ Ox2_13.out (by have := LZ.out; omega) (1) (by omega) (by have := LZ.out; omega)).mono ?_
  rintro e w14 ⟨rfl, o14, g14_⟩
  have z14 : w13.heap.size ≤ w14.heap.size := g14_.size
  have y14 : w.heap.size + 2 ≤ w14.heap.size := by omega
  have E14 : Hid (Below w.heap.size w w14) := E13.out.grown g14_ (by omega) (fun c h => by have := LRx2.out c h; omega)
  have N0_14 := Lib.hid ((g14_.block (w.heap.size) (by omega) (fun h => by have := LRx2.out _ h.symm; omega)).trans N0_13.out)
  have N1_14 := Lib.hid ((g14_.block (w.heap.size + 1) (by omega) (fun h => by have := LRx2.out _ h.symm; omega)).trans N1_13.out)
  have Ow0_14 := Lib.hid (Ow0_13.out.kept g14_ (own_far _ _ (fun c h1 h2 => by have e1 := LRw0.out c h1; have e2 := LRx2.out c h2; omega)))
  have Og0_14 := Lib.hid (Og0_13.out.kept g14_ (own_far _ _ (fun c h1 h2 => by have e1 := LRg0.out c h1; have e2 := LRx2.out c h2; omega)))
  clear g14_ E13 N0_13 N1_13 Ow0_13 Ox2_13 Og0_13
  have Ox2_14 := Lib.hid o14
  clear o14
  clear Ox2_14 LRx2
  have kneg : ¬ (1 + (xs2.length : Int) < 0) := by omega
  go_wp2_with fail
  refine (eqCourseS_same _ _ ys0 _ ((Og0_14.out).rd encCo_len) ((Ow0_14.out).rd encCo_len) (by have := LY0.out; omega)).mono ?_
  rintro e w15 ⟨rfl, b15⟩
  have z15 : w14.heap.size ≤ w15.heap.size := b15.size
  have y15 : w.heap.size + 2 ≤ w15.heap.size := by omega
  have E15 : Hid (Below w.heap.size w w15) := E14.out.trans (b15.mono (by omega))
  have N0_15 := Lib.hid ((b15.block (w.heap.size) (by omega)).trans N0_14.out)
  have N1_15 := Lib.hid ((b15.block (w.heap.size + 1) (by omega)).trans N1_14.out)
  have Ow0_15 := Lib.hid (Ow0_14.out.later b15)
  have Og0_15 := Lib.hid (Og0_14.out.later b15)
  clear b15 E14 N0_14 N1_14 Ow0_14 Og0_14
  clear kneg
  go_wp2_with fail
  refine (markCourseS_any _ ys0 _ _ Og0_15.out (by have := LY0.out; omega) (1) (by omega) (by have := LY0.out; omega)).mono ?_
  rintro e w16 ⟨rfl, o16, g16_⟩
  have z16 : w15.heap.size ≤ w16.heap.size := g16_.size
  have y16 : w.heap.size + 2 ≤ w16.heap.size := by omega
  have E16 : Hid (Below w.heap.size w w16) := E15.out.grown g16_ (by omega) (fun c h => by have := LRg0.out c h; omega)
  have N0_16 := Lib.hid ((g16_.block (w.heap.size) (by omega) (fun h => by have := LRg0.out _ h.symm; omega)).trans N0_15.out)
  have N1_16 := Lib.hid ((g16_.block (w.heap.size + 1) (by omega) (fun h => by have := LRg0.out _ h.symm; omega)).trans N1_15.out)
  have Ow0_16 := Lib.hid (Ow0_15.out.kept g16_ (own_far _ _ (fun c h1 h2 => by have e1 := LRw0.out c h1; have e2 := LRg0.out c h2; omega)))
  clear g16_ E15 N0_15 N1_15 Ow0_15 Og0_15
  have Og0_16 := Lib.hid o16
  clear o16
  have mneg149 : ¬ (1 + 3 * (ys0.length : Int) < 0) := by omega
  go_wp2_with fail
  refine (heldCourseS_any _ ys0.length (1) _ ((Og0_16.out).rd encCo_len) (by have := LY0.out; omega) (by omega) (by have := LY0.out; omega)).mono ?_
  rintro e w' ⟨rfl, rfl⟩
  have KS17 : Hid (∀ w', Below w16.heap.size w16 w' → (w'.cell? ⟨w.heap.size, 0, none⟩ = some (.int .i64 q0.m) ∧ w'.cell? ⟨w.heap.size, 1, none⟩ = some (.int .i64 q0.c) ∧ w'.cell? ⟨w.heap.size + 1, 0, none⟩ = some (.int .i64 q1.o) ∧ w'.cell? ⟨w.heap.size + 1, 1, none⟩ = some (.int .i64 q1.h) ∧ w'.cell? ⟨w.heap.size + 1, 2, none⟩ = some (.int .i64 q1.t))) := by
    intro w' b
    obtain ⟨⟨k0_0, k0_1⟩, -⟩ := boxLm_at ((b.block (w.heap.size) (by omega)).trans (N0_16.out))
    obtain ⟨⟨k1_0, k1_1, k1_2⟩, -⟩ := boxCo_at ((b.block (w.heap.size + 1) (by omega)).trans (N1_16.out))
    exact ⟨k0_0, k0_1, k1_0, k1_1, k1_2⟩
  go_wp2_with fail
  go_region_held3 (fun w' => (w'.cell? ⟨w.heap.size, 0, none⟩ = some (.int .i64 q0.m) ∧ w'.cell? ⟨w.heap.size, 1, none⟩ = some (.int .i64 q0.c) ∧ w'.cell? ⟨w.heap.size + 1, 0, none⟩ = some (.int .i64 q1.o) ∧ w'.cell? ⟨w.heap.size + 1, 1, none⟩ = some (.int .i64 q1.h) ∧ w'.cell? ⟨w.heap.size + 1, 2, none⟩ = some (.int .i64 q1.t)))
    (first | exact KS17.out _ D21.out | exact KS17.out _ D20.out | exact KS17.out _ D19.out | exact KS17.out _ D18.out | exact KS17.out _ (Below.refl _ _).drew)
    (first
      | (go_at_call 28; refine (c2.out _ _ (HT.out _ (E16.out.trans (D20.out.mono (by omega)))) ((o20).rd)).mono ?_; rintro e w21 ⟨vh0, rfl, oh0, b21⟩; have D21 : Hid (Below w16.heap.size w16 w21) := D20.out.trans (b21.mono (by have e := D20.out.size; first | exact e | (simp only [World.size_alloc] at e; exact e))))
      | (go_at_call 27; refine (toInts_any _ xs2 _ (H2.out.later (E16.out.trans (D19.out.mono (by omega)))) (by have := LZ.out; omega)).mono ?_; rintro e w20 ⟨vha2, rfl, o20, b20⟩; have D20 : Hid (Below w16.heap.size w16 w20) := D19.out.trans (b20.mono (by have e := D19.out.size; first | exact e | (simp only [World.size_alloc] at e; exact e))))
      | (go_at_call 16; (first | with_reducible refine (toCourse_blw q1 _).mono ?_); rintro e w19 ⟨rfl, b19⟩; have D19 : Hid (Below w16.heap.size w16 w19) := D18.out.trans (b19.mono (by have e := D18.out.size; first | exact e | (simp only [World.size_alloc] at e; exact e))))
      | (go_at_call 13; (first | with_reducible refine (toLimits_blw q0 _).mono ?_); rintro e w18 ⟨rfl, b18⟩; have D18 : Hid (Below w16.heap.size w16 w18) := (Below.refl _ _).drew.trans (b18.mono (by simp))))
  have zz21 := D20.out.size
  have dd21 := D21.out
  clear o20
  have OOh0 := Lib.hid (oh0.mono (show w16.heap.size ≤ w20.heap.size by have e := D20.out.size; first | exact e | (simp only [World.size_alloc] at e; exact e)))
  clear KS17 zz21 D18 D19 D20 D21 oh0
  have z21 : w16.heap.size ≤ w21.heap.size := dd21.size
  have y21 : w.heap.size + 2 ≤ w21.heap.size := by omega
  have E21 : Hid (Below w.heap.size w w21) := E16.out.trans (dd21.mono (by omega))
  have N0_21 := Lib.hid ((dd21.block (w.heap.size) (by omega)).trans N0_16.out)
  have N1_21 := Lib.hid ((dd21.block (w.heap.size + 1) (by omega)).trans N1_16.out)
  have Ow0_21 := Lib.hid (Ow0_16.out.later dd21)
  have Og0_21 := Lib.hid (Og0_16.out.later dd21)
  clear dd21 E16 N0_16 N1_16 Ow0_16 Og0_16
  have Oh0_21 := Lib.hid OOh0.out
  have LRh0 := Lib.hid Oh0_21.out.lt
  clear OOh0
  go_wp2_with fail
  refine (eqCourseS_same _ _ ys0 _ ((Oh0_21.out).rd encCo_len) ((Ow0_21.out).rd encCo_len) (by have := LY0.out; omega)).mono ?_
  rintro e w22 ⟨rfl, b22⟩
  have z22 : w21.heap.size ≤ w22.heap.size := b22.size
  have y22 : w.heap.size + 2 ≤ w22.heap.size := by omega
  have E22 : Hid (Below w.heap.size w w22) := E21.out.trans (b22.mono (by omega))
  have N0_22 := Lib.hid ((b22.block (w.heap.size) (by omega)).trans N0_21.out)
  have N1_22 := Lib.hid ((b22.block (w.heap.size + 1) (by omega)).trans N1_21.out)
  have Ow0_22 := Lib.hid (Ow0_21.out.later b22)
  have Og0_22 := Lib.hid (Og0_21.out.later b22)
  have Oh0_22 := Lib.hid (Oh0_21.out.later b22)
  clear b22 E21 N0_21 N1_21 Ow0_21 Og0_21 Oh0_21
  go_wp2_with fail
  refine (heldCourseS_any _ ys0.length (1) _ ((Og0_22.out).rd encCo_len) (by have := LY0.out; omega) (by omega) (by have := LY0.out; omega)).mono ?_
  rintro e w' ⟨rfl, rfl⟩
  go_wp2
  go_ret
  exact ⟨rfl, E22.out⟩

set_option maxRecDepth 100000 in
theorem walkFnExactRunCourse (w : World) (q0 : Lm) (wq0 : (Lit.int .i64 q0.m).wf = true ∧ (Lit.int .i64 q0.c).wf = true) (q1 : Co) (wq1 : (Lit.int .i64 q1.o).wf = true ∧ (Lit.int .i64 q1.h).wf = true ∧ (Lit.int .i64 q1.t).wf = true) (s2 : Option Addr) (len2 p2 : Nat) (z2 : List Int) (w2 : IsRow .i64 w s2 len2 p2 z2) :
    Calls Try.prog 7 #[(.agg #[.int .i64 q0.m, .int .i64 q0.c]), (.agg #[.int .i64 q1.o, .int .i64 q1.h, .int .i64 q1.t]), .slice s2 len2 p2] w fun e w' => e = .returned (.bool true) ∧ Below w.heap.size w w' := by
  have m2 := w2.len_le
  obtain ⟨hc2, hz2⟩ := w2.rd
  obtain ⟨xs2, hxs2⟩ : ∃ xs, xs = z2.take len2 := ⟨_, rfl⟩
  rw [← hxs2] at hc2 hz2
  clear hxs2 w2
  subst hz2
  by_cases lz : xs2.length ≤ 1048576
  · obtain ⟨ys0, r1, ly0, c1, c2⟩ := exRunCourse q0 q1 xs2 lz
    exact runCourse_law q0 q1 s2 p2 xs2 w (fun _ => True) (fun _ _ => trivial) hc2 lz ys0 r1 ly0 c1 c2
  · have hl' : (1048576 : Int) < xs2.length := by omega
    clear lz hc2
    go_enter Try.func7, Try.ntmps7
    go_wp2
    go_ret
    exact ⟨rfl, by go_grown⟩
end Go.Proofs.Ytkdecpnbbpmooaa
