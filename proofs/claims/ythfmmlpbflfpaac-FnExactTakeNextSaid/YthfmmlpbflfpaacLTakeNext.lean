/- The law of TakeNext. -/
import Derived.Test.YthfmmlpbflfpaacTakeY
import Derived.Test.YthfmmlpbflfpaacYardA
import Derived.Test.YthfmmlpbflfpaacOpenYd
import Derived.Deep.RegionHeld3
namespace Go.Proofs.Ythfmmlpbflfpaac
open Go.ChangeShapes Go.WideShapes Go.ChangeAt Go.RowKit
set_option linter.unusedVariables false
set_option linter.unusedSimpArgs false

set_option maxRecDepth 100000 in
set_option maxHeartbeats 16000000 in
theorem takeNext_law (g0 : Yd) (n0 : Nat) (w : World) (h0 : RdYd w n0 g0) (lt : ((n0 + sumT g0.x : Nat) : Int) ≤ 1048576) (y0 : Yd) (nr0 : Nat) (r1 : Bool) (ly0 : nr0 = y0.x.length ∧ nr0 + sumT y0.x ≤ 1048576)
    (c1 : Hid (∀ (w : World) (k0 : Yd), k0.same g0 → k0.caps n0 → RdYd w n0 k0 → Calls Try.prog 5 #[(.agg #[.int .i64 k0.h, .slice k0.xa n0 k0.xc])] w fun e w' => ∃ u0 : Yd, e = .returned (.tuple #[(.agg #[.int .i64 u0.h, .slice u0.xa nr0 u0.xc]), .bool r1]) ∧ u0.same y0 ∧ OwnYd w' w.heap.size w'.heap.size nr0 u0 ∧ Below w.heap.size w w'))
    (c2 : Hid (∀ (w : World) (k0 : Yd), k0.same g0 → k0.caps n0 → RdYd w n0 k0 → Calls Try.prog 7 #[(.agg #[.int .i64 k0.h, .slice k0.xa n0 k0.xc])] w fun e w' => ∃ u0 : Yd, e = .returned (.tuple #[(.agg #[.int .i64 u0.h, .slice u0.xa nr0 u0.xc]), .bool r1]) ∧ u0.same y0 ∧ OwnYd w' w.heap.size w'.heap.size nr0 u0 ∧ Below w.heap.size w w')) :
    Calls Try.prog 3 #[(.agg #[.int .i64 g0.h, .slice g0.xa n0 g0.xc])] w fun e w' => e = .returned (.bool true) ∧ Below w.heap.size w w' := by
  have H0 := Lib.hid h0
  have e0 := h0.len
  have LY0 := Lib.hid ly0
  have T0 := Lib.hid (fun w h => toYard_any g0 n0 w h (by omega))
  have Q0 := Lib.hid (fun w (x y : Yd) (hx : RdYd w n0 x) (hy : RdYd w n0 y) hs (hg : x.same g0) => eqYard_same x y n0 w hx hy hs (by have := hg.sum; omega))
  have M0 := Lib.hid (fun w (x : Yd) B C (h : OwnYd w B C n0 x) (hg : x.same g0) => markYard_any x n0 w B C h (by have := hg.sum; omega) 1 (by omega) (by omega))
  have S0 := Lib.hid (fun w h => szYard_any g0 n0 1048576 (by omega) (by omega) w h (by unfold maxLen; omega) (fun x hx => by have := sumT_mem hx; unfold maxLen; omega) (1048576 - ((n0 + sumT g0.x : Nat) : Int)) (by rw [e0, if_pos (by rw [← e0]; omega)]))
  have f0 : ¬ (1048576 - ((n0 + sumT g0.x : Nat) : Int) < 0) := by omega
  have ln : n0 + sumT g0.x ≤ 1048576 := by omega
  clear h0  lt ly0   e0
  go_enter Try.func3, Try.ntmps3
  go_wp2_with fail
  generalize hx : w.alloc (.cells #[.int .i64 g0.h, .slice g0.xa n0 g0.xc] 24) = w0
  have E_0 : Hid (Below w.heap.size w w0) := by rw [← hx]; show Below _ _ _; go_grown
  have y0_ : w.heap.size + 1 ≤ w0.heap.size := by rw [← hx]; simp
  have N_0 : Hid (w0.heap[w.heap.size]? = some (.cells #[.int .i64 g0.h, .slice g0.xa n0 g0.xc] 24 (0, 0))) := by rw [← hx]; exact heap_alloc_new w _
  clear hx
  refine (S0.out _ (H0.out.later E_0.out)).mono ?_
  rintro e w1 ⟨rfl, b1⟩
  have z1 : w0.heap.size ≤ w1.heap.size := b1.size
  have y1_ : w.heap.size + 1 ≤ w1.heap.size := by omega
  have E_1 : Hid (Below w.heap.size w w1) := E_0.out.trans (b1.mono (by omega))
  have N_1 := Lib.hid ((b1.block w.heap.size (by omega)).trans N_0.out)
  clear E_0 N_0   b1
  obtain ⟨⟨ka0, ka1⟩, -, -⟩ := boxedYd_at N_1.out
  go_wp2_with fail
  clear ka0 ka1
  refine (T0.out _ (H0.out.later E_1.out)).mono ?_
  rintro e w2 ⟨ka0, rfl, sma0, o2, b2⟩
  have SMa0 := Lib.hid sma0
  clear sma0
  have z2 : w1.heap.size ≤ w2.heap.size := b2.size
  have y2_ : w.heap.size + 1 ≤ w2.heap.size := by omega
  have E_2 : Hid (Below w.heap.size w w2) := E_1.out.trans (b2.mono (by omega))
  have N_2 := Lib.hid ((b2.block w.heap.size (by omega)).trans N_1.out)
  clear E_1 N_1   b2
  have Oa0_2 := Lib.hid o2
  clear o2
  obtain ⟨⟨ka0, ka1⟩, -, -⟩ := boxedYd_at N_2.out
  go_wp2_with fail
  clear ka0 ka1
  refine (c1.out _ ka0 SMa0.out Oa0_2.out.caps Oa0_2.out.rd).mono ?_
  rintro e w3 ⟨kw0, rfl, srw0, orw0, b3⟩
  have SRw0 := Lib.hid srw0
  clear srw0
  have z3 : w2.heap.size ≤ w3.heap.size := b3.size
  have y3_ : w.heap.size + 1 ≤ w3.heap.size := by omega
  have E_3 : Hid (Below w.heap.size w w3) := E_2.out.trans (b3.mono (by omega))
  have N_3 := Lib.hid ((b3.block w.heap.size (by omega)).trans N_2.out)
  have Oa0_3 := Lib.hid (Oa0_2.out.later b3)
  clear E_2 N_2  Oa0_2 b3
  have Ow0_3 := Lib.hid orw0
  clear orw0
  obtain ⟨⟨ka0, ka1⟩, -, -⟩ := boxedYd_at N_3.out
  have qa_ : w.heap.size < w3.heap.size := by omega
  have qb_ : ¬ w.heap.size = w3.heap.size := by omega
  go_wp2_with fail
  clear ka0 ka1
  clear qa_ qb_
  generalize hx : w3.alloc (.cells #[.int .i64 kw0.h, .slice kw0.xa nr0 kw0.xc] 26) = w4
  have bb4 : Below w3.heap.size w3 w4 := by rw [← hx]; go_grown
  have zb4 : w4.heap.size = w3.heap.size + 1 := by rw [← hx]; simp
  have nb4 : w4.heap[w3.heap.size]? = some (.cells #[.int .i64 kw0.h, .slice kw0.xa nr0 kw0.xc] 26 (0, 0)) := by rw [← hx]; exact heap_alloc_new _ _
  have zBRw0 : w3.heap.size + 1 ≤ w4.heap.size := by omega
  clear hx
  have z4 : w3.heap.size ≤ w4.heap.size := bb4.size
  have y4_ : w.heap.size + 1 ≤ w4.heap.size := by omega
  have E_4 : Hid (Below w.heap.size w w4) := E_3.out.trans (bb4.mono (by omega))
  have N_4 := Lib.hid ((bb4.block w.heap.size (by omega)).trans N_3.out)
  have Oa0_4 := Lib.hid (Oa0_3.out.later bb4)
  have Ow0_4 := Lib.hid (Ow0_3.out.later bb4)
  clear E_3 N_3  Oa0_3 Ow0_3 bb4
  have XRw0_4 := Lib.hid nb4
  clear nb4 zb4
  clear Oa0_4
  refine (T0.out _ (H0.out.later E_4.out)).mono ?_
  rintro e w5 ⟨kx0, rfl, smx0, o5, b5⟩
  have SMx0 := Lib.hid smx0
  clear smx0
  have z5 : w4.heap.size ≤ w5.heap.size := b5.size
  have y5_ : w.heap.size + 1 ≤ w5.heap.size := by omega
  have E_5 : Hid (Below w.heap.size w w5) := E_4.out.trans (b5.mono (by omega))
  have N_5 := Lib.hid ((b5.block w.heap.size (by omega)).trans N_4.out)
  have XRw0_5 := Lib.hid ((b5.block w3.heap.size (by omega)).trans XRw0_4.out)
  have Ow0_5 := Lib.hid (Ow0_4.out.later b5)
  clear E_4 N_4 XRw0_4 Ow0_4 b5
  have Ox0_5 := Lib.hid o5
  clear o5
  obtain ⟨⟨ka0, ka1⟩, -, -⟩ := boxedYd_at N_5.out
  obtain ⟨⟨kRw0_0, kRw0_1⟩, -, -⟩ := boxedYd_at XRw0_5.out
  have qa_ : w.heap.size < w5.heap.size := by omega
  have qb_ : ¬ w.heap.size = w5.heap.size := by omega
  have qaRw0 : w3.heap.size < w5.heap.size := by omega
  have qbRw0 : ¬ w3.heap.size = w5.heap.size := by omega
  go_wp2_with fail
  clear ka0 ka1 kRw0_0 kRw0_1
  clear qa_ qb_ qaRw0 qbRw0
  generalize hx : w5.alloc (.cells #[.int .i64 kx0.h, .slice kx0.xa n0 kx0.xc] 26) = w6
  have bb6 : Below w5.heap.size w5 w6 := by rw [← hx]; go_grown
  have zb6 : w6.heap.size = w5.heap.size + 1 := by rw [← hx]; simp
  have nb6 : w6.heap[w5.heap.size]? = some (.cells #[.int .i64 kx0.h, .slice kx0.xa n0 kx0.xc] 26 (0, 0)) := by rw [← hx]; exact heap_alloc_new _ _
  have zBx0 : w5.heap.size + 1 ≤ w6.heap.size := by omega
  clear hx
  have z6 : w5.heap.size ≤ w6.heap.size := bb6.size
  have y6_ : w.heap.size + 1 ≤ w6.heap.size := by omega
  have E_6 : Hid (Below w.heap.size w w6) := E_5.out.trans (bb6.mono (by omega))
  have N_6 := Lib.hid ((bb6.block w.heap.size (by omega)).trans N_5.out)
  have XRw0_6 := Lib.hid ((bb6.block w3.heap.size (by omega)).trans XRw0_5.out)
  have Ow0_6 := Lib.hid (Ow0_5.out.later bb6)
  have Ox0_6 := Lib.hid (Ox0_5.out.later bb6)
  clear E_5 N_5 XRw0_5 Ow0_5 Ox0_5 bb6
  have Xx0_6 := Lib.hid nb6
  clear nb6 zb6
  refine (c2.out _ kx0 SMx0.out Ox0_6.out.caps Ox0_6.out.rd).mono ?_
  rintro e w7 ⟨kg0, rfl, srg0, org0, b7⟩
  have SRg0 := Lib.hid srg0
  clear srg0
  have z7 : w6.heap.size ≤ w7.heap.size := b7.size
  have y7_ : w.heap.size + 1 ≤ w7.heap.size := by omega
  have E_7 : Hid (Below w.heap.size w w7) := E_6.out.trans (b7.mono (by omega))
  have N_7 := Lib.hid ((b7.block w.heap.size (by omega)).trans N_6.out)
  have XRw0_7 := Lib.hid ((b7.block w3.heap.size (by omega)).trans XRw0_6.out)
  have Xx0_7 := Lib.hid ((b7.block w5.heap.size (by omega)).trans Xx0_6.out)
  have Ow0_7 := Lib.hid (Ow0_6.out.later b7)
  have Ox0_7 := Lib.hid (Ox0_6.out.later b7)
  clear E_6 N_6 XRw0_6 Xx0_6 Ow0_6 Ox0_6 b7
  have Og0_7 := Lib.hid org0
  clear org0
  obtain ⟨⟨ka0, ka1⟩, -, -⟩ := boxedYd_at N_7.out
  obtain ⟨⟨kRw0_0, kRw0_1⟩, -, -⟩ := boxedYd_at XRw0_7.out
  obtain ⟨⟨kx0_0, kx0_1⟩, -, -⟩ := boxedYd_at Xx0_7.out
  have qa_ : w.heap.size < w7.heap.size := by omega
  have qb_ : ¬ w.heap.size = w7.heap.size := by omega
  have qaRw0 : w3.heap.size < w7.heap.size := by omega
  have qbRw0 : ¬ w3.heap.size = w7.heap.size := by omega
  have qax0 : w5.heap.size < w7.heap.size := by omega
  have qbx0 : ¬ w5.heap.size = w7.heap.size := by omega
  go_wp2_with fail
  clear ka0 ka1 kRw0_0 kRw0_1 kx0_0 kx0_1
  clear qa_ qb_ qaRw0 qbRw0 qax0 qbx0
  generalize hx : w7.alloc (.cells #[.int .i64 kg0.h, .slice kg0.xa nr0 kg0.xc] 26) = w8
  have bb8 : Below w7.heap.size w7 w8 := by rw [← hx]; go_grown
  have zb8 : w8.heap.size = w7.heap.size + 1 := by rw [← hx]; simp
  have nb8 : w8.heap[w7.heap.size]? = some (.cells #[.int .i64 kg0.h, .slice kg0.xa nr0 kg0.xc] 26 (0, 0)) := by rw [← hx]; exact heap_alloc_new _ _
  have zBRg0 : w7.heap.size + 1 ≤ w8.heap.size := by omega
  clear hx
  have z8 : w7.heap.size ≤ w8.heap.size := bb8.size
  have y8_ : w.heap.size + 1 ≤ w8.heap.size := by omega
  have E_8 : Hid (Below w.heap.size w w8) := E_7.out.trans (bb8.mono (by omega))
  have N_8 := Lib.hid ((bb8.block w.heap.size (by omega)).trans N_7.out)
  have XRw0_8 := Lib.hid ((bb8.block w3.heap.size (by omega)).trans XRw0_7.out)
  have Xx0_8 := Lib.hid ((bb8.block w5.heap.size (by omega)).trans Xx0_7.out)
  have Ow0_8 := Lib.hid (Ow0_7.out.later bb8)
  have Ox0_8 := Lib.hid (Ox0_7.out.later bb8)
  have Og0_8 := Lib.hid (Og0_7.out.later bb8)
  clear E_7 N_7 XRw0_7 Xx0_7 Ow0_7 Ox0_7 Og0_7 bb8
  have XRg0_8 := Lib.hid nb8
  clear nb8 zb8
  refine (eqYard_same kg0 kw0 nr0 _ Og0_8.out.rd Ow0_8.out.rd (SRg0.out.trans' SRw0.out) (by have := LY0.out.2; have := SRg0.out.sum; omega)).mono ?_
  rintro e w9 ⟨rfl, b9⟩
  have z9 : w8.heap.size ≤ w9.heap.size := b9.size
  have y9_ : w.heap.size + 1 ≤ w9.heap.size := by omega
  have E_9 : Hid (Below w.heap.size w w9) := E_8.out.trans (b9.mono (by omega))
  have N_9 := Lib.hid ((b9.block w.heap.size (by omega)).trans N_8.out)
  have XRw0_9 := Lib.hid ((b9.block w3.heap.size (by omega)).trans XRw0_8.out)
  have Xx0_9 := Lib.hid ((b9.block w5.heap.size (by omega)).trans Xx0_8.out)
  have XRg0_9 := Lib.hid ((b9.block w7.heap.size (by omega)).trans XRg0_8.out)
  have Ow0_9 := Lib.hid (Ow0_8.out.later b9)
  have Ox0_9 := Lib.hid (Ox0_8.out.later b9)
  have Og0_9 := Lib.hid (Og0_8.out.later b9)
  clear E_8 N_8 XRw0_8 Xx0_8 XRg0_8 Ow0_8 Ox0_8 Og0_8 b9
  have KS : Hid (∀ w', Below w9.heap.size w9 w' → (w'.cell? ⟨w.heap.size, 0, none⟩ = some (.int .i64 g0.h) ∧ w'.cell? ⟨w.heap.size, 1, none⟩ = some (.slice g0.xa n0 g0.xc) ∧ w'.cell? ⟨w5.heap.size, 0, none⟩ = some (.int .i64 kx0.h) ∧ w'.cell? ⟨w5.heap.size, 1, none⟩ = some (.slice kx0.xa n0 kx0.xc))) := by
    intro w' hb
    obtain ⟨⟨ka0, ka1⟩, -, -⟩ := boxedYd_at ((hb.block w.heap.size (by omega)).trans N_9.out)
    obtain ⟨⟨kx_0, kx_1⟩, -, -⟩ := boxedYd_at ((hb.block w5.heap.size (by omega)).trans Xx0_9.out)
    exact ⟨ka0, ka1, kx_0, kx_1⟩
  obtain ⟨⟨ka0, ka1⟩, -, -⟩ := boxedYd_at N_9.out
  obtain ⟨⟨kRw0_0, kRw0_1⟩, -, -⟩ := boxedYd_at XRw0_9.out
  obtain ⟨⟨kx0_0, kx0_1⟩, -, -⟩ := boxedYd_at Xx0_9.out
  obtain ⟨⟨kRg0_0, kRg0_1⟩, -, -⟩ := boxedYd_at XRg0_9.out
  go_wp2_with fail
  clear ka0 ka1 kRw0_0 kRw0_1 kx0_0 kx0_1 kRg0_0 kRg0_1
  go_region_held3 (fun w' => (w'.cell? ⟨w.heap.size, 0, none⟩ = some (.int .i64 g0.h) ∧ w'.cell? ⟨w.heap.size, 1, none⟩ = some (.slice g0.xa n0 g0.xc) ∧ w'.cell? ⟨w5.heap.size, 0, none⟩ = some (.int .i64 kx0.h) ∧ w'.cell? ⟨w5.heap.size, 1, none⟩ = some (.slice kx0.xa n0 kx0.xc)))
    (first | exact KS.out _ D11.out | exact KS.out _ D10.out | exact KS.out _ (Below.refl _ _).drew)
    (first
      | (go_at_call 6; refine (T0.out _ (H0.out.later E_9.out.drew)).mono ?_; rintro e w10 ⟨k10, rfl, sm10, o10, b10⟩; have D10 : Hid (Below w9.heap.size w9 w10) := (Below.refl _ _).drew.trans b10; have QF := Lib.hid (Q0.out w10 kx0 k10 (Ox0_9.out.rd.later D10.out) o10.rd (SMx0.out.trans' sm10) SMx0.out))
      | (go_at_call 8; refine QF.out.mono ?_; rintro e w11 ⟨rfl, b11⟩; have D11 : Hid (Below w9.heap.size w9 w11) := D10.out.trans (b11.mono D10.out.size)))
  rename_i hHeld
  have d11 := D11.out
  clear hHeld D11 D10 QF KS o10 b10 b11 sm10
  have z11 : w9.heap.size ≤ w11.heap.size := d11.size
  have y11_ : w.heap.size + 1 ≤ w11.heap.size := by omega
  have E_11 : Hid (Below w.heap.size w w11) := E_9.out.trans (d11.mono (by omega))
  have N_11 := Lib.hid ((d11.block w.heap.size (by omega)).trans N_9.out)
  have XRw0_11 := Lib.hid ((d11.block w3.heap.size (by omega)).trans XRw0_9.out)
  have Xx0_11 := Lib.hid ((d11.block w5.heap.size (by omega)).trans Xx0_9.out)
  have XRg0_11 := Lib.hid ((d11.block w7.heap.size (by omega)).trans XRg0_9.out)
  have Ow0_11 := Lib.hid (Ow0_9.out.later d11)
  have Ox0_11 := Lib.hid (Ox0_9.out.later d11)
  have Og0_11 := Lib.hid (Og0_9.out.later d11)
  clear E_9 N_9 XRw0_9 Xx0_9 XRg0_9 Ow0_9 Ox0_9 Og0_9 d11
  obtain ⟨⟨ka0, ka1⟩, -, -⟩ := boxedYd_at N_11.out
  obtain ⟨⟨kRw0_0, kRw0_1⟩, -, -⟩ := boxedYd_at XRw0_11.out
  obtain ⟨⟨kx0_0, kx0_1⟩, -, -⟩ := boxedYd_at Xx0_11.out
  obtain ⟨⟨kRg0_0, kRg0_1⟩, -, -⟩ := boxedYd_at XRg0_11.out
  go_wp2_with fail
  clear ka0 ka1 kRw0_0 kRw0_1 kx0_0 kx0_1 kRg0_0 kRg0_1
  refine (M0.out _ kx0 _ _ Ox0_11.out SMx0.out).mono ?_
  rintro e w12 ⟨rfl, -, g12_⟩
  have z12 : w11.heap.size ≤ w12.heap.size := g12_.size
  have y12_ : w.heap.size + 1 ≤ w12.heap.size := by omega
  have E_12 : Hid (Below w.heap.size w w12) := g12_.below E_11.out (by omega) (by omega)
  have N_12 := Lib.hid ((g12_.block w.heap.size (by omega) (by omega)).trans N_11.out)
  have XRw0_12 := Lib.hid ((g12_.block w3.heap.size (by omega) (by omega)).trans XRw0_11.out)
  have Xx0_12 := Lib.hid ((g12_.block w5.heap.size (by omega) (by omega)).trans Xx0_11.out)
  have XRg0_12 := Lib.hid ((g12_.block w7.heap.size (by omega) (by omega)).trans XRg0_11.out)
  have Ow0_12 := Lib.hid (Ow0_11.out.chg g12_ (by omega))
  have Og0_12 := Lib.hid (Og0_11.out.chg g12_ (by omega))
  clear E_11 N_11 XRw0_11 Xx0_11 XRg0_11 Ow0_11 Ox0_11 Og0_11 g12_
  have lx0 : sumT kx0.x = sumT g0.x := SMx0.out.sum
  have kneg : ¬ (1 + ((sumT kx0.x : Nat) : Int) < 0) := by omega
  obtain ⟨⟨ka0, ka1⟩, -, -⟩ := boxedYd_at N_12.out
  obtain ⟨⟨kRw0_0, kRw0_1⟩, -, -⟩ := boxedYd_at XRw0_12.out
  obtain ⟨⟨kx0_0, kx0_1⟩, -, -⟩ := boxedYd_at Xx0_12.out
  obtain ⟨⟨kRg0_0, kRg0_1⟩, -, -⟩ := boxedYd_at XRg0_12.out
  go_wp2_with fail
  clear ka0 ka1 kRw0_0 kRw0_1 kx0_0 kx0_1 kRg0_0 kRg0_1
  refine (eqYard_same kg0 kw0 nr0 _ Og0_12.out.rd Ow0_12.out.rd (SRg0.out.trans' SRw0.out) (by have := LY0.out.2; have := SRg0.out.sum; omega)).mono ?_
  rintro e w13 ⟨rfl, b13⟩
  have z13 : w12.heap.size ≤ w13.heap.size := b13.size
  have y13_ : w.heap.size + 1 ≤ w13.heap.size := by omega
  have E_13 : Hid (Below w.heap.size w w13) := E_12.out.trans (b13.mono (by omega))
  have N_13 := Lib.hid ((b13.block w.heap.size (by omega)).trans N_12.out)
  have XRw0_13 := Lib.hid ((b13.block w3.heap.size (by omega)).trans XRw0_12.out)
  have Xx0_13 := Lib.hid ((b13.block w5.heap.size (by omega)).trans Xx0_12.out)
  have XRg0_13 := Lib.hid ((b13.block w7.heap.size (by omega)).trans XRg0_12.out)
  have Ow0_13 := Lib.hid (Ow0_12.out.later b13)
  have Og0_13 := Lib.hid (Og0_12.out.later b13)
  clear E_12 N_12 XRw0_12 Xx0_12 XRg0_12 Ow0_12 Og0_12 b13
  clear kneg
  obtain ⟨⟨ka0, ka1⟩, -, -⟩ := boxedYd_at N_13.out
  obtain ⟨⟨kRw0_0, kRw0_1⟩, -, -⟩ := boxedYd_at XRw0_13.out
  obtain ⟨⟨kx0_0, kx0_1⟩, -, -⟩ := boxedYd_at Xx0_13.out
  obtain ⟨⟨kRg0_0, kRg0_1⟩, -, -⟩ := boxedYd_at XRg0_13.out
  go_wp2_with fail
  clear ka0 ka1 kRw0_0 kRw0_1 kx0_0 kx0_1 kRg0_0 kRg0_1
  have sl0 : sumT kg0.x = sumT y0.x ∧ kg0.x.length = y0.x.length := ⟨SRg0.out.sum, SRg0.out.len⟩
  refine (markYard_any kg0 nr0 _ _ _ Og0_13.out (by have := LY0.out.2; omega) (1) (by omega) (by omega)).mono ?_
  rintro e w14 ⟨rfl, og14, g14_⟩
  have keepg := Lib.hid og14
  clear og14
  clear Og0_13
  have z14 : w13.heap.size ≤ w14.heap.size := g14_.size
  have y14_ : w.heap.size + 1 ≤ w14.heap.size := by omega
  have E_14 : Hid (Below w.heap.size w w14) := g14_.below E_13.out (by omega) (by omega)
  have N_14 := Lib.hid ((g14_.block w.heap.size (by omega) (by omega)).trans N_13.out)
  have XRw0_14 := Lib.hid ((g14_.block w3.heap.size (by omega) (by omega)).trans XRw0_13.out)
  have Xx0_14 := Lib.hid ((g14_.block w5.heap.size (by omega) (by omega)).trans Xx0_13.out)
  have XRg0_14 := Lib.hid ((g14_.block w7.heap.size (by omega) (by omega)).trans XRg0_13.out)
  have Ow0_14 := Lib.hid (Ow0_13.out.chg g14_ (by omega))
  clear E_13 N_13 XRw0_13 Xx0_13 XRg0_13 Ow0_13 g14_
  have Og0_14 := keepg
  clear keepg
  have mneg0 : ¬ (1 + ((sumT kg0.x : Nat) : Int) < 0) := by have := LY0.out; omega
  obtain ⟨⟨ka0, ka1⟩, -, -⟩ := boxedYd_at N_14.out
  obtain ⟨⟨kRw0_0, kRw0_1⟩, -, -⟩ := boxedYd_at XRw0_14.out
  obtain ⟨⟨kx0_0, kx0_1⟩, -, -⟩ := boxedYd_at Xx0_14.out
  obtain ⟨⟨kRg0_0, kRg0_1⟩, -, -⟩ := boxedYd_at XRg0_14.out
  go_wp2_with fail
  clear ka0 ka1 kRw0_0 kRw0_1 kx0_0 kx0_1 kRg0_0 kRg0_1
  refine (heldYard_any kg0 nr0 _ (1) Og0_14.out.rd (by have := LY0.out.1; omega) (by have := LY0.out.2; omega) (by omega) (by omega)).mono ?_
  rintro e w15 ⟨rfl, b15⟩
  have z15 : w14.heap.size ≤ w15.heap.size := b15.size
  have y15_ : w.heap.size + 1 ≤ w15.heap.size := by omega
  have E_15 : Hid (Below w.heap.size w w15) := E_14.out.trans (b15.mono (by omega))
  have N_15 := Lib.hid ((b15.block w.heap.size (by omega)).trans N_14.out)
  have XRw0_15 := Lib.hid ((b15.block w3.heap.size (by omega)).trans XRw0_14.out)
  have Xx0_15 := Lib.hid ((b15.block w5.heap.size (by omega)).trans Xx0_14.out)
  have XRg0_15 := Lib.hid ((b15.block w7.heap.size (by omega)).trans XRg0_14.out)
  have Ow0_15 := Lib.hid (Ow0_14.out.later b15)
  have Og0_15 := Lib.hid (Og0_14.out.later b15)
  clear E_14 N_14 XRw0_14 Xx0_14 XRg0_14 Ow0_14 Og0_14 b15
  obtain ⟨⟨ka0, ka1⟩, -, -⟩ := boxedYd_at N_15.out
  obtain ⟨⟨kRw0_0, kRw0_1⟩, -, -⟩ := boxedYd_at XRw0_15.out
  obtain ⟨⟨kx0_0, kx0_1⟩, -, -⟩ := boxedYd_at Xx0_15.out
  obtain ⟨⟨kRg0_0, kRg0_1⟩, -, -⟩ := boxedYd_at XRg0_15.out
  go_wp2_with fail
  clear ka0 ka1 kRw0_0 kRw0_1 kx0_0 kx0_1 kRg0_0 kRg0_1
  refine (T0.out _ (H0.out.later E_15.out)).mono ?_
  rintro e w16 ⟨kb0, rfl, smb0, o16, b16⟩
  have SMb0 := Lib.hid smb0
  clear smb0
  have z16 : w15.heap.size ≤ w16.heap.size := b16.size
  have y16_ : w.heap.size + 1 ≤ w16.heap.size := by omega
  have E_16 : Hid (Below w.heap.size w w16) := E_15.out.trans (b16.mono (by omega))
  have N_16 := Lib.hid ((b16.block w.heap.size (by omega)).trans N_15.out)
  have XRw0_16 := Lib.hid ((b16.block w3.heap.size (by omega)).trans XRw0_15.out)
  have Xx0_16 := Lib.hid ((b16.block w5.heap.size (by omega)).trans Xx0_15.out)
  have XRg0_16 := Lib.hid ((b16.block w7.heap.size (by omega)).trans XRg0_15.out)
  have Ow0_16 := Lib.hid (Ow0_15.out.later b16)
  have Og0_16 := Lib.hid (Og0_15.out.later b16)
  clear E_15 N_15 XRw0_15 Xx0_15 XRg0_15 Ow0_15 Og0_15 b16
  have Ob0_16 := Lib.hid o16
  clear o16
  obtain ⟨⟨ka0, ka1⟩, -, -⟩ := boxedYd_at N_16.out
  obtain ⟨⟨kRw0_0, kRw0_1⟩, -, -⟩ := boxedYd_at XRw0_16.out
  obtain ⟨⟨kx0_0, kx0_1⟩, -, -⟩ := boxedYd_at Xx0_16.out
  obtain ⟨⟨kRg0_0, kRg0_1⟩, -, -⟩ := boxedYd_at XRg0_16.out
  go_wp2_with fail
  clear ka0 ka1 kRw0_0 kRw0_1 kx0_0 kx0_1 kRg0_0 kRg0_1
  refine (c2.out _ kb0 SMb0.out Ob0_16.out.caps Ob0_16.out.rd).mono ?_
  rintro e w17 ⟨kh0, rfl, srh0, orh0, b17⟩
  have SRh0 := Lib.hid srh0
  clear srh0
  have z17 : w16.heap.size ≤ w17.heap.size := b17.size
  have y17_ : w.heap.size + 1 ≤ w17.heap.size := by omega
  have E_17 : Hid (Below w.heap.size w w17) := E_16.out.trans (b17.mono (by omega))
  have N_17 := Lib.hid ((b17.block w.heap.size (by omega)).trans N_16.out)
  have XRw0_17 := Lib.hid ((b17.block w3.heap.size (by omega)).trans XRw0_16.out)
  have Xx0_17 := Lib.hid ((b17.block w5.heap.size (by omega)).trans Xx0_16.out)
  have XRg0_17 := Lib.hid ((b17.block w7.heap.size (by omega)).trans XRg0_16.out)
  have Ow0_17 := Lib.hid (Ow0_16.out.later b17)
  have Og0_17 := Lib.hid (Og0_16.out.later b17)
  have Ob0_17 := Lib.hid (Ob0_16.out.later b17)
  clear E_16 N_16 XRw0_16 Xx0_16 XRg0_16 Ow0_16 Og0_16 Ob0_16 b17
  have Oh0_17 := Lib.hid orh0
  clear orh0
  obtain ⟨⟨ka0, ka1⟩, -, -⟩ := boxedYd_at N_17.out
  obtain ⟨⟨kRw0_0, kRw0_1⟩, -, -⟩ := boxedYd_at XRw0_17.out
  obtain ⟨⟨kx0_0, kx0_1⟩, -, -⟩ := boxedYd_at Xx0_17.out
  obtain ⟨⟨kRg0_0, kRg0_1⟩, -, -⟩ := boxedYd_at XRg0_17.out
  have qa_ : w.heap.size < w17.heap.size := by omega
  have qb_ : ¬ w.heap.size = w17.heap.size := by omega
  have qaRw0 : w3.heap.size < w17.heap.size := by omega
  have qbRw0 : ¬ w3.heap.size = w17.heap.size := by omega
  have qax0 : w5.heap.size < w17.heap.size := by omega
  have qbx0 : ¬ w5.heap.size = w17.heap.size := by omega
  have qaRg0 : w7.heap.size < w17.heap.size := by omega
  have qbRg0 : ¬ w7.heap.size = w17.heap.size := by omega
  go_wp2_with fail
  clear ka0 ka1 kRw0_0 kRw0_1 kx0_0 kx0_1 kRg0_0 kRg0_1
  clear qa_ qb_ qaRw0 qbRw0 qax0 qbx0 qaRg0 qbRg0
  generalize hx : w17.alloc (.cells #[.int .i64 kh0.h, .slice kh0.xa nr0 kh0.xc] 26) = w18
  have bb18 : Below w17.heap.size w17 w18 := by rw [← hx]; go_grown
  have zb18 : w18.heap.size = w17.heap.size + 1 := by rw [← hx]; simp
  have nb18 : w18.heap[w17.heap.size]? = some (.cells #[.int .i64 kh0.h, .slice kh0.xa nr0 kh0.xc] 26 (0, 0)) := by rw [← hx]; exact heap_alloc_new _ _
  have zBRh0 : w17.heap.size + 1 ≤ w18.heap.size := by omega
  clear hx
  have z18 : w17.heap.size ≤ w18.heap.size := bb18.size
  have y18_ : w.heap.size + 1 ≤ w18.heap.size := by omega
  have E_18 : Hid (Below w.heap.size w w18) := E_17.out.trans (bb18.mono (by omega))
  have N_18 := Lib.hid ((bb18.block w.heap.size (by omega)).trans N_17.out)
  have XRw0_18 := Lib.hid ((bb18.block w3.heap.size (by omega)).trans XRw0_17.out)
  have Xx0_18 := Lib.hid ((bb18.block w5.heap.size (by omega)).trans Xx0_17.out)
  have XRg0_18 := Lib.hid ((bb18.block w7.heap.size (by omega)).trans XRg0_17.out)
  have Ow0_18 := Lib.hid (Ow0_17.out.later bb18)
  have Og0_18 := Lib.hid (Og0_17.out.later bb18)
  have Ob0_18 := Lib.hid (Ob0_17.out.later bb18)
  have Oh0_18 := Lib.hid (Oh0_17.out.later bb18)
  clear E_17 N_17 XRw0_17 Xx0_17 XRg0_17 Ow0_17 Og0_17 Ob0_17 Oh0_17 bb18
  have XRh0_18 := Lib.hid nb18
  clear nb18 zb18
  clear Ob0_18
  refine (eqYard_same kh0 kw0 nr0 _ Oh0_18.out.rd Ow0_18.out.rd (SRh0.out.trans' SRw0.out) (by have := LY0.out.2; have := SRh0.out.sum; omega)).mono ?_
  rintro e w19 ⟨rfl, b19⟩
  have z19 : w18.heap.size ≤ w19.heap.size := b19.size
  have y19_ : w.heap.size + 1 ≤ w19.heap.size := by omega
  have E_19 : Hid (Below w.heap.size w w19) := E_18.out.trans (b19.mono (by omega))
  have N_19 := Lib.hid ((b19.block w.heap.size (by omega)).trans N_18.out)
  have XRw0_19 := Lib.hid ((b19.block w3.heap.size (by omega)).trans XRw0_18.out)
  have Xx0_19 := Lib.hid ((b19.block w5.heap.size (by omega)).trans Xx0_18.out)
  have XRg0_19 := Lib.hid ((b19.block w7.heap.size (by omega)).trans XRg0_18.out)
  have XRh0_19 := Lib.hid ((b19.block w17.heap.size (by omega)).trans XRh0_18.out)
  have Ow0_19 := Lib.hid (Ow0_18.out.later b19)
  have Og0_19 := Lib.hid (Og0_18.out.later b19)
  have Oh0_19 := Lib.hid (Oh0_18.out.later b19)
  clear E_18 N_18 XRw0_18 Xx0_18 XRg0_18 XRh0_18 Ow0_18 Og0_18 Oh0_18 b19
  obtain ⟨⟨ka0, ka1⟩, -, -⟩ := boxedYd_at N_19.out
  obtain ⟨⟨kRw0_0, kRw0_1⟩, -, -⟩ := boxedYd_at XRw0_19.out
  obtain ⟨⟨kx0_0, kx0_1⟩, -, -⟩ := boxedYd_at Xx0_19.out
  obtain ⟨⟨kRg0_0, kRg0_1⟩, -, -⟩ := boxedYd_at XRg0_19.out
  obtain ⟨⟨kRh0_0, kRh0_1⟩, -, -⟩ := boxedYd_at XRh0_19.out
  go_wp2_with fail
  clear ka0 ka1 kRw0_0 kRw0_1 kx0_0 kx0_1 kRg0_0 kRg0_1 kRh0_0 kRh0_1
  refine (heldYard_any kg0 nr0 _ (1) Og0_19.out.rd (by have := LY0.out.1; omega) (by have := LY0.out.2; omega) (by omega) (by omega)).mono ?_
  rintro e w20 ⟨rfl, b20⟩
  have z20 : w19.heap.size ≤ w20.heap.size := b20.size
  have y20_ : w.heap.size + 1 ≤ w20.heap.size := by omega
  have E_20 : Hid (Below w.heap.size w w20) := E_19.out.trans (b20.mono (by omega))
  have N_20 := Lib.hid ((b20.block w.heap.size (by omega)).trans N_19.out)
  have XRw0_20 := Lib.hid ((b20.block w3.heap.size (by omega)).trans XRw0_19.out)
  have Xx0_20 := Lib.hid ((b20.block w5.heap.size (by omega)).trans Xx0_19.out)
  have XRg0_20 := Lib.hid ((b20.block w7.heap.size (by omega)).trans XRg0_19.out)
  have XRh0_20 := Lib.hid ((b20.block w17.heap.size (by omega)).trans XRh0_19.out)
  have Ow0_20 := Lib.hid (Ow0_19.out.later b20)
  have Og0_20 := Lib.hid (Og0_19.out.later b20)
  have Oh0_20 := Lib.hid (Oh0_19.out.later b20)
  clear E_19 N_19 XRw0_19 Xx0_19 XRg0_19 XRh0_19 Ow0_19 Og0_19 Oh0_19 b20
  obtain ⟨⟨ka0, ka1⟩, -, -⟩ := boxedYd_at N_20.out
  obtain ⟨⟨kRw0_0, kRw0_1⟩, -, -⟩ := boxedYd_at XRw0_20.out
  obtain ⟨⟨kx0_0, kx0_1⟩, -, -⟩ := boxedYd_at Xx0_20.out
  obtain ⟨⟨kRg0_0, kRg0_1⟩, -, -⟩ := boxedYd_at XRg0_20.out
  obtain ⟨⟨kRh0_0, kRh0_1⟩, -, -⟩ := boxedYd_at XRh0_20.out
  go_wp2
  go_ret
  exact ⟨rfl, E_20.out⟩

set_option maxRecDepth 100000 in
theorem walkFnExactTakeNext (w : World) (g0 : Yd) (n0 : Nat) (wg : n0 ≤ maxLen) (wt0 : ∀ x ∈ g0.x, x.t.length ≤ maxLen) (h0 : RdYd w n0 g0) :
    Calls Try.prog 3 #[(.agg #[.int .i64 g0.h, .slice g0.xa n0 g0.xc])] w fun e w' => e = .returned (.bool true) ∧ Below w.heap.size w w' := by
  have e0 := h0.len
  have wg' : g0.x.length ≤ maxLen := by rw [← e0]; exact wg
  by_cases lt0 : ((n0 + sumT g0.x : Nat) : Int) ≤ 1048576
  rotate_left
  · have s0 := Lib.hid (fun w h => szYard_any g0 n0 1048576 (by omega) (by omega) w h wg' wt0 (-1) (by rw [if_neg (by rw [← e0]; exact lt0)]))
    have H0 := Lib.hid h0
    clear h0 lt0  e0 
    go_enter Try.func3, Try.ntmps3
    go_wp2_with fail
    refine (s0.out _ (H0.out.later (by go_grown))).mono ?_
    rintro e w1 ⟨rfl, b1⟩
    have B1 : Hid (Below w.heap.size w w1) := Below.trans (by go_grown) (b1.mono (by simp only [World.size_alloc]; omega))
    clear b1
    go_wp2
    go_ret
    exact ⟨rfl, B1.out⟩
  obtain ⟨y0, nr0, r1, ly0, c1, c2⟩ := exTakeNext g0 n0 e0 lt0
  exact takeNext_law g0 n0 w h0  lt0 y0 nr0 r1 ly0 c1 c2
end Go.Proofs.Ythfmmlpbflfpaac
