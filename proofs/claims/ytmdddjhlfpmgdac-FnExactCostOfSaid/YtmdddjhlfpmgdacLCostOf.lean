/- The law of CostOf. -/
import Derived.Test.YtmdddjhlfpmgdacCostX
import Derived.Test.YtmdddjhlfpmgdacHeadB
import Derived.Test.YtmdddjhlfpmgdacOpenHd
import Derived.Test.YtmdddjhlfpmgdacStops3
import Derived.Deep.RegionHeld3
namespace Go.Proofs.Ytmdddjhlfpmgdac
open Go.ChangeShapes Go.WideShapes Go.ChangeAt Go.RowKit
set_option linter.unusedVariables false
set_option linter.unusedSimpArgs false

set_option maxRecDepth 100000 in
set_option maxHeartbeats 16000000 in
theorem costOf_law (g0 : Hd) (n0 n1 n2 : Nat) (s1 : Option Addr) (p1 m1 : Nat) (xs1 : List Su) (w : World) (h0 : RdHd w n0 n1 n2 g0) (h1 : RdSt w (.slice s1 m1 p1) xs1) (lt : (n0 : Int) + (n1 : Int) + (n2 : Int) + ((m1 + sumSt xs1 : Nat) : Int) ≤ 1048576) (r0 : Int) (r1 : Bool) 
    (c1 : Hid (∀ (w : World) (k0 : Hd) (v1 : Value) (zs1 : List Su), k0.same g0 → k0.caps n0 n1 n2 → RdHd w n0 n1 n2 k0 → RdSt w v1 zs1 → zs1.map Su.so = xs1.map Su.so → Calls Try.prog 9 #[(.agg #[.slice k0.ca n0 k0.cc, .slice k0.ha n1 k0.hc, .slice k0.sa n2 k0.sc, .int .i64 k0.p, .int .i64 k0.q]), v1] w fun e w' => e = .returned (.tuple #[.int .i64 r0, .bool r1]) ∧ Below w.heap.size w w'))
    (c2 : Hid (∀ (w : World) (k0 : Hd) (v1 : Value) (zs1 : List Su), k0.same g0 → k0.caps n0 n1 n2 → RdHd w n0 n1 n2 k0 → RdSt w v1 zs1 → zs1.map Su.so = xs1.map Su.so → Calls Try.prog 12 #[(.agg #[.slice k0.ca n0 k0.cc, .slice k0.ha n1 k0.hc, .slice k0.sa n2 k0.sc, .int .i64 k0.p, .int .i64 k0.q]), v1] w fun e w' => e = .returned (.tuple #[.int .i64 r0, .bool r1]) ∧ Below w.heap.size w w')) :
    Calls Try.prog 3 #[(.agg #[.slice g0.ca n0 g0.cc, .slice g0.ha n1 g0.hc, .slice g0.sa n2 g0.sc, .int .i64 g0.p, .int .i64 g0.q]), .slice s1 m1 p1] w fun e w' => e = .returned (.bool true) ∧ Below w.heap.size w w' := by
  have H0 := Lib.hid h0
  have H1 := Lib.hid h1
  have em1 : m1 = xs1.length := by obtain ⟨_, _, e, _⟩ := h1.rows; simp only [Value.slice.injEq] at e; exact e.2.1
  have T0 := Lib.hid (fun w h => toHead_any g0 n0 n1 n2 w h (by omega) (by omega) (by omega))
  have Q0 := Lib.hid (fun w (x y : Hd) (hx : RdHd w n0 n1 n2 x) (hy : RdHd w n0 n1 n2 y) hs => eqHead_same x y n0 n1 n2 w hx hy hs (by omega) (by omega) (by omega))
  have TL1 : ∀ x ∈ xs1, x.t.length ≤ 1048576 := fun x hx => by have := sumSt_mem hx; omega
  have T1 := Lib.hid (fun w h => toStopS_any (.slice s1 m1 p1) xs1 w h (by omega) TL1)
  rw [← em1] at T1
  have Q1 := Lib.hid (fun w a b (x y : List Su) hx hy (hs : x.map Su.so = xs1.map Su.so) (hs2 : y.map Su.so = xs1.map Su.so) => eqStopS_same a b x y w hx hy (hs.trans hs2.symm) (by have := map_so_len hs; omega) (fun z hz => by have := sumSt_mem hz; have := sumSt_so hs; omega))
  have EM1 := Lib.hid em1
  have S0 := Lib.hid (fun w => szHead_any g0 n0 n1 n2 1048576 (by omega) (by omega) (by omega) (by omega) (by omega) (1048576 - ((n0 : Int) + (n1 : Int) + (n2 : Int))) ⟨fun _ => rfl, fun h => absurd (by omega) h⟩ w)
  have f0 : ¬ (1048576 - ((n0 : Int) + (n1 : Int) + (n2 : Int)) < 0) := by omega
  have S1 := Lib.hid (fun w h => szStopS_any (.slice s1 m1 p1) xs1 (1048576 - ((n0 : Int) + (n1 : Int) + (n2 : Int))) (by omega) (by omega) w h (by unfold maxLen; omega) (fun x hx => by have := TL1 x hx; unfold maxLen; omega) (1048576 - ((n0 : Int) + (n1 : Int) + (n2 : Int)) - ((m1 + sumSt xs1 : Nat) : Int)) (by rw [em1, if_pos (by rw [← em1]; omega)]))
  have f1 : ¬ (1048576 - ((n0 : Int) + (n1 : Int) + (n2 : Int)) - ((m1 + sumSt xs1 : Nat) : Int) < 0) := by omega
  have ms1 : (m1 : Int) + sumSt xs1 ≤ 1048576 := by omega
  have ln : n0 ≤ 1048576 ∧ n1 ≤ 1048576 ∧ n2 ≤ 1048576 := by omega
  clear h0 h1 lt   em1 TL1
  go_enter Try.func3, Try.ntmps3
  go_wp2_with fail
  generalize hx : w.alloc (.cells #[.slice g0.ca n0 g0.cc, .slice g0.ha n1 g0.hc, .slice g0.sa n2 g0.sc, .int .i64 g0.p, .int .i64 g0.q] 25) = w0
  have E_0 : Hid (Below w.heap.size w w0) := by rw [← hx]; show Below _ _ _; go_grown
  have y0 : w.heap.size + 1 ≤ w0.heap.size := by rw [← hx]; simp
  have N_0 : Hid (w0.heap[w.heap.size]? = some (.cells #[.slice g0.ca n0 g0.cc, .slice g0.ha n1 g0.hc, .slice g0.sa n2 g0.sc, .int .i64 g0.p, .int .i64 g0.q] 25 (0, 0))) := by rw [← hx]; exact heap_alloc_new w _
  clear hx
  refine (S0.out _).mono ?_
  rintro e w1 ⟨rfl, b1⟩
  have z1 : w0.heap.size ≤ w1.heap.size := b1.size
  have y1 : w.heap.size + 1 ≤ w1.heap.size := by omega
  have E_1 : Hid (Below w.heap.size w w1) := E_0.out.trans (b1.mono (by omega))
  have N_1 := Lib.hid ((b1.block w.heap.size (by omega)).trans N_0.out)
  clear E_0 N_0   b1
  obtain ⟨⟨ka0, ka1, ka2, ka3, ka4⟩, -, -⟩ := boxedHd_at N_1.out
  go_wp2_with fail
  clear ka0 ka1 ka2 ka3 ka4
  refine (S1.out _ (H1.out.later E_1.out)).mono ?_
  rintro e w2 ⟨rfl, b2⟩
  have z2 : w1.heap.size ≤ w2.heap.size := b2.size
  have y2 : w.heap.size + 1 ≤ w2.heap.size := by omega
  have E_2 : Hid (Below w.heap.size w w2) := E_1.out.trans (b2.mono (by omega))
  have N_2 := Lib.hid ((b2.block w.heap.size (by omega)).trans N_1.out)
  clear E_1 N_1   b2
  obtain ⟨⟨ka0, ka1, ka2, ka3, ka4⟩, -, -⟩ := boxedHd_at N_2.out
  go_wp2_with fail
  clear ka0 ka1 ka2 ka3 ka4
  refine (T0.out _ (H0.out.later E_2.out)).mono ?_
  rintro e w3 ⟨ka0, rfl, sma0, o3, b3⟩
  have SMa0 := Lib.hid sma0
  clear sma0
  have z3 : w2.heap.size ≤ w3.heap.size := b3.size
  have y3 : w.heap.size + 1 ≤ w3.heap.size := by omega
  have E_3 : Hid (Below w.heap.size w w3) := E_2.out.trans (b3.mono (by omega))
  have N_3 := Lib.hid ((b3.block w.heap.size (by omega)).trans N_2.out)
  clear E_2 N_2   b3
  have Oa0_3 := Lib.hid o3
  clear o3
  obtain ⟨⟨ka0, ka1, ka2, ka3, ka4⟩, -, -⟩ := boxedHd_at N_3.out
  go_wp2_with fail
  clear ka0 ka1 ka2 ka3 ka4
  refine (T1.out _ (H1.out.later E_3.out)).mono ?_
  rintro e w4 ⟨aa1, ca1, zsa1, rfl, sma1, o4, b4⟩
  have SMa1 := Lib.hid sma1
  clear sma1
  have z4 : w3.heap.size ≤ w4.heap.size := b4.size
  have y4 : w.heap.size + 1 ≤ w4.heap.size := by omega
  have E_4 : Hid (Below w.heap.size w w4) := E_3.out.trans (b4.mono (by omega))
  have N_4 := Lib.hid ((b4.block w.heap.size (by omega)).trans N_3.out)
  have Oa0_4 := Lib.hid (Oa0_3.out.later b4)
  clear E_3 N_3  Oa0_3 b4
  have Oa1_4 := Lib.hid o4
  clear o4
  obtain ⟨⟨ka0, ka1, ka2, ka3, ka4⟩, -, -⟩ := boxedHd_at N_4.out
  go_wp2_with fail
  clear ka0 ka1 ka2 ka3 ka4
  refine (c1.out _ ka0 _ zsa1 SMa0.out Oa0_4.out.caps Oa0_4.out.rd Oa1_4.out.rd SMa1.out).mono ?_
  rintro e w5 ⟨rfl, b5⟩
  have z5 : w4.heap.size ≤ w5.heap.size := b5.size
  have y5 : w.heap.size + 1 ≤ w5.heap.size := by omega
  have E_5 : Hid (Below w.heap.size w w5) := E_4.out.trans (b5.mono (by omega))
  have N_5 := Lib.hid ((b5.block w.heap.size (by omega)).trans N_4.out)
  have Oa0_5 := Lib.hid (Oa0_4.out.later b5)
  have Oa1_5 := Lib.hid (Oa1_4.out.later b5)
  clear E_4 N_4  Oa0_4 Oa1_4 b5
  clear Oa0_5
  clear Oa1_5
  obtain ⟨⟨ka0, ka1, ka2, ka3, ka4⟩, -, -⟩ := boxedHd_at N_5.out
  go_wp2_with fail
  clear ka0 ka1 ka2 ka3 ka4
  refine (T0.out _ (H0.out.later E_5.out)).mono ?_
  rintro e w6 ⟨kx0, rfl, smx0, o6, b6⟩
  have SMx0 := Lib.hid smx0
  clear smx0
  have z6 : w5.heap.size ≤ w6.heap.size := b6.size
  have y6 : w.heap.size + 1 ≤ w6.heap.size := by omega
  have E_6 : Hid (Below w.heap.size w w6) := E_5.out.trans (b6.mono (by omega))
  have N_6 := Lib.hid ((b6.block w.heap.size (by omega)).trans N_5.out)
  clear E_5 N_5   b6
  have Ox0_6 := Lib.hid o6
  clear o6
  obtain ⟨⟨ka0, ka1, ka2, ka3, ka4⟩, -, -⟩ := boxedHd_at N_6.out
  go_wp2_with fail
  clear ka0 ka1 ka2 ka3 ka4
  generalize hx : w6.alloc (.cells #[.slice kx0.ca n0 kx0.cc, .slice kx0.ha n1 kx0.hc, .slice kx0.sa n2 kx0.sc, .int .i64 kx0.p, .int .i64 kx0.q] 33) = w7
  have bb7 : Below w6.heap.size w6 w7 := by rw [← hx]; go_grown
  have zb7 : w7.heap.size = w6.heap.size + 1 := by rw [← hx]; simp
  have nb7 : w7.heap[w6.heap.size]? = some (.cells #[.slice kx0.ca n0 kx0.cc, .slice kx0.ha n1 kx0.hc, .slice kx0.sa n2 kx0.sc, .int .i64 kx0.p, .int .i64 kx0.q] 33 (0, 0)) := by rw [← hx]; exact heap_alloc_new _ _
  clear hx
  have z7 : w6.heap.size ≤ w7.heap.size := bb7.size
  have y7 : w.heap.size + 1 ≤ w7.heap.size := by omega
  have E_7 : Hid (Below w.heap.size w w7) := E_6.out.trans (bb7.mono (by omega))
  have N_7 := Lib.hid ((bb7.block w.heap.size (by omega)).trans N_6.out)
  have Ox0_7 := Lib.hid (Ox0_6.out.later bb7)
  clear E_6 N_6  Ox0_6 bb7
  have X_7 := Lib.hid nb7
  clear nb7
  refine (T1.out _ (H1.out.later E_7.out)).mono ?_
  rintro e w8 ⟨ax1, cx1, zsx1, rfl, smx1, o8, b8⟩
  have SMx1 := Lib.hid smx1
  clear smx1
  have z8 : w7.heap.size ≤ w8.heap.size := b8.size
  have y8 : w.heap.size + 1 ≤ w8.heap.size := by omega
  have E_8 : Hid (Below w.heap.size w w8) := E_7.out.trans (b8.mono (by omega))
  have N_8 := Lib.hid ((b8.block w.heap.size (by omega)).trans N_7.out)
  have X_8 := Lib.hid ((b8.block w6.heap.size (by omega)).trans X_7.out)
  have Ox0_8 := Lib.hid (Ox0_7.out.later b8)
  clear E_7 N_7 X_7 Ox0_7 b8
  have Ox1_8 := Lib.hid o8
  clear o8
  obtain ⟨⟨ka0, ka1, ka2, ka3, ka4⟩, -, -⟩ := boxedHd_at N_8.out
  obtain ⟨⟨kx0, kx1, kx2, kx3, kx4⟩, -, -⟩ := boxedHd_at X_8.out
  go_wp2_with fail
  clear ka0 ka1 ka2 ka3 ka4 kx0 kx1 kx2 kx3 kx4
  refine (c2.out _ kx0 _ zsx1 SMx0.out Ox0_8.out.caps Ox0_8.out.rd Ox1_8.out.rd SMx1.out).mono ?_
  rintro e w9 ⟨rfl, b9⟩
  have z9 : w8.heap.size ≤ w9.heap.size := b9.size
  have y9 : w.heap.size + 1 ≤ w9.heap.size := by omega
  have E_9 : Hid (Below w.heap.size w w9) := E_8.out.trans (b9.mono (by omega))
  have N_9 := Lib.hid ((b9.block w.heap.size (by omega)).trans N_8.out)
  have X_9 := Lib.hid ((b9.block w6.heap.size (by omega)).trans X_8.out)
  have Ox0_9 := Lib.hid (Ox0_8.out.later b9)
  have Ox1_9 := Lib.hid (Ox1_8.out.later b9)
  clear E_8 N_8 X_8 Ox0_8 Ox1_8 b9
  have KS : Hid (∀ w', Below w9.heap.size w9 w' → (w'.cell? ⟨w.heap.size, 0, none⟩ = some (.slice g0.ca n0 g0.cc) ∧ w'.cell? ⟨w.heap.size, 1, none⟩ = some (.slice g0.ha n1 g0.hc) ∧ w'.cell? ⟨w.heap.size, 2, none⟩ = some (.slice g0.sa n2 g0.sc) ∧ w'.cell? ⟨w.heap.size, 3, none⟩ = some (.int .i64 g0.p) ∧ w'.cell? ⟨w.heap.size, 4, none⟩ = some (.int .i64 g0.q) ∧ w'.cell? ⟨w6.heap.size, 0, none⟩ = some (.slice kx0.ca n0 kx0.cc) ∧ w'.cell? ⟨w6.heap.size, 1, none⟩ = some (.slice kx0.ha n1 kx0.hc) ∧ w'.cell? ⟨w6.heap.size, 2, none⟩ = some (.slice kx0.sa n2 kx0.sc) ∧ w'.cell? ⟨w6.heap.size, 3, none⟩ = some (.int .i64 kx0.p) ∧ w'.cell? ⟨w6.heap.size, 4, none⟩ = some (.int .i64 kx0.q))) := by
    intro w' hb
    obtain ⟨⟨ka0, ka1, ka2, ka3, ka4⟩, -, -⟩ := boxedHd_at ((hb.block w.heap.size (by omega)).trans N_9.out)
    obtain ⟨⟨kx0, kx1, kx2, kx3, kx4⟩, -, -⟩ := boxedHd_at ((hb.block w6.heap.size (by omega)).trans X_9.out)
    exact ⟨ka0, ka1, ka2, ka3, ka4, kx0, kx1, kx2, kx3, kx4⟩
  obtain ⟨⟨ka0, ka1, ka2, ka3, ka4⟩, -, -⟩ := boxedHd_at N_9.out
  obtain ⟨⟨kx0, kx1, kx2, kx3, kx4⟩, -, -⟩ := boxedHd_at X_9.out
  go_wp2_with fail
  clear ka0 ka1 ka2 ka3 ka4 kx0 kx1 kx2 kx3 kx4
  go_region_held3 (fun w' => (w'.cell? ⟨w.heap.size, 0, none⟩ = some (.slice g0.ca n0 g0.cc) ∧ w'.cell? ⟨w.heap.size, 1, none⟩ = some (.slice g0.ha n1 g0.hc) ∧ w'.cell? ⟨w.heap.size, 2, none⟩ = some (.slice g0.sa n2 g0.sc) ∧ w'.cell? ⟨w.heap.size, 3, none⟩ = some (.int .i64 g0.p) ∧ w'.cell? ⟨w.heap.size, 4, none⟩ = some (.int .i64 g0.q) ∧ w'.cell? ⟨w6.heap.size, 0, none⟩ = some (.slice kx0.ca n0 kx0.cc) ∧ w'.cell? ⟨w6.heap.size, 1, none⟩ = some (.slice kx0.ha n1 kx0.hc) ∧ w'.cell? ⟨w6.heap.size, 2, none⟩ = some (.slice kx0.sa n2 kx0.sc) ∧ w'.cell? ⟨w6.heap.size, 3, none⟩ = some (.int .i64 kx0.p) ∧ w'.cell? ⟨w6.heap.size, 4, none⟩ = some (.int .i64 kx0.q)))
    (first | exact KS.out _ D11.out | exact KS.out _ D10.out | exact KS.out _ (Below.refl _ _).drew)
    (first
      | (go_at_call 10; refine (T0.out _ (H0.out.later E_9.out.drew)).mono ?_; rintro e w10 ⟨k10, rfl, sm10, o10, b10⟩; have D10 : Hid (Below w9.heap.size w9 w10) := (Below.refl _ _).drew.trans b10; have QF := Lib.hid (Q0.out w10 kx0 k10 (Ox0_9.out.rd.later D10.out) o10.rd (SMx0.out.trans' sm10)))
      | (go_at_call 13; refine QF.out.mono ?_; rintro e w11 ⟨rfl, b11⟩; have D11 : Hid (Below w9.heap.size w9 w11) := D10.out.trans (b11.mono D10.out.size)))
  rename_i hHeld
  have d11 := D11.out
  clear hHeld D11 D10 QF KS o10 b10 b11 sm10
  have z11 : w9.heap.size ≤ w11.heap.size := d11.size
  have y11 : w.heap.size + 1 ≤ w11.heap.size := by omega
  have E_11 : Hid (Below w.heap.size w w11) := E_9.out.trans (d11.mono (by omega))
  have N_11 := Lib.hid ((d11.block w.heap.size (by omega)).trans N_9.out)
  have X_11 := Lib.hid ((d11.block w6.heap.size (by omega)).trans X_9.out)
  have Ox0_11 := Lib.hid (Ox0_9.out.later d11)
  have Ox1_11 := Lib.hid (Ox1_9.out.later d11)
  clear E_9 N_9 X_9 Ox0_9 Ox1_9 d11
  obtain ⟨⟨ka0, ka1, ka2, ka3, ka4⟩, -, -⟩ := boxedHd_at N_11.out
  obtain ⟨⟨kx0, kx1, kx2, kx3, kx4⟩, -, -⟩ := boxedHd_at X_11.out
  go_wp2_with fail
  clear ka0 ka1 ka2 ka3 ka4 kx0 kx1 kx2 kx3 kx4
  refine (T1.out _ (H1.out.later E_11.out)).mono ?_
  rintro e w12 ⟨at1, ct1, zst1, rfl, smt1, o12, b12⟩
  have SMt1 := Lib.hid smt1
  clear smt1
  have z12 : w11.heap.size ≤ w12.heap.size := b12.size
  have y12 : w.heap.size + 1 ≤ w12.heap.size := by omega
  have E_12 : Hid (Below w.heap.size w w12) := E_11.out.trans (b12.mono (by omega))
  have N_12 := Lib.hid ((b12.block w.heap.size (by omega)).trans N_11.out)
  have X_12 := Lib.hid ((b12.block w6.heap.size (by omega)).trans X_11.out)
  have Ox0_12 := Lib.hid (Ox0_11.out.later b12)
  have Ox1_12 := Lib.hid (Ox1_11.out.later b12)
  clear E_11 N_11 X_11 Ox0_11 Ox1_11 b12
  have Ot1_12 := Lib.hid o12
  clear o12
  obtain ⟨⟨ka0, ka1, ka2, ka3, ka4⟩, -, -⟩ := boxedHd_at N_12.out
  obtain ⟨⟨kx0, kx1, kx2, kx3, kx4⟩, -, -⟩ := boxedHd_at X_12.out
  go_wp2_with fail
  clear ka0 ka1 ka2 ka3 ka4 kx0 kx1 kx2 kx3 kx4
  refine (Q1.out _ _ _ zsx1 zst1 Ox1_12.out.rd Ot1_12.out.rd SMx1.out SMt1.out).mono ?_
  rintro e w13 ⟨rfl, b13⟩
  have z13 : w12.heap.size ≤ w13.heap.size := b13.size
  have y13 : w.heap.size + 1 ≤ w13.heap.size := by omega
  have E_13 : Hid (Below w.heap.size w w13) := E_12.out.trans (b13.mono (by omega))
  have N_13 := Lib.hid ((b13.block w.heap.size (by omega)).trans N_12.out)
  have X_13 := Lib.hid ((b13.block w6.heap.size (by omega)).trans X_12.out)
  have Ox0_13 := Lib.hid (Ox0_12.out.later b13)
  have Ox1_13 := Lib.hid (Ox1_12.out.later b13)
  have Ot1_13 := Lib.hid (Ot1_12.out.later b13)
  clear E_12 N_12 X_12 Ox0_12 Ox1_12 Ot1_12 b13
  clear Ot1_13
  obtain ⟨⟨ka0, ka1, ka2, ka3, ka4⟩, -, -⟩ := boxedHd_at N_13.out
  obtain ⟨⟨kx0, kx1, kx2, kx3, kx4⟩, -, -⟩ := boxedHd_at X_13.out
  go_wp2
  go_ret
  exact ⟨rfl, E_13.out⟩

set_option maxRecDepth 100000 in
theorem walkFnExactCostOf (w : World) (g0 : Hd) (n0 n1 n2 : Nat) (wg : n0 ≤ maxLen ∧ n1 ≤ maxLen ∧ n2 ≤ maxLen) (h0 : RdHd w n0 n1 n2 g0) (s1 : Option Addr) (p1 m1 : Nat) (xs1 : List Su) (h1 : RdSt w (.slice s1 m1 p1) xs1) (wm1 : m1 ≤ maxLen) (wt1 : ∀ x ∈ xs1, x.t.length ≤ maxLen) :
    Calls Try.prog 3 #[(.agg #[.slice g0.ca n0 g0.cc, .slice g0.ha n1 g0.hc, .slice g0.sa n2 g0.sc, .int .i64 g0.p, .int .i64 g0.q]), .slice s1 m1 p1] w fun e w' => e = .returned (.bool true) ∧ Below w.heap.size w w' := by
  obtain ⟨e0, e1, e2⟩ := h0.len
  have em1 : m1 = xs1.length := by obtain ⟨_, _, e, _⟩ := h1.rows; simp only [Value.slice.injEq] at e; exact e.2.1
  by_cases lt0 : (n0 : Int) + (n1 : Int) + (n2 : Int) ≤ 1048576
  rotate_left
  · have s0 := Lib.hid (fun w => szHead_any g0 n0 n1 n2 1048576 (by omega) (by omega) (by unfold maxLen at wg; omega) (by unfold maxLen at wg; omega) (by unfold maxLen at wg; omega) (-1) ⟨fun h => absurd h lt0, fun _ => rfl⟩ w)
    clear h0 lt0 h1 e0 e1 e2 em1
    go_enter Try.func3, Try.ntmps3
    go_wp2_with fail
    refine (s0.out _).mono ?_
    rintro e w1 ⟨rfl, b1⟩
    have B1 : Hid (Below w.heap.size w w1) := Below.trans (by go_grown) (b1.mono (by simp only [World.size_alloc]; omega))
    clear b1
    go_wp2
    go_ret
    exact ⟨rfl, B1.out⟩
  by_cases lt : (n0 : Int) + (n1 : Int) + (n2 : Int) + ((m1 + sumSt xs1 : Nat) : Int) ≤ 1048576
  rotate_left
  · have s0 := Lib.hid (fun w => szHead_any g0 n0 n1 n2 1048576 (by omega) (by omega) (by unfold maxLen at wg; omega) (by unfold maxLen at wg; omega) (by unfold maxLen at wg; omega) (1048576 - ((n0 : Int) + (n1 : Int) + (n2 : Int))) ⟨fun _ => rfl, fun h => absurd lt0 h⟩ w)
    have s1 := Lib.hid (fun w h => szStopS_any (.slice s1 m1 p1) xs1 (1048576 - ((n0 : Int) + (n1 : Int) + (n2 : Int))) (by omega) (by omega) w h (by rw [← em1]; exact wm1) wt1 (-1) (by rw [if_neg (by rw [← em1]; omega)]))
    have f0 : ¬ (1048576 - ((n0 : Int) + (n1 : Int) + (n2 : Int)) < 0) := by omega
    have H1 := Lib.hid h1
    clear h0 lt0 lt h1 e0 e1 e2 em1
    go_enter Try.func3, Try.ntmps3
    go_wp2_with fail
    refine (s0.out _).mono ?_
    rintro e w1 ⟨rfl, b1⟩
    have B1 : Hid (Below w.heap.size w w1) := Below.trans (by go_grown) (b1.mono (by simp only [World.size_alloc]; omega))
    clear b1
    go_wp2_with fail
    refine (s1.out _ (H1.out.later B1.out)).mono ?_
    rintro e w2 ⟨rfl, b2⟩
    have B2 : Hid (Below w.heap.size w w2) := B1.out.trans (b2.mono B1.out.size)
    clear b2
    go_wp2
    go_ret
    exact ⟨rfl, B2.out⟩
  have lt' : (n0 : Int) + (n1 : Int) + (n2 : Int) + ((xs1.length + sumSt xs1 : Nat) : Int) ≤ 1048576 := by rw [← em1]; exact lt
  obtain ⟨r0, r1, c1, c2⟩ := exCostOf g0 n0 n1 n2 ⟨e0, e1, e2⟩ xs1 lt'
  exact costOf_law g0 n0 n1 n2 s1 p1 m1 xs1 w h0 h1 lt  r0 r1  c1 c2
end Go.Proofs.Ytmdddjhlfpmgdac
