/- The law of WornAt. -/
import Derived.Test.YtgockhlainnnnaaWornX
import Derived.Test.YtgockhlainnnnaaHeadB
import Derived.Test.YtgockhlainnnnaaOpenHd
import Derived.Test.YtgockhlainnnnaaStops3
import Derived.Deep.RegionHeld3
namespace Go.Proofs.Ytgockhlainnnnaa
open Go.ChangeShapes Go.WideShapes Go.ChangeAt Go.RowKit
set_option linter.unusedVariables false
set_option linter.unusedSimpArgs false

set_option maxRecDepth 100000 in
set_option maxHeartbeats 16000000 in
theorem wornAt_law (g0 : Hd) (n0 n1 n2 : Nat) (s1 : Option Addr) (p1 m1 : Nat) (xs1 : List Su) (a2 : Int) (w : World) (h0 : RdHd w n0 n1 n2 g0) (h1 : RdSt w (.slice s1 m1 p1) xs1) (lt : (n0 : Int) + (n1 : Int) + (n2 : Int) + ((m1 + sumSt xs1 : Nat) : Int) ≤ 1048576) (ys0 : List Int) (r1 : Bool) (ly0 : ys0.length ≤ 1048576)
    (c1 : Hid (∀ (w : World) (k0 : Hd) (v1 : Value) (zs1 : List Su), k0.same g0 → k0.caps n0 n1 n2 → RdHd w n0 n1 n2 k0 → RdSt w v1 zs1 → zs1.map Su.so = xs1.map Su.so → Calls Try.prog 20 #[(.agg #[.slice k0.ca n0 k0.cc, .slice k0.ha n1 k0.hc, .slice k0.sa n2 k0.sc, .int .i64 k0.p, .int .i64 k0.q]), v1, .int .i64 a2] w fun e w' => ∃ u0, e = .returned (.tuple #[u0, .bool r1]) ∧ OwnIC w' w.heap.size w'.heap.size u0 ys0 ∧ Below w.heap.size w w'))
    (c2 : Hid (∀ (w : World) (k0 : Hd) (v1 : Value) (zs1 : List Su), k0.same g0 → k0.caps n0 n1 n2 → RdHd w n0 n1 n2 k0 → RdSt w v1 zs1 → zs1.map Su.so = xs1.map Su.so → Calls Try.prog 21 #[(.agg #[.slice k0.ca n0 k0.cc, .slice k0.ha n1 k0.hc, .slice k0.sa n2 k0.sc, .int .i64 k0.p, .int .i64 k0.q]), v1, .int .i64 a2] w fun e w' => ∃ u0, e = .returned (.tuple #[u0, .bool r1]) ∧ OwnIC w' w.heap.size w'.heap.size u0 ys0 ∧ Below w.heap.size w w')) :
    Calls Try.prog 6 #[(.agg #[.slice g0.ca n0 g0.cc, .slice g0.ha n1 g0.hc, .slice g0.sa n2 g0.sc, .int .i64 g0.p, .int .i64 g0.q]), .slice s1 m1 p1, .int .i64 a2] w fun e w' => e = .returned (.bool true) ∧ Below w.heap.size w w' := by
  have H0 := Lib.hid h0
  have H1 := Lib.hid h1
  have em1 : m1 = xs1.length := by obtain ⟨_, _, e, _⟩ := h1.rows; simp only [Value.slice.injEq] at e; exact e.2.1
  have LY0 := Lib.hid ly0
  have T0 := Lib.hid (fun w h => toHead_any g0 n0 n1 n2 w h (by omega) (by omega) (by omega))
  have Q0 := Lib.hid (fun w (x y : Hd) (hx : RdHd w n0 n1 n2 x) (hy : RdHd w n0 n1 n2 y) hs => eqHead_same x y n0 n1 n2 w hx hy hs (by omega) (by omega) (by omega))
  have TL1 : ∀ x ∈ xs1, x.t.length ≤ 1048576 := fun x hx => by have := sumSt_mem hx; omega
  have T1 := Lib.hid (fun w h => toStopS_any (.slice s1 m1 p1) xs1 w h (by omega) TL1)
  rw [← em1] at T1
  have Q1 := Lib.hid (fun w a b (x y : List Su) hx hy (hs : x.map Su.so = xs1.map Su.so) (hs2 : y.map Su.so = xs1.map Su.so) => eqStopS_same a b x y w hx hy (hs.trans hs2.symm) (by have := map_so_len hs; omega) (fun z hz => by have := sumSt_mem hz; have := sumSt_so hs; omega))
  have EM1 := Lib.hid em1
  have S0 := Lib.hid (fun w => szHead_any g0 n0 n1 n2 1048576 (by omega) (by omega) (by omega) (by omega) (by omega) (1048576 - ((n0 : Int) + (n1 : Int) + (n2 : Int))) ⟨fun _ => rfl, fun h => absurd (by omega) h⟩ w)
  have f0 : ¬ (1048576 - ((n0 : Int) + (n1 : Int) + (n2 : Int)) < 0) := by omega
  have S1 := Lib.hid (fun w h => szStopS_any (.slice s1 m1 p1) xs1 (1048576 - ((n0 : Int) + (n1 : Int) + (n2 : Int))) (by omega) (by omega) w h (by unfold maxLen; omega) (fun x hx => by have := TL1 x hx; unfold maxLen; omega) (1048576 - ((n0 : Int) + (n1 : Int) + (n2 : Int)) - ((m1 + sumSt xs1 : Nat) : Int)) (by rw [em1, if_pos (by rw [← em1]; omega)]))
  have f1 : ¬ (1048576 - ((n0 : Int) + (n1 : Int) + (n2 : Int)) - ((m1 + sumSt xs1 : Nat) : Int) < 0) := by omega
  have ms1 : (m1 : Int) + sumSt xs1 ≤ 1048576 := by omega
  have ln : n0 ≤ 1048576 ∧ n1 ≤ 1048576 ∧ n2 ≤ 1048576 := by omega
  clear h0 h1 lt  ly0 em1 TL1
  go_enter Try.func6, Try.ntmps6
  go_wp2_with fail
  generalize hx : w.alloc (.cells #[.slice g0.ca n0 g0.cc, .slice g0.ha n1 g0.hc, .slice g0.sa n2 g0.sc, .int .i64 g0.p, .int .i64 g0.q] 25) = w0
  have E_0 : Hid (Below w.heap.size w w0) := by rw [← hx]; show Below _ _ _; go_grown
  have y0 : w.heap.size + 1 ≤ w0.heap.size := by rw [← hx]; simp
  have N_0 : Hid (w0.heap[w.heap.size]? = some (.cells #[.slice g0.ca n0 g0.cc, .slice g0.ha n1 g0.hc, .slice g0.sa n2 g0.sc, .int .i64 g0.p, .int .i64 g0.q] 25 (0, 0))) := by rw [← hx]; exact heap_alloc_new w _
  clear hx
  refine (S0.out _).mono ?_
  rintro e w1 ⟨rfl, b1⟩
  have z1 : w0.heap.size ≤ w1.heap.size := b1.size
  have y1 : w.heap.size + 1 ≤ w1.heap.size := by omega
  have E_1 : Hid (Below w.heap.size w w1) := E_0.out.trans (b1.mono (by omega))
  have N_1 := Lib.hid ((b1.block w.heap.size (by omega)).trans N_0.out)
  clear E_0 N_0   b1
  obtain ⟨⟨ka0, ka1, ka2, ka3, ka4⟩, -, -⟩ := boxedHd_at N_1.out
  go_wp2_with fail
  clear ka0 ka1 ka2 ka3 ka4
  refine (S1.out _ (H1.out.later E_1.out)).mono ?_
  rintro e w2 ⟨rfl, b2⟩
  have z2 : w1.heap.size ≤ w2.heap.size := b2.size
  have y2 : w.heap.size + 1 ≤ w2.heap.size := by omega
  have E_2 : Hid (Below w.heap.size w w2) := E_1.out.trans (b2.mono (by omega))
  have N_2 := Lib.hid ((b2.block w.heap.size (by omega)).trans N_1.out)
  clear E_1 N_1   b2
  obtain ⟨⟨ka0, ka1, ka2, ka3, ka4⟩, -, -⟩ := boxedHd_at N_2.out
  go_wp2_with fail
  clear ka0 ka1 ka2 ka3 ka4
  refine (T0.out _ (H0.out.later E_2.out)).mono ?_
  rintro e w3 ⟨ka0, rfl, sma0, o3, b3⟩
  have SMa0 := Lib.hid sma0
  clear sma0
  have z3 : w2.heap.size ≤ w3.heap.size := b3.size
  have y3 : w.heap.size + 1 ≤ w3.heap.size := by omega
  have E_3 : Hid (Below w.heap.size w w3) := E_2.out.trans (b3.mono (by omega))
  have N_3 := Lib.hid ((b3.block w.heap.size (by omega)).trans N_2.out)
  clear E_2 N_2   b3
  have Oa0_3 := Lib.hid o3
  clear o3
  obtain ⟨⟨ka0, ka1, ka2, ka3, ka4⟩, -, -⟩ := boxedHd_at N_3.out
  go_wp2_with fail
  clear ka0 ka1 ka2 ka3 ka4
  refine (T1.out _ (H1.out.later E_3.out)).mono ?_
  rintro e w4 ⟨aa1, ca1, zsa1, rfl, sma1, o4, b4⟩
  have SMa1 := Lib.hid sma1
  clear sma1
  have z4 : w3.heap.size ≤ w4.heap.size := b4.size
  have y4 : w.heap.size + 1 ≤ w4.heap.size := by omega
  have E_4 : Hid (Below w.heap.size w w4) := E_3.out.trans (b4.mono (by omega))
  have N_4 := Lib.hid ((b4.block w.heap.size (by omega)).trans N_3.out)
  have Oa0_4 := Lib.hid (Oa0_3.out.later b4)
  clear E_3 N_3  Oa0_3 b4
  have Oa1_4 := Lib.hid o4
  clear o4
  obtain ⟨⟨ka0, ka1, ka2, ka3, ka4⟩, -, -⟩ := boxedHd_at N_4.out
  go_wp2_with fail
  clear ka0 ka1 ka2 ka3 ka4
  refine (c1.out _ ka0 _ zsa1 SMa0.out Oa0_4.out.caps Oa0_4.out.rd Oa1_4.out.rd SMa1.out).mono ?_
  rintro e w5 ⟨uw0, rfl, orw0, b5⟩
  have z5 : w4.heap.size ≤ w5.heap.size := b5.size
  have y5 : w.heap.size + 1 ≤ w5.heap.size := by omega
  have E_5 : Hid (Below w.heap.size w w5) := E_4.out.trans (b5.mono (by omega))
  have N_5 := Lib.hid ((b5.block w.heap.size (by omega)).trans N_4.out)
  have Oa0_5 := Lib.hid (Oa0_4.out.later b5)
  have Oa1_5 := Lib.hid (Oa1_4.out.later b5)
  clear E_4 N_4  Oa0_4 Oa1_4 b5
  have Ow0_5 := Lib.hid orw0
  clear orw0
  clear Oa0_5
  clear Oa1_5
  obtain ⟨⟨ka0, ka1, ka2, ka3, ka4⟩, -, -⟩ := boxedHd_at N_5.out
  go_wp2_with fail
  clear ka0 ka1 ka2 ka3 ka4
  refine (T0.out _ (H0.out.later E_5.out)).mono ?_
  rintro e w6 ⟨kx0, rfl, smx0, o6, b6⟩
  have SMx0 := Lib.hid smx0
  clear smx0
  have z6 : w5.heap.size ≤ w6.heap.size := b6.size
  have y6 : w.heap.size + 1 ≤ w6.heap.size := by omega
  have E_6 : Hid (Below w.heap.size w w6) := E_5.out.trans (b6.mono (by omega))
  have N_6 := Lib.hid ((b6.block w.heap.size (by omega)).trans N_5.out)
  have Ow0_6 := Lib.hid (Ow0_5.out.later b6)
  clear E_5 N_5  Ow0_5 b6
  have Ox0_6 := Lib.hid o6
  clear o6
  obtain ⟨⟨ka0, ka1, ka2, ka3, ka4⟩, -, -⟩ := boxedHd_at N_6.out
  go_wp2_with fail
  clear ka0 ka1 ka2 ka3 ka4
  generalize hx : w6.alloc (.cells #[.slice kx0.ca n0 kx0.cc, .slice kx0.ha n1 kx0.hc, .slice kx0.sa n2 kx0.sc, .int .i64 kx0.p, .int .i64 kx0.q] 30) = w7
  have bb7 : Below w6.heap.size w6 w7 := by rw [← hx]; go_grown
  have zb7 : w7.heap.size = w6.heap.size + 1 := by rw [← hx]; simp
  have nb7 : w7.heap[w6.heap.size]? = some (.cells #[.slice kx0.ca n0 kx0.cc, .slice kx0.ha n1 kx0.hc, .slice kx0.sa n2 kx0.sc, .int .i64 kx0.p, .int .i64 kx0.q] 30 (0, 0)) := by rw [← hx]; exact heap_alloc_new _ _
  clear hx
  have z7 : w6.heap.size ≤ w7.heap.size := bb7.size
  have y7 : w.heap.size + 1 ≤ w7.heap.size := by omega
  have E_7 : Hid (Below w.heap.size w w7) := E_6.out.trans (bb7.mono (by omega))
  have N_7 := Lib.hid ((bb7.block w.heap.size (by omega)).trans N_6.out)
  have Ow0_7 := Lib.hid (Ow0_6.out.later bb7)
  have Ox0_7 := Lib.hid (Ox0_6.out.later bb7)
  clear E_6 N_6  Ow0_6 Ox0_6 bb7
  have X_7 := Lib.hid nb7
  clear nb7
  refine (T1.out _ (H1.out.later E_7.out)).mono ?_
  rintro e w8 ⟨ax1, cx1, zsx1, rfl, smx1, o8, b8⟩
  have SMx1 := Lib.hid smx1
  clear smx1
  have z8 : w7.heap.size ≤ w8.heap.size := b8.size
  have y8 : w.heap.size + 1 ≤ w8.heap.size := by omega
  have E_8 : Hid (Below w.heap.size w w8) := E_7.out.trans (b8.mono (by omega))
  have N_8 := Lib.hid ((b8.block w.heap.size (by omega)).trans N_7.out)
  have X_8 := Lib.hid ((b8.block w6.heap.size (by omega)).trans X_7.out)
  have Ow0_8 := Lib.hid (Ow0_7.out.later b8)
  have Ox0_8 := Lib.hid (Ox0_7.out.later b8)
  clear E_7 N_7 X_7 Ow0_7 Ox0_7 b8
  have Ox1_8 := Lib.hid o8
  clear o8
  obtain ⟨⟨ka0, ka1, ka2, ka3, ka4⟩, -, -⟩ := boxedHd_at N_8.out
  obtain ⟨⟨kx0, kx1, kx2, kx3, kx4⟩, -, -⟩ := boxedHd_at X_8.out
  go_wp2_with fail
  clear ka0 ka1 ka2 ka3 ka4 kx0 kx1 kx2 kx3 kx4
  refine (c2.out _ kx0 _ zsx1 SMx0.out Ox0_8.out.caps Ox0_8.out.rd Ox1_8.out.rd SMx1.out).mono ?_
  rintro e w9 ⟨ug0, rfl, org0, b9⟩
  have z9 : w8.heap.size ≤ w9.heap.size := b9.size
  have y9 : w.heap.size + 1 ≤ w9.heap.size := by omega
  have E_9 : Hid (Below w.heap.size w w9) := E_8.out.trans (b9.mono (by omega))
  have N_9 := Lib.hid ((b9.block w.heap.size (by omega)).trans N_8.out)
  have X_9 := Lib.hid ((b9.block w6.heap.size (by omega)).trans X_8.out)
  have Ow0_9 := Lib.hid (Ow0_8.out.later b9)
  have Ox0_9 := Lib.hid (Ox0_8.out.later b9)
  have Ox1_9 := Lib.hid (Ox1_8.out.later b9)
  clear E_8 N_8 X_8 Ow0_8 Ox0_8 Ox1_8 b9
  have Og0_9 := Lib.hid org0
  clear org0
  obtain ⟨⟨ka0, ka1, ka2, ka3, ka4⟩, -, -⟩ := boxedHd_at N_9.out
  obtain ⟨⟨kx0, kx1, kx2, kx3, kx4⟩, -, -⟩ := boxedHd_at X_9.out
  go_wp2_with fail
  clear ka0 ka1 ka2 ka3 ka4 kx0 kx1 kx2 kx3 kx4
  refine (eqInt64S_same _ _ ys0 _ Og0_9.out.rd Ow0_9.out.rd (by have := LY0.out; omega)).mono ?_
  rintro e w10 ⟨rfl, b10⟩
  have z10 : w9.heap.size ≤ w10.heap.size := b10.size
  have y10 : w.heap.size + 1 ≤ w10.heap.size := by omega
  have E_10 : Hid (Below w.heap.size w w10) := E_9.out.trans (b10.mono (by omega))
  have N_10 := Lib.hid ((b10.block w.heap.size (by omega)).trans N_9.out)
  have X_10 := Lib.hid ((b10.block w6.heap.size (by omega)).trans X_9.out)
  have Ow0_10 := Lib.hid (Ow0_9.out.later b10)
  have Ox0_10 := Lib.hid (Ox0_9.out.later b10)
  have Ox1_10 := Lib.hid (Ox1_9.out.later b10)
  have Og0_10 := Lib.hid (Og0_9.out.later b10)
  clear E_9 N_9 X_9 Ow0_9 Ox0_9 Ox1_9 Og0_9 b10
  have KS : Hid (∀ w', Below w10.heap.size w10 w' → (w'.cell? ⟨w.heap.size, 0, none⟩ = some (.slice g0.ca n0 g0.cc) ∧ w'.cell? ⟨w.heap.size, 1, none⟩ = some (.slice g0.ha n1 g0.hc) ∧ w'.cell? ⟨w.heap.size, 2, none⟩ = some (.slice g0.sa n2 g0.sc) ∧ w'.cell? ⟨w.heap.size, 3, none⟩ = some (.int .i64 g0.p) ∧ w'.cell? ⟨w.heap.size, 4, none⟩ = some (.int .i64 g0.q) ∧ w'.cell? ⟨w6.heap.size, 0, none⟩ = some (.slice kx0.ca n0 kx0.cc) ∧ w'.cell? ⟨w6.heap.size, 1, none⟩ = some (.slice kx0.ha n1 kx0.hc) ∧ w'.cell? ⟨w6.heap.size, 2, none⟩ = some (.slice kx0.sa n2 kx0.sc) ∧ w'.cell? ⟨w6.heap.size, 3, none⟩ = some (.int .i64 kx0.p) ∧ w'.cell? ⟨w6.heap.size, 4, none⟩ = some (.int .i64 kx0.q))) := by
    intro w' hb
    obtain ⟨⟨ka0, ka1, ka2, ka3, ka4⟩, -, -⟩ := boxedHd_at ((hb.block w.heap.size (by omega)).trans N_10.out)
    obtain ⟨⟨kx0, kx1, kx2, kx3, kx4⟩, -, -⟩ := boxedHd_at ((hb.block w6.heap.size (by omega)).trans X_10.out)
    exact ⟨ka0, ka1, ka2, ka3, ka4, kx0, kx1, kx2, kx3, kx4⟩
  obtain ⟨⟨ka0, ka1, ka2, ka3, ka4⟩, -, -⟩ := boxedHd_at N_10.out
  obtain ⟨⟨kx0, kx1, kx2, kx3, kx4⟩, -, -⟩ := boxedHd_at X_10.out
  go_wp2_with fail
  clear ka0 ka1 ka2 ka3 ka4 kx0 kx1 kx2 kx3 kx4
  go_region_held3 (fun w' => (w'.cell? ⟨w.heap.size, 0, none⟩ = some (.slice g0.ca n0 g0.cc) ∧ w'.cell? ⟨w.heap.size, 1, none⟩ = some (.slice g0.ha n1 g0.hc) ∧ w'.cell? ⟨w.heap.size, 2, none⟩ = some (.slice g0.sa n2 g0.sc) ∧ w'.cell? ⟨w.heap.size, 3, none⟩ = some (.int .i64 g0.p) ∧ w'.cell? ⟨w.heap.size, 4, none⟩ = some (.int .i64 g0.q) ∧ w'.cell? ⟨w6.heap.size, 0, none⟩ = some (.slice kx0.ca n0 kx0.cc) ∧ w'.cell? ⟨w6.heap.size, 1, none⟩ = some (.slice kx0.ha n1 kx0.hc) ∧ w'.cell? ⟨w6.heap.size, 2, none⟩ = some (.slice kx0.sa n2 kx0.sc) ∧ w'.cell? ⟨w6.heap.size, 3, none⟩ = some (.int .i64 kx0.p) ∧ w'.cell? ⟨w6.heap.size, 4, none⟩ = some (.int .i64 kx0.q)))
    (first | exact KS.out _ D12.out | exact KS.out _ D11.out | exact KS.out _ (Below.refl _ _).drew)
    (first
      | (go_at_call 10; refine (T0.out _ (H0.out.later E_10.out.drew)).mono ?_; rintro e w11 ⟨k11, rfl, sm11, o11, b11⟩; have D11 : Hid (Below w10.heap.size w10 w11) := (Below.refl _ _).drew.trans b11; have QF := Lib.hid (Q0.out w11 kx0 k11 (Ox0_10.out.rd.later D11.out) o11.rd (SMx0.out.trans' sm11)))
      | (go_at_call 12; refine QF.out.mono ?_; rintro e w12 ⟨rfl, b12⟩; have D12 : Hid (Below w10.heap.size w10 w12) := D11.out.trans (b12.mono D11.out.size)))
  rename_i hHeld
  have d12 := D12.out
  clear hHeld D12 D11 QF KS o11 b11 b12 sm11
  have z12 : w10.heap.size ≤ w12.heap.size := d12.size
  have y12 : w.heap.size + 1 ≤ w12.heap.size := by omega
  have E_12 : Hid (Below w.heap.size w w12) := E_10.out.trans (d12.mono (by omega))
  have N_12 := Lib.hid ((d12.block w.heap.size (by omega)).trans N_10.out)
  have X_12 := Lib.hid ((d12.block w6.heap.size (by omega)).trans X_10.out)
  have Ow0_12 := Lib.hid (Ow0_10.out.later d12)
  have Ox0_12 := Lib.hid (Ox0_10.out.later d12)
  have Ox1_12 := Lib.hid (Ox1_10.out.later d12)
  have Og0_12 := Lib.hid (Og0_10.out.later d12)
  clear E_10 N_10 X_10 Ow0_10 Ox0_10 Ox1_10 Og0_10 d12
  obtain ⟨⟨ka0, ka1, ka2, ka3, ka4⟩, -, -⟩ := boxedHd_at N_12.out
  obtain ⟨⟨kx0, kx1, kx2, kx3, kx4⟩, -, -⟩ := boxedHd_at X_12.out
  go_wp2_with fail
  clear ka0 ka1 ka2 ka3 ka4 kx0 kx1 kx2 kx3 kx4
  refine (T1.out _ (H1.out.later E_12.out)).mono ?_
  rintro e w13 ⟨at1, ct1, zst1, rfl, smt1, o13, b13⟩
  have SMt1 := Lib.hid smt1
  clear smt1
  have z13 : w12.heap.size ≤ w13.heap.size := b13.size
  have y13 : w.heap.size + 1 ≤ w13.heap.size := by omega
  have E_13 : Hid (Below w.heap.size w w13) := E_12.out.trans (b13.mono (by omega))
  have N_13 := Lib.hid ((b13.block w.heap.size (by omega)).trans N_12.out)
  have X_13 := Lib.hid ((b13.block w6.heap.size (by omega)).trans X_12.out)
  have Ow0_13 := Lib.hid (Ow0_12.out.later b13)
  have Ox0_13 := Lib.hid (Ox0_12.out.later b13)
  have Ox1_13 := Lib.hid (Ox1_12.out.later b13)
  have Og0_13 := Lib.hid (Og0_12.out.later b13)
  clear E_12 N_12 X_12 Ow0_12 Ox0_12 Ox1_12 Og0_12 b13
  have Ot1_13 := Lib.hid o13
  clear o13
  obtain ⟨⟨ka0, ka1, ka2, ka3, ka4⟩, -, -⟩ := boxedHd_at N_13.out
  obtain ⟨⟨kx0, kx1, kx2, kx3, kx4⟩, -, -⟩ := boxedHd_at X_13.out
  go_wp2_with fail
  clear ka0 ka1 ka2 ka3 ka4 kx0 kx1 kx2 kx3 kx4
  refine (Q1.out _ _ _ zsx1 zst1 Ox1_13.out.rd Ot1_13.out.rd SMx1.out SMt1.out).mono ?_
  rintro e w14 ⟨rfl, b14⟩
  have z14 : w13.heap.size ≤ w14.heap.size := b14.size
  have y14 : w.heap.size + 1 ≤ w14.heap.size := by omega
  have E_14 : Hid (Below w.heap.size w w14) := E_13.out.trans (b14.mono (by omega))
  have N_14 := Lib.hid ((b14.block w.heap.size (by omega)).trans N_13.out)
  have X_14 := Lib.hid ((b14.block w6.heap.size (by omega)).trans X_13.out)
  have Ow0_14 := Lib.hid (Ow0_13.out.later b14)
  have Ox0_14 := Lib.hid (Ox0_13.out.later b14)
  have Ox1_14 := Lib.hid (Ox1_13.out.later b14)
  have Og0_14 := Lib.hid (Og0_13.out.later b14)
  have Ot1_14 := Lib.hid (Ot1_13.out.later b14)
  clear E_13 N_13 X_13 Ow0_13 Ox0_13 Ox1_13 Og0_13 Ot1_13 b14
  clear Ot1_14
  obtain ⟨⟨ka0, ka1, ka2, ka3, ka4⟩, -, -⟩ := boxedHd_at N_14.out
  obtain ⟨⟨kx0, kx1, kx2, kx3, kx4⟩, -, -⟩ := boxedHd_at X_14.out
  go_wp2_with fail
  clear ka0 ka1 ka2 ka3 ka4 kx0 kx1 kx2 kx3 kx4
  refine (markHead_any kx0 n0 n1 n2 _ _ _ Ox0_14.out (by omega) (by omega) (by omega) 1 (by omega) (by omega)).mono ?_
  rintro e w15 ⟨⟨zq, rfl, zq0, zq1⟩, g15_⟩
  have z15 : w14.heap.size ≤ w15.heap.size := g15_.size
  have y15 : w.heap.size + 1 ≤ w15.heap.size := by omega
  have E_15 : Hid (Below w.heap.size w w15) := g15_.below E_14.out (by omega) (by omega)
  have N_15 := Lib.hid ((g15_.block w.heap.size (by omega) (by omega)).trans N_14.out)
  have X_15 := Lib.hid ((g15_.block w6.heap.size (by omega) (by omega)).trans X_14.out)
  have Ow0_15 := Lib.hid (Ow0_14.out.chg g15_ (by omega))
  have Ox1_15 := Lib.hid (Ox1_14.out.chg g15_ (by omega))
  have Og0_15 := Lib.hid (Og0_14.out.chg g15_ (by omega))
  clear E_14 N_14 X_14 Ow0_14 Ox0_14 Ox1_14 Og0_14 g15_
  obtain ⟨⟨ka0, ka1, ka2, ka3, ka4⟩, -, -⟩ := boxedHd_at N_15.out
  obtain ⟨⟨kx0, kx1, kx2, kx3, kx4⟩, -, -⟩ := boxedHd_at X_15.out
  go_wp2_with fail
  clear ka0 ka1 ka2 ka3 ka4 kx0 kx1 kx2 kx3 kx4
  refine (markStopS_any _ zsx1 _ _ _ Ox1_15.out (by have := map_so_len SMx1.out; have := EM1.out; omega) (by have := sumSt_so SMx1.out; omega) (zq) (by omega) (by omega)).mono ?_
  rintro e w16 ⟨rfl, -, g16_, -⟩
  have hz1 : 0 ≤ zq + ((zsx1.length + sumSt zsx1 : Nat) : Int) := by omega
  have z16 : w15.heap.size ≤ w16.heap.size := g16_.size
  have y16 : w.heap.size + 1 ≤ w16.heap.size := by omega
  have E_16 : Hid (Below w.heap.size w w16) := g16_.below E_15.out (by omega) (by omega)
  have N_16 := Lib.hid ((g16_.block w.heap.size (by omega) (by omega)).trans N_15.out)
  have X_16 := Lib.hid ((g16_.block w6.heap.size (by omega) (by omega)).trans X_15.out)
  have Ow0_16 := Lib.hid (Ow0_15.out.chg g16_ (by omega))
  have Og0_16 := Lib.hid (Og0_15.out.chg g16_ (by omega))
  clear E_15 N_15 X_15 Ow0_15 Ox1_15 Og0_15 g16_
  have kneg : ¬ (zq + ((zsx1.length + sumSt zsx1 : Nat) : Int) < 0) := by omega
  obtain ⟨⟨ka0, ka1, ka2, ka3, ka4⟩, -, -⟩ := boxedHd_at N_16.out
  obtain ⟨⟨kx0, kx1, kx2, kx3, kx4⟩, -, -⟩ := boxedHd_at X_16.out
  go_wp2_with fail
  clear ka0 ka1 ka2 ka3 ka4 kx0 kx1 kx2 kx3 kx4
  refine (eqInt64S_same _ _ ys0 _ Og0_16.out.rd Ow0_16.out.rd (by have := LY0.out; omega)).mono ?_
  rintro e w17 ⟨rfl, b17⟩
  have z17 : w16.heap.size ≤ w17.heap.size := b17.size
  have y17 : w.heap.size + 1 ≤ w17.heap.size := by omega
  have E_17 : Hid (Below w.heap.size w w17) := E_16.out.trans (b17.mono (by omega))
  have N_17 := Lib.hid ((b17.block w.heap.size (by omega)).trans N_16.out)
  have X_17 := Lib.hid ((b17.block w6.heap.size (by omega)).trans X_16.out)
  have Ow0_17 := Lib.hid (Ow0_16.out.later b17)
  have Og0_17 := Lib.hid (Og0_16.out.later b17)
  clear E_16 N_16 X_16 Ow0_16 Og0_16 b17
  clear kneg
  obtain ⟨⟨ka0, ka1, ka2, ka3, ka4⟩, -, -⟩ := boxedHd_at N_17.out
  obtain ⟨⟨kx0, kx1, kx2, kx3, kx4⟩, -, -⟩ := boxedHd_at X_17.out
  go_wp2_with fail
  clear ka0 ka1 ka2 ka3 ka4 kx0 kx1 kx2 kx3 kx4
  refine (markInts_any _ ys0 _ _ Og0_17.out.own (by have := LY0.out; omega) (1) (by omega) (by omega)).mono ?_
  rintro e w18 ⟨rfl, og180, g180⟩
  have g18_ := Chg.of_grown g180 (fun b hb => ⟨(Og0_17.out.own.lt b hb).1, Og0_17.out.b b hb⟩)
  have og18 : OwnIC w18 _ _ _ _ := ⟨og180, Og0_17.out.b, Nat.le_trans Og0_17.out.cb g180.size⟩
  clear g180 og180
  have keepg := Lib.hid og18
  clear og18
  clear Og0_17
  have z18 : w17.heap.size ≤ w18.heap.size := g18_.size
  have y18 : w.heap.size + 1 ≤ w18.heap.size := by omega
  have E_18 : Hid (Below w.heap.size w w18) := g18_.below E_17.out (by omega) (by omega)
  have N_18 := Lib.hid ((g18_.block w.heap.size (by omega) (by omega)).trans N_17.out)
  have X_18 := Lib.hid ((g18_.block w6.heap.size (by omega) (by omega)).trans X_17.out)
  have Ow0_18 := Lib.hid (Ow0_17.out.chg g18_ (by omega))
  clear E_17 N_17 X_17 Ow0_17 g18_
  have Og0_18 := keepg
  clear keepg
  have mneg0 : ¬ (1 + (ys0.length : Int) < 0) := by have := LY0.out; omega
  obtain ⟨⟨ka0, ka1, ka2, ka3, ka4⟩, -, -⟩ := boxedHd_at N_18.out
  obtain ⟨⟨kx0, kx1, kx2, kx3, kx4⟩, -, -⟩ := boxedHd_at X_18.out
  go_wp2_with fail
  clear ka0 ka1 ka2 ka3 ka4 kx0 kx1 kx2 kx3 kx4
  refine (heldInts_any _ ys0.length (1) _ Og0_18.out.rd (by have := LY0.out; omega) (by omega) (by omega)).mono ?_
  rintro e w' ⟨rfl, rfl⟩
  obtain ⟨⟨ka0, ka1, ka2, ka3, ka4⟩, -, -⟩ := boxedHd_at N_18.out
  obtain ⟨⟨kx0, kx1, kx2, kx3, kx4⟩, -, -⟩ := boxedHd_at X_18.out
  go_wp2_with fail
  clear ka0 ka1 ka2 ka3 ka4 kx0 kx1 kx2 kx3 kx4
  refine (T0.out _ (H0.out.later E_18.out)).mono ?_
  rintro e w19 ⟨kb0, rfl, smb0, o19, b19⟩
  have SMb0 := Lib.hid smb0
  clear smb0
  have z19 : w18.heap.size ≤ w19.heap.size := b19.size
  have y19 : w.heap.size + 1 ≤ w19.heap.size := by omega
  have E_19 : Hid (Below w.heap.size w w19) := E_18.out.trans (b19.mono (by omega))
  have N_19 := Lib.hid ((b19.block w.heap.size (by omega)).trans N_18.out)
  have X_19 := Lib.hid ((b19.block w6.heap.size (by omega)).trans X_18.out)
  have Ow0_19 := Lib.hid (Ow0_18.out.later b19)
  have Og0_19 := Lib.hid (Og0_18.out.later b19)
  clear E_18 N_18 X_18 Ow0_18 Og0_18 b19
  have Ob0_19 := Lib.hid o19
  clear o19
  obtain ⟨⟨ka0, ka1, ka2, ka3, ka4⟩, -, -⟩ := boxedHd_at N_19.out
  obtain ⟨⟨kx0, kx1, kx2, kx3, kx4⟩, -, -⟩ := boxedHd_at X_19.out
  go_wp2_with fail
  clear ka0 ka1 ka2 ka3 ka4 kx0 kx1 kx2 kx3 kx4
  refine (T1.out _ (H1.out.later E_19.out)).mono ?_
  rintro e w20 ⟨ab1, cb1, zsb1, rfl, smb1, o20, b20⟩
  have SMb1 := Lib.hid smb1
  clear smb1
  have z20 : w19.heap.size ≤ w20.heap.size := b20.size
  have y20 : w.heap.size + 1 ≤ w20.heap.size := by omega
  have E_20 : Hid (Below w.heap.size w w20) := E_19.out.trans (b20.mono (by omega))
  have N_20 := Lib.hid ((b20.block w.heap.size (by omega)).trans N_19.out)
  have X_20 := Lib.hid ((b20.block w6.heap.size (by omega)).trans X_19.out)
  have Ow0_20 := Lib.hid (Ow0_19.out.later b20)
  have Og0_20 := Lib.hid (Og0_19.out.later b20)
  have Ob0_20 := Lib.hid (Ob0_19.out.later b20)
  clear E_19 N_19 X_19 Ow0_19 Og0_19 Ob0_19 b20
  have Ob1_20 := Lib.hid o20
  clear o20
  obtain ⟨⟨ka0, ka1, ka2, ka3, ka4⟩, -, -⟩ := boxedHd_at N_20.out
  obtain ⟨⟨kx0, kx1, kx2, kx3, kx4⟩, -, -⟩ := boxedHd_at X_20.out
  go_wp2_with fail
  clear ka0 ka1 ka2 ka3 ka4 kx0 kx1 kx2 kx3 kx4
  refine (c2.out _ kb0 _ zsb1 SMb0.out Ob0_20.out.caps Ob0_20.out.rd Ob1_20.out.rd SMb1.out).mono ?_
  rintro e w21 ⟨uh0, rfl, orh0, b21⟩
  have z21 : w20.heap.size ≤ w21.heap.size := b21.size
  have y21 : w.heap.size + 1 ≤ w21.heap.size := by omega
  have E_21 : Hid (Below w.heap.size w w21) := E_20.out.trans (b21.mono (by omega))
  have N_21 := Lib.hid ((b21.block w.heap.size (by omega)).trans N_20.out)
  have X_21 := Lib.hid ((b21.block w6.heap.size (by omega)).trans X_20.out)
  have Ow0_21 := Lib.hid (Ow0_20.out.later b21)
  have Og0_21 := Lib.hid (Og0_20.out.later b21)
  have Ob0_21 := Lib.hid (Ob0_20.out.later b21)
  have Ob1_21 := Lib.hid (Ob1_20.out.later b21)
  clear E_20 N_20 X_20 Ow0_20 Og0_20 Ob0_20 Ob1_20 b21
  have Oh0_21 := Lib.hid orh0
  clear orh0
  clear Ob0_21
  clear Ob1_21
  obtain ⟨⟨ka0, ka1, ka2, ka3, ka4⟩, -, -⟩ := boxedHd_at N_21.out
  obtain ⟨⟨kx0, kx1, kx2, kx3, kx4⟩, -, -⟩ := boxedHd_at X_21.out
  go_wp2_with fail
  clear ka0 ka1 ka2 ka3 ka4 kx0 kx1 kx2 kx3 kx4
  refine (eqInt64S_same _ _ ys0 _ Oh0_21.out.rd Ow0_21.out.rd (by have := LY0.out; omega)).mono ?_
  rintro e w22 ⟨rfl, b22⟩
  have z22 : w21.heap.size ≤ w22.heap.size := b22.size
  have y22 : w.heap.size + 1 ≤ w22.heap.size := by omega
  have E_22 : Hid (Below w.heap.size w w22) := E_21.out.trans (b22.mono (by omega))
  have N_22 := Lib.hid ((b22.block w.heap.size (by omega)).trans N_21.out)
  have X_22 := Lib.hid ((b22.block w6.heap.size (by omega)).trans X_21.out)
  have Ow0_22 := Lib.hid (Ow0_21.out.later b22)
  have Og0_22 := Lib.hid (Og0_21.out.later b22)
  have Oh0_22 := Lib.hid (Oh0_21.out.later b22)
  clear E_21 N_21 X_21 Ow0_21 Og0_21 Oh0_21 b22
  obtain ⟨⟨ka0, ka1, ka2, ka3, ka4⟩, -, -⟩ := boxedHd_at N_22.out
  obtain ⟨⟨kx0, kx1, kx2, kx3, kx4⟩, -, -⟩ := boxedHd_at X_22.out
  go_wp2_with fail
  clear ka0 ka1 ka2 ka3 ka4 kx0 kx1 kx2 kx3 kx4
  refine (heldInts_any _ ys0.length (1) _ Og0_22.out.rd (by have := LY0.out; omega) (by omega) (by omega)).mono ?_
  rintro e w' ⟨rfl, rfl⟩
  obtain ⟨⟨ka0, ka1, ka2, ka3, ka4⟩, -, -⟩ := boxedHd_at N_22.out
  obtain ⟨⟨kx0, kx1, kx2, kx3, kx4⟩, -, -⟩ := boxedHd_at X_22.out
  go_wp2
  go_ret
  exact ⟨rfl, E_22.out⟩

set_option maxRecDepth 100000 in
theorem walkFnExactWornAt (w : World) (g0 : Hd) (n0 n1 n2 : Nat) (wg : n0 ≤ maxLen ∧ n1 ≤ maxLen ∧ n2 ≤ maxLen) (h0 : RdHd w n0 n1 n2 g0) (s1 : Option Addr) (p1 m1 : Nat) (xs1 : List Su) (h1 : RdSt w (.slice s1 m1 p1) xs1) (wm1 : m1 ≤ maxLen) (wt1 : ∀ x ∈ xs1, x.t.length ≤ maxLen) (a2 : Int) (wa2 : (Lit.int .i64 a2).wf = true) :
    Calls Try.prog 6 #[(.agg #[.slice g0.ca n0 g0.cc, .slice g0.ha n1 g0.hc, .slice g0.sa n2 g0.sc, .int .i64 g0.p, .int .i64 g0.q]), .slice s1 m1 p1, .int .i64 a2] w fun e w' => e = .returned (.bool true) ∧ Below w.heap.size w w' := by
  obtain ⟨e0, e1, e2⟩ := h0.len
  have em1 : m1 = xs1.length := by obtain ⟨_, _, e, _⟩ := h1.rows; simp only [Value.slice.injEq] at e; exact e.2.1
  by_cases lt0 : (n0 : Int) + (n1 : Int) + (n2 : Int) ≤ 1048576
  rotate_left
  · have s0 := Lib.hid (fun w => szHead_any g0 n0 n1 n2 1048576 (by omega) (by omega) (by unfold maxLen at wg; omega) (by unfold maxLen at wg; omega) (by unfold maxLen at wg; omega) (-1) ⟨fun h => absurd h lt0, fun _ => rfl⟩ w)
    clear h0 lt0 h1 e0 e1 e2 em1
    go_enter Try.func6, Try.ntmps6
    go_wp2_with fail
    refine (s0.out _).mono ?_
    rintro e w1 ⟨rfl, b1⟩
    have B1 : Hid (Below w.heap.size w w1) := Below.trans (by go_grown) (b1.mono (by simp only [World.size_alloc]; omega))
    clear b1
    go_wp2
    go_ret
    exact ⟨rfl, B1.out⟩
  by_cases lt : (n0 : Int) + (n1 : Int) + (n2 : Int) + ((m1 + sumSt xs1 : Nat) : Int) ≤ 1048576
  rotate_left
  · have s0 := Lib.hid (fun w => szHead_any g0 n0 n1 n2 1048576 (by omega) (by omega) (by unfold maxLen at wg; omega) (by unfold maxLen at wg; omega) (by unfold maxLen at wg; omega) (1048576 - ((n0 : Int) + (n1 : Int) + (n2 : Int))) ⟨fun _ => rfl, fun h => absurd lt0 h⟩ w)
    have s1 := Lib.hid (fun w h => szStopS_any (.slice s1 m1 p1) xs1 (1048576 - ((n0 : Int) + (n1 : Int) + (n2 : Int))) (by omega) (by omega) w h (by rw [← em1]; exact wm1) wt1 (-1) (by rw [if_neg (by rw [← em1]; omega)]))
    have f0 : ¬ (1048576 - ((n0 : Int) + (n1 : Int) + (n2 : Int)) < 0) := by omega
    have H1 := Lib.hid h1
    clear h0 lt0 lt h1 e0 e1 e2 em1
    go_enter Try.func6, Try.ntmps6
    go_wp2_with fail
    refine (s0.out _).mono ?_
    rintro e w1 ⟨rfl, b1⟩
    have B1 : Hid (Below w.heap.size w w1) := Below.trans (by go_grown) (b1.mono (by simp only [World.size_alloc]; omega))
    clear b1
    go_wp2_with fail
    refine (s1.out _ (H1.out.later B1.out)).mono ?_
    rintro e w2 ⟨rfl, b2⟩
    have B2 : Hid (Below w.heap.size w w2) := B1.out.trans (b2.mono B1.out.size)
    clear b2
    go_wp2
    go_ret
    exact ⟨rfl, B2.out⟩
  have lt' : (n0 : Int) + (n1 : Int) + (n2 : Int) + ((xs1.length + sumSt xs1 : Nat) : Int) ≤ 1048576 := by rw [← em1]; exact lt
  obtain ⟨ys0, r1, ly0, c1, c2⟩ := exWornAt g0 n0 n1 n2 ⟨e0, e1, e2⟩ xs1 a2 lt'
  exact wornAt_law g0 n0 n1 n2 s1 p1 m1 xs1 a2 w h0 h1 lt  ys0 r1 ly0 c1 c2
end Go.Proofs.Ytgockhlainnnnaa
