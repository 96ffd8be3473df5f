/- The law of RedundanciesOf. -/
import Derived.Test.YtcmocilojloolaaDoorAdjX
import Derived.Test.YtcmocilojloolaaDoorSurvA
import Derived.Test.YtcmocilojloolaaDoorOpenSv
import Derived.Deep.RegionHeld3
namespace Go.Proofs.YtcmocilojloolaaDoor
open Go.ChangeShapes Go.WideShapes Go.ChangeAt Go.RowKit
set_option linter.unusedVariables false
set_option linter.unusedSimpArgs false

set_option maxRecDepth 100000 in
set_option maxHeartbeats 16000000 in
theorem redundanciesOf_law (g0 : Sv) (n0 : Nat) (w : World) (hT : TSv w) (h0 : RdSv w n0 g0) (lt : (n0 : Int) ≤ 1048576) (r0 : Int) (ys1 : List Int) (r2 : Bool) (ly1 : ys1.length ≤ 1048576)
    (c1 : Hid (∀ (w : World) (k0 : Sv), TSv w → k0.same g0 → k0.caps n0 → RdSv w n0 k0 → Calls Tryd.prog 36 #[(.agg #[.int .i64 k0.p, .slice k0.xa n0 k0.xc])] w fun e w' => ∃ u1, e = .returned (.tuple #[.int .i64 r0, u1, .bool r2]) ∧ OwnIC w' w.heap.size w'.heap.size u1 ys1 ∧ Below w.heap.size w w'))
    (c2 : Hid (∀ (w : World) (k0 : Sv), TSv w → k0.same g0 → k0.caps n0 → RdSv w n0 k0 → Calls Tryd.prog 37 #[(.agg #[.int .i64 k0.p, .slice k0.xa n0 k0.xc])] w fun e w' => ∃ u1, e = .returned (.tuple #[.int .i64 r0, u1, .bool r2]) ∧ OwnIC w' w.heap.size w'.heap.size u1 ys1 ∧ Below w.heap.size w w')) :
    Calls Tryd.prog 10 #[(.agg #[.int .i64 g0.p, .slice g0.xa n0 g0.xc])] w fun e w' => e = .returned (.bool true) ∧ Below w.heap.size w w' := by
  have HT := Lib.hid hT
  have H0 := Lib.hid h0
  have e0 := h0.len
  have LY1 := Lib.hid ly1
  have T0 := Lib.hid (fun w h => toSurvey_any g0 n0 w h (by omega))
  have Q0 := Lib.hid (fun w (x y : Sv) (hx : RdSv w n0 x) (hy : RdSv w n0 y) hs (hg : x.same g0) => eqSurvey_same x y n0 w hx hy hs (by omega))
  have M0 := Lib.hid (fun w (x : Sv) B C (h : OwnSv w B C n0 x) (hg : x.same g0) => markSurvey_any x n0 w B C h (by omega) 1 (by omega) (by omega))
  have S0 := Lib.hid (fun w => szSurvey_any g0 n0 1048576 (by omega) (by omega) w (by unfold maxLen; omega) (1048576 - (n0 : Int)) (by rw [if_pos (by omega)]))
  have f0 : ¬ (1048576 - (n0 : Int) < 0) := by omega
  have ln : n0 ≤ 1048576 := by omega
  clear h0  lt ly1   e0 hT
  go_enter Tryd.func10, Tryd.ntmps10
  go_wp2_with fail
  generalize hx : w.alloc (.cells #[.int .i64 g0.p, .slice g0.xa n0 g0.xc] 38) = w0
  have E_0 : Hid (Below w.heap.size w w0) := by rw [← hx]; show Below _ _ _; go_grown
  have y0_ : w.heap.size + 1 ≤ w0.heap.size := by rw [← hx]; simp
  have N_0 : Hid (w0.heap[w.heap.size]? = some (.cells #[.int .i64 g0.p, .slice g0.xa n0 g0.xc] 38 (0, 0))) := by rw [← hx]; exact heap_alloc_new w _
  clear hx
  refine (S0.out _).mono ?_
  rintro e w1 ⟨rfl, b1⟩
  have z1 : w0.heap.size ≤ w1.heap.size := b1.size
  have y1_ : w.heap.size + 1 ≤ w1.heap.size := by omega
  have E_1 : Hid (Below w.heap.size w w1) := E_0.out.trans (b1.mono (by omega))
  have N_1 := Lib.hid ((b1.block w.heap.size (by omega)).trans N_0.out)
  clear E_0 N_0   b1
  obtain ⟨⟨ka0, ka1⟩, -, -⟩ := boxedSv_at N_1.out
  go_wp2_with fail
  clear ka0 ka1
  refine (T0.out _ (H0.out.later E_1.out)).mono ?_
  rintro e w2 ⟨ka0, rfl, sma0, o2, b2⟩
  have SMa0 := Lib.hid sma0
  clear sma0
  have z2 : w1.heap.size ≤ w2.heap.size := b2.size
  have y2_ : w.heap.size + 1 ≤ w2.heap.size := by omega
  have E_2 : Hid (Below w.heap.size w w2) := E_1.out.trans (b2.mono (by omega))
  have N_2 := Lib.hid ((b2.block w.heap.size (by omega)).trans N_1.out)
  clear E_1 N_1   b2
  have Oa0_2 := Lib.hid o2
  clear o2
  obtain ⟨⟨ka0, ka1⟩, -, -⟩ := boxedSv_at N_2.out
  go_wp2_with fail
  clear ka0 ka1
  refine (c1.out _ ka0 (TSv.later HT.out E_2.out) SMa0.out Oa0_2.out.caps Oa0_2.out.rd).mono ?_
  rintro e w3 ⟨uw1, rfl, orw1, b3⟩
  have z3 : w2.heap.size ≤ w3.heap.size := b3.size
  have y3_ : w.heap.size + 1 ≤ w3.heap.size := by omega
  have E_3 : Hid (Below w.heap.size w w3) := E_2.out.trans (b3.mono (by omega))
  have N_3 := Lib.hid ((b3.block w.heap.size (by omega)).trans N_2.out)
  have Oa0_3 := Lib.hid (Oa0_2.out.later b3)
  clear E_2 N_2  Oa0_2 b3
  have Ow1_3 := Lib.hid orw1
  clear orw1
  clear Oa0_3
  obtain ⟨⟨ka0, ka1⟩, -, -⟩ := boxedSv_at N_3.out
  go_wp2_with fail
  clear ka0 ka1
  refine (T0.out _ (H0.out.later E_3.out)).mono ?_
  rintro e w4 ⟨kx0, rfl, smx0, o4, b4⟩
  have SMx0 := Lib.hid smx0
  clear smx0
  have z4 : w3.heap.size ≤ w4.heap.size := b4.size
  have y4_ : w.heap.size + 1 ≤ w4.heap.size := by omega
  have E_4 : Hid (Below w.heap.size w w4) := E_3.out.trans (b4.mono (by omega))
  have N_4 := Lib.hid ((b4.block w.heap.size (by omega)).trans N_3.out)
  have Ow1_4 := Lib.hid (Ow1_3.out.later b4)
  clear E_3 N_3  Ow1_3 b4
  have Ox0_4 := Lib.hid o4
  clear o4
  obtain ⟨⟨ka0, ka1⟩, -, -⟩ := boxedSv_at N_4.out
  have qa_ : w.heap.size < w4.heap.size := by omega
  have qb_ : ¬ w.heap.size = w4.heap.size := by omega
  go_wp2_with fail
  clear ka0 ka1
  clear qa_ qb_
  generalize hx : w4.alloc (.cells #[.int .i64 kx0.p, .slice kx0.xa n0 kx0.xc] 26) = w5
  have bb5 : Below w4.heap.size w4 w5 := by rw [← hx]; go_grown
  have zb5 : w5.heap.size = w4.heap.size + 1 := by rw [← hx]; simp
  have nb5 : w5.heap[w4.heap.size]? = some (.cells #[.int .i64 kx0.p, .slice kx0.xa n0 kx0.xc] 26 (0, 0)) := by rw [← hx]; exact heap_alloc_new _ _
  have zBx0 : w4.heap.size + 1 ≤ w5.heap.size := by omega
  clear hx
  have z5 : w4.heap.size ≤ w5.heap.size := bb5.size
  have y5_ : w.heap.size + 1 ≤ w5.heap.size := by omega
  have E_5 : Hid (Below w.heap.size w w5) := E_4.out.trans (bb5.mono (by omega))
  have N_5 := Lib.hid ((bb5.block w.heap.size (by omega)).trans N_4.out)
  have Ow1_5 := Lib.hid (Ow1_4.out.later bb5)
  have Ox0_5 := Lib.hid (Ox0_4.out.later bb5)
  clear E_4 N_4  Ow1_4 Ox0_4 bb5
  have Xx0_5 := Lib.hid nb5
  clear nb5 zb5
  refine (c2.out _ kx0 (TSv.later HT.out E_5.out) SMx0.out Ox0_5.out.caps Ox0_5.out.rd).mono ?_
  rintro e w6 ⟨ug1, rfl, org1, b6⟩
  have z6 : w5.heap.size ≤ w6.heap.size := b6.size
  have y6_ : w.heap.size + 1 ≤ w6.heap.size := by omega
  have E_6 : Hid (Below w.heap.size w w6) := E_5.out.trans (b6.mono (by omega))
  have N_6 := Lib.hid ((b6.block w.heap.size (by omega)).trans N_5.out)
  have Xx0_6 := Lib.hid ((b6.block w4.heap.size (by omega)).trans Xx0_5.out)
  have Ow1_6 := Lib.hid (Ow1_5.out.later b6)
  have Ox0_6 := Lib.hid (Ox0_5.out.later b6)
  clear E_5 N_5 Xx0_5 Ow1_5 Ox0_5 b6
  have Og1_6 := Lib.hid org1
  clear org1
  obtain ⟨⟨ka0, ka1⟩, -, -⟩ := boxedSv_at N_6.out
  obtain ⟨⟨kx0_0, kx0_1⟩, -, -⟩ := boxedSv_at Xx0_6.out
  go_wp2_with fail
  clear ka0 ka1 kx0_0 kx0_1
  refine (eqInt64S_same _ _ ys1 _ Og1_6.out.rd Ow1_6.out.rd (by have := LY1.out; omega)).mono ?_
  rintro e w7 ⟨rfl, b7⟩
  have z7 : w6.heap.size ≤ w7.heap.size := b7.size
  have y7_ : w.heap.size + 1 ≤ w7.heap.size := by omega
  have E_7 : Hid (Below w.heap.size w w7) := E_6.out.trans (b7.mono (by omega))
  have N_7 := Lib.hid ((b7.block w.heap.size (by omega)).trans N_6.out)
  have Xx0_7 := Lib.hid ((b7.block w4.heap.size (by omega)).trans Xx0_6.out)
  have Ow1_7 := Lib.hid (Ow1_6.out.later b7)
  have Ox0_7 := Lib.hid (Ox0_6.out.later b7)
  have Og1_7 := Lib.hid (Og1_6.out.later b7)
  clear E_6 N_6 Xx0_6 Ow1_6 Ox0_6 Og1_6 b7
  have KS : Hid (∀ w', Below w7.heap.size w7 w' → (w'.cell? ⟨w.heap.size, 0, none⟩ = some (.int .i64 g0.p) ∧ w'.cell? ⟨w.heap.size, 1, none⟩ = some (.slice g0.xa n0 g0.xc) ∧ w'.cell? ⟨w4.heap.size, 0, none⟩ = some (.int .i64 kx0.p) ∧ w'.cell? ⟨w4.heap.size, 1, none⟩ = some (.slice kx0.xa n0 kx0.xc))) := by
    intro w' hb
    obtain ⟨⟨ka0, ka1⟩, -, -⟩ := boxedSv_at ((hb.block w.heap.size (by omega)).trans N_7.out)
    obtain ⟨⟨kx_0, kx_1⟩, -, -⟩ := boxedSv_at ((hb.block w4.heap.size (by omega)).trans Xx0_7.out)
    exact ⟨ka0, ka1, kx_0, kx_1⟩
  obtain ⟨⟨ka0, ka1⟩, -, -⟩ := boxedSv_at N_7.out
  obtain ⟨⟨kx0_0, kx0_1⟩, -, -⟩ := boxedSv_at Xx0_7.out
  go_wp2_with fail
  clear ka0 ka1 kx0_0 kx0_1
  go_region_held3 (fun w' => (w'.cell? ⟨w.heap.size, 0, none⟩ = some (.int .i64 g0.p) ∧ w'.cell? ⟨w.heap.size, 1, none⟩ = some (.slice g0.xa n0 g0.xc) ∧ w'.cell? ⟨w4.heap.size, 0, none⟩ = some (.int .i64 kx0.p) ∧ w'.cell? ⟨w4.heap.size, 1, none⟩ = some (.slice kx0.xa n0 kx0.xc)))
    (first | exact KS.out _ D9.out | exact KS.out _ D8.out | exact KS.out _ (Below.refl _ _).drew)
    (first
      | (go_at_call 23; refine (T0.out _ (H0.out.later E_7.out.drew)).mono ?_; rintro e w8 ⟨k8, rfl, sm8, o8, b8⟩; have D8 : Hid (Below w7.heap.size w7 w8) := (Below.refl _ _).drew.trans b8; have QF := Lib.hid (Q0.out w8 kx0 k8 (Ox0_7.out.rd.later D8.out) o8.rd (SMx0.out.trans' sm8) SMx0.out))
      | (go_at_call 25; refine QF.out.mono ?_; rintro e w9 ⟨rfl, b9⟩; have D9 : Hid (Below w7.heap.size w7 w9) := D8.out.trans (b9.mono D8.out.size)))
  rename_i hHeld
  have d9 := D9.out
  clear hHeld D9 D8 QF KS o8 b8 b9 sm8
  have z9 : w7.heap.size ≤ w9.heap.size := d9.size
  have y9_ : w.heap.size + 1 ≤ w9.heap.size := by omega
  have E_9 : Hid (Below w.heap.size w w9) := E_7.out.trans (d9.mono (by omega))
  have N_9 := Lib.hid ((d9.block w.heap.size (by omega)).trans N_7.out)
  have Xx0_9 := Lib.hid ((d9.block w4.heap.size (by omega)).trans Xx0_7.out)
  have Ow1_9 := Lib.hid (Ow1_7.out.later d9)
  have Ox0_9 := Lib.hid (Ox0_7.out.later d9)
  have Og1_9 := Lib.hid (Og1_7.out.later d9)
  clear E_7 N_7 Xx0_7 Ow1_7 Ox0_7 Og1_7 d9
  obtain ⟨⟨ka0, ka1⟩, -, -⟩ := boxedSv_at N_9.out
  obtain ⟨⟨kx0_0, kx0_1⟩, -, -⟩ := boxedSv_at Xx0_9.out
  go_wp2_with fail
  clear ka0 ka1 kx0_0 kx0_1
  refine (M0.out _ kx0 _ _ Ox0_9.out SMx0.out).mono ?_
  rintro e w10 ⟨rfl, -, g10_⟩
  have z10 : w9.heap.size ≤ w10.heap.size := g10_.size
  have y10_ : w.heap.size + 1 ≤ w10.heap.size := by omega
  have E_10 : Hid (Below w.heap.size w w10) := g10_.below E_9.out (by omega) (by omega)
  have N_10 := Lib.hid ((g10_.block w.heap.size (by omega) (by omega)).trans N_9.out)
  have Xx0_10 := Lib.hid ((g10_.block w4.heap.size (by omega) (by omega)).trans Xx0_9.out)
  have Ow1_10 := Lib.hid (Ow1_9.out.chg g10_ (by omega))
  have Og1_10 := Lib.hid (Og1_9.out.chg g10_ (by omega))
  clear E_9 N_9 Xx0_9 Ow1_9 Ox0_9 Og1_9 g10_
  have kneg : ¬ (1 + 4 * (n0 : Int) < 0) := by omega
  obtain ⟨⟨ka0, ka1⟩, -, -⟩ := boxedSv_at N_10.out
  obtain ⟨⟨kx0_0, kx0_1⟩, -, -⟩ := boxedSv_at Xx0_10.out
  go_wp2_with fail
  clear ka0 ka1 kx0_0 kx0_1
  refine (eqInt64S_same _ _ ys1 _ Og1_10.out.rd Ow1_10.out.rd (by have := LY1.out; omega)).mono ?_
  rintro e w11 ⟨rfl, b11⟩
  have z11 : w10.heap.size ≤ w11.heap.size := b11.size
  have y11_ : w.heap.size + 1 ≤ w11.heap.size := by omega
  have E_11 : Hid (Below w.heap.size w w11) := E_10.out.trans (b11.mono (by omega))
  have N_11 := Lib.hid ((b11.block w.heap.size (by omega)).trans N_10.out)
  have Xx0_11 := Lib.hid ((b11.block w4.heap.size (by omega)).trans Xx0_10.out)
  have Ow1_11 := Lib.hid (Ow1_10.out.later b11)
  have Og1_11 := Lib.hid (Og1_10.out.later b11)
  clear E_10 N_10 Xx0_10 Ow1_10 Og1_10 b11
  clear kneg
  obtain ⟨⟨ka0, ka1⟩, -, -⟩ := boxedSv_at N_11.out
  obtain ⟨⟨kx0_0, kx0_1⟩, -, -⟩ := boxedSv_at Xx0_11.out
  go_wp2_with fail
  clear ka0 ka1 kx0_0 kx0_1
  refine (markInts_any _ ys1 _ _ Og1_11.out.own (by have := LY1.out; omega) (1) (by omega) (by omega)).mono ?_
  rintro e w12 ⟨rfl, og120, g120⟩
  have g12_ := Chg.of_grown g120 (fun b hb => ⟨(Og1_11.out.own.lt b hb).1, Og1_11.out.b b hb⟩)
  have og12 : OwnIC w12 _ _ _ _ := ⟨og120, Og1_11.out.b, Nat.le_trans Og1_11.out.cb g120.size⟩
  clear g120 og120
  have keepg := Lib.hid og12
  clear og12
  clear Og1_11
  have z12 : w11.heap.size ≤ w12.heap.size := g12_.size
  have y12_ : w.heap.size + 1 ≤ w12.heap.size := by omega
  have E_12 : Hid (Below w.heap.size w w12) := g12_.below E_11.out (by omega) (by omega)
  have N_12 := Lib.hid ((g12_.block w.heap.size (by omega) (by omega)).trans N_11.out)
  have Xx0_12 := Lib.hid ((g12_.block w4.heap.size (by omega) (by omega)).trans Xx0_11.out)
  have Ow1_12 := Lib.hid (Ow1_11.out.chg g12_ (by omega))
  clear E_11 N_11 Xx0_11 Ow1_11 g12_
  have Og1_12 := keepg
  clear keepg
  have mneg0 : ¬ (1 + (ys1.length : Int) < 0) := by have := LY1.out; omega
  obtain ⟨⟨ka0, ka1⟩, -, -⟩ := boxedSv_at N_12.out
  obtain ⟨⟨kx0_0, kx0_1⟩, -, -⟩ := boxedSv_at Xx0_12.out
  go_wp2_with fail
  clear ka0 ka1 kx0_0 kx0_1
  refine (heldInts_any _ ys1.length (1) _ Og1_12.out.rd (by have := LY1.out; omega) (by omega) (by omega)).mono ?_
  rintro e w' ⟨rfl, rfl⟩
  obtain ⟨⟨ka0, ka1⟩, -, -⟩ := boxedSv_at N_12.out
  obtain ⟨⟨kx0_0, kx0_1⟩, -, -⟩ := boxedSv_at Xx0_12.out
  go_wp2_with fail
  clear ka0 ka1 kx0_0 kx0_1
  refine (T0.out _ (H0.out.later E_12.out)).mono ?_
  rintro e w13 ⟨kb0, rfl, smb0, o13, b13⟩
  have SMb0 := Lib.hid smb0
  clear smb0
  have z13 : w12.heap.size ≤ w13.heap.size := b13.size
  have y13_ : w.heap.size + 1 ≤ w13.heap.size := by omega
  have E_13 : Hid (Below w.heap.size w w13) := E_12.out.trans (b13.mono (by omega))
  have N_13 := Lib.hid ((b13.block w.heap.size (by omega)).trans N_12.out)
  have Xx0_13 := Lib.hid ((b13.block w4.heap.size (by omega)).trans Xx0_12.out)
  have Ow1_13 := Lib.hid (Ow1_12.out.later b13)
  have Og1_13 := Lib.hid (Og1_12.out.later b13)
  clear E_12 N_12 Xx0_12 Ow1_12 Og1_12 b13
  have Ob0_13 := Lib.hid o13
  clear o13
  obtain ⟨⟨ka0, ka1⟩, -, -⟩ := boxedSv_at N_13.out
  obtain ⟨⟨kx0_0, kx0_1⟩, -, -⟩ := boxedSv_at Xx0_13.out
  go_wp2_with fail
  clear ka0 ka1 kx0_0 kx0_1
  refine (c2.out _ kb0 (TSv.later HT.out E_13.out) SMb0.out Ob0_13.out.caps Ob0_13.out.rd).mono ?_
  rintro e w14 ⟨uh1, rfl, orh1, b14⟩
  have z14 : w13.heap.size ≤ w14.heap.size := b14.size
  have y14_ : w.heap.size + 1 ≤ w14.heap.size := by omega
  have E_14 : Hid (Below w.heap.size w w14) := E_13.out.trans (b14.mono (by omega))
  have N_14 := Lib.hid ((b14.block w.heap.size (by omega)).trans N_13.out)
  have Xx0_14 := Lib.hid ((b14.block w4.heap.size (by omega)).trans Xx0_13.out)
  have Ow1_14 := Lib.hid (Ow1_13.out.later b14)
  have Og1_14 := Lib.hid (Og1_13.out.later b14)
  have Ob0_14 := Lib.hid (Ob0_13.out.later b14)
  clear E_13 N_13 Xx0_13 Ow1_13 Og1_13 Ob0_13 b14
  have Oh1_14 := Lib.hid orh1
  clear orh1
  clear Ob0_14
  obtain ⟨⟨ka0, ka1⟩, -, -⟩ := boxedSv_at N_14.out
  obtain ⟨⟨kx0_0, kx0_1⟩, -, -⟩ := boxedSv_at Xx0_14.out
  go_wp2_with fail
  clear ka0 ka1 kx0_0 kx0_1
  refine (eqInt64S_same _ _ ys1 _ Oh1_14.out.rd Ow1_14.out.rd (by have := LY1.out; omega)).mono ?_
  rintro e w15 ⟨rfl, b15⟩
  have z15 : w14.heap.size ≤ w15.heap.size := b15.size
  have y15_ : w.heap.size + 1 ≤ w15.heap.size := by omega
  have E_15 : Hid (Below w.heap.size w w15) := E_14.out.trans (b15.mono (by omega))
  have N_15 := Lib.hid ((b15.block w.heap.size (by omega)).trans N_14.out)
  have Xx0_15 := Lib.hid ((b15.block w4.heap.size (by omega)).trans Xx0_14.out)
  have Ow1_15 := Lib.hid (Ow1_14.out.later b15)
  have Og1_15 := Lib.hid (Og1_14.out.later b15)
  have Oh1_15 := Lib.hid (Oh1_14.out.later b15)
  clear E_14 N_14 Xx0_14 Ow1_14 Og1_14 Oh1_14 b15
  obtain ⟨⟨ka0, ka1⟩, -, -⟩ := boxedSv_at N_15.out
  obtain ⟨⟨kx0_0, kx0_1⟩, -, -⟩ := boxedSv_at Xx0_15.out
  go_wp2_with fail
  clear ka0 ka1 kx0_0 kx0_1
  refine (heldInts_any _ ys1.length (1) _ Og1_15.out.rd (by have := LY1.out; omega) (by omega) (by omega)).mono ?_
  rintro e w' ⟨rfl, rfl⟩
  obtain ⟨⟨ka0, ka1⟩, -, -⟩ := boxedSv_at N_15.out
  obtain ⟨⟨kx0_0, kx0_1⟩, -, -⟩ := boxedSv_at Xx0_15.out
  go_wp2
  go_ret
  exact ⟨rfl, E_15.out⟩

set_option maxRecDepth 100000 in
theorem walkFnExactRedundanciesOf (w : World) (g0 : Sv) (n0 : Nat) (wg : n0 ≤ maxLen) (h0 : RdSv w n0 g0) (hT : TSv w) :
    Calls Tryd.prog 10 #[(.agg #[.int .i64 g0.p, .slice g0.xa n0 g0.xc])] w fun e w' => e = .returned (.bool true) ∧ Below w.heap.size w w' := by
  have e0 := h0.len
  by_cases lt0 : (n0 : Int) ≤ 1048576
  rotate_left
  · have s0 := Lib.hid (fun w => szSurvey_any g0 n0 1048576 (by omega) (by omega) w wg (-1) (by rw [if_neg lt0]))
    have H0 := Lib.hid h0
    clear h0 lt0  e0 
    go_enter Tryd.func10, Tryd.ntmps10
    go_wp2_with fail
    refine (s0.out _).mono ?_
    rintro e w1 ⟨rfl, b1⟩
    have B1 : Hid (Below w.heap.size w w1) := Below.trans (by go_grown) (b1.mono (by simp only [World.size_alloc]; omega))
    clear b1
    go_wp2
    go_ret
    exact ⟨rfl, B1.out⟩
  obtain ⟨r0, ys1, r2, ly1, c1, c2⟩ := exRedundanciesOf g0 n0 e0 lt0
  exact redundanciesOf_law g0 n0 w hT h0  lt0 r0 ys1 r2 ly1 c1 c2
end Go.Proofs.YtcmocilojloolaaDoor
