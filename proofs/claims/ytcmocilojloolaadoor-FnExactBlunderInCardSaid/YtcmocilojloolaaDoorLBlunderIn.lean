/- The law of BlunderIn. -/
import Derived.Test.YtcmocilojloolaaDoorBluX
import Derived.Test.YtcmocilojloolaaDoorSurvA
import Derived.Test.YtcmocilojloolaaDoorOpenSv
import Derived.Deep.RegionHeld3
namespace Go.Proofs.YtcmocilojloolaaDoor
open Go.ChangeShapes Go.WideShapes Go.ChangeAt Go.RowKit
set_option linter.unusedVariables false
set_option linter.unusedSimpArgs false

set_option maxRecDepth 100000 in
set_option maxHeartbeats 16000000 in
theorem blunderIn_law (g0 : Sv) (n0 : Nat) (w : World) (hT : TSv w) (h0 : RdSv w n0 g0) (lt : (n0 : Int) ≤ 1048576) (r0 : Int) (r1 : Bool) 
    (c1 : Hid (∀ (w : World) (k0 : Sv), TSv w → k0.same g0 → k0.caps n0 → RdSv w n0 k0 → Calls Tryd.prog 40 #[(.agg #[.int .i64 k0.p, .slice k0.xa n0 k0.xc])] w fun e w' => e = .returned (.tuple #[.int .i64 r0, .bool r1]) ∧ Below w.heap.size w w'))
    (c2 : Hid (∀ (w : World) (k0 : Sv), TSv w → k0.same g0 → k0.caps n0 → RdSv w n0 k0 → Calls Tryd.prog 41 #[(.agg #[.int .i64 k0.p, .slice k0.xa n0 k0.xc])] w fun e w' => e = .returned (.tuple #[.int .i64 r0, .bool r1]) ∧ Below w.heap.size w w')) :
    Calls Tryd.prog 12 #[(.agg #[.int .i64 g0.p, .slice g0.xa n0 g0.xc])] w fun e w' => e = .returned (.bool true) ∧ Below w.heap.size w w' := by
  have HT := Lib.hid hT
  have H0 := Lib.hid h0
  have e0 := h0.len
  have T0 := Lib.hid (fun w h => toSurvey_any g0 n0 w h (by omega))
  have Q0 := Lib.hid (fun w (x y : Sv) (hx : RdSv w n0 x) (hy : RdSv w n0 y) hs (hg : x.same g0) => eqSurvey_same x y n0 w hx hy hs (by omega))
  have S0 := Lib.hid (fun w => szSurvey_any g0 n0 1048576 (by omega) (by omega) w (by unfold maxLen; omega) (1048576 - (n0 : Int)) (by rw [if_pos (by omega)]))
  have f0 : ¬ (1048576 - (n0 : Int) < 0) := by omega
  have ln : n0 ≤ 1048576 := by omega
  clear h0  lt    e0 hT
  go_enter Tryd.func12, Tryd.ntmps12
  go_wp2_with fail
  generalize hx : w.alloc (.cells #[.int .i64 g0.p, .slice g0.xa n0 g0.xc] 38) = w0
  have E_0 : Hid (Below w.heap.size w w0) := by rw [← hx]; show Below _ _ _; go_grown
  have y0_ : w.heap.size + 1 ≤ w0.heap.size := by rw [← hx]; simp
  have N_0 : Hid (w0.heap[w.heap.size]? = some (.cells #[.int .i64 g0.p, .slice g0.xa n0 g0.xc] 38 (0, 0))) := by rw [← hx]; exact heap_alloc_new w _
  clear hx
  refine (S0.out _).mono ?_
  rintro e w1 ⟨rfl, b1⟩
  have z1 : w0.heap.size ≤ w1.heap.size := b1.size
  have y1_ : w.heap.size + 1 ≤ w1.heap.size := by omega
  have E_1 : Hid (Below w.heap.size w w1) := E_0.out.trans (b1.mono (by omega))
  have N_1 := Lib.hid ((b1.block w.heap.size (by omega)).trans N_0.out)
  clear E_0 N_0   b1
  obtain ⟨⟨ka0, ka1⟩, -, -⟩ := boxedSv_at N_1.out
  go_wp2_with fail
  clear ka0 ka1
  refine (T0.out _ (H0.out.later E_1.out)).mono ?_
  rintro e w2 ⟨ka0, rfl, sma0, o2, b2⟩
  have SMa0 := Lib.hid sma0
  clear sma0
  have z2 : w1.heap.size ≤ w2.heap.size := b2.size
  have y2_ : w.heap.size + 1 ≤ w2.heap.size := by omega
  have E_2 : Hid (Below w.heap.size w w2) := E_1.out.trans (b2.mono (by omega))
  have N_2 := Lib.hid ((b2.block w.heap.size (by omega)).trans N_1.out)
  clear E_1 N_1   b2
  have Oa0_2 := Lib.hid o2
  clear o2
  obtain ⟨⟨ka0, ka1⟩, -, -⟩ := boxedSv_at N_2.out
  go_wp2_with fail
  clear ka0 ka1
  refine (c1.out _ ka0 (TSv.later HT.out E_2.out) SMa0.out Oa0_2.out.caps Oa0_2.out.rd).mono ?_
  rintro e w3 ⟨rfl, b3⟩
  have z3 : w2.heap.size ≤ w3.heap.size := b3.size
  have y3_ : w.heap.size + 1 ≤ w3.heap.size := by omega
  have E_3 : Hid (Below w.heap.size w w3) := E_2.out.trans (b3.mono (by omega))
  have N_3 := Lib.hid ((b3.block w.heap.size (by omega)).trans N_2.out)
  have Oa0_3 := Lib.hid (Oa0_2.out.later b3)
  clear E_2 N_2  Oa0_2 b3
  clear Oa0_3
  obtain ⟨⟨ka0, ka1⟩, -, -⟩ := boxedSv_at N_3.out
  go_wp2_with fail
  clear ka0 ka1
  refine (T0.out _ (H0.out.later E_3.out)).mono ?_
  rintro e w4 ⟨kx0, rfl, smx0, o4, b4⟩
  have SMx0 := Lib.hid smx0
  clear smx0
  have z4 : w3.heap.size ≤ w4.heap.size := b4.size
  have y4_ : w.heap.size + 1 ≤ w4.heap.size := by omega
  have E_4 : Hid (Below w.heap.size w w4) := E_3.out.trans (b4.mono (by omega))
  have N_4 := Lib.hid ((b4.block w.heap.size (by omega)).trans N_3.out)
  clear E_3 N_3   b4
  have Ox0_4 := Lib.hid o4
  clear o4
  obtain ⟨⟨ka0, ka1⟩, -, -⟩ := boxedSv_at N_4.out
  have qa_ : w.heap.size < w4.heap.size := by omega
  have qb_ : ¬ w.heap.size = w4.heap.size := by omega
  go_wp2_with fail
  clear ka0 ka1
  clear qa_ qb_
  generalize hx : w4.alloc (.cells #[.int .i64 kx0.p, .slice kx0.xa n0 kx0.xc] 26) = w5
  have bb5 : Below w4.heap.size w4 w5 := by rw [← hx]; go_grown
  have zb5 : w5.heap.size = w4.heap.size + 1 := by rw [← hx]; simp
  have nb5 : w5.heap[w4.heap.size]? = some (.cells #[.int .i64 kx0.p, .slice kx0.xa n0 kx0.xc] 26 (0, 0)) := by rw [← hx]; exact heap_alloc_new _ _
  have zBx0 : w4.heap.size + 1 ≤ w5.heap.size := by omega
  clear hx
  have z5 : w4.heap.size ≤ w5.heap.size := bb5.size
  have y5_ : w.heap.size + 1 ≤ w5.heap.size := by omega
  have E_5 : Hid (Below w.heap.size w w5) := E_4.out.trans (bb5.mono (by omega))
  have N_5 := Lib.hid ((bb5.block w.heap.size (by omega)).trans N_4.out)
  have Ox0_5 := Lib.hid (Ox0_4.out.later bb5)
  clear E_4 N_4  Ox0_4 bb5
  have Xx0_5 := Lib.hid nb5
  clear nb5 zb5
  refine (c2.out _ kx0 (TSv.later HT.out E_5.out) SMx0.out Ox0_5.out.caps Ox0_5.out.rd).mono ?_
  rintro e w6 ⟨rfl, b6⟩
  have z6 : w5.heap.size ≤ w6.heap.size := b6.size
  have y6_ : w.heap.size + 1 ≤ w6.heap.size := by omega
  have E_6 : Hid (Below w.heap.size w w6) := E_5.out.trans (b6.mono (by omega))
  have N_6 := Lib.hid ((b6.block w.heap.size (by omega)).trans N_5.out)
  have Xx0_6 := Lib.hid ((b6.block w4.heap.size (by omega)).trans Xx0_5.out)
  have Ox0_6 := Lib.hid (Ox0_5.out.later b6)
  clear E_5 N_5 Xx0_5 Ox0_5 b6
  have KS : Hid (∀ w', Below w6.heap.size w6 w' → (w'.cell? ⟨w.heap.size, 0, none⟩ = some (.int .i64 g0.p) ∧ w'.cell? ⟨w.heap.size, 1, none⟩ = some (.slice g0.xa n0 g0.xc) ∧ w'.cell? ⟨w4.heap.size, 0, none⟩ = some (.int .i64 kx0.p) ∧ w'.cell? ⟨w4.heap.size, 1, none⟩ = some (.slice kx0.xa n0 kx0.xc))) := by
    intro w' hb
    obtain ⟨⟨ka0, ka1⟩, -, -⟩ := boxedSv_at ((hb.block w.heap.size (by omega)).trans N_6.out)
    obtain ⟨⟨kx_0, kx_1⟩, -, -⟩ := boxedSv_at ((hb.block w4.heap.size (by omega)).trans Xx0_6.out)
    exact ⟨ka0, ka1, kx_0, kx_1⟩
  obtain ⟨⟨ka0, ka1⟩, -, -⟩ := boxedSv_at N_6.out
  obtain ⟨⟨kx0_0, kx0_1⟩, -, -⟩ := boxedSv_at Xx0_6.out
  go_wp2_with fail
  clear ka0 ka1 kx0_0 kx0_1
  go_region_held3 (fun w' => (w'.cell? ⟨w.heap.size, 0, none⟩ = some (.int .i64 g0.p) ∧ w'.cell? ⟨w.heap.size, 1, none⟩ = some (.slice g0.xa n0 g0.xc) ∧ w'.cell? ⟨w4.heap.size, 0, none⟩ = some (.int .i64 kx0.p) ∧ w'.cell? ⟨w4.heap.size, 1, none⟩ = some (.slice kx0.xa n0 kx0.xc)))
    (first | exact KS.out _ D8.out | exact KS.out _ D7.out | exact KS.out _ (Below.refl _ _).drew)
    (first
      | (go_at_call 23; refine (T0.out _ (H0.out.later E_6.out.drew)).mono ?_; rintro e w7 ⟨k7, rfl, sm7, o7, b7⟩; have D7 : Hid (Below w6.heap.size w6 w7) := (Below.refl _ _).drew.trans b7; have QF := Lib.hid (Q0.out w7 kx0 k7 (Ox0_6.out.rd.later D7.out) o7.rd (SMx0.out.trans' sm7) SMx0.out))
      | (go_at_call 25; refine QF.out.mono ?_; rintro e w8 ⟨rfl, b8⟩; have D8 : Hid (Below w6.heap.size w6 w8) := D7.out.trans (b8.mono D7.out.size)))
  rename_i hHeld
  have d8 := D8.out
  clear hHeld D8 D7 QF KS o7 b7 b8 sm7
  have z8 : w6.heap.size ≤ w8.heap.size := d8.size
  have y8_ : w.heap.size + 1 ≤ w8.heap.size := by omega
  have E_8 : Hid (Below w.heap.size w w8) := E_6.out.trans (d8.mono (by omega))
  have N_8 := Lib.hid ((d8.block w.heap.size (by omega)).trans N_6.out)
  have Xx0_8 := Lib.hid ((d8.block w4.heap.size (by omega)).trans Xx0_6.out)
  have Ox0_8 := Lib.hid (Ox0_6.out.later d8)
  clear E_6 N_6 Xx0_6 Ox0_6 d8
  obtain ⟨⟨ka0, ka1⟩, -, -⟩ := boxedSv_at N_8.out
  obtain ⟨⟨kx0_0, kx0_1⟩, -, -⟩ := boxedSv_at Xx0_8.out
  go_wp2
  go_ret
  exact ⟨rfl, E_8.out⟩

set_option maxRecDepth 100000 in
theorem walkFnExactBlunderIn (w : World) (g0 : Sv) (n0 : Nat) (wg : n0 ≤ maxLen) (h0 : RdSv w n0 g0) (hT : TSv w) :
    Calls Tryd.prog 12 #[(.agg #[.int .i64 g0.p, .slice g0.xa n0 g0.xc])] w fun e w' => e = .returned (.bool true) ∧ Below w.heap.size w w' := by
  have e0 := h0.len
  by_cases lt0 : (n0 : Int) ≤ 1048576
  rotate_left
  · have s0 := Lib.hid (fun w => szSurvey_any g0 n0 1048576 (by omega) (by omega) w wg (-1) (by rw [if_neg lt0]))
    have H0 := Lib.hid h0
    clear h0 lt0  e0 
    go_enter Tryd.func12, Tryd.ntmps12
    go_wp2_with fail
    refine (s0.out _).mono ?_
    rintro e w1 ⟨rfl, b1⟩
    have B1 : Hid (Below w.heap.size w w1) := Below.trans (by go_grown) (b1.mono (by simp only [World.size_alloc]; omega))
    clear b1
    go_wp2
    go_ret
    exact ⟨rfl, B1.out⟩
  obtain ⟨r0, r1, c1, c2⟩ := exBlunderIn g0 n0 e0 lt0
  exact blunderIn_law g0 n0 w hT h0  lt0 r0 r1  c1 c2
end Go.Proofs.YtcmocilojloolaaDoor
