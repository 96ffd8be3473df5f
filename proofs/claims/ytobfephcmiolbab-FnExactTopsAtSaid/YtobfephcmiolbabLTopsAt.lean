/- The law of TopsAt. -/
import Derived.Test.YtobfephcmiolbabTopX
import Derived.Test.YtobfephcmiolbabGrounds
import Derived.Test.YtobfephcmiolbabOpenG
import Derived.Deep.RegionHeld3
namespace Go.Proofs.Ytobfephcmiolbab
open Go.ChangeShapes Go.WideShapes Go.ChangeAt Go.RowKit
set_option linter.unusedVariables false
set_option linter.unusedSimpArgs false

set_option maxRecDepth 100000 in
set_option maxHeartbeats 8000000 in
theorem topsAt_law (g : Gu) (a1 : Int) (w : World) (hg : RdG w g) (lt : g.tot ≤ 1048576) (ys : List Int) (r1 : Bool) (ly : ys.length ≤ 1048576)
    (c1 : Hid (∀ (w : World) (k : Gu), True → k.same g → RdG w k → Calls Try.prog 16 #[.agg #[.slice k.da g.d.length k.dc, .slice k.ha g.xs.length k.hc], .int .i64 a1] w fun e w' => ∃ u, e = .returned (.tuple #[u, .bool r1]) ∧ OwnI w' w.heap.size u ys ∧ Below w.heap.size w w'))
    (c2 : Hid (∀ (w : World) (k : Gu), True → k.same g → RdG w k → Calls Try.prog 17 #[.agg #[.slice k.da g.d.length k.dc, .slice k.ha g.xs.length k.hc], .int .i64 a1] w fun e w' => ∃ u, e = .returned (.tuple #[u, .bool r1]) ∧ OwnI w' w.heap.size u ys ∧ Below w.heap.size w w')) :
    Calls Try.prog 4 #[.agg #[.slice g.da g.d.length g.dc, .slice g.ha g.xs.length g.hc], .int .i64 a1] w fun e w' => e = .returned (.bool true) ∧ Below w.heap.size w w' := by
  have H := Lib.hid hg
  have LT := Lib.hid lt
  have tl : g.d.length ≤ 1048576 ∧ g.xs.length ≤ 1048576 ∧ ∀ x ∈ g.xs, x.t.length ≤ 1048576 := ⟨by unfold Gu.tot at lt; omega, by unfold Gu.tot at lt; omega, fun x hx => by have := sumT_mem hx; unfold Gu.tot at lt; omega⟩
  have s0 := Lib.hid (fun w h => szGround_any g 1048576 (by omega) (by omega) w h (by unfold maxLen; omega) (by unfold maxLen; omega) (fun x hx => by have := tl.2.2 x hx; unfold maxLen; omega) _ rfl)
  rw [if_pos (by omega)] at s0
  have t0 := Lib.hid (fun w h => toGround_any g w h lt)
  have q0 := Lib.hid (fun w k (h1 : RdG w k) k' h2 hs => eqGround_same k k' w h1 h2 hs)
  have g0 : ¬ (1048576 - (g.tot : Int) < 0) := by omega
  have tt : (g.tot : Int) ≤ 1048576 := by omega
  have LY := Lib.hid ly
  obtain ⟨n, hn⟩ : ∃ n, n = g.d.length := ⟨_, rfl⟩
  obtain ⟨m, hm⟩ : ∃ n, n = g.xs.length := ⟨_, rfl⟩
  obtain ⟨N, hN⟩ : ∃ n, n = g.tot := ⟨_, rfl⟩
  rw [← hn, ← hm] at s0 t0 c1 c2
  rw [← hN] at s0 g0 tt
  rw [← hn, ← hm]
  have HN := Lib.hid hn
  have HM := Lib.hid hm
  have HNN := Lib.hid hN
  clear hg lt tl hn hm hN ly
  go_enter Try.func4, Try.ntmps4
  go_wp2_with fail
  refine (s0.out _ (H.out.later (by go_grown))).mono ?_
  rintro e w1 ⟨rfl, b1⟩
  have n1 := (b1.block w.heap.size (by simp only [World.size_alloc]; omega)).trans (heap_alloc_new w _)
  have z1 := b1.size
  simp only [World.size_alloc] at z1
  have B1 : Hid (Below w.heap.size w w1) := Below.trans (by go_grown) (b1.mono (by simp only [World.size_alloc]; omega))
  have N1 := Lib.hid n1
  obtain ⟨a0, a1⟩ := boxG_at n1
  clear b1 n1
  go_wp2_with fail
  refine (t0.out _ (H.out.later B1.out)).mono ?_
  rintro e w2 ⟨k2, rfl, sm2, o2, b2⟩
  have z2 := b2.size
  have N2 := Lib.hid ((b2.block w.heap.size (by omega)).trans N1.out)
  have B2 : Hid (Below w.heap.size w w2) := B1.out.trans (b2.mono (by omega))
  have R2 := Lib.hid o2.rd
  have SM2 := Lib.hid sm2
  clear b2 o2 sm2 N1 B1 a0 a1 g0
  go_wp2_with fail
  refine (c1.out _ k2 trivial SM2.out R2.out).mono ?_
  rintro e w3 ⟨vs, rfl, os, b3⟩
  have z3 := b3.size
  have N3 := Lib.hid ((b3.block w.heap.size (by omega)).trans N2.out)
  have B3 : Hid (Below w.heap.size w w3) := B2.out.trans (b3.mono (by omega))
  have OS3 := Lib.hid os
  have LS := Lib.hid os.lt
  clear b3 N2 B2 R2 SM2 os
  obtain ⟨a0, a1⟩ := boxG_at N3.out
  go_wp2_with fail
  refine (t0.out _ (H.out.later B3.out)).mono ?_
  rintro e w4 ⟨k4, rfl, sm4, o4, b4⟩
  have z4 := b4.size
  have N4 := Lib.hid ((b4.block w.heap.size (by omega)).trans N3.out)
  have B4 : Hid (Below w.heap.size w w4) := B3.out.trans (b4.mono (by omega))
  have RS4 := Lib.hid (OS3.out.rd.later b4)
  have SM4 := Lib.hid sm4
  have O4 := Lib.hid o4
  clear b4 N3 B3 o4 sm4 a0 a1 OS3
  go_wp2_with fail
  refine (c2.out _ k4 trivial SM4.out (O4.out.rd.later (by go_grown))).mono ?_
  rintro e w6 ⟨vg, rfl, og, b6⟩
  have n6 := (b6.block w.heap.size (by simp only [World.size_alloc]; omega)).trans ((Below.heap_alloc w4 _ _ (by omega)).trans N4.out)
  have x6 := (b6.block w4.heap.size (by simp only [World.size_alloc]; omega)).trans (heap_alloc_new w4 _)
  have z6 := b6.size
  simp only [World.size_alloc] at z6
  have B6 : Hid (Below w.heap.size w w6) := Below.trans (B4.out.alloc (by omega) _) (b6.mono (by simp only [World.size_alloc]; omega))
  have b46 : Below w4.heap.size w4 w6 := Below.trans (Below.alloc (Below.refl _ _) (Nat.le_refl _) _) (b6.mono (by simp only [World.size_alloc]; omega))
  have O6 := Lib.hid (O4.out.later b46)
  have RS6 := Lib.hid (RS4.out.later b46)
  have LG := Lib.hid (fun b hb => by have e := og.lt b hb; simp only [World.size_alloc] at e; exact (show w4.heap.size + 1 ≤ b ∧ b < w6.heap.size from e))
  have OG6 := Lib.hid og
  have N6 := Lib.hid n6
  have X6 := Lib.hid x6
  clear b6 N4 O4 B4 b46 n6 x6 RS4 og
  go_wp2_with fail
  refine (eqInt64S_same _ _ ys _ OG6.out.rd RS6.out (by have := LY.out; omega)).mono ?_
  rintro e w7 ⟨rfl, b7⟩
  have z7 := b7.size
  have N7 := Lib.hid ((b7.block w.heap.size (by omega)).trans N6.out)
  have X7 := Lib.hid ((b7.block w4.heap.size (by omega)).trans X6.out)
  have B7 : Hid (Below w.heap.size w w7) := B6.out.trans (b7.mono (by omega))
  have O7 := Lib.hid (O6.out.later b7)
  have RS7 := Lib.hid (RS6.out.later b7)
  have OG7 := Lib.hid (OG6.out.later b7)
  clear N6 X6 B6 O6 RS6 OG6 b7
  have KS : Hid (∀ w', Below w7.heap.size w7 w' → (w'.cell? ⟨w.heap.size, 0, none⟩ = some (.slice g.da n g.dc) ∧ w'.cell? ⟨w.heap.size, 1, none⟩ = some (.slice g.ha m g.hc) ∧ w'.cell? ⟨w4.heap.size, 0, none⟩ = some (.slice k4.da n k4.dc) ∧ w'.cell? ⟨w4.heap.size, 1, none⟩ = some (.slice k4.ha m k4.hc))) := by
    intro w' hb
    obtain ⟨u0, u1⟩ := boxG_at ((hb.block w.heap.size (by omega)).trans N7.out)
    obtain ⟨v0, v1⟩ := boxG_at ((hb.block w4.heap.size (by omega)).trans X7.out)
    exact ⟨u0, u1, v0, v1⟩
  have QE := Lib.hid (fun (wa : World) (k8 : Gu) (h1 : RdG wa k4) (h2 : RdG wa k8) (hs : k8.same g) => eqGround_same k4 k8 wa h1 h2 (SM4.out.trans' hs) (by rw [Gu.same_tot SM4.out]; exact LT.out))
  have EL4 := Lib.hid (And.intro (show k4.d.length = n by rw [SM4.out.1]; exact HN.out.symm) (show k4.xs.length = m by rw [map_ho_len SM4.out.2]; exact HM.out.symm))
  rw [EL4.out.1, EL4.out.2] at QE
  go_wp2_with fail
  go_region_held3 (fun w' => (w'.cell? ⟨w.heap.size, 0, none⟩ = some (.slice g.da n g.dc) ∧ w'.cell? ⟨w.heap.size, 1, none⟩ = some (.slice g.ha m g.hc) ∧ w'.cell? ⟨w4.heap.size, 0, none⟩ = some (.slice k4.da n k4.dc) ∧ w'.cell? ⟨w4.heap.size, 1, none⟩ = some (.slice k4.ha m k4.hc)))
    (first | exact KS.out _ D9.out | exact KS.out _ D8.out | exact KS.out _ (Below.refl _ _).drew)
    (first
      | (go_at_call 13; refine (t0.out _ (H.out.later B7.out.drew)).mono ?_; rintro e w8 ⟨k8, rfl, sm8, o8, b8⟩; have D8 : Hid (Below w7.heap.size w7 w8) := (Below.refl _ _).drew.trans b8; have QF := Lib.hid (QE.out w8 k8 (O7.out.rd.later D8.out) o8.rd sm8); have EL8 := And.intro (show k8.d.length = n by rw [sm8.1]; exact HN.out.symm) (show k8.xs.length = m by rw [map_ho_len sm8.2]; exact HM.out.symm); rw [EL8.1, EL8.2] at QF; clear EL8)
      | (go_at_call 15; refine QF.out.mono ?_; rintro e w9 ⟨rfl, b9⟩; have D9 : Hid (Below w7.heap.size w7 w9) := D8.out.trans (b9.mono D8.out.size)))
  rename_i hHeld
  have d9 := D9.out
  clear hHeld D9 D8 QF QE KS o8 b8 b9 sm8
  have z9 := d9.size
  have N9 := Lib.hid ((d9.block w.heap.size (by omega)).trans N7.out)
  have X9 := Lib.hid ((d9.block w4.heap.size (by omega)).trans X7.out)
  have B9 : Hid (Below w.heap.size w w9) := B7.out.trans (d9.mono (by omega))
  have O9 := Lib.hid (O7.out.later d9)
  have RS9 := Lib.hid (RS7.out.later d9)
  have OG9 := Lib.hid (OG7.out.later d9)
  clear N7 X7 B7 O7 RS7 OG7 d9
  have MG := Lib.hid (fun w h => markGround_any k4 w _ _ h (by rw [Gu.same_tot SM4.out]; exact LT.out) 1 (by omega) (by omega) : ∀ w, OwnG w w3.heap.size w4.heap.size k4 → _)
  rw [EL4.out.1, EL4.out.2, Gu.same_tot SM4.out, ← HNN.out] at MG
  obtain ⟨u0, u1⟩ := boxG_at X9.out
  go_wp2_with fail
  refine (MG.out _ O9.out).mono ?_
  rintro e w10 ⟨rfl, o10, g10⟩
  have z10 := g10.size
  have k10 : ¬ (1 + (N : Int) < 0) := by omega
  have RS10 := Lib.hid (RS9.out.chg g10 (fun c h => by have e1 := LS.out c h; omega))
  have OG10 := Lib.hid (OG9.out.of_block fun b hb => g10.block b (OG9.out.lt b hb).2 (by have := LG.out b hb; omega))
  have BB10 : Hid (Below w.heap.size w w10) := g10.below B9.out (by omega) (by omega)
  have N10 := Lib.hid ((g10.block w.heap.size (by omega) (by omega)).trans N9.out)
  clear u0 u1 O9 RS9 OG9 B9 N9 X9 o10 g10 MG
  go_wp2_with fail
  refine (eqInt64S_same _ _ ys _ OG10.out.rd RS10.out (by have := LY.out; omega)).mono ?_
  rintro e w11 ⟨rfl, b11⟩
  have z11 := b11.size
  have RS11 := Lib.hid (RS10.out.later b11)
  have OG11 := Lib.hid (OG10.out.later b11)
  have BB11 : Hid (Below w.heap.size w w11) := BB10.out.trans (b11.mono (by omega))
  have N11 := Lib.hid ((b11.block w.heap.size (by omega)).trans N10.out)
  clear RS10 OG10 BB10 N10 b11 k10
  go_wp2_with fail
  refine (markInts_any _ ys _ _ OG11.out (by have := LY.out; omega) 1 (by omega) (by omega)).mono ?_
  rintro e w12 ⟨rfl, o12, g12⟩
  have z12 := g12.size
  have RS12 := Lib.hid (RS11.out.chg (Chg.of_grown g12 (fun b hb => LG.out b hb)) (fun c h => by have e1 := LS.out c h; omega))
  have RG12 := Lib.hid o12.rd
  have BB12 : Hid (Below w.heap.size w w12) := BB11.out.grown g12 (by omega) (fun c h => by have := LG.out c h; omega)
  have n12 := (g12.block w.heap.size (by omega) (fun h => by have := LG.out _ h.symm; omega)).trans N11.out
  obtain ⟨a0, a1⟩ := boxG_at n12
  clear RS11 OG11 BB11 N11 o12 g12 n12
  have k12 : ¬ (1 + (ys.length : Int) < 0) := by omega
  go_wp2_with fail
  refine (heldInts_any _ ys.length 1 _ RG12.out (by have := LY.out; omega) (by omega) (by omega)).mono ?_
  rintro e w12' ⟨rfl, rfl⟩
  go_wp2_with fail
  refine (t0.out _ (H.out.later BB12.out)).mono ?_
  rintro e w13 ⟨k13, rfl, sm13, o13, b13⟩
  have R13 := Lib.hid o13.rd
  have SM13 := Lib.hid sm13
  have B13 := Lib.hid b13
  have z13 := b13.size
  clear a0 a1 o13 b13 sm13
  go_wp2_with fail
  refine (c2.out _ k13 trivial SM13.out R13.out).mono ?_
  rintro e w14 ⟨vh, rfl, oh, b14⟩
  have B14 : Hid (Below w12.heap.size w12 w14) := B13.out.trans (b14.mono z13)
  have z14 := b14.size
  have RH := Lib.hid oh.rd
  have RS14 := Lib.hid (RS12.out.later B14.out)
  clear oh b14 R13 B13 RS12
  go_wp2_with fail
  refine (eqInt64S_same _ _ ys _ RH.out RS14.out (by have := LY.out; omega)).mono ?_
  rintro e w15 ⟨rfl, b15⟩
  have B15 : Hid (Below w12.heap.size w12 w15) := B14.out.trans (b15.mono (by omega))
  have RG15 := Lib.hid (RG12.out.later B15.out)
  clear b15 B14 RH RS14 RG12
  go_wp2_with fail
  refine (heldInts_any _ ys.length 1 _ RG15.out (by have := LY.out; omega) (by omega) (by omega)).mono ?_
  rintro e w15' ⟨rfl, rfl⟩
  go_wp2
  go_ret
  exact ⟨rfl, BB12.out.trans (B15.out.mono BB12.out.size)⟩

set_option maxRecDepth 100000 in
theorem walkFnExactTopsAt (w : World) (g : Gu) (wg : WfG g) (hg : RdG w g) (a1 : Int) (wa1 : (Lit.int .i64 a1).wf = true) :
    Calls Try.prog 4 #[.agg #[.slice g.da g.d.length g.dc, .slice g.ha g.xs.length g.hc], .int .i64 a1] w fun e w' => e = .returned (.bool true) ∧ Below w.heap.size w w' := by
  by_cases lt : g.tot ≤ 1048576
  · obtain ⟨ys, r1, ly, c1, c2⟩ := exTopsAt g a1 lt
    exact topsAt_law g a1 w hg lt ys r1 ly c1 c2
  · have s0 := Lib.hid (fun w h => szGround_any g 1048576 (by omega) (by omega) w h wg.1 wg.2.1 wg.2.2 _ rfl)
    rw [if_neg (by omega)] at s0
    have H := Lib.hid hg
    generalize g.d.length = n at *
    generalize g.xs.length = m at *
    clear hg lt wg
    go_enter Try.func4, Try.ntmps4
    go_wp2_with fail
    refine (s0.out _ (H.out.later (by go_grown))).mono ?_
    rintro e w1 ⟨rfl, b1⟩
    have B1 : Hid (Below w.heap.size w w1) := Below.trans (by go_grown) (b1.mono (by simp only [World.size_alloc]; omega))
    clear b1
    go_wp2
    go_ret
    exact ⟨rfl, B1.out⟩
end Go.Proofs.Ytobfephcmiolbab
