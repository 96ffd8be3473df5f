/- The law of ClassAt. -/
import Derived.Test.YtobfephcmiolbabClsX
import Derived.Test.YtobfephcmiolbabGrounds
import Derived.Test.YtobfephcmiolbabOpenG
import Derived.Deep.RegionHeld3
namespace Go.Proofs.Ytobfephcmiolbab
open Go.ChangeShapes Go.WideShapes Go.ChangeAt Go.RowKit
set_option linter.unusedVariables false
set_option linter.unusedSimpArgs false

set_option maxRecDepth 100000 in
set_option maxHeartbeats 8000000 in
theorem classAt_law (g : Gu) (a1 : Int) (a2 : Int) (w : World) (hg : RdG w g) (lt : g.tot ≤ 1048576) (r0 : Int) (r1 : Bool)
    (c1 : Hid (∀ (w : World) (k : Gu), True → k.same g → RdG w k → Calls Try.prog 22 #[.agg #[.slice k.da g.d.length k.dc, .slice k.ha g.xs.length k.hc], .int .i64 a1, .int .i64 a2] w fun e w' => e = .returned (.tuple #[.int .i64 r0, .bool r1]) ∧ Below w.heap.size w w'))
    (c2 : Hid (∀ (w : World) (k : Gu), True → k.same g → RdG w k → Calls Try.prog 23 #[.agg #[.slice k.da g.d.length k.dc, .slice k.ha g.xs.length k.hc], .int .i64 a1, .int .i64 a2] w fun e w' => e = .returned (.tuple #[.int .i64 r0, .bool r1]) ∧ Below w.heap.size w w')) :
    Calls Try.prog 5 #[.agg #[.slice g.da g.d.length g.dc, .slice g.ha g.xs.length g.hc], .int .i64 a1, .int .i64 a2] w fun e w' => e = .returned (.bool true) ∧ Below w.heap.size w w' := by
  have H := Lib.hid hg
  have LT := Lib.hid lt
  have tl : g.d.length ≤ 1048576 ∧ g.xs.length ≤ 1048576 ∧ ∀ x ∈ g.xs, x.t.length ≤ 1048576 := ⟨by unfold Gu.tot at lt; omega, by unfold Gu.tot at lt; omega, fun x hx => by have := sumT_mem hx; unfold Gu.tot at lt; omega⟩
  have s0 := Lib.hid (fun w h => szGround_any g 1048576 (by omega) (by omega) w h (by unfold maxLen; omega) (by unfold maxLen; omega) (fun x hx => by have := tl.2.2 x hx; unfold maxLen; omega) _ rfl)
  rw [if_pos (by omega)] at s0
  have t0 := Lib.hid (fun w h => toGround_any g w h lt)
  have q0 := Lib.hid (fun w k (h1 : RdG w k) k' h2 hs => eqGround_same k k' w h1 h2 hs)
  have g0 : ¬ (1048576 - (g.tot : Int) < 0) := by omega
  have tt : (g.tot : Int) ≤ 1048576 := by omega
  obtain ⟨n, hn⟩ : ∃ n, n = g.d.length := ⟨_, rfl⟩
  obtain ⟨m, hm⟩ : ∃ n, n = g.xs.length := ⟨_, rfl⟩
  obtain ⟨N, hN⟩ : ∃ n, n = g.tot := ⟨_, rfl⟩
  rw [← hn, ← hm] at s0 t0 c1 c2
  rw [← hN] at s0 g0 tt
  rw [← hn, ← hm]
  have HN := Lib.hid hn
  have HM := Lib.hid hm
  have HNN := Lib.hid hN
  clear hg lt tl hn hm hN
  go_enter Try.func5, Try.ntmps5
  go_wp2_with fail
  refine (s0.out _ (H.out.later (by go_grown))).mono ?_
  rintro e w1 ⟨rfl, b1⟩
  have n1 := (b1.block w.heap.size (by simp only [World.size_alloc]; omega)).trans (heap_alloc_new w _)
  have z1 := b1.size
  simp only [World.size_alloc] at z1
  have B1 : Hid (Below w.heap.size w w1) := Below.trans (by go_grown) (b1.mono (by simp only [World.size_alloc]; omega))
  have N1 := Lib.hid n1
  obtain ⟨a0, a1⟩ := boxG_at n1
  clear b1 n1
  go_wp2_with fail
  refine (t0.out _ (H.out.later B1.out)).mono ?_
  rintro e w2 ⟨k2, rfl, sm2, o2, b2⟩
  have z2 := b2.size
  have N2 := Lib.hid ((b2.block w.heap.size (by omega)).trans N1.out)
  have B2 : Hid (Below w.heap.size w w2) := B1.out.trans (b2.mono (by omega))
  have R2 := Lib.hid o2.rd
  have SM2 := Lib.hid sm2
  clear b2 o2 sm2 N1 B1 a0 a1 g0
  go_wp2_with fail
  refine (c1.out _ k2 trivial SM2.out R2.out).mono ?_
  rintro e w3 ⟨rfl, b3⟩
  have z3 := b3.size
  have N3 := Lib.hid ((b3.block w.heap.size (by omega)).trans N2.out)
  have B3 : Hid (Below w.heap.size w w3) := B2.out.trans (b3.mono (by omega))
  clear b3 N2 B2 R2 SM2
  obtain ⟨a0, a1⟩ := boxG_at N3.out
  go_wp2_with fail
  refine (t0.out _ (H.out.later B3.out)).mono ?_
  rintro e w4 ⟨k4, rfl, sm4, o4, b4⟩
  have z4 := b4.size
  have N4 := Lib.hid ((b4.block w.heap.size (by omega)).trans N3.out)
  have B4 : Hid (Below w.heap.size w w4) := B3.out.trans (b4.mono (by omega))
  have SM4 := Lib.hid sm4
  have O4 := Lib.hid o4
  clear b4 N3 B3 o4 sm4 a0 a1
  go_wp2_with fail
  refine (c2.out _ k4 trivial SM4.out (O4.out.rd.later (by go_grown))).mono ?_
  rintro e w6 ⟨rfl, b6⟩
  have n6 := (b6.block w.heap.size (by simp only [World.size_alloc]; omega)).trans ((Below.heap_alloc w4 _ _ (by omega)).trans N4.out)
  have x6 := (b6.block w4.heap.size (by simp only [World.size_alloc]; omega)).trans (heap_alloc_new w4 _)
  have z6 := b6.size
  simp only [World.size_alloc] at z6
  have B6 : Hid (Below w.heap.size w w6) := Below.trans (B4.out.alloc (by omega) _) (b6.mono (by simp only [World.size_alloc]; omega))
  have b46 : Below w4.heap.size w4 w6 := Below.trans (Below.alloc (Below.refl _ _) (Nat.le_refl _) _) (b6.mono (by simp only [World.size_alloc]; omega))
  have O6 := Lib.hid (O4.out.later b46)
  have N6 := Lib.hid n6
  have X6 := Lib.hid x6
  clear b6 N4 O4 B4 b46 n6 x6
  have KS : Hid (∀ w', Below w6.heap.size w6 w' → (w'.cell? ⟨w.heap.size, 0, none⟩ = some (.slice g.da n g.dc) ∧ w'.cell? ⟨w.heap.size, 1, none⟩ = some (.slice g.ha m g.hc) ∧ w'.cell? ⟨w4.heap.size, 0, none⟩ = some (.slice k4.da n k4.dc) ∧ w'.cell? ⟨w4.heap.size, 1, none⟩ = some (.slice k4.ha m k4.hc))) := by
    intro w' hb
    obtain ⟨u0, u1⟩ := boxG_at ((hb.block w.heap.size (by omega)).trans N6.out)
    obtain ⟨v0, v1⟩ := boxG_at ((hb.block w4.heap.size (by omega)).trans X6.out)
    exact ⟨u0, u1, v0, v1⟩
  have QE := Lib.hid (fun (wa : World) (k8 : Gu) (h1 : RdG wa k4) (h2 : RdG wa k8) (hs : k8.same g) => eqGround_same k4 k8 wa h1 h2 (SM4.out.trans' hs) (by rw [Gu.same_tot SM4.out]; exact LT.out))
  have EL4 := Lib.hid (And.intro (show k4.d.length = n by rw [SM4.out.1]; exact HN.out.symm) (show k4.xs.length = m by rw [map_ho_len SM4.out.2]; exact HM.out.symm))
  rw [EL4.out.1, EL4.out.2] at QE
  go_wp2_with fail
  go_region_held3 (fun w' => (w'.cell? ⟨w.heap.size, 0, none⟩ = some (.slice g.da n g.dc) ∧ w'.cell? ⟨w.heap.size, 1, none⟩ = some (.slice g.ha m g.hc) ∧ w'.cell? ⟨w4.heap.size, 0, none⟩ = some (.slice k4.da n k4.dc) ∧ w'.cell? ⟨w4.heap.size, 1, none⟩ = some (.slice k4.ha m k4.hc)))
    (first | exact KS.out _ D9.out | exact KS.out _ D8.out | exact KS.out _ (Below.refl _ _).drew)
    (first
      | (go_at_call 13; refine (t0.out _ (H.out.later B6.out.drew)).mono ?_; rintro e w8 ⟨k8, rfl, sm8, o8, b8⟩; have D8 : Hid (Below w6.heap.size w6 w8) := (Below.refl _ _).drew.trans b8; have QF := Lib.hid (QE.out w8 k8 (O6.out.rd.later D8.out) o8.rd sm8); have EL8 := And.intro (show k8.d.length = n by rw [sm8.1]; exact HN.out.symm) (show k8.xs.length = m by rw [map_ho_len sm8.2]; exact HM.out.symm); rw [EL8.1, EL8.2] at QF; clear EL8)
      | (go_at_call 15; refine QF.out.mono ?_; rintro e w9 ⟨rfl, b9⟩; have D9 : Hid (Below w6.heap.size w6 w9) := D8.out.trans (b9.mono D8.out.size)))
  rename_i hHeld
  have d9 := D9.out
  clear hHeld D9 D8 QF QE KS o8 b8 b9 sm8
  have BB : Hid (Below w.heap.size w w9) := B6.out.trans (d9.mono (by omega))
  clear d9 N6 X6 B6 O6
  go_wp2
  go_ret
  exact ⟨rfl, BB.out⟩

set_option maxRecDepth 100000 in
theorem walkFnExactClassAt (w : World) (g : Gu) (wg : WfG g) (hg : RdG w g) (a1 : Int) (wa1 : (Lit.int .i64 a1).wf = true) (a2 : Int) (wa2 : (Lit.int .i64 a2).wf = true) :
    Calls Try.prog 5 #[.agg #[.slice g.da g.d.length g.dc, .slice g.ha g.xs.length g.hc], .int .i64 a1, .int .i64 a2] w fun e w' => e = .returned (.bool true) ∧ Below w.heap.size w w' := by
  by_cases lt : g.tot ≤ 1048576
  · obtain ⟨r0, r1, c1, c2⟩ := exClassAt g a1 a2 lt
    exact classAt_law g a1 a2 w hg lt r0 r1 c1 c2
  · have s0 := Lib.hid (fun w h => szGround_any g 1048576 (by omega) (by omega) w h wg.1 wg.2.1 wg.2.2 _ rfl)
    rw [if_neg (by omega)] at s0
    have H := Lib.hid hg
    generalize g.d.length = n at *
    generalize g.xs.length = m at *
    clear hg lt wg
    go_enter Try.func5, Try.ntmps5
    go_wp2_with fail
    refine (s0.out _ (H.out.later (by go_grown))).mono ?_
    rintro e w1 ⟨rfl, b1⟩
    have B1 : Hid (Below w.heap.size w w1) := Below.trans (by go_grown) (b1.mono (by simp only [World.size_alloc]; omega))
    clear b1
    go_wp2
    go_ret
    exact ⟨rfl, B1.out⟩
end Go.Proofs.Ytobfephcmiolbab
