/- The law FnPoses: each pose is the next one of the pose before it, with the curve of the ring between them, and the normal axis is the one that has these poses. (Written by tools/mkposlaw.py.) -/
import Derived.Test.YthhnnkgfnhggbaaNormM
import Derived.Test.YthhnnkgfnhggbaaR8Ax
import Derived.Test.YthhnnkgfnhggbaaR8K
import Derived.Test.YthhnnkgfnhggbaaR8Eq
import Derived.Test.YthhnnkgfnhggbaaPosesOf
import Derived.Test.YthhnnkgfnhggbaaPoseAt
import Derived.Test.YthhnnkgfnhggbaaCurveAt
import Derived.Test.YthhnnkgfnhggbaaNormal
import Derived.Deep.QuietTactic
import Derived.BigQuiet
import Derived.Deep.RegionHeld3
namespace Go.Proofs.Ythhnnkgfnhggbaa
open Go.ChangeShapes Go.WideShapes Go.ChangeAt Go.RowKit
set_option linter.unusedVariables false
set_option linter.unusedSimpArgs false

set_option maxRecDepth 100000 in
set_option maxHeartbeats 8000000 in
theorem walkFnPoses (w : World) (a0 : Option Addr) (len0 cap0 : Nat) (z0 : List Int) (w0 : IsRow .u8 w a0 len0 cap0 z0) (a1 : Option Addr) (len1 cap1 : Nat) (z1 : List Int) (w1 : IsRow .u8 w a1 len1 cap1 z1) :
    Calls Try.prog 3 #[.slice a0 len0 cap0, .slice a1 len1 cap1] w fun e w' => e = .returned (.bool true) ∧ Below w.heap.size w w' := by
  have l0 := w0.len_le
  have l1 := w1.len_le
  obtain ⟨r0, hr0⟩ := w0.rdB
  by_cases h : ¬ ((len0 : Int) ≤ 48 ∧ (len1 : Int) ≤ 48)
  · go_enter Try.func3, Try.ntmps3
    go_wp2_with fail
    refine (r8Long8_any a0 a1 len0 len1 cap0 cap1 (by omega) (by omega) true ⟨(fun _ => h), (fun _ => rfl)⟩ w).mono ?_
    rintro e w' ⟨rfl, rfl⟩
    go_wp2
    go_ret
    exact ⟨rfl, Below.refl _ _⟩
  · have h' : len0 ≤ 48 ∧ len1 ≤ 48 := by omega
    have LG := Lib.hid (fun w => r8Long8_any a0 a1 len0 len1 cap0 cap1 (by omega) (by omega) false ⟨(fun e => by cases e), (fun g => absurd (by omega) g)⟩ w)
    have AXD := Lib.hid (r8Axis_any w (.slice a0 len0 cap0) (z0.take len0) r0 (by rw [hr0]; omega))
    clear h h' w0 r0 hr0 w1 l0 l1
    go_enter Try.func3, Try.ntmps3
    go_wp2_with fail
    refine (LG.out _).mono ?_
    rintro e w' ⟨rfl, rfl⟩
    go_wp2_with fail
    refine AXD.out.mono ?_
    rintro e w2 ⟨q, u, ys, rfl, ok, o2, b2⟩
    obtain ⟨au, cu, rfl⟩ := o2.form
    have B2 := Lib.hid b2
    have RY2 := Lib.hid (o2.rd encCv_len)
    have OK := Lib.hid ok
    obtain ⟨ly1, ly8, hcv, hs0, hs60⟩ := ok.parts'
    have hlen := turnsC_len ys hcv
    obtain ⟨axv, hmd⟩ := poses_axV ok
    obtain ⟨-, -, hhead⟩ := poses_road ok
    obtain ⟨nok, -⟩ := normal_ok ok
    obtain ⟨nl1, nl8, -, -, -⟩ := nok.parts'
    have hnp := normal_poses ok
    obtain ⟨T, hT⟩ : ∃ T, (turnsC ys).length = T := ⟨_, rfl⟩
    obtain ⟨N, hN⟩ : ∃ N, T + 1 = N := ⟨_, rfl⟩
    have hpl : (allPs q ys).length = N := by rw [allPs, posesTo_length, hT, hN]
    have N2 : 2 ≤ N := by rw [← hpl]; exact axv.1.1
    have N61 : N ≤ 61 := by rw [← hpl]; exact axv.1.2
    have T1 : 1 ≤ T := by omega
    have T60 : T ≤ 60 := by omega
    rw [hT] at hlen
    have PL : Hid ((allPs q ys).length = N) := hpl
    have PG : Hid (∀ i, i < N → (allPs q ys)[i]? = some (poseN q ((turnsC ys).take i))) := fun i hi => posesTo_get _ _ _ _ (by omega)
    have TG : Hid (∀ i, i < T → ∃ t, (turnsC ys)[i]? = some t) := fun i hi => ⟨_, List.getElem?_eq_getElem (by omega)⟩
    have OP : Hid (∀ i, i < N → OkP (poseN q ((turnsC ys).take i))) := fun i hi => ok.pose i (by omega)
    have TT : Hid (∀ t ∈ turnsC ys, OkTurn t.b ∧ OkTurn t.s) := turnsC_turn ys hcv
    have AP := Lib.hid (mergeL_apart ys)
    have C0 := Lib.hid (fun w hr => implRingsOf_any q (.slice au ys.length cu) ys w hr (by omega) (T : Int) true ⟨fun _ => ok, fun _ => rfl⟩ (by rw [if_pos rfl]; exact hlen))
    have C1 := Lib.hid (fun w hr => implPosesOf_any q (.slice au ys.length cu) ys w hr (by omega) true ⟨fun _ => ok, fun _ => rfl⟩ (allPs q ys) rfl)
    have C2 := Lib.hid (fun w hr => implNormal_yes q (.slice au ys.length cu) ys w hr (by omega) ok)
    have C3 : Hid (∀ v w, (∃ B, OwnS 25 4 encPs w B v (allPs q ys)) → Calls Try.prog 16 #[v] w fun e w' => ∃ v', e = .returned (.tuple #[(.agg #[.int .i64 q.s, .int .i64 q.h, .int .i64 q.y, .int .i64 q.p, v']), .bool true]) ∧ OwnS 46 3 encCv w' w.heap.size v' (mergeL ys) ∧ Below w.heap.size w w') := fun v w hO => implAxisOf_any v (allPs q ys) w hO (by omega) true ⟨fun _ => axv, fun _ => rfl⟩ q (by rw [if_pos rfl, hhead]) (mergeL ys) (by rw [if_pos rfl, hmd])
    have C4 := Lib.hid (fun v w hr => implPosesOf_any q v (mergeL ys) w hr (by omega) true ⟨fun _ => nok, fun _ => rfl⟩ (allPs q ys) (by rw [if_pos rfl, hnp]))
    have C5 := Lib.hid (fun (k : Nat) t w hr (hk : k < T) (ht : (turnsC ys)[k]? = some t) => implCurveAt_yes q (.slice au ys.length cu) ys (k : Int) w hr (by omega) ⟨ok, by omega, by omega⟩ t ht)
    have C6 := Lib.hid (fun (k : Nat) w hr (hk : k ≤ T) p hp => implPoseAt_yes q (.slice au ys.length cu) ys k w hr (by omega) ok (by omega) p hp)
    obtain ⟨M, hM⟩ : ∃ M, (mergeL ys).length = M := ⟨_, rfl⟩
    have ML : Hid ((mergeL ys).length = M) := hM
    rw [hM] at nl1 nl8
    have HNT := Lib.hid hN
    clear ok o2 b2 hcv hs0 hs60 hlen axv hmd hhead nok hnp hT hN hpl hM AXD LG
    go_wp2_with fail
    obtain ⟨AX, hAX⟩ : ∃ p, p = w2.heap.size := ⟨_, rfl⟩
    generalize hx : w2.alloc (.cells #[.int .i64 q.s, .int .i64 q.h, .int .i64 q.y, .int .i64 q.p, .slice au ys.length cu] 28) = w3
    have bb : Below w2.heap.size w2 w3 := by rw [← hx]; go_grown
    have NA3 := Lib.hid (show w3.heap[AX]? = some (.cells #[.int .i64 q.s, .int .i64 q.h, .int .i64 q.y, .int .i64 q.p, .slice au ys.length cu] 28 (0, 0)) from by rw [← hx, hAX]; exact heap_alloc_new _ _)
    have B3 : Hid (Below w.heap.size w w3) := B2.out.trans (bb.mono B2.out.size)
    have RY3 := Lib.hid (RY2.out.later bb)
    rw [← hAX]
    clear hx hAX bb B2 RY2
    refine (C0.out _ RY3.out).mono ?_
    rintro e w4 ⟨rfl, b1⟩
    have NA4 := Lib.hid ((b1.block AX (box_lt NA3.out)).trans NA3.out)
    have B4 : Hid (Below w.heap.size w w4) := B3.out.trans (b1.mono B3.out.size)
    have RY4 := Lib.hid (RY3.out.later b1)
    clear b1 C0 NA3 B3 RY3
    obtain ⟨⟨k0, k1, k2, k3, k4⟩, -⟩ := boxA_at NA4.out
    go_wp2_with fail
    refine (C1.out _ RY4.out).mono ?_
    rintro e w5 ⟨v1, rfl, o1, b1⟩
    obtain ⟨g1, c1, rfl, -⟩ := o1.caps (by rw [PL.out]; omega)
    rw [PL.out] at o1 ⊢
    have O15 := Lib.hid o1
    have NA5 := Lib.hid ((b1.block AX (box_lt NA4.out)).trans NA4.out)
    have B5 : Hid (Below w.heap.size w w5) := B4.out.trans (b1.mono B4.out.size)
    have RY5 := Lib.hid (RY4.out.later b1)
    clear b1 o1 C1 NA4 B4 RY4 k0 k1 k2 k3 k4
    obtain ⟨⟨k0, k1, k2, k3, k4⟩, -⟩ := boxA_at NA5.out
    go_wp2_with fail
    refine (C2.out _ RY5.out).mono ?_
    rintro e w6 ⟨v2, rfl, o2, b1⟩
    obtain ⟨g2, c2, rfl, -⟩ := o2.caps (by rw [ML.out]; omega)
    rw [ML.out] at o2 ⊢
    have RN6 := Lib.hid (o2.rd encCv_len)
    have O16 := Lib.hid (O15.out.later b1)
    have NA6 := Lib.hid ((b1.block AX (box_lt NA5.out)).trans NA5.out)
    have B6 : Hid (Below w.heap.size w w6) := B5.out.trans (b1.mono B5.out.size)
    have RY6 := Lib.hid (RY5.out.later b1)
    clear b1 o2 C2 NA5 B5 RY5 O15 k0 k1 k2 k3 k4
    go_wp2_with fail
    obtain ⟨NX, hNX⟩ : ∃ p, p = w6.heap.size := ⟨_, rfl⟩
    generalize hx : w6.alloc (.cells #[.int .i64 q.s, .int .i64 q.h, .int .i64 q.y, .int .i64 q.p, .slice (some ⟨g2, 0, none⟩) M c2] 28) = w7
    have bb : Below w6.heap.size w6 w7 := by rw [← hx]; go_grown
    have NN7 := Lib.hid (show w7.heap[NX]? = some (.cells #[.int .i64 q.s, .int .i64 q.h, .int .i64 q.y, .int .i64 q.p, .slice (some ⟨g2, 0, none⟩) M c2] 28 (0, 0)) from by rw [← hx, hNX]; exact heap_alloc_new _ _)
    have RN7 := Lib.hid (RN6.out.later bb)
    have O17 := Lib.hid (O16.out.later bb)
    have NA7 := Lib.hid ((bb.block AX (box_lt NA6.out)).trans NA6.out)
    have B7 : Hid (Below w.heap.size w w7) := B6.out.trans (bb.mono B6.out.size)
    have RY7 := Lib.hid (RY6.out.later bb)
    rw [← hNX]
    clear hx hNX bb RN6 O16 NA6 B6 RY6
    refine (C3.out _ _ ⟨_, O17.out⟩).mono ?_
    rintro e w8 ⟨v3, rfl, o3, b1⟩
    obtain ⟨g3, c3, rfl, -⟩ := o3.caps (by rw [ML.out]; omega)
    rw [ML.out] at o3 ⊢
    have RA8 := Lib.hid (o3.rd encCv_len)
    have R18 : Hid (RdS 4 encPs w8 (.slice (some ⟨g1, 0, none⟩) N c1) (allPs q ys)) := (O17.out.rd encPs_len).later b1
    have NN8 := Lib.hid ((b1.block NX (box_lt NN7.out)).trans NN7.out)
    have RN8 := Lib.hid (RN7.out.later b1)
    have NA8 := Lib.hid ((b1.block AX (box_lt NA7.out)).trans NA7.out)
    have B8 : Hid (Below w.heap.size w w8) := B7.out.trans (b1.mono B7.out.size)
    have RY8 := Lib.hid (RY7.out.later b1)
    have lNX := box_lt NN8.out
    clear b1 o3 C3 O17 NN7 RN7 NA7 B7 RY7
    obtain ⟨⟨k0, k1, k2, k3, k4⟩, -⟩ := boxA_at NN8.out
    have ne1 : ¬ NX = w8.heap.size := by omega
    have ne2 : ¬ w8.heap.size = NX := by omega
    go_wp2_with fail
    obtain ⟨GX, hGX⟩ : ∃ p, p = w8.heap.size := ⟨_, rfl⟩
    generalize hx : w8.alloc (.cells #[.int .i64 q.s, .int .i64 q.h, .int .i64 q.y, .int .i64 q.p, .slice (some ⟨g3, 0, none⟩) M c3] 28) = w9
    have bb : Below w8.heap.size w8 w9 := by rw [← hx]; go_grown
    have NG9 := Lib.hid (show w9.heap[GX]? = some (.cells #[.int .i64 q.s, .int .i64 q.h, .int .i64 q.y, .int .i64 q.p, .slice (some ⟨g3, 0, none⟩) M c3] 28 (0, 0)) from by rw [← hx, hGX]; exact heap_alloc_new _ _)
    have RA9 := Lib.hid (RA8.out.later bb)
    have R19 := Lib.hid (R18.out.later bb)
    have NN9 := Lib.hid ((bb.block NX (box_lt NN8.out)).trans NN8.out)
    have RN9 := Lib.hid (RN8.out.later bb)
    have NA9 := Lib.hid ((bb.block AX (box_lt NA8.out)).trans NA8.out)
    have B9 : Hid (Below w.heap.size w w9) := B8.out.trans (bb.mono B8.out.size)
    have RY9 := Lib.hid (RY8.out.later bb)
    rw [← hGX]
    clear hx hGX bb RA8 R18 NN8 RN8 NA8 B8 RY8 k0 k1 k2 k3 k4 ne1 ne2 lNX
    refine (C4.out _ _ RN9.out).mono ?_
    rintro e w10 ⟨v4, rfl, o4, b1⟩
    obtain ⟨g4, c4, rfl, -⟩ := o4.caps (by rw [PL.out]; omega)
    rw [PL.out] at o4 ⊢
    have R4 := Lib.hid (o4.rd encPs_len)
    have NG := Lib.hid ((b1.block GX (box_lt NG9.out)).trans NG9.out)
    have RA := Lib.hid (RA9.out.later b1)
    have R1 := Lib.hid (R19.out.later b1)
    have NN := Lib.hid ((b1.block NX (box_lt NN9.out)).trans NN9.out)
    have RN := Lib.hid (RN9.out.later b1)
    have NA := Lib.hid ((b1.block AX (box_lt NA9.out)).trans NA9.out)
    have B10 : Hid (Below w.heap.size w w10) := B9.out.trans (b1.mono B9.out.size)
    have RY := Lib.hid (RY9.out.later b1)
    have lG := box_lt NG.out
    have lNN := box_lt NN.out
    have lAA := box_lt NA.out
    have p0g := PG.out 0 (by omega)
    have KS : Hid (∀ w', Below w10.heap.size w10 w' → (w'.cell? ⟨NX, 0, none⟩ = some (.int .i64 q.s) ∧ w'.cell? ⟨NX, 1, none⟩ = some (.int .i64 q.h) ∧ w'.cell? ⟨NX, 2, none⟩ = some (.int .i64 q.y) ∧ w'.cell? ⟨NX, 3, none⟩ = some (.int .i64 q.p) ∧ w'.cell? ⟨NX, 4, none⟩ = some (.slice (some ⟨g2, 0, none⟩) M c2) ∧ w'.cell? ⟨GX, 0, none⟩ = some (.int .i64 q.s) ∧ w'.cell? ⟨GX, 1, none⟩ = some (.int .i64 q.h) ∧ w'.cell? ⟨GX, 2, none⟩ = some (.int .i64 q.y) ∧ w'.cell? ⟨GX, 3, none⟩ = some (.int .i64 q.p) ∧ w'.cell? ⟨GX, 4, none⟩ = some (.slice (some ⟨g3, 0, none⟩) M c3) ∧ w'.cell? ⟨AX, 0, none⟩ = some (.int .i64 q.s) ∧ w'.cell? ⟨AX, 1, none⟩ = some (.int .i64 q.h) ∧ w'.cell? ⟨AX, 2, none⟩ = some (.int .i64 q.y) ∧ w'.cell? ⟨AX, 3, none⟩ = some (.int .i64 q.p) ∧ w'.cell? ⟨g1, 0, none⟩ = some (.int .i64 q.s) ∧ w'.cell? ⟨g1, 1, none⟩ = some (.int .i64 q.h) ∧ w'.cell? ⟨g1, 2, none⟩ = some (.int .i64 q.y) ∧ w'.cell? ⟨g1, 3, none⟩ = some (.int .i64 q.p))) := by
      intro w' b
      obtain ⟨⟨x0, x1, x2, x3, x4⟩, -⟩ := boxA_at ((b.block NX lNN).trans NN.out)
      obtain ⟨⟨z0, z1, z2, z3, z4⟩, -⟩ := boxA_at ((b.block GX lG).trans NG.out)
      obtain ⟨⟨t0, t1, t2, t3, -⟩, -⟩ := boxA_at ((b.block AX lAA).trans NA.out)
      obtain ⟨s0, s1, s2, s3⟩ := (R1.out.later b).at4g p0g
      simp only [Nat.zero_mul, Nat.zero_add] at s0 s1 s2 s3
      exact ⟨x0, x1, x2, x3, x4, z0, z1, z2, z3, z4, t0, t1, t2, t3, s0, s1, s2, s3⟩
    have wT : IntKind.i64.wrap ((T : Int) + 1) = (N : Int) := (IntWalk.i64_in _ (by omega)).trans (by have := HNT.out; omega)
    have nn : ((N : Int) != (N : Int)) = false := by simp
    have g1' : decide ((T : Int) < 1) = false := by simp; omega
    have g2' : decide ((60 : Int) < (T : Int)) = false := by simp; omega
    have i0 : (0 : Int) < (N : Int) := by omega
    have n0 : 0 < N := by omega
    have q1 : ¬ (T : Int) < 1 := by omega
    have q2 : ¬ (60 : Int) < (T : Int) := by omega
    clear b1 o4 C4 NG9 RA9 R19 NN9 RN9 NA9 B9 RY9 p0g
    go_wp2_with fail
    go_region_held3 (fun w' => (w'.cell? ⟨NX, 0, none⟩ = some (.int .i64 q.s) ∧ w'.cell? ⟨NX, 1, none⟩ = some (.int .i64 q.h) ∧ w'.cell? ⟨NX, 2, none⟩ = some (.int .i64 q.y) ∧ w'.cell? ⟨NX, 3, none⟩ = some (.int .i64 q.p) ∧ w'.cell? ⟨NX, 4, none⟩ = some (.slice (some ⟨g2, 0, none⟩) M c2) ∧ w'.cell? ⟨GX, 0, none⟩ = some (.int .i64 q.s) ∧ w'.cell? ⟨GX, 1, none⟩ = some (.int .i64 q.h) ∧ w'.cell? ⟨GX, 2, none⟩ = some (.int .i64 q.y) ∧ w'.cell? ⟨GX, 3, none⟩ = some (.int .i64 q.p) ∧ w'.cell? ⟨GX, 4, none⟩ = some (.slice (some ⟨g3, 0, none⟩) M c3) ∧ w'.cell? ⟨AX, 0, none⟩ = some (.int .i64 q.s) ∧ w'.cell? ⟨AX, 1, none⟩ = some (.int .i64 q.h) ∧ w'.cell? ⟨AX, 2, none⟩ = some (.int .i64 q.y) ∧ w'.cell? ⟨AX, 3, none⟩ = some (.int .i64 q.p) ∧ w'.cell? ⟨g1, 0, none⟩ = some (.int .i64 q.s) ∧ w'.cell? ⟨g1, 1, none⟩ = some (.int .i64 q.h) ∧ w'.cell? ⟨g1, 2, none⟩ = some (.int .i64 q.y) ∧ w'.cell? ⟨g1, 3, none⟩ = some (.int .i64 q.p)))
      (first | exact KS.out _ D2.out | exact KS.out _ D1.out | exact KS.out _ (Below.refl _ _).drew)
      (first
        | (go_at_call 17; refine (r8Axes_same q g2 g3 M c2 c3 (mergeL ys) _ (RN.out.later (Below.refl _ _).drew) (RA.out.later (Below.refl _ _).drew) ML.out (by omega)).mono ?_; rintro e u1 ⟨rfl, b1⟩; have D1 : Hid (Below w10.heap.size w10 u1) := (Below.refl _ _).drew.trans b1)
        | (go_at_call 18; refine (r8Poses_same g1 g4 N c1 c4 (allPs q ys) _ (R1.out.later D1.out) (R4.out.later D1.out) PL.out (by omega)).mono ?_; rintro e u2 ⟨rfl, b2⟩; have D2 : Hid (Below w10.heap.size w10 u2) := D1.out.trans (b2.mono D1.out.size)))
    have BU : Hid (Below w.heap.size w u2) := B10.out.trans (D2.out.mono B10.out.size)
    have NAu := Lib.hid ((D2.out.block AX lAA).trans NA.out)
    have NNu := Lib.hid ((D2.out.block NX lNN).trans NN.out)
    have R1u := Lib.hid (R1.out.later D2.out)
    have RNu := Lib.hid (RN.out.later D2.out)
    have RYu := Lib.hid (RY.out.later D2.out)
    have l1u := box_lt NAu.out
    have l2u := box_lt NNu.out
    clear KS D1 D2 b1 b2 NG RA R4 NA NN R1 RN RY B10 wT nn g1' g2' i0 q1 q2 lG lNN lAA
    try clear hHeld
    go_wp2
    go_loopw [16] (fun iv wr => ∃ k : Nat, k ≤ T ∧ iv = .int .i64 (k : Int) ∧ Hid (Below u2.heap.size u2 wr)) (fun iv _ => T - (intOf iv).toNat)
    case atStart => exact ⟨0, by omega, by simp, Below.refl _ _⟩
    case round =>
      obtain ⟨k, hk, rfl, B⟩ := hrel
      by_cases hlt : k < T
      · obtain ⟨t, ht⟩ := TG.out k hlt
        obtain ⟨k1, hk1⟩ : ∃ k1, k1 = k + 1 := ⟨_, rfl⟩
        have hN := HNT.out
        obtain ⟨p, hp⟩ : ∃ x, poseN q ((turnsC ys).take k) = x := ⟨_, rfl⟩
        obtain ⟨P2, hP2⟩ : ∃ x, stepP p t.b t.s = x := ⟨_, rfl⟩
        have gp := PG.out k (by omega)
        have g2p := PG.out k1 (by omega)
        have o1 := OP.out k (by omega)
        have o2 := OP.out k1 (by omega)
        have tt := TT.out t (List.mem_of_getElem? ht)
        have st := poseN_succ q (turnsC ys) k t ht
        rw [← hk1] at st
        rw [st, hp] at g2p o2
        rw [hp] at gp o1
        have C7 := Lib.hid (fun w => implNext_yes p t.b t.s o1 tt.1 tt.2 o2 w)
        rw [hP2] at g2p C7
        have GP := Lib.hid gp
        have G2P := Lib.hid g2p
        have HT := Lib.hid ht
        have HP := Lib.hid hp
        have q1 : IntKind.i64.wrap ((k : Int) + 1) = (k1 : Int) := (IntWalk.i64_in _ (by omega)).trans (by omega)
        have kN : k < N := by omega
        have k1N : k1 < N := by omega
        have k1T : k1 ≤ T := by omega
        have kk1 : k < k1 := by omega
        have lkN : (k : Int) < (N : Int) := by omega
        have lk1N : (k1 : Int) < (N : Int) := by omega
        obtain ⟨⟨k0_, k1_, k2_, k3_, k4_⟩, -⟩ := boxA_at ((B.out.block AX l1u).trans NAu.out)
        clear ht hk1 hp hP2 gp g2p o1 o2 tt st hN
        go_wp2_with fail
        refine (C5.out k t _ (RYu.out.later B.out) hlt HT.out).mono ?_
        rintro e x1 ⟨rfl, b1⟩
        have B1 : Hid (Below u2.heap.size u2 x1) := B.out.trans (b1.mono B.out.size)
        clear b1 B k0_ k1_ k2_ k3_ k4_
        obtain ⟨p0, p1, p2, p3⟩ := (R1u.out.later B1.out).at4g GP.out
        go_wp2_with fail
        refine (C7.out _).mono ?_
        rintro e x2 ⟨rfl, b1⟩
        have B2 : Hid (Below u2.heap.size u2 x2) := B1.out.trans (b1.mono B1.out.size)
        clear b1 B1 C7 p0 p1 p2 p3
        have NA2 := (B2.out.block AX l1u).trans NAu.out
        obtain ⟨⟨k0_, k1_, k2_, k3_, k4_⟩, lx2⟩ := boxA_at NA2
        have na1 : ¬ AX = x2.heap.size := by omega
        have na2 : ¬ x2.heap.size = AX := by omega
        clear NA2
        go_wp2_with fail
        obtain ⟨PX, hPX⟩ : ∃ p, p = x2.heap.size := ⟨_, rfl⟩
        generalize hx : x2.alloc (.cells #[.int .i64 P2.s, .int .i64 P2.h, .int .i64 P2.y, .int .i64 P2.p] 25) = x3
        have bb : Below x2.heap.size x2 x3 := by rw [← hx]; go_grown
        have NP3 := Lib.hid (show x3.heap[PX]? = some (.cells #[.int .i64 P2.s, .int .i64 P2.h, .int .i64 P2.y, .int .i64 P2.p] 25 (0, 0)) from by rw [← hx, hPX]; exact heap_alloc_new _ _)
        have B3 : Hid (Below u2.heap.size u2 x3) := B2.out.trans (bb.mono B2.out.size)
        rw [← hPX]
        clear hx hPX bb B2 k0_ k1_ k2_ k3_ k4_ na1 na2 lx2
        refine (C6.out k _ (RYu.out.later B3.out) (by omega) p HP.out.symm).mono ?_
        rintro e x4 ⟨rfl, b1⟩
        have B4 : Hid (Below u2.heap.size u2 x4) := B3.out.trans (b1.mono B3.out.size)
        have NP4 := Lib.hid ((b1.block PX (box_lt NP3.out)).trans NP3.out)
        have lPX := box_lt NP4.out
        clear b1 B3 NP3
        go_wp2_with fail
        obtain ⟨QX, hQX⟩ : ∃ p, p = x4.heap.size := ⟨_, rfl⟩
        generalize hx : x4.alloc (.cells #[.int .i64 p.s, .int .i64 p.h, .int .i64 p.y, .int .i64 p.p] 25) = x5
        have bb : Below x4.heap.size x4 x5 := by rw [← hx]; go_grown
        have NQ5 := (show x5.heap[QX]? = some (.cells #[.int .i64 p.s, .int .i64 p.h, .int .i64 p.y, .int .i64 p.p] 25 (0, 0)) from by rw [← hx, hQX]; exact heap_alloc_new _ _)
        have NP5 := (bb.block PX lPX).trans NP4.out
        have B5 : Hid (Below u2.heap.size u2 x5) := B4.out.trans (bb.mono B4.out.size)
        rw [← hQX]
        clear hx hQX bb B4 NP4 lPX
        obtain ⟨⟨c0, c1_, c2_, c3_⟩, -, -⟩ := boxPs_at NQ5
        obtain ⟨⟨d0, d1, d2, d3⟩, -, -⟩ := boxPs_at NP5
        obtain ⟨p0, p1, p2, p3⟩ := (R1u.out.later B5.out).at4g GP.out
        obtain ⟨r0, r1, r2, r3⟩ := (R1u.out.later B5.out).at4g G2P.out
        clear NQ5 NP5 GP G2P HT HP
        go_quiet (fail)
        have B6 : Hid (Below u2.heap.size u2 (x5.drewN nq)) := below_drewN' B5.out _
        clear c0 c1_ c2_ c3_ d0 d1 d2 d3 p0 p1 p2 p3 r0 r1 r2 r3 B5
        go_wp2
        exact ⟨⟨k1, k1T, rfl, B6⟩, by simp only [intOf]; omega⟩
      · obtain rfl : k = T := by omega
        have NN3 := Lib.hid ((B.out.block NX l2u).trans NNu.out)
        have RN3 := Lib.hid (RNu.out.later B.out)
        have B3 : Hid (Below w.heap.size w wr) := BU.out.trans (B.out.mono BU.out.size)
        have l3 := box_lt NN3.out
        clear NNu RNu BU B NAu R1u RYu l1u l2u C5 C6
        obtain ⟨wo, hwo⟩ : ∃ x, x = wr := ⟨_, rfl⟩
        rw [← hwo] at NN3 RN3 B3 l3 ⊢
        clear hwo
        go_wp2
        go_loopw [24] (fun iv wr => ∃ j : Nat, 1 ≤ j ∧ j ≤ M ∧ iv = .int .i64 (j : Int) ∧ Hid (Below wo.heap.size wo wr)) (fun iv _ => M - (intOf iv).toNat)
        case atStart => exact ⟨1, by omega, by omega, by simp, Below.refl _ _⟩
        case round =>
          obtain ⟨j, hj1, hjM, rfl, B⟩ := hrel
          obtain ⟨⟨-, -, -, -, k4_⟩, -⟩ := boxA_at ((B.out.block NX l3).trans NN3.out)
          by_cases hjl : j < M
          · obtain ⟨i, hi⟩ : ∃ i, i = j - 1 := ⟨_, rfl⟩
            obtain ⟨c, hc⟩ : ∃ x, (mergeL ys)[i]? = some x := ⟨_, List.getElem?_eq_getElem (by have := ML.out; omega)⟩
            obtain ⟨d, hd⟩ : ∃ x, (mergeL ys)[j]? = some x := ⟨_, List.getElem?_eq_getElem (by have := ML.out; omega)⟩
            have na : ¬ Like c d := AP.out i c d hc (by rw [show i + 1 = j by omega]; exact hd)
            obtain ⟨p0, p1, p2⟩ := (RN3.out.later B.out).at3g hc
            obtain ⟨q0, q1, q2⟩ := (RN3.out.later B.out).at3g hd
            have wj : IntKind.i64.wrap ((j : Int) - 1) = (i : Int) := (IntWalk.i64_in _ (by omega)).trans (by omega)
            have wj1 : IntKind.i64.wrap ((j : Int) + 1) = ((j + 1 : Nat) : Int) := by push_cast; exact IntWalk.i64_in _ (by omega)
            have iM : i < M := by omega
            have liM : (i : Int) < (M : Int) := by omega
            have ljM : (j : Int) < (M : Int) := by omega
            clear hi hc hd p0 q0
            by_cases hbe : c.b = d.b
            · have e1 : (c.b == d.b) = true := by simp [hbe]
              have e2 : (c.s == d.s) = false := by
                simp only [beq_eq_false_iff_ne, ne_eq]
                exact fun h => na ⟨hbe, h⟩
              clear hbe na
              go_wp2_with fail
              go_quiet (fail)
              have B6 : Hid (Below wo.heap.size wo (wr.drewN nq)) := below_drewN' B.out _
              clear p1 p2 q1 q2 B k4_ e1 e2
              go_wp2
              exact ⟨⟨j + 1, by omega, by omega, by push_cast; rfl, B6⟩, by simp only [intOf]; omega⟩
            · have e1 : (c.b == d.b) = false := by simp [hbe]
              clear hbe na
              go_wp2_with fail
              go_quiet (fail)
              have B6 : Hid (Below wo.heap.size wo (wr.drewN nq)) := below_drewN' B.out _
              clear p1 p2 q1 q2 B k4_ e1
              go_wp2
              exact ⟨⟨j + 1, by omega, by omega, by push_cast; rfl, B6⟩, by simp only [intOf]; omega⟩
          · obtain rfl : j = M := by omega
            have BE : Hid (Below w.heap.size w wr) := B3.out.trans (B.out.mono B3.out.size)
            go_wp2
            go_ret
            exact ⟨rfl, BE.out⟩
end Go.Proofs.Ythhnnkgfnhggbaa
