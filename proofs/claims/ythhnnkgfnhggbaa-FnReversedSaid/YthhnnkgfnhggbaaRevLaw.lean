/- The law FnReversed: the reversed axis has the same places in the opposite order, and the mirrored axis has them on the other side. -/
import Derived.Test.YthhnnkgfnhggbaaRevL
import Derived.Test.YthhnnkgfnhggbaaR8Ax
import Derived.Test.YthhnnkgfnhggbaaR8K
import Derived.Test.YthhnnkgfnhggbaaPosesOf
import Derived.Deep.QuietTactic
import Derived.BigQuiet
import Derived.Deep.DeepCutAuto
namespace Go.Proofs.Ythhnnkgfnhggbaa
open Go.ChangeShapes Go.WideShapes Go.ChangeAt Go.RowKit
set_option linter.unusedVariables false
set_option linter.unusedSimpArgs false

theorem allPs_len1 (q : Ps) (cs : List Cv) : (allPs q cs).length = (turnsC cs).length + 1 := by rw [allPs, posesTo_length]

set_option maxRecDepth 100000 in
set_option maxHeartbeats 8000000 in
theorem walkFnReversed (w : World) (a0 : Option Addr) (len0 cap0 : Nat) (z0 : List Int) (w0 : IsRow .u8 w a0 len0 cap0 z0) (a1 : Option Addr) (len1 cap1 : Nat) (z1 : List Int) (w1 : IsRow .u8 w a1 len1 cap1 z1) :
    Calls Try.prog 5 #[.slice a0 len0 cap0, .slice a1 len1 cap1] w fun e w' => e = .returned (.bool true) ∧ Below w.heap.size w w' := by
  have l0 := w0.len_le
  have l1 := w1.len_le
  obtain ⟨r0, hr0⟩ := w0.rdB
  by_cases h : ¬ ((len0 : Int) ≤ 48 ∧ (len1 : Int) ≤ 48)
  · go_enter Try.func5, Try.ntmps5
    go_wp2_with fail
    refine (r8Long8_any a0 a1 len0 len1 cap0 cap1 (by omega) (by omega) true ⟨(fun _ => h), (fun _ => rfl)⟩ w).mono ?_
    rintro e w' ⟨rfl, rfl⟩
    go_wp2
    go_ret
    exact ⟨rfl, Below.refl _ _⟩
  · have h' : len0 ≤ 48 ∧ len1 ≤ 48 := by omega
    have LG := Lib.hid (fun w => r8Long8_any a0 a1 len0 len1 cap0 cap1 (by omega) (by omega) false ⟨(fun e => by cases e), (fun g => absurd (by omega) g)⟩ w)
    have AXD := Lib.hid (r8Axis_any w (.slice a0 len0 cap0) (z0.take len0) r0 (by rw [hr0]; omega))
    clear h h' w0 r0 hr0 w1 l0 l1
    go_enter Try.func5, Try.ntmps5
    go_wp2_with fail
    refine (LG.out _).mono ?_
    rintro e w' ⟨rfl, rfl⟩
    go_wp2_with fail
    refine AXD.out.mono ?_
    rintro e w2 ⟨q, u, ys, rfl, ok, o2, b2⟩
    obtain ⟨au, cu, rfl⟩ := o2.form
    have B2 := Lib.hid b2
    have RY2 := Lib.hid (o2.rd encCv_len)
    have OK := Lib.hid ok
    obtain ⟨t1, t60, hd, hrd, hrl⟩ := rev_road ok
    obtain ⟨ly1, ly8, -, -, -⟩ := ok.parts'
    obtain ⟨N, hN⟩ : ∃ N, (turnsC ys).length + 1 = N := ⟨_, rfl⟩
    have N2 : 2 ≤ N := by omega
    have N61 : N ≤ 61 := by omega
    have PL : Hid ((allPs q ys).length = N) := by show _ = _; rw [allPs_len1, hN]
    have ML : Hid ((allPs (mirP q) (ys.map mirC)).length = N) := by show _ = _; rw [allPs_len1, turnsC_mir, List.length_map, hN]
    have RVL : Hid ((revL q ys).length = N) := by show _ = _; rw [hrl, hN]
    have PG : Hid (∀ i, i < N → (allPs q ys)[i]? = some (poseN q ((turnsC ys).take i))) := fun i hi => posesTo_get _ _ _ _ (by omega)
    have MG : Hid (∀ i, i < N → (allPs (mirP q) (ys.map mirC))[i]? = some (mirP (poseN q ((turnsC ys).take i)))) := fun i hi => allPs_mir q ys i (by omega)
    have BG : Hid (∀ i, i < N → (revL q ys)[i]? = some (backAt (fun i => poseN q ((turnsC ys).take i)) (N - 1) i)) := fun i hi => by
      rw [show N - 1 = (turnsC ys).length by omega]
      exact backL_get _ (by omega)
    have OP : Hid (∀ i, i < N → OkP (poseN q ((turnsC ys).take i))) := fun i hi => ok.pose i (by omega)
    have RL := Lib.hid (rev_length ys (by omega))
    have RP : Hid (allPs (headP (revL q ys)) (mergeL (revT (turnsC ys))) = revL q ys) := by
      have e := road_poses hrd (by omega)
      rwa [hd] at e
    have RA := Lib.hid (rev_axis ok)
    have C1 := Lib.hid (fun w hr => implPosesOf_any q (.slice au ys.length cu) ys w hr (by omega) true ⟨fun _ => ok, fun _ => rfl⟩ (allPs q ys) rfl)
    have C2 := Lib.hid (fun w hr => implMirror_yes q (.slice au ys.length cu) ys w hr (by omega) ok (mirP q) rfl)
    have C3 := Lib.hid (fun v w hr => implPosesOf_any (mirP q) v (ys.map mirC) w hr (by rw [List.length_map]; omega) true ⟨fun _ => mir_ok ok, fun _ => rfl⟩ (allPs (mirP q) (ys.map mirC)) rfl)
    obtain ⟨b, hb⟩ := ok_boolD (OkA q ys ∧ (mergeL (revT (turnsC ys))).length ≤ 8)
    have C4 := Lib.hid (fun w hr => implRev_any q (.slice au ys.length cu) ys w hr (by omega) b hb _ rfl _ rfl)
    have C5 := Lib.hid (fun v w hr (h8 : (mergeL (revT (turnsC ys))).length ≤ 8) => implPosesOf_any (headP (revL q ys)) v (mergeL (revT (turnsC ys))) w hr (by omega) true ⟨fun _ => RA.out.mpr h8, fun _ => rfl⟩ (revL q ys) (by rw [RP.out]; rfl))
    have HB := Lib.hid hb
    clear ok o2 b2 hd hrd hrl hN t1 t60 hb AXD LG
    go_wp2_with fail
    obtain ⟨AX, hAX⟩ : ∃ p, p = w2.heap.size := ⟨_, rfl⟩
    generalize hx : w2.alloc (.cells #[.int .i64 q.s, .int .i64 q.h, .int .i64 q.y, .int .i64 q.p, .slice au ys.length cu] 28) = w3
    have bb : Below w2.heap.size w2 w3 := by rw [← hx]; go_grown
    have NA3 := Lib.hid (show w3.heap[AX]? = some (.cells #[.int .i64 q.s, .int .i64 q.h, .int .i64 q.y, .int .i64 q.p, .slice au ys.length cu] 28 (0, 0)) from by rw [← hx, hAX]; exact heap_alloc_new _ _)
    have B3 : Hid (Below w.heap.size w w3) := B2.out.trans (bb.mono B2.out.size)
    have RY3 := Lib.hid (RY2.out.later bb)
    rw [← hAX]
    clear hx hAX bb B2 RY2
    refine (C1.out _ RY3.out).mono ?_
    rintro e w4 ⟨v1, rfl, o1, b1⟩
    obtain ⟨g1, c1, rfl, -⟩ := o1.caps (by rw [PL.out]; omega)
    have R1 : Hid (RdS 4 encPs w4 (.slice (some ⟨g1, 0, none⟩) N c1) (allPs q ys)) := by
      have r := o1.rd encPs_len
      rw [PL.out] at r
      exact r
    have NA4 := Lib.hid ((b1.block AX (box_lt NA3.out)).trans NA3.out)
    have B4 : Hid (Below w.heap.size w w4) := B3.out.trans (b1.mono B3.out.size)
    have RY4 := Lib.hid (RY3.out.later b1)
    rw [PL.out]
    clear o1 b1 C1 NA3 B3 RY3
    obtain ⟨⟨k0, k1, k2, k3, k4⟩, -⟩ := boxA_at NA4.out
    go_wp2_with fail
    refine (C2.out _ RY4.out).mono ?_
    rintro e w5 ⟨v2, rfl, o2, b2⟩
    obtain ⟨a2, c2, rfl⟩ := o2.form
    have NA5 := Lib.hid ((b2.block AX (box_lt NA4.out)).trans NA4.out)
    have B5 : Hid (Below w.heap.size w w5) := B4.out.trans (b2.mono B4.out.size)
    have RY5 := Lib.hid (RY4.out.later b2)
    have R15 := Lib.hid (R1.out.later b2)
    have RM5 : Hid (RdS 3 encCv w5 (.slice a2 ys.length c2) (ys.map mirC)) := by
      have r := o2.rd encCv_len
      rw [List.length_map] at r
      exact r
    clear o2 b2 C2 NA4 B4 RY4 R1 k0 k1 k2 k3 k4
    go_wp2_with fail
    generalize hx : w5.alloc (.cells #[.int .i64 (mirP q).s, .int .i64 (mirP q).h, .int .i64 (mirP q).y, .int .i64 (mirP q).p, .slice a2 ys.length c2] 28) = w6
    have bb : Below w5.heap.size w5 w6 := by rw [← hx]; go_grown
    have NA6 := Lib.hid ((bb.block AX (box_lt NA5.out)).trans NA5.out)
    have B6 : Hid (Below w.heap.size w w6) := B5.out.trans (bb.mono B5.out.size)
    have RY6 := Lib.hid (RY5.out.later bb)
    have R16 := Lib.hid (R15.out.later bb)
    have RM6 := Lib.hid (RM5.out.later bb)
    clear hx bb NA5 B5 RY5 R15 RM5
    refine (C3.out _ _ RM6.out).mono ?_
    rintro e w7 ⟨v3, rfl, o3, b3⟩
    obtain ⟨g3, c3, rfl, -⟩ := o3.caps (by rw [ML.out]; omega)
    have R3 : Hid (RdS 4 encPs w7 (.slice (some ⟨g3, 0, none⟩) N c3) (allPs (mirP q) (ys.map mirC))) := by
      have r := o3.rd encPs_len
      rw [ML.out] at r
      exact r
    have NA7 := Lib.hid ((b3.block AX (box_lt NA6.out)).trans NA6.out)
    have B7 : Hid (Below w.heap.size w w7) := B6.out.trans (b3.mono B6.out.size)
    have RY7 := Lib.hid (RY6.out.later b3)
    have R17 := Lib.hid (R16.out.later b3)
    rw [ML.out]
    clear o3 b3 C3 NA6 B6 RY6 R16 RM6 ML PL
    have n2 : ¬ (N : Int) < 2 := by omega
    have d2 : decide ((N : Int) < 2) = false := by simp; omega
    have nn : ((N : Int) != (N : Int)) = false := by simp
    go_wp2
    go_loopw [12] (fun iv wr => ∃ k : Nat, k ≤ N ∧ iv = .int .i64 (k : Int) ∧ Hid (Below w7.heap.size w7 wr)) (fun iv _ => N - (intOf iv).toNat)
    case atStart => exact ⟨0, by omega, by simp, Below.refl _ _⟩
    case round =>
      obtain ⟨k, hk, rfl, B⟩ := hrel
      by_cases hlt : k < N
      · obtain ⟨p, hp⟩ : ∃ x, poseN q ((turnsC ys).take k) = x := ⟨_, rfl⟩
        have gp := PG.out k hlt
        have gm := MG.out k hlt
        have op := OP.out k hlt
        rw [hp] at gp gm op
        have o1 := op.1
        have o3 := op.2.2.1
        unfold OkOff at o1
        unfold OkHead at o3
        obtain ⟨p0, p1, p2, p3⟩ := (R17.out.later B.out).at4g gp
        have M4 := (R3.out.later B.out).at4g gm
        simp only [mirP] at M4
        obtain ⟨m0, m1, m2, m3⟩ := M4
        have ws : IntKind.i64.wrap (-p.s) = -p.s := IntWalk.i64_in _ (by omega)
        have wy : IntKind.i64.wrap (-p.y) = -p.y := IntWalk.i64_in _ (by omega)
        have q1 : IntKind.i64.wrap ((k : Int) + 1) = ((k + 1 : Nat) : Int) := by push_cast; exact IntWalk.i64_in _ (by omega)
        clear gp gm op
        go_wp2_with fail
        generalize hx : wr.alloc (.cells #[.int .i64 p.s, .int .i64 p.h, .int .i64 p.y, .int .i64 p.p] 25) = w8
        have bb : Below wr.heap.size wr w8 := by rw [← hx]; go_grown
        have nb := (show w8.heap[wr.heap.size]? = some (.cells #[.int .i64 p.s, .int .i64 p.h, .int .i64 p.y, .int .i64 p.p] 25 (0, 0)) from by rw [← hx]; exact heap_alloc_new _ _)
        have B8 : Hid (Below w7.heap.size w7 w8) := B.out.trans (bb.mono B.out.size)
        clear hx p0 p1 p2 p3 m0 m1 m2 m3
        obtain ⟨⟨u0, u1, u2, u3⟩, -, -⟩ := boxPs_at nb
        have M4 := (R3.out.later B8.out).at4g (MG.out k hlt)
        rw [hp] at M4
        simp only [mirP] at M4
        obtain ⟨m0, m1, m2, m3⟩ := M4
        have lk : (k : Int) < (N : Int) := by omega
        clear hp bb nb B
        go_quiet (fail)
        have B9 : Hid (Below w7.heap.size w7 (w8.drewN nq)) := ⟨B8.out.os, B8.out.tape, B8.out.output, B8.out.size, B8.out.block⟩
        clear u0 u1 u2 u3 m0 m1 m2 m3 B8
        go_wp2
        exact ⟨⟨k + 1, by omega, by push_cast; rfl, B9⟩, by simp only [intOf]; omega⟩
      · obtain rfl : k = N := by omega
        have NA8 := Lib.hid ((B.out.block AX (box_lt NA7.out)).trans NA7.out)
        have B8 : Hid (Below w.heap.size w wr) := B7.out.trans (B.out.mono B7.out.size)
        have RY8 := Lib.hid (RY7.out.later B.out)
        have R18 := Lib.hid (R17.out.later B.out)
        obtain ⟨⟨k0, k1, k2, k3, k4⟩, -⟩ := boxA_at NA8.out
        clear B MG R3 NA7 B7 RY7 R17
        go_wp2_with fail
        cases b with
        | false =>
          have l8 : 8 ≤ ys.length := by
            by_cases hh : (mergeL (revT (turnsC ys))).length ≤ 8
            · exact absurd (HB.out.mpr ⟨OK.out, hh⟩) (by simp)
            · have := RL.out; omega
          have l8' : (8 : Int) ≤ (ys.length : Int) := by omega
          have C6 : Hid (∀ w, RdS 3 encCv w (.slice au ys.length cu) ys → Calls Try.prog 26 #[(.agg #[.int .i64 q.s, .int .i64 q.h, .int .i64 q.y, .int .i64 q.p, (.slice au ys.length cu)])] w fun e w' => ∃ v', e = .returned (.tuple #[.agg #[.int .i64 0, .int .i64 0, .int .i64 0, .int .i64 0, v'], .bool false]) ∧ OwnS 46 3 encCv w' w.heap.size v' [] ∧ Below w.heap.size w w') := fun w h => C4.out w h
          clear C4
          refine (C6.out _ RY8.out).mono ?_
          rintro e w9 ⟨v4, rfl, o4, b4⟩
          obtain ⟨a4, c4, rfl⟩ := o4.form
          have NA9 := (b4.block AX (box_lt NA8.out)).trans NA8.out
          have B9 : Hid (Below w.heap.size w w9) := B8.out.trans (b4.mono B8.out.size)
          have lA : AX < w9.heap.size := box_lt NA9
          clear k0 k1 k2 k3 k4
          obtain ⟨⟨j0, j1, j2, j3, j4⟩, -⟩ := boxA_at NA9
          have nAX : ¬ AX = w9.heap.size := by omega
          have nAY : ¬ w9.heap.size = AX := by omega
          clear o4 b4 NA9 C6
          go_wp2
          go_ret
          exact ⟨rfl, by have b := B9.out; have s := B9.out.size; exact b.alloc s _⟩
        | true =>
          have h8 : (mergeL (revT (turnsC ys))).length ≤ 8 := (HB.out.mp rfl).2
          obtain ⟨H, hH⟩ : ∃ H, headP (revL q ys) = H := ⟨_, rfl⟩
          obtain ⟨M, hM⟩ : ∃ M, mergeL (revT (turnsC ys)) = M := ⟨_, rfl⟩
          obtain ⟨R, hR⟩ : ∃ R, revL q ys = R := ⟨_, rfl⟩
          have C6 : Hid (∀ w, RdS 3 encCv w (.slice au ys.length cu) ys → Calls Try.prog 26 #[(.agg #[.int .i64 q.s, .int .i64 q.h, .int .i64 q.y, .int .i64 q.p, (.slice au ys.length cu)])] w fun e w' => ∃ v', e = .returned (.tuple #[(.agg #[.int .i64 H.s, .int .i64 H.h, .int .i64 H.y, .int .i64 H.p, v']), .bool true]) ∧ OwnS 46 3 encCv w' w.heap.size v' M ∧ Below w.heap.size w w') := by
            intro w h
            have c := C4.out w h
            rw [if_pos rfl, if_pos rfl, hH, hM] at c
            exact c
          have C7 : Hid (∀ v w, RdS 3 encCv w v M → Calls Try.prog 14 #[(.agg #[.int .i64 H.s, .int .i64 H.h, .int .i64 H.y, .int .i64 H.p, v])] w fun e w' => ∃ v', e = .returned (.tuple #[v', .bool true]) ∧ OwnS 25 4 encPs w' w.heap.size v' R ∧ Below w.heap.size w w') := by
            intro v w h
            rw [← hM] at h
            have c := C5.out v w h h8
            rw [hH, hR] at c
            exact c
          rw [hR] at RVL BG
          clear hH hM hR h8 C4 C5 HB RA RP RL
          refine (C6.out _ RY8.out).mono ?_
          rintro e w9 ⟨v4, rfl, o4, b4⟩
          obtain ⟨a4, c4, rfl⟩ := o4.form
          have B9 : Hid (Below w.heap.size w w9) := B8.out.trans (b4.mono B8.out.size)
          have R19 := Lib.hid (R18.out.later b4)
          have RM9 := Lib.hid (o4.rd encCv_len)
          clear k0 k1 k2 k3 k4 o4 b4 C6 NA8 B8 RY8 R18
          go_wp2_with fail
          generalize hx : w9.alloc (.cells #[.int .i64 H.s, .int .i64 H.h, .int .i64 H.y, .int .i64 H.p, .slice a4 M.length c4] 28) = w10
          have bb : Below w9.heap.size w9 w10 := by rw [← hx]; go_grown
          have B10 : Hid (Below w.heap.size w w10) := B9.out.trans (bb.mono B9.out.size)
          have R110 := Lib.hid (R19.out.later bb)
          have RM10 := Lib.hid (RM9.out.later bb)
          clear hx bb B9 R19 RM9
          refine (C7.out _ _ RM10.out).mono ?_
          rintro e w11 ⟨v5, rfl, o5, b5⟩
          obtain ⟨g5, c5, rfl, -⟩ := o5.caps (by rw [RVL.out]; omega)
          have R5 : Hid (RdS 4 encPs w11 (.slice (some ⟨g5, 0, none⟩) k c5) R) := by
            have r := o5.rd encPs_len
            rw [RVL.out] at r
            exact r
          have B11 : Hid (Below w.heap.size w w11) := B10.out.trans (b5.mono B10.out.size)
          have R111 := Lib.hid (R110.out.later b5)
          rw [RVL.out]
          clear o5 b5 C7 B10 R110 RM10
          go_wp2
          go_loopw [18] (fun iv wr => ∃ j : Nat, j ≤ k ∧ iv = .int .i64 (j : Int) ∧ Hid (Below w11.heap.size w11 wr)) (fun iv _ => k - (intOf iv).toNat)
          case atStart => exact ⟨0, by omega, by simp, Below.refl _ _⟩
          case round =>
            obtain ⟨j, hj, rfl, B⟩ := hrel
            by_cases hlt2 : j < k
            · obtain ⟨m, hm⟩ : ∃ m, m = k - 1 - j := ⟨_, rfl⟩
              obtain ⟨p, hp⟩ : ∃ x, poseN q ((turnsC ys).take m) = x := ⟨_, rfl⟩
              have gp := PG.out m (by omega)
              rw [hp] at gp
              obtain ⟨p0, p1, p2, p3⟩ := (R111.out.later B.out).at4g gp
              have q1 : IntKind.i64.wrap ((j : Int) + 1) = ((j + 1 : Nat) : Int) := by push_cast; exact IntWalk.i64_in _ (by omega)
              have wm : IntKind.i64.wrap ((k : Int) - 1 - (j : Int)) = (m : Int) := (IntWalk.i64_in _ (by omega)).trans (by omega)
              have mk : m < k := by omega
              have HPM : Hid (poseN q ((turnsC ys).take m) = p) := hp
              have HMM := Lib.hid hm
              clear hp hm gp
              go_wp2_with fail
              generalize hx : wr.alloc (.cells #[.int .i64 p.s, .int .i64 p.h, .int .i64 p.y, .int .i64 p.p] 25) = w12
              have bb : Below wr.heap.size wr w12 := by rw [← hx]; go_grown
              have nb := (show w12.heap[wr.heap.size]? = some (.cells #[.int .i64 p.s, .int .i64 p.h, .int .i64 p.y, .int .i64 p.p] 25 (0, 0)) from by rw [← hx]; exact heap_alloc_new _ _)
              have B12 : Hid (Below w11.heap.size w11 w12) := B.out.trans (bb.mono B.out.size)
              clear hx p0 p1 p2 p3 wm
              obtain ⟨⟨u0, u1, u2, u3⟩, -, -⟩ := boxPs_at nb
              have M4 := (R5.out.later B12.out).at4g (BG.out j hlt2)
              rw [backAt, show k - 1 - j = m from HMM.out.symm, HPM.out] at M4
              obtain ⟨m0, m1, -, -⟩ := M4
              have lk : (j : Int) < (k : Int) := by omega
              have ds : (p.s != p.s) = false := by simp
              clear HPM HMM bb nb B
              go_quiet (fail)
              have B13 : Hid (Below w11.heap.size w11 (w12.drewN nq)) := ⟨B12.out.os, B12.out.tape, B12.out.output, B12.out.size, B12.out.block⟩
              clear u0 u1 u2 u3 m0 m1 B12 ds
              go_wp2
              exact ⟨⟨j + 1, by omega, by push_cast; rfl, B13⟩, by simp only [intOf]; omega⟩
            · obtain rfl : j = k := by omega
              have BE : Hid (Below w.heap.size w wr) := B11.out.trans (B.out.mono B11.out.size)
              go_wp2
              go_ret
              exact ⟨rfl, BE.out⟩
end Go.Proofs.Ythhnnkgfnhggbaa
