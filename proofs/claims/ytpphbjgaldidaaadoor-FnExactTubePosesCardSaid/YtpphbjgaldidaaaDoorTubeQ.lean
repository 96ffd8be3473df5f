/- TubePoses on both sides. -/
import Derived.Test.YtpphbjgaldidaaaDoorTubeP
import Derived.Test.YtpphbjgaldidaaaDoorExKit
namespace Go.Proofs.YtpphbjgaldidaaaDoor
open Go.ChangeShapes Go.WideShapes Go.ChangeAt Go.RowKit
set_option linter.unusedVariables false
set_option linter.unusedSimpArgs false

def zP4 : Ps := ⟨0, 0, 0, 0⟩

/-- A pose is written whole into an own slice. -/
theorem OwnS.putPs {t : TypeId} {w : World} {B g cap n : Nat} {xs : List Ps} (hn : n = xs.length) (h : OwnS t 4 encPs w B (.slice (some ⟨g, 0, none⟩) n cap) xs) (i : Nat) (z : Ps) (hz : xs[i]? = some z) (x : Ps) :
    OwnS t 4 encPs ((((w.setCell ⟨g, i * 4, none⟩ (.int .i64 x.s)).setCell ⟨g, i * 4 + 1, none⟩ (.int .i64 x.h)).setCell ⟨g, i * 4 + 2, none⟩ (.int .i64 x.y)).setCell ⟨g, i * 4 + 3, none⟩ (.int .i64 x.p)) B (.slice (some ⟨g, 0, none⟩) n cap) (xs.set i x) := by
  have hi : i < xs.length := (List.getElem?_eq_some_iff.1 hz).1
  have s0 := h.stored1 encPs_len hn i 0 z ⟨x.s, z.h, z.y, z.p⟩ (.int .i64 x.s) hz (by omega) rfl
  have s1 := s0.stored1 encPs_len (by rw [List.length_set]; exact hn) i 1 ⟨x.s, z.h, z.y, z.p⟩ ⟨x.s, x.h, z.y, z.p⟩ (.int .i64 x.h) (by rw [List.getElem?_set_self hi]) (by omega) rfl
  rw [List.set_set] at s1
  have s2 := s1.stored1 encPs_len (by rw [List.length_set]; exact hn) i 2 ⟨x.s, x.h, z.y, z.p⟩ ⟨x.s, x.h, x.y, z.p⟩ (.int .i64 x.y) (by rw [List.getElem?_set_self hi]) (by omega) rfl
  rw [List.set_set] at s2
  have s3 := s2.stored1 encPs_len (by rw [List.length_set]; exact hn) i 3 ⟨x.s, x.h, x.y, z.p⟩ x (.int .i64 x.p) (by rw [List.getElem?_set_self hi]) (by omega) rfl
  rw [List.set_set] at s3
  exact s3

set_option maxRecDepth 100000 in
set_option maxHeartbeats 4000000 in
theorem implTubePoses_go (p : Ps) (v : Value) (xs : List Rg) (w : World) (h : RdS 2 encRg w v xs) (lz : xs.length ≤ 1048576) (T : TKeys w) (hp : OkP p) (ok : OkT xs) (b : Bool) (hb : b = true ↔ OkTP p xs) (ys : List Ps) (hy : ys = if b then posesT p xs xs.length else []) :
    Calls Tryd.prog 12 #[(.agg #[.int .i64 p.s, .int .i64 p.h, .int .i64 p.y, .int .i64 p.p]), v] w fun e w' => ∃ v', e = .returned (.tuple #[v', .bool b]) ∧ OwnS 35 4 encPs w' w.heap.size v' ys ∧ Below w.heap.size w w' := by
  obtain ⟨i0, hi, hz0, hz1, hz2⟩ := info_parts info_PsT
  have HC := Lib.hid h
  have HA := Lib.hid ok.2.1
  have HB := Lib.hid hb
  have HY := Lib.hid hy
  have OK := Lib.hid ok
  have HP := Lib.hid hp
  have HT := Lib.hid T
  have c1 := Lib.hid (fun w => implPose_any p true ⟨fun _ => hp, fun _ => rfl⟩ w)
  have c2 := Lib.hid (fun w (h : RdS 2 encRg w v xs) => implTube_any v xs w h lz true ⟨fun _ => ok, fun _ => rfl⟩)
  obtain ⟨a, cap, rfl, _⟩ := h
  obtain ⟨N, hN⟩ : ∃ N, N = xs.length := ⟨_, rfl⟩
  have n60 : N ≤ 60 := by have := ok.1; omega
  rw [← hN] at HC c2
  rw [← hN]
  have HN := Lib.hid hN
  obtain ⟨M, hM⟩ : ∃ M, M = N + 1 := ⟨_, rfl⟩
  have m61 : M ≤ 61 := by omega
  have q1 : IntKind.i64.wrap ((N : Int) + 1) = (M : Int) := by rw [show (N : Int) + 1 = (M : Int) by omega]; exact IntWalk.i64_in _ (by omega)
  have m0 : (0 : Int) < (M : Int) := by omega
  have HM := Lib.hid hM
  clear hN ok hb hy hp lz T hM
  go_enter Tryd.func12, Tryd.ntmps12
  go_wp2_with fail
  refine (c1.out _).mono ?_
  rintro e w1 ⟨rfl, hw1⟩
  have b1 : Below (w.heap.size + 1) (w.alloc (.cells #[.int .i64 p.s, .int .i64 p.h, .int .i64 p.y, .int .i64 p.p] 35)) w1 := by rw [hw1]; exact (Below.refl _ _).alloc (by simp) _
  have z1 := b1.size
  simp only [World.size_alloc] at z1
  have N1 := Lib.hid ((b1.block w.heap.size (by omega)).trans (heap_alloc_new w _))
  have B1 : Hid (Below w.heap.size w w1) := Below.trans (by go_grown) (b1.mono (by omega))
  clear hw1 b1 c1
  go_wp2_with fail
  refine (c2.out _ (HC.out.later B1.out)).mono ?_
  rintro e w2 ⟨rfl, b2⟩
  have z2 := b2.size
  have N2 := Lib.hid ((b2.block w.heap.size (by omega)).trans N1.out)
  have B2 : Hid (Below w.heap.size w w2) := B1.out.trans (b2.mono (by omega))
  clear b2 c2 N1 B1
  go_wp2_with (first | (at_make; refine wpList_make_full _ rfl _ _ _ rfl w2.heap.size 35 i0 _ 4 Tryd.underlying32 hi hz0 hz1 .i64 .i64 _ _ M rfl rfl rfl rfl ?b2 ?b3 (Nat.le_refl _) ?_) | fail)
  case b2 => rw [hz2]; omega
  case b3 => unfold maxLen; omega
  intro w3 hown hg
  rw [made_flat (enc := encPs) encPs_len (by omega) zP4 #[.int .i64 0, .int .i64 0, .int .i64 0, .int .i64 0] rfl] at hown
  have O3 : OwnS 35 4 encPs w3 w2.heap.size (.slice (some ⟨w2.heap.size, 0, none⟩) M M) (List.replicate M zP4) := by
    unfold OwnS
    rw [List.length_replicate]
    exact hown
  have b23 : Below w2.heap.size w2 w3 := (Below.refl _ _).grown hg (Nat.le_refl _) (fun k e => by cases e)
  have n3 := (b23.block w.heap.size (by omega)).trans N2.out
  obtain ⟨⟨k0, k1, k2, k3⟩, -⟩ := boxPs_at n3
  have lm : M = (List.replicate M zP4).length := (List.length_replicate ..).symm
  have g0 : (List.replicate M zP4)[0]? = some zP4 := by rw [List.getElem?_replicate, if_pos (by omega)]
  have d0 : w3.cell? ⟨w2.heap.size, 0, none⟩ = some (.int .i64 0) := by have := O3.cellAt encPs_len lm 0 zP4 g0 0 _ rfl; simpa [zP4] using this
  have d1 : w3.cell? ⟨w2.heap.size, 1, none⟩ = some (.int .i64 0) := by have := O3.cellAt encPs_len lm 0 zP4 g0 1 _ rfl; simpa [zP4] using this
  have d2 : w3.cell? ⟨w2.heap.size, 2, none⟩ = some (.int .i64 0) := by have := O3.cellAt encPs_len lm 0 zP4 g0 2 _ rfl; simpa [zP4] using this
  have d3 : w3.cell? ⟨w2.heap.size, 3, none⟩ = some (.int .i64 0) := by have := O3.cellAt encPs_len lm 0 zP4 g0 3 _ rfl; simpa [zP4] using this
  have f0 : w3.frozen? ⟨w2.heap.size, 0, none⟩ = false := O3.frozenAt lm _
  have f1 : w3.frozen? ⟨w2.heap.size, 1, none⟩ = false := O3.frozenAt lm _
  have f2 : w3.frozen? ⟨w2.heap.size, 2, none⟩ = false := O3.frozenAt lm _
  have f3 : w3.frozen? ⟨w2.heap.size, 3, none⟩ = false := O3.frozenAt lm _
  have O4 : Hid (OwnS 35 4 encPs ((((w3.setCell ⟨w2.heap.size, 0, none⟩ (.int .i64 p.s)).setCell ⟨w2.heap.size, 1, none⟩ (.int .i64 p.h)).setCell ⟨w2.heap.size, 2, none⟩ (.int .i64 p.y)).setCell ⟨w2.heap.size, 3, none⟩ (.int .i64 p.p)) w2.heap.size (.slice (some ⟨w2.heap.size, 0, none⟩) M M) (posesT p xs 0 ++ List.replicate (M - (0 + 1)) zP4)) := by
    have e := O3.putPs lm 0 zP4 g0 p
    simp only [Nat.zero_mul, Nat.zero_add] at e
    show OwnS _ _ _ _ _ _ _
    rw [posesT_zero]
    have er : (List.replicate M zP4).set 0 p = [p] ++ List.replicate (M - (0 + 1)) zP4 := by
      obtain ⟨m, rfl⟩ : ∃ m, M = m + 1 := ⟨M - 1, by omega⟩
      rw [List.replicate_succ, List.set_cons_zero]
      simp
    rw [← er]
    exact e
  have BW3 : Hid (Below w2.heap.size w2 ((((w3.setCell ⟨w2.heap.size, 0, none⟩ (.int .i64 p.s)).setCell ⟨w2.heap.size, 1, none⟩ (.int .i64 p.h)).setCell ⟨w2.heap.size, 2, none⟩ (.int .i64 p.y)).setCell ⟨w2.heap.size, 3, none⟩ (.int .i64 p.p))) := (((b23.setCell (p := ⟨w2.heap.size, 0, none⟩) (Nat.le_refl _) _).setCell (p := ⟨w2.heap.size, 1, none⟩) (Nat.le_refl _) _).setCell (p := ⟨w2.heap.size, 2, none⟩) (Nat.le_refl _) _).setCell (p := ⟨w2.heap.size, 3, none⟩) (Nat.le_refl _) _
  have A0 : Hid (∀ j, j ≤ 0 → OkP (poseT p xs j)) := by
    intro j hj
    obtain rfl : j = 0 := by omega
    rw [poseT_zero]
    exact HP.out
  clear hown hg lm n3 g0 b23 O3
  go_wp2
  clear k0 k1 k2 k3 d0 d1 d2 d3 f0 f1 f2 f3
  go_loopw [29] (fun iv wr => ∃ k : Nat, k ≤ N ∧ iv = .int .i64 k ∧ Hid (OwnS 35 4 encPs wr w2.heap.size (.slice (some ⟨w2.heap.size, 0, none⟩) M M) (posesT p xs k ++ List.replicate (M - (k + 1)) zP4)) ∧ Hid (Below w2.heap.size w2 wr) ∧ Hid (∀ j, j ≤ k → OkP (poseT p xs j))) (fun iv _ => N - (intOf iv).toNat)
  case atStart => exact ⟨0, by omega, rfl, O4, BW3, A0⟩
  case round =>
    obtain ⟨k, hk, rfl, ho, B, hall⟩ := hrel
    clear O4 BW3 A0
    have hsz := B.out.size
    have BW : Hid (Below w.heap.size w wr) := B2.out.trans (B.out.mono (by omega))
    have lg := (ho.out.lt w2.heap.size rfl).2
    by_cases hlt : k < N
    · obtain ⟨c, hx⟩ : ∃ x, xs[k]? = some x := ⟨_, List.getElem?_eq_getElem (by have := HN.out; omega)⟩
      obtain ⟨ba, oa, rfl, e0, e1⟩ := (HC.out.later BW.out).at2 k c hx
      have hc := HA.out c (List.mem_of_getElem? hx)
      have hs := poseT_succ p xs k c hx
      have tc := Lib.hid (fun w T => turn_any c hc w T)
      have to := turn_ok c hc
      have pk := hall.out k (Nat.le_refl _)
      obtain ⟨P, hP⟩ : ∃ P, poseT p xs k = P := ⟨_, rfl⟩
      have ln : Hid (M = (posesT p xs k ++ List.replicate (M - (k + 1)) zP4).length) := by show _ = _; rw [List.length_append, posesT_length, List.length_replicate]; have := HM.out; omega
      have gP : Hid ((posesT p xs k ++ List.replicate (M - (k + 1)) zP4)[k]? = some P) := by show _ = _; rw [List.getElem?_append_left (by rw [posesT_length]; omega), posesT_get p xs k k (Nat.le_refl _), hP]
      rw [hP] at hs pk
      obtain ⟨x, hx'⟩ : ∃ x, bendR c = x := ⟨_, rfl⟩
      obtain ⟨y, hy'⟩ : ∃ y, riseR c = y := ⟨_, rfl⟩
      rw [hx', hy'] at tc hs to
      obtain ⟨m1, hm1⟩ : ∃ m1, m1 = k + 1 := ⟨_, rfl⟩
      have q2 : IntKind.i64.wrap ((k : Int) + 1) = (m1 : Int) := by rw [show (k : Int) + 1 = (m1 : Int) by omega]; exact IntWalk.i64_in _ (by omega)
      have i1 : (0 : Int) ≤ (k : Int) := by omega
      have i2 : (k : Int) < (M : Int) := by have := HM.out; omega
      have i3 : k < M := by have := HM.out; omega
      have i4 : m1 < M := by have := HM.out; omega
      have HM1 := Lib.hid hm1
      by_cases hn : OkP (stepP P x y)
      · have nc := Lib.hid (fun w => implNext_yes P x y pk to.1 to.2 hn w)
        have hall' : Hid (∀ j, j ≤ m1 → OkP (poseT p xs j)) := by
          intro j hj
          by_cases e : j = k + 1
          · rw [e, hs]; exact hn
          · exact hall.out j (by omega)
        have HS := Lib.hid hs
        obtain ⟨Q, hQ⟩ : ∃ Q, stepP P x y = Q := ⟨_, rfl⟩
        rw [hQ] at nc HS
        clear hx hs hP hx' hy' hc to pk hn hQ hall hm1
        go_wp2_with fail
        refine (tc.out _ (HT.out.later (BW.out.alloc (by omega) _))).mono ?_
        rintro e w4 ⟨rfl, b4⟩
        have b4' : Hid (Below wr.heap.size wr w4) := Below.trans (by go_grown) (b4.mono (by simp))
        have z4 := b4'.out.size
        clear b4 e0 e1
        go_wp2
        have W5 : Hid (Below wr.heap.size wr (w4.alloc (.cells #[.int .i64 x, .int .i64 y] 49))) := b4'.out.alloc z4 _
        have p5 : (w4.alloc (.cells #[.int .i64 x, .int .i64 y] 49)).heap[w4.heap.size]? = some (.cells #[.int .i64 x, .int .i64 y] 49 (0, 0)) := heap_alloc_new w4 _
        have z5 : w4.heap.size < (w4.alloc (.cells #[.int .i64 x, .int .i64 y] 49)).heap.size := by simp
        obtain ⟨w5, hw5⟩ : ∃ w5, w5 = w4.alloc (.cells #[.int .i64 x, .int .i64 y] 49) := ⟨_, rfl⟩
        rw [← hw5] at W5 p5 z5
        rw [← hw5]
        have O5 := ho.out.later W5.out
        have KS : Hid (∀ w', Below w5.heap.size w5 w' → (w'.cell? ⟨w2.heap.size, k * 4, none⟩ = some (.int .i64 P.s) ∧ w'.cell? ⟨w2.heap.size, k * 4 + 1, none⟩ = some (.int .i64 P.h) ∧ w'.cell? ⟨w2.heap.size, k * 4 + 2, none⟩ = some (.int .i64 P.y) ∧ w'.cell? ⟨w2.heap.size, k * 4 + 3, none⟩ = some (.int .i64 P.p) ∧ w'.cell? ⟨w4.heap.size, 0, none⟩ = some (.int .i64 x) ∧ w'.cell? ⟨w4.heap.size, 1, none⟩ = some (.int .i64 y))) := by
          intro w' hb
          have O6 := O5.later hb
          have p6 := (hb.block w4.heap.size z5).trans p5
          exact ⟨O6.cellAt encPs_len ln.out k P gP.out 0 _ rfl, O6.cellAt encPs_len ln.out k P gP.out 1 _ rfl, O6.cellAt encPs_len ln.out k P gP.out 2 _ rfl, O6.cellAt encPs_len ln.out k P gP.out 3 _ rfl, cell_of_row w' w4.heap.size 0 _ _ _ p6, cell_of_row w' w4.heap.size 1 _ _ _ p6⟩
        clear hw5 O5 p5
        go_region_held3 (fun w' => (w'.cell? ⟨w2.heap.size, k * 4, none⟩ = some (.int .i64 P.s) ∧ w'.cell? ⟨w2.heap.size, k * 4 + 1, none⟩ = some (.int .i64 P.h) ∧ w'.cell? ⟨w2.heap.size, k * 4 + 2, none⟩ = some (.int .i64 P.y) ∧ w'.cell? ⟨w2.heap.size, k * 4 + 3, none⟩ = some (.int .i64 P.p) ∧ w'.cell? ⟨w4.heap.size, 0, none⟩ = some (.int .i64 x) ∧ w'.cell? ⟨w4.heap.size, 1, none⟩ = some (.int .i64 y)))
          (first | exact KS.out _ (Below.refl _ _).drew | exact KS.out _ ((Below.refl _ _).drew.alloc (Nat.le_refl _) _) | exact KS.out _ A6.out | exact KS.out _ (A6.out.alloc A6.out.size _) | exact KS.out _ ((((A6.out.setCell (p := ⟨w5.heap.size, 0, none⟩) (Nat.le_refl _) _).setCell (p := ⟨w5.heap.size, 1, none⟩) (Nat.le_refl _) _).setCell (p := ⟨w5.heap.size, 2, none⟩) (Nat.le_refl _) _).setCell (p := ⟨w5.heap.size, 3, none⟩) (Nat.le_refl _) _))
          (first
            | (go_at_call 26; refine (nc.out _).mono ?_; rintro e w6 ⟨rfl, b6⟩; have A6 : Hid (Below w5.heap.size w5 w6) := (by first | exact (Below.refl _ _).drew.trans b6 | exact ((Below.refl _ _).drew.alloc (Nat.le_refl _) _).trans (b6.mono (by simp))); (try (have n6 : w6.heap[w5.heap.size]? = some (.cells #[.int .i64 0, .int .i64 0, .int .i64 0, .int .i64 0] 35 (0, 0)) := (b6.block w5.heap.size (by simp)).trans (heap_alloc_new _ _); have v0 : w6.cell? ⟨w5.heap.size, 0, none⟩ = some (.int .i64 0) := cell_of_row w6 w5.heap.size 0 _ _ _ n6; have v1 : w6.cell? ⟨w5.heap.size, 1, none⟩ = some (.int .i64 0) := cell_of_row w6 w5.heap.size 1 _ _ _ n6; have v2 : w6.cell? ⟨w5.heap.size, 2, none⟩ = some (.int .i64 0) := cell_of_row w6 w5.heap.size 2 _ _ _ n6; have v3 : w6.cell? ⟨w5.heap.size, 3, none⟩ = some (.int .i64 0) := cell_of_row w6 w5.heap.size 3 _ _ _ n6; have f0 := frozen_of_row w6 w5.heap.size 0 _ _ n6; have f1 := frozen_of_row w6 w5.heap.size 1 _ _ n6; have f2 := frozen_of_row w6 w5.heap.size 2 _ _ n6; have f3 := frozen_of_row w6 w5.heap.size 3 _ _ n6))))
        · have n7 : (w6.alloc (.cells #[.int .i64 Q.s, .int .i64 Q.h, .int .i64 Q.y, .int .i64 Q.p] 35)).heap[w6.heap.size]? = some (.cells #[.int .i64 Q.s, .int .i64 Q.h, .int .i64 Q.y, .int .i64 Q.p] 35 (0, 0)) := heap_alloc_new w6 _
          have A7 : Hid (Below w5.heap.size w5 (w6.alloc (.cells #[.int .i64 Q.s, .int .i64 Q.h, .int .i64 Q.y, .int .i64 Q.p] 35))) := A6.out.alloc A6.out.size _
          obtain ⟨w7, hw7⟩ : ∃ w7, w7 = w6.alloc (.cells #[.int .i64 Q.s, .int .i64 Q.h, .int .i64 Q.y, .int .i64 Q.p] 35) := ⟨_, rfl⟩
          rw [← hw7] at n7 A7
          rw [← hw7]
          obtain ⟨⟨v0, v1, v2, v3⟩, -⟩ := boxPs_at n7
          clear hw7 n7 KS A6
          have z7 := A7.out.size
          have b27 : Below wr.heap.size wr w7 := W5.out.trans (A7.out.mono (by omega))
          have O7 := ho.out.later b27
          have gz : Hid ((posesT p xs k ++ List.replicate (M - (k + 1)) zP4)[m1]? = some zP4) := by
            show _ = _
            have e := HM1.out
            rw [List.getElem?_append_right (by rw [posesT_length]; omega), posesT_length, List.getElem?_replicate, if_pos (by omega)]
          have d0 : w7.cell? ⟨w2.heap.size, m1 * 4, none⟩ = some (.int .i64 0) := O7.cellAt encPs_len ln.out m1 _ gz.out 0 _ rfl
          have d1 : w7.cell? ⟨w2.heap.size, m1 * 4 + 1, none⟩ = some (.int .i64 0) := O7.cellAt encPs_len ln.out m1 _ gz.out 1 _ rfl
          have d2 : w7.cell? ⟨w2.heap.size, m1 * 4 + 2, none⟩ = some (.int .i64 0) := O7.cellAt encPs_len ln.out m1 _ gz.out 2 _ rfl
          have d3 : w7.cell? ⟨w2.heap.size, m1 * 4 + 3, none⟩ = some (.int .i64 0) := O7.cellAt encPs_len ln.out m1 _ gz.out 3 _ rfl
          have f0 : w7.frozen? ⟨w2.heap.size, m1 * 4, none⟩ = false := O7.frozenAt ln.out _
          have f1 : w7.frozen? ⟨w2.heap.size, m1 * 4 + 1, none⟩ = false := O7.frozenAt ln.out _
          have f2 : w7.frozen? ⟨w2.heap.size, m1 * 4 + 2, none⟩ = false := O7.frozenAt ln.out _
          have f3 : w7.frozen? ⟨w2.heap.size, m1 * 4 + 3, none⟩ = false := O7.frozenAt ln.out _
          have O8 : Hid (OwnS 35 4 encPs ((((w7.setCell ⟨w2.heap.size, m1 * 4, none⟩ (.int .i64 Q.s)).setCell ⟨w2.heap.size, m1 * 4 + 1, none⟩ (.int .i64 Q.h)).setCell ⟨w2.heap.size, m1 * 4 + 2, none⟩ (.int .i64 Q.y)).setCell ⟨w2.heap.size, m1 * 4 + 3, none⟩ (.int .i64 Q.p)) w2.heap.size (.slice (some ⟨w2.heap.size, 0, none⟩) M M) (posesT p xs m1 ++ List.replicate (M - (m1 + 1)) zP4)) := by
            have e := O7.putPs ln.out m1 zP4 gz.out Q
            have em := HM1.out
            have er : (posesT p xs k ++ List.replicate (M - (k + 1)) zP4).set m1 Q = posesT p xs m1 ++ List.replicate (M - (m1 + 1)) zP4 := by
              rw [em, List.set_append_right _ _ (by rw [posesT_length]; omega), posesT_length, Nat.sub_self, posesT_succ, HS.out, List.append_assoc]
              congr 1
              rw [show M - (k + 1) = (M - (k + 1 + 1)) + 1 by omega, List.replicate_succ, List.set_cons_zero]
              rfl
            show OwnS _ _ _ _ _ _ _
            rw [← er]
            exact e
          have B8 : Hid (Below w2.heap.size w2 ((((w7.setCell ⟨w2.heap.size, m1 * 4, none⟩ (.int .i64 Q.s)).setCell ⟨w2.heap.size, m1 * 4 + 1, none⟩ (.int .i64 Q.h)).setCell ⟨w2.heap.size, m1 * 4 + 2, none⟩ (.int .i64 Q.y)).setCell ⟨w2.heap.size, m1 * 4 + 3, none⟩ (.int .i64 Q.p))) := ((((B.out.trans (b27.mono hsz)).setCell (p := ⟨w2.heap.size, m1 * 4, none⟩) (Nat.le_refl _) _).setCell (p := ⟨w2.heap.size, m1 * 4 + 1, none⟩) (Nat.le_refl _) _).setCell (p := ⟨w2.heap.size, m1 * 4 + 2, none⟩) (Nat.le_refl _) _).setCell (p := ⟨w2.heap.size, m1 * 4 + 3, none⟩) (Nat.le_refl _) _
          clear b27 O7 gz ln gP ho B W5 A7 z7
          go_wp2
          exact ⟨⟨m1, by have := HM1.out; omega, rfl, O8, B8, hall'⟩, by simp only [intOf]; have := HM1.out; omega⟩
        · have n7 : ((((w6.setCell ⟨w5.heap.size, 0, none⟩ (.int .i64 Q.s)).setCell ⟨w5.heap.size, 1, none⟩ (.int .i64 Q.h)).setCell ⟨w5.heap.size, 2, none⟩ (.int .i64 Q.y)).setCell ⟨w5.heap.size, 3, none⟩ (.int .i64 Q.p)).heap[w5.heap.size]? = some (.cells #[.int .i64 Q.s, .int .i64 Q.h, .int .i64 Q.y, .int .i64 Q.p] 35 (0, 0)) := boxPs_put (q := zP4) n6 Q
          have A7 : Hid (Below w5.heap.size w5 ((((w6.setCell ⟨w5.heap.size, 0, none⟩ (.int .i64 Q.s)).setCell ⟨w5.heap.size, 1, none⟩ (.int .i64 Q.h)).setCell ⟨w5.heap.size, 2, none⟩ (.int .i64 Q.y)).setCell ⟨w5.heap.size, 3, none⟩ (.int .i64 Q.p))) := ((((A6.out.setCell (p := ⟨w5.heap.size, 0, none⟩) (Nat.le_refl _) _).setCell (p := ⟨w5.heap.size, 1, none⟩) (Nat.le_refl _) _).setCell (p := ⟨w5.heap.size, 2, none⟩) (Nat.le_refl _) _).setCell (p := ⟨w5.heap.size, 3, none⟩) (Nat.le_refl _) _)
          obtain ⟨w7, hw7⟩ : ∃ w7, w7 = ((((w6.setCell ⟨w5.heap.size, 0, none⟩ (.int .i64 Q.s)).setCell ⟨w5.heap.size, 1, none⟩ (.int .i64 Q.h)).setCell ⟨w5.heap.size, 2, none⟩ (.int .i64 Q.y)).setCell ⟨w5.heap.size, 3, none⟩ (.int .i64 Q.p)) := ⟨_, rfl⟩
          rw [← hw7] at n7 A7
          rw [← hw7]
          clear v0 v1 v2 v3 f0 f1 f2 f3
          obtain ⟨⟨v0, v1, v2, v3⟩, -⟩ := boxPs_at n7
          clear hw7 n7 KS A6 n6
          have z7 := A7.out.size
          have b27 : Below wr.heap.size wr w7 := W5.out.trans (A7.out.mono (by omega))
          have O7 := ho.out.later b27
          have gz : Hid ((posesT p xs k ++ List.replicate (M - (k + 1)) zP4)[m1]? = some zP4) := by
            show _ = _
            have e := HM1.out
            rw [List.getElem?_append_right (by rw [posesT_length]; omega), posesT_length, List.getElem?_replicate, if_pos (by omega)]
          have d0 : w7.cell? ⟨w2.heap.size, m1 * 4, none⟩ = some (.int .i64 0) := O7.cellAt encPs_len ln.out m1 _ gz.out 0 _ rfl
          have d1 : w7.cell? ⟨w2.heap.size, m1 * 4 + 1, none⟩ = some (.int .i64 0) := O7.cellAt encPs_len ln.out m1 _ gz.out 1 _ rfl
          have d2 : w7.cell? ⟨w2.heap.size, m1 * 4 + 2, none⟩ = some (.int .i64 0) := O7.cellAt encPs_len ln.out m1 _ gz.out 2 _ rfl
          have d3 : w7.cell? ⟨w2.heap.size, m1 * 4 + 3, none⟩ = some (.int .i64 0) := O7.cellAt encPs_len ln.out m1 _ gz.out 3 _ rfl
          have f0 : w7.frozen? ⟨w2.heap.size, m1 * 4, none⟩ = false := O7.frozenAt ln.out _
          have f1 : w7.frozen? ⟨w2.heap.size, m1 * 4 + 1, none⟩ = false := O7.frozenAt ln.out _
          have f2 : w7.frozen? ⟨w2.heap.size, m1 * 4 + 2, none⟩ = false := O7.frozenAt ln.out _
          have f3 : w7.frozen? ⟨w2.heap.size, m1 * 4 + 3, none⟩ = false := O7.frozenAt ln.out _
          have O8 : Hid (OwnS 35 4 encPs ((((w7.setCell ⟨w2.heap.size, m1 * 4, none⟩ (.int .i64 Q.s)).setCell ⟨w2.heap.size, m1 * 4 + 1, none⟩ (.int .i64 Q.h)).setCell ⟨w2.heap.size, m1 * 4 + 2, none⟩ (.int .i64 Q.y)).setCell ⟨w2.heap.size, m1 * 4 + 3, none⟩ (.int .i64 Q.p)) w2.heap.size (.slice (some ⟨w2.heap.size, 0, none⟩) M M) (posesT p xs m1 ++ List.replicate (M - (m1 + 1)) zP4)) := by
            have e := O7.putPs ln.out m1 zP4 gz.out Q
            have em := HM1.out
            have er : (posesT p xs k ++ List.replicate (M - (k + 1)) zP4).set m1 Q = posesT p xs m1 ++ List.replicate (M - (m1 + 1)) zP4 := by
              rw [em, List.set_append_right _ _ (by rw [posesT_length]; omega), posesT_length, Nat.sub_self, posesT_succ, HS.out, List.append_assoc]
              congr 1
              rw [show M - (k + 1) = (M - (k + 1 + 1)) + 1 by omega, List.replicate_succ, List.set_cons_zero]
              rfl
            show OwnS _ _ _ _ _ _ _
            rw [← er]
            exact e
          have B8 : Hid (Below w2.heap.size w2 ((((w7.setCell ⟨w2.heap.size, m1 * 4, none⟩ (.int .i64 Q.s)).setCell ⟨w2.heap.size, m1 * 4 + 1, none⟩ (.int .i64 Q.h)).setCell ⟨w2.heap.size, m1 * 4 + 2, none⟩ (.int .i64 Q.y)).setCell ⟨w2.heap.size, m1 * 4 + 3, none⟩ (.int .i64 Q.p))) := ((((B.out.trans (b27.mono hsz)).setCell (p := ⟨w2.heap.size, m1 * 4, none⟩) (Nat.le_refl _) _).setCell (p := ⟨w2.heap.size, m1 * 4 + 1, none⟩) (Nat.le_refl _) _).setCell (p := ⟨w2.heap.size, m1 * 4 + 2, none⟩) (Nat.le_refl _) _).setCell (p := ⟨w2.heap.size, m1 * 4 + 3, none⟩) (Nat.le_refl _) _
          clear b27 O7 gz ln gP ho B W5 A7 z7
          go_wp2
          exact ⟨⟨m1, by have := HM1.out; omega, rfl, O8, B8, hall'⟩, by simp only [intOf]; have := HM1.out; omega⟩
      · have nc := Lib.hid (fun w => implNext_no P x y (fun h => hn h.2.2.2) w)
        obtain rfl : b = false := b_false HB.out (fun h => hn (by rw [← hs]; exact h.2.2 (k + 1) (by have := HN.out; omega)))
        obtain rfl : ys = [] := HY.out
        clear hx hs hP hx' hy' hc to pk hn hall hm1
        go_wp2_with fail
        refine (tc.out _ (HT.out.later (BW.out.alloc (by omega) _))).mono ?_
        rintro e w4 ⟨rfl, b4⟩
        have b4' : Hid (Below wr.heap.size wr w4) := Below.trans (by go_grown) (b4.mono (by simp))
        have z4 := b4'.out.size
        clear b4 e0 e1
        go_wp2
        have W5 : Hid (Below wr.heap.size wr (w4.alloc (.cells #[.int .i64 x, .int .i64 y] 49))) := b4'.out.alloc z4 _
        have p5 : (w4.alloc (.cells #[.int .i64 x, .int .i64 y] 49)).heap[w4.heap.size]? = some (.cells #[.int .i64 x, .int .i64 y] 49 (0, 0)) := heap_alloc_new w4 _
        have z5 : w4.heap.size < (w4.alloc (.cells #[.int .i64 x, .int .i64 y] 49)).heap.size := by simp
        obtain ⟨w5, hw5⟩ : ∃ w5, w5 = w4.alloc (.cells #[.int .i64 x, .int .i64 y] 49) := ⟨_, rfl⟩
        rw [← hw5] at W5 p5 z5
        rw [← hw5]
        have O5 := ho.out.later W5.out
        have KS : Hid (∀ w', Below w5.heap.size w5 w' → (w'.cell? ⟨w2.heap.size, k * 4, none⟩ = some (.int .i64 P.s) ∧ w'.cell? ⟨w2.heap.size, k * 4 + 1, none⟩ = some (.int .i64 P.h) ∧ w'.cell? ⟨w2.heap.size, k * 4 + 2, none⟩ = some (.int .i64 P.y) ∧ w'.cell? ⟨w2.heap.size, k * 4 + 3, none⟩ = some (.int .i64 P.p) ∧ w'.cell? ⟨w4.heap.size, 0, none⟩ = some (.int .i64 x) ∧ w'.cell? ⟨w4.heap.size, 1, none⟩ = some (.int .i64 y))) := by
          intro w' hb
          have O6 := O5.later hb
          have p6 := (hb.block w4.heap.size z5).trans p5
          exact ⟨O6.cellAt encPs_len ln.out k P gP.out 0 _ rfl, O6.cellAt encPs_len ln.out k P gP.out 1 _ rfl, O6.cellAt encPs_len ln.out k P gP.out 2 _ rfl, O6.cellAt encPs_len ln.out k P gP.out 3 _ rfl, cell_of_row w' w4.heap.size 0 _ _ _ p6, cell_of_row w' w4.heap.size 1 _ _ _ p6⟩
        clear hw5 O5 p5
        go_region_held3 (fun w' => (w'.cell? ⟨w2.heap.size, k * 4, none⟩ = some (.int .i64 P.s) ∧ w'.cell? ⟨w2.heap.size, k * 4 + 1, none⟩ = some (.int .i64 P.h) ∧ w'.cell? ⟨w2.heap.size, k * 4 + 2, none⟩ = some (.int .i64 P.y) ∧ w'.cell? ⟨w2.heap.size, k * 4 + 3, none⟩ = some (.int .i64 P.p) ∧ w'.cell? ⟨w4.heap.size, 0, none⟩ = some (.int .i64 x) ∧ w'.cell? ⟨w4.heap.size, 1, none⟩ = some (.int .i64 y)))
          (first | exact KS.out _ (Below.refl _ _).drew | exact KS.out _ ((Below.refl _ _).drew.alloc (Nat.le_refl _) _) | exact KS.out _ A6.out | exact KS.out _ (A6.out.alloc A6.out.size _) | exact KS.out _ ((((A6.out.setCell (p := ⟨w5.heap.size, 0, none⟩) (Nat.le_refl _) _).setCell (p := ⟨w5.heap.size, 1, none⟩) (Nat.le_refl _) _).setCell (p := ⟨w5.heap.size, 2, none⟩) (Nat.le_refl _) _).setCell (p := ⟨w5.heap.size, 3, none⟩) (Nat.le_refl _) _))
          (first
            | (go_at_call 26; refine (nc.out _).mono ?_; rintro e w6 ⟨rfl, b6⟩; have A6 : Hid (Below w5.heap.size w5 w6) := (by first | exact (Below.refl _ _).drew.trans b6 | exact ((Below.refl _ _).drew.alloc (Nat.le_refl _) _).trans (b6.mono (by simp))); (try (have n6 : w6.heap[w5.heap.size]? = some (.cells #[.int .i64 0, .int .i64 0, .int .i64 0, .int .i64 0] 35 (0, 0)) := (b6.block w5.heap.size (by simp)).trans (heap_alloc_new _ _); have v0 : w6.cell? ⟨w5.heap.size, 0, none⟩ = some (.int .i64 0) := cell_of_row w6 w5.heap.size 0 _ _ _ n6; have v1 : w6.cell? ⟨w5.heap.size, 1, none⟩ = some (.int .i64 0) := cell_of_row w6 w5.heap.size 1 _ _ _ n6; have v2 : w6.cell? ⟨w5.heap.size, 2, none⟩ = some (.int .i64 0) := cell_of_row w6 w5.heap.size 2 _ _ _ n6; have v3 : w6.cell? ⟨w5.heap.size, 3, none⟩ = some (.int .i64 0) := cell_of_row w6 w5.heap.size 3 _ _ _ n6; have f0 := frozen_of_row w6 w5.heap.size 0 _ _ n6; have f1 := frozen_of_row w6 w5.heap.size 1 _ _ n6; have f2 := frozen_of_row w6 w5.heap.size 2 _ _ n6; have f3 := frozen_of_row w6 w5.heap.size 3 _ _ n6))))
        all_goals
          have w56 : Hid (Below w.heap.size w w6) := BW.out.trans ((W5.out.trans (A6.out.mono W5.out.size)).mono (by omega))
          have z6 := A6.out.size
          have y5 : w.heap.size ≤ w5.heap.size := by have := W5.out.size; omega
          clear KS A6 B2 N2
          go_wp2
          go_ret2
          exact ⟨_, rfl, OwnS.nil _ _, by first | exact w56.out.alloc (by omega) _ | exact (((w56.out.setCell (p := ⟨w5.heap.size, 0, none⟩) y5 _).setCell (p := ⟨w5.heap.size, 1, none⟩) y5 _).setCell (p := ⟨w5.heap.size, 2, none⟩) y5 _).setCell (p := ⟨w5.heap.size, 3, none⟩) y5 _⟩
    · obtain rfl : k = N := by omega
      obtain rfl : b = true := HB.out.mpr ⟨HP.out, OK.out, fun j hj => hall.out j (by have := HN.out; omega)⟩
      have O5 : Hid (OwnS 35 4 encPs wr w2.heap.size (.slice (some ⟨w2.heap.size, 0, none⟩) M M) ys) := by
        have e := ho.out
        have e2 := HY.out
        rw [if_pos rfl, ← HN.out] at e2
        rw [show M - (k + 1) = 0 by have := HM.out; omega, List.replicate_zero, List.append_nil, ← e2] at e
        exact e
      clear ho
      go_wp2
      go_ret2
      exact ⟨_, rfl, O5.out.mono (by omega), BW.out⟩
end Go.Proofs.YtpphbjgaldidaaaDoor
