/- ReverseAxis: the program. -/
import Derived.Test.YthhnnkgfnhggbaaRevM
import Derived.Test.YthhnnkgfnhggbaaAxisI
import Derived.Test.YthhnnkgfnhggbaaStoreA
namespace Go.Proofs.Ythhnnkgfnhggbaa
open Go.ChangeShapes Go.WideShapes Go.ChangeAt Go.RowKit
set_option linter.unusedVariables false
set_option linter.unusedSimpArgs false

theorem fill_get {T : Type} {L : List T} {z : T} {k N : Nat} (hL : L.length = N) (hk : k < N) : (L.take k ++ List.replicate (N - k) z)[k]? = some z := by
  have h : (L.take k).length = k := by rw [List.length_take]; omega
  rw [List.getElem?_append_right (by omega), h, Nat.sub_self, List.getElem?_replicate, if_pos (by omega)]
theorem fill_len {T : Type} {L : List T} {z : T} {k N : Nat} (hL : L.length = N) (hk : k ≤ N) : (L.take k ++ List.replicate (N - k) z).length = N := by
  rw [List.length_append, List.length_take, List.length_replicate]; omega
theorem fill_set {T : Type} {L : List T} {z x : T} {k N : Nat} (hL : L.length = N) (hk : k < N) (hx : L[k]? = some x) : (L.take k ++ List.replicate (N - k) z).set k x = L.take (k + 1) ++ List.replicate (N - (k + 1)) z := by
  have h : (L.take k).length = k := by rw [List.length_take]; omega
  rw [List.set_append_right _ _ (by omega), h, Nat.sub_self, show N - k = (N - (k + 1)) + 1 by omega, List.replicate_succ, List.set_cons_zero, List.take_add_one, hx]
  simp

/-- What the axis is from its other end. -/
def revL (q : Ps) (cs : List Cv) : List Ps := backL (fun i => poseN q ((turnsC cs).take i)) (turnsC cs).length
theorem rev_road {q : Ps} {cs : List Cv} (h : OkA q cs) : (turnsC cs).length ≤ 60 ∧ 1 ≤ (turnsC cs).length ∧ difs (revL q cs) = revT (turnsC cs) ∧ Road (revL q cs) (revL q cs).length ∧ (revL q cs).length = (turnsC cs).length + 1 := by
  have l := turnsC_len cs h.parts.2.2.1
  have s := h.parts.2.2.2
  have o := h.one
  have r : ∀ t ∈ turnsC cs, t.r = 1 := by
    intro t ht
    unfold turnsC at ht
    obtain ⟨c, _, hc⟩ := List.mem_flatMap.1 ht
    rw [(List.mem_replicate.1 hc).2]
  refine ⟨by omega, by omega, difs_back rfl (by omega) r, ?_, backL_len _ _⟩
  rw [revL, backL_len]
  exact road_back rfl (by omega) r (fun i hi => h.pose i hi) (turnsC_turn cs h.parts.2.2.1)

set_option maxRecDepth 100000 in
set_option maxHeartbeats 8000000 in
theorem implRev_no (q : Ps) (v : Value) (cs : List Cv) (w : World) (hc : RdS 3 encCv w v cs) (lz : cs.length ≤ 1048576) (h : ¬ OkA q cs) :
    Calls Try.prog 26 #[(.agg #[.int .i64 q.s, .int .i64 q.h, .int .i64 q.y, .int .i64 q.p, v])] w fun e w' => ∃ v', e = .returned (.tuple #[(.agg #[.int .i64 zP0.s, .int .i64 zP0.h, .int .i64 zP0.y, .int .i64 zP0.p, v']), .bool false]) ∧ OwnS 46 3 encCv w' w.heap.size v' [] ∧ Below w.heap.size w w' := by
  have HC := Lib.hid hc
  obtain ⟨a, cap, rfl, _⟩ := hc
  have c1 := Lib.hid (fun w (hr : RdS 3 encCv w (.slice a cs.length cap) cs) => implPosesOf_any q _ cs w hr lz false ⟨fun e => (by cases e), fun e => absurd e h⟩ [] rfl)
  clear h lz
  go_enter Try.func26, Try.ntmps26
  go_wp2_with fail
  refine (c1.out _ (HC.out.later (by go_grown))).mono ?_
  rintro e w1 ⟨v1, rfl, o1, b1⟩
  obtain ⟨a1, k1, rfl⟩ := o1.form
  have r1 := (b1.block (w.heap.size + 1) (by simp only [World.size_alloc]; omega)).trans (heap_alloc2_new w _ _)
  have B1 : Hid (Below w.heap.size w w1) := Below.trans (by go_grown) (b1.mono (by simp only [World.size_alloc]; omega))
  obtain ⟨⟨g0, g1, g2, g3, g4⟩, l6⟩ := boxA_at (q := zP0) r1
  have f0 := frozen_of_row w1 (w.heap.size + 1) 0 _ _ r1
  have f1 := frozen_of_row w1 (w.heap.size + 1) 1 _ _ r1
  have f2 := frozen_of_row w1 (w.heap.size + 1) 2 _ _ r1
  have f3 := frozen_of_row w1 (w.heap.size + 1) 3 _ _ r1
  have f4 := frozen_of_row w1 (w.heap.size + 1) 4 _ _ r1
  clear b1 c1 r1 o1
  go_wp2
  refine bodyPost_ret (v := .tuple #[.agg #[.int .i64 0, .int .i64 0, .int .i64 0, .int .i64 0, .slice none 0 0], .bool false]) (by simp [results, Try.results26, go_sem, g0, g1, g2, g3, g4]; try rfl) rfl ?_
  refine ⟨_, rfl, OwnS.nil _ _, ?_⟩
  have b := B1.out
  go_grown

set_option maxRecDepth 100000 in
set_option maxHeartbeats 8000000 in
theorem implRev_yes (q : Ps) (v : Value) (cs : List Cv) (w : World) (hc : RdS 3 encCv w v cs) (lz : cs.length ≤ 1048576) (h : OkA q cs) (b : Bool) (hb : b = true ↔ (mergeL (revT (turnsC cs))).length ≤ 8) (r : Ps) (hr : r = if b = true then headP (revL q cs) else zP0) (ys : List Cv) (hy : ys = if b = true then mergeL (revT (turnsC cs)) else []) :
    Calls Try.prog 26 #[(.agg #[.int .i64 q.s, .int .i64 q.h, .int .i64 q.y, .int .i64 q.p, v])] w fun e w' => ∃ v', e = .returned (.tuple #[(.agg #[.int .i64 r.s, .int .i64 r.h, .int .i64 r.y, .int .i64 r.p, v']), .bool b]) ∧ OwnS 46 3 encCv w' w.heap.size v' ys ∧ Below w.heap.size w w' := by
  obtain ⟨i0, hi, hz0, hz1, hz2⟩ := info_parts info_Ps'
  have HC := Lib.hid hc
  obtain ⟨a, cap, rfl, _⟩ := hc
  obtain ⟨n60, n1, hd, hrd, hl⟩ := rev_road h
  have hax : b = true ↔ AxV (revL q cs) := by
    rw [hb]
    unfold AxV
    rw [hd]
    exact ⟨fun h => ⟨⟨by omega, by omega⟩, hrd, h⟩, fun h => h.2.2⟩
  rw [← hd] at hy
  have C4 := Lib.hid (fun (v : Value) (w : World) (h : ∃ B, OwnS 25 4 encPs w B v (revL q cs)) => implAxisOf_any v (revL q cs) w h (by omega) b hax r hr ys hy)
  have c1 := Lib.hid (fun w (hr : RdS 3 encCv w (.slice a cs.length cap) cs) => implPosesOf_any q _ cs w hr lz true ⟨fun _ => h, fun _ => rfl⟩ (allPs q cs) rfl)
  have HP : Hid (∀ i, i ≤ (turnsC cs).length → OkP (poseN q ((turnsC cs).take i))) := fun i hi => h.pose i hi
  have PG : Hid (∀ i, i ≤ (turnsC cs).length → (allPs q cs)[i]? = some (poseN q ((turnsC cs).take i))) := fun i hi => posesTo_get _ _ _ _ (by omega)
  have PL : (allPs q cs).length = (turnsC cs).length + 1 := by rw [allPs, posesTo_length]
  have BG : Hid (∀ i, i ≤ (turnsC cs).length → (revL q cs)[i]? = some (backAt (fun i => poseN q ((turnsC cs).take i)) (turnsC cs).length i)) := fun i hi => backL_get _ hi
  obtain ⟨N, hN⟩ : ∃ N, (turnsC cs).length + 1 = N := ⟨_, rfl⟩
  have hn : (turnsC cs).length = N - 1 := by omega
  obtain ⟨P, hP⟩ : ∃ P, allPs q cs = P := ⟨_, rfl⟩
  obtain ⟨R, hR⟩ : ∃ R, revL q cs = R := ⟨_, rfl⟩
  obtain ⟨pf, hpf⟩ : ∃ pf : Nat → Ps, (fun i => poseN q ((turnsC cs).take i)) = pf := ⟨_, rfl⟩
  have hpa : ∀ i, poseN q ((turnsC cs).take i) = pf i := fun i => congrFun hpf i
  simp only [hpa] at HP PG BG
  rw [hN] at hl PL
  rw [hn] at n60 n1 HP PG BG
  rw [hP] at c1 PG PL
  rw [hR] at hl C4 BG
  have RL := Lib.hid hl
  have m60 : N ≤ 61 := by omega
  have m2 : 2 ≤ N := by omega
  clear n60 n1 hN hP hR hn h lz hb hr hy hd hrd hax hpf hpa hl
  have PL' := Lib.hid PL
  clear PL
  go_enter Try.func26, Try.ntmps26
  go_wp2_with fail
  refine (c1.out _ (HC.out.later (by go_grown))).mono ?_
  rintro e w1 ⟨v1, rfl, o1, b1⟩
  obtain ⟨gp, cp, rfl, hcp⟩ := o1.caps (by rw [PL'.out]; omega)
  rw [PL'.out] at o1 ⊢
  have lgp := o1.lt gp rfl
  have OP := Lib.hid o1
  have R1 := Lib.hid ((b1.block (w.heap.size + 1) (by simp only [World.size_alloc]; omega)).trans (heap_alloc2_new w _ _))
  have B1 : Hid (Below w.heap.size w w1) := Below.trans (by go_grown) (b1.mono (by simp only [World.size_alloc]; omega))
  have z1 := b1.size
  simp only [World.size_alloc] at z1 lgp
  clear b1 o1 c1 HC hcp
  go_wp2_with (at_make; refine wpList_make_full _ rfl _ _ _ rfl w1.heap.size 25 i0 _ 4 Try.underlying32 hi hz0 hz1 .i64 .i64 _ _ N rfl rfl rfl rfl ?b2 ?b3 (Nat.le_refl _) ?_)
  case b2 => rw [hz2]; omega
  case b3 => unfold maxLen; omega
  intro w2 hown hg
  rw [made_flat (enc := encPs) encPs_len (by omega) zP0 #[.int .i64 0, .int .i64 0, .int .i64 0, .int .i64 0] rfl] at hown
  have O2 : Hid (OwnS 25 4 encPs w2 w1.heap.size (.slice (some ⟨w1.heap.size, 0, none⟩) N N) (R.take 0 ++ List.replicate (N - 0) zP0)) := by
    show OwnS _ _ _ _ _ _ _
    unfold OwnS
    rw [fill_len RL.out (by omega)]
    exact hown
  have B2 : Hid (Below w1.heap.size w1 w2) := (Below.refl _ _).grown hg (Nat.le_refl _) (fun k h => by cases h)
  clear hown hg
  go_wp2
  go_loopw [23] (fun iv wr => ∃ k : Nat, k ≤ N ∧ iv = .int .i64 k ∧ Hid (OwnS 25 4 encPs wr w1.heap.size (.slice (some ⟨w1.heap.size, 0, none⟩) N N) (R.take k ++ List.replicate (N - k) zP0)) ∧ Hid (Below w1.heap.size w1 wr)) (fun iv _ => N - (intOf iv).toNat)
  case atStart => exact ⟨0, by omega, rfl, O2, B2⟩
  case round =>
    obtain ⟨k, hk, rfl, O, B⟩ := hrel
    clear O2 B2
    have hsz := B.out.size
    have hsz1 : w1.heap.size < wr.heap.size := (O.out.lt _ rfl).2
    by_cases hlt : k < N
    · obtain ⟨m, hm⟩ : ∃ m, m = N - 1 - k := ⟨_, rfl⟩
      obtain ⟨j, hj⟩ : ∃ j, j = m - 1 := ⟨_, rfl⟩
      have mN : m < N := by omega
      have jN : j < N := by omega
      obtain ⟨a, ha⟩ : ∃ x, pf m = x := ⟨_, rfl⟩
      obtain ⟨b0, hb0⟩ : ∃ x, pf j = x := ⟨_, rfl⟩
      have pa := PG.out m (by omega)
      have pb := PG.out j (by omega)
      have RG : Hid (R[k]? = some ⟨a.s, a.h, -b0.y, -b0.p⟩) := by
        show _ = _
        rw [BG.out k (by omega), backAt, ← hm, ← hj, ha, hb0]
      have ob := HP.out j (by omega)
      rw [ha] at pa
      rw [hb0] at pb ob
      have oy := ob.2.2.1
      have op := ob.2.2.2
      unfold OkHead at oy op
      have wy : IntKind.i64.wrap (-b0.y) = -b0.y := IntWalk.i64_in _ (by omega)
      have wp : IntKind.i64.wrap (-b0.p) = -b0.p := IntWalk.i64_in _ (by omega)
      have wm : IntKind.i64.wrap ((N : Int) - 1 - (k : Int)) = (m : Int) := (IntWalk.i64_in _ (by omega)).trans (by omega)
      have wj : (if (m : Int) - 1 < 0 then 0 else (m : Int) - 1) = (j : Int) := by split <;> omega
      have RO : Hid (RdS 4 encPs w1 (.slice (some ⟨gp, 0, none⟩) N cp) P) := OP.out.rd encPs_len
      obtain ⟨pb0, pb1, pb2, pb3⟩ := (RO.out.later B.out).at4g pb
      have PA := Lib.hid pa
      have mk : m + k + 1 = N ∨ True := .inr trivial
      clear mk hm hj ha hb0 pa pb ob
      go_wp2_with fail
      generalize hx3 : wr.alloc (.cells #[.int .i64 b0.s, .int .i64 b0.h, .int .i64 b0.y, .int .i64 b0.p] 25) = w3
      have bb3 : Below wr.heap.size wr w3 := by rw [← hx3]; go_grown
      have nb3 : w3.heap[wr.heap.size]? = some (.cells #[.int .i64 b0.s, .int .i64 b0.h, .int .i64 b0.y, .int .i64 b0.p] 25 (0, 0)) := by rw [← hx3]; exact heap_alloc_new _ _
      clear hx3 pb0 pb1 pb2 pb3 wj wm
      obtain ⟨⟨u0, u1, u2, u3⟩, -, lu⟩ := boxPs_at nb3
      have B3 : Hid (Below w1.heap.size w1 w3) := B.out.trans (bb3.mono hsz)
      obtain ⟨a0, a1, a2, a3⟩ := (RO.out.later B3.out).at4g PA.out
      have O3 := O.out.later bb3
      have hlen : N = (R.take k ++ List.replicate (N - k) zP0).length := by rw [fill_len RL.out (by omega)]
      have gl := fill_get (z := zP0) RL.out hlt
      have c0 : w3.cell? ⟨w1.heap.size, k * 4, none⟩ = some (.int .i64 0) := O3.cellAt encPs_len hlen k _ gl 0 _ rfl
      have c1 : w3.cell? ⟨w1.heap.size, k * 4 + 1, none⟩ = some (.int .i64 0) := O3.cellAt encPs_len hlen k _ gl 1 _ rfl
      have c2 : w3.cell? ⟨w1.heap.size, k * 4 + 2, none⟩ = some (.int .i64 0) := O3.cellAt encPs_len hlen k _ gl 2 _ rfl
      have c3 : w3.cell? ⟨w1.heap.size, k * 4 + 3, none⟩ = some (.int .i64 0) := O3.cellAt encPs_len hlen k _ gl 3 _ rfl
      have f0 : w3.frozen? ⟨w1.heap.size, k * 4, none⟩ = false := O3.frozenAt hlen _
      have f1 : w3.frozen? ⟨w1.heap.size, k * 4 + 1, none⟩ = false := O3.frozenAt hlen _
      have f2 : w3.frozen? ⟨w1.heap.size, k * 4 + 2, none⟩ = false := O3.frozenAt hlen _
      have f3 : w3.frozen? ⟨w1.heap.size, k * 4 + 3, none⟩ = false := O3.frozenAt hlen _
      have s3 : Hid (OwnS 25 4 encPs ((((w3.setCell ⟨w1.heap.size, k * 4, none⟩ (.int .i64 a.s)).setCell ⟨w1.heap.size, k * 4 + 1, none⟩ (.int .i64 a.h)).setCell ⟨w1.heap.size, k * 4 + 2, none⟩ (.int .i64 (-b0.y))).setCell ⟨w1.heap.size, k * 4 + 3, none⟩ (.int .i64 (-b0.p))) w1.heap.size (.slice (some ⟨w1.heap.size, 0, none⟩) N N) (R.take (k + 1) ++ List.replicate (N - (k + 1)) zP0)) := by
        have e := O3.putPs hlen k zP0 gl ⟨a.s, a.h, -b0.y, -b0.p⟩
        rw [fill_set RL.out hlt RG.out] at e
        exact e
      have BN : Hid (Below w1.heap.size w1 ((((w3.setCell ⟨w1.heap.size, k * 4, none⟩ (.int .i64 a.s)).setCell ⟨w1.heap.size, k * 4 + 1, none⟩ (.int .i64 a.h)).setCell ⟨w1.heap.size, k * 4 + 2, none⟩ (.int .i64 (-b0.y))).setCell ⟨w1.heap.size, k * 4 + 3, none⟩ (.int .i64 (-b0.p)))) := (Below.setCell (Below.setCell (Below.setCell (Below.setCell B3.out (p := ⟨w1.heap.size, k * 4, none⟩) (Nat.le_refl _) _) (p := ⟨w1.heap.size, k * 4 + 1, none⟩) (Nat.le_refl _) _) (p := ⟨w1.heap.size, k * 4 + 2, none⟩) (Nat.le_refl _) _) (p := ⟨w1.heap.size, k * 4 + 3, none⟩) (Nat.le_refl _) _)
      have lk : (k : Int) < (N : Int) := by omega
      have lm : (m : Int) < (N : Int) := by omega
      clear nb3 O3 hlen gl B3 bb3 O B RG PA RO HP PG BG
      go_still_tail 20, (by kernel_rfl)
      go_wp2
      exact ⟨⟨k + 1, by omega, by go_num, s3.out.drew, BN.out.drew⟩, by simp only [intOf]; omega⟩
    · obtain rfl : k = N := by omega
      have hO := O.out
      rw [Nat.sub_self, List.replicate_zero, List.append_nil, List.take_of_length_le (by have := RL.out; omega)] at hO
      have HO := Lib.hid hO
      have RR := Lib.hid ((B.out.block (w.heap.size + 1) (by omega)).trans R1.out)
      clear hO O HP PG BG R1
      go_wp2_with fail
      refine (C4.out _ _ ⟨_, HO.out⟩).mono ?_
      rintro e w5 ⟨v5, rfl, o5, b5⟩
      obtain ⟨a5, c5, rfl⟩ := o5.form
      have z5 := b5.size
      have r5 := (b5.block (w.heap.size + 1) (by omega)).trans RR.out
      obtain ⟨⟨g0, g1, g2, g3, g4⟩, -⟩ := boxA_at (q := zP0) r5
      have f0 := frozen_of_row w5 (w.heap.size + 1) 0 _ _ r5
      have f1 := frozen_of_row w5 (w.heap.size + 1) 1 _ _ r5
      have f2 := frozen_of_row w5 (w.heap.size + 1) 2 _ _ r5
      have f3 := frozen_of_row w5 (w.heap.size + 1) 3 _ _ r5
      have f4 := frozen_of_row w5 (w.heap.size + 1) 4 _ _ r5
      have O5 := Lib.hid o5
      have L5 : Hid (∀ c, (Value.slice a5 ys.length c5).ownBlock = some c → wr.heap.size ≤ c) := fun c h => (O5.out.lt c h).1
      have B5 : Hid (Below w.heap.size w w5) := B1.out.trans ((B.out.mono (by omega)).trans (b5.mono (by omega)))
      clear r5 o5 b5 RR HO C4 B
      go_wp2
      refine bodyPost_ret (v := .tuple #[(.agg #[.int .i64 r.s, .int .i64 r.h, .int .i64 r.y, .int .i64 r.p, (.slice a5 ys.length c5)]), .bool b]) (by simp [results, Try.results26, go_sem, g0, g1, g2, g3, g4]; try rfl) rfl ?_
      refine ⟨_, rfl, ?_, ?_⟩
      · have o := O5.out.mono (show w.heap.size + 2 ≤ _ by omega)
        refine OwnS.mono ?_ (show w.heap.size ≤ w.heap.size + 2 by omega)
        exact ((((o.setBelow (by simp) _).setBelow (by simp) _).setBelow (by simp) _).setBelow (by simp) _).setBelow (by simp) _
      · have b := B5.out
        go_grown
end Go.Proofs.Ythhnnkgfnhggbaa
