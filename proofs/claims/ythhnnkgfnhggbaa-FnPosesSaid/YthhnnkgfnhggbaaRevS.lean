/- ReverseAxis: the specification. -/
import Derived.Test.YthhnnkgfnhggbaaRevX
import Derived.Test.YthhnnkgfnhggbaaAxisS
namespace Go.Proofs.Ythhnnkgfnhggbaa
open Go.ChangeShapes Go.WideShapes Go.ChangeAt Go.RowKit
set_option linter.unusedVariables false
set_option linter.unusedSimpArgs false

theorem RdS.at3g {w : World} {g n cap : Nat} {xs : List Cv} (h : RdS 3 encCv w (.slice (some ⟨g, 0, none⟩) n cap) xs) {i : Nat} {x : Cv} (hx : xs[i]? = some x) :
    w.cell? ⟨g, i * 3, none⟩ = some (.int .i64 x.r) ∧ w.cell? ⟨g, i * 3 + 1, none⟩ = some (.int .i64 x.b) ∧ w.cell? ⟨g, i * 3 + 2, none⟩ = some (.int .i64 x.s) := by
  obtain ⟨a', c', hv, h⟩ := h
  simp only [Value.slice.injEq] at hv
  obtain ⟨rfl, -, -⟩ := hv
  obtain ⟨b, off, e, h2⟩ := h.resolve_left (by intro e; rw [e] at hx; simp at hx)
  cases e
  have q0 := h2 i x hx 0 _ rfl
  have q1 := h2 i x hx 1 _ rfl
  have q2 := h2 i x hx 2 _ rfl
  simp only [Nat.zero_add, Nat.add_zero] at q0 q1 q2
  exact ⟨q0, q1, q2⟩

theorem rev_axis {q : Ps} {cs : List Cv} (h : OkA q cs) : OkA (headP (revL q cs)) (mergeL (revT (turnsC cs))) ↔ (mergeL (revT (turnsC cs))).length ≤ 8 := by
  obtain ⟨n60, n1, hd, hrd, hl⟩ := rev_road h
  have h0 : (revL q cs)[0]? = some (headP (revL q cs)) := by
    unfold headP
    rw [List.head?_eq_getElem?]
    obtain ⟨x, hx⟩ : ∃ x, (revL q cs)[0]? = some x := ⟨_, List.getElem?_eq_getElem (by omega)⟩
    rw [hx]
    rfl
  have e := road_ok h0 hrd (by omega) (by omega)
  rwa [hd] at e

set_option maxRecDepth 100000 in
set_option maxHeartbeats 8000000 in
theorem specRev_any (q : Ps) (v : Value) (cs : List Cv) (w : World) (hc : RdS 3 encCv w v cs) (lz : cs.length ≤ 1048576) (b : Bool) (hb : b = true ↔ OkA q cs ∧ (mergeL (revT (turnsC cs))).length ≤ 8) (r : Ps) (hr : r = if b = true then headP (revL q cs) else zP0) (ys : List Cv) (hy : ys = if b = true then mergeL (revT (turnsC cs)) else []) :
    Calls Try.prog 39 #[(.agg #[.int .i64 q.s, .int .i64 q.h, .int .i64 q.y, .int .i64 q.p, v])] w fun e w' => ∃ v', e = .returned (.tuple #[(.agg #[.int .i64 r.s, .int .i64 r.h, .int .i64 r.y, .int .i64 r.p, v']), .bool b]) ∧ OwnS 46 3 encCv w' w.heap.size v' ys ∧ Below w.heap.size w w' := by
  have HC := Lib.hid hc
  obtain ⟨i0, hi, hz0, hz1, hz2⟩ := info_parts info_CvM
  obtain ⟨a, cap, rfl, _⟩ := hc
  obtain ⟨b0, hb0⟩ := ok_bool (OkA q cs)
  have HB := Lib.hid hb
  have HR := Lib.hid hr
  have HY := Lib.hid hy
  have HB0 := Lib.hid hb0
  clear hb hr hy hb0
  go_enter Try.func39, Try.ntmps39
  go_wp2_with fail
  refine (l02Is_any w.heap.size 28 q a cap cs _ (heap_alloc2_old w _ _) (HC.out.later (by go_grown)) lz b0 HB0.out).mono ?_
  rintro e w1 ⟨rfl, b1⟩
  have n1 := Lib.hid ((b1.block w.heap.size (by simp only [World.size_alloc]; omega)).trans (heap_alloc2_old w _ _))
  have r1 := Lib.hid ((b1.block (w.heap.size + 1) (by simp only [World.size_alloc]; omega)).trans (heap_alloc2_new w _ _))
  have z1 := b1.size
  simp only [World.size_alloc] at z1
  have B1 : Hid (Below w.heap.size w w1) := Below.trans (by go_grown) (b1.mono (by simp only [World.size_alloc]; omega))
  clear b1
  cases b0 with
  | false =>
    obtain rfl : b = false := bool_false HB.out (fun h => by have := HB0.out.mpr h.1; cases this)
    obtain rfl : r = zP0 := HR.out
    obtain rfl : ys = [] := HY.out
    obtain ⟨⟨g0, g1, g2, g3, g4⟩, -⟩ := boxA_at (q := zP0) r1.out
    have f0 := frozen_of_row w1 (w.heap.size + 1) 0 _ _ r1.out
    have f1 := frozen_of_row w1 (w.heap.size + 1) 1 _ _ r1.out
    have f2 := frozen_of_row w1 (w.heap.size + 1) 2 _ _ r1.out
    have f3 := frozen_of_row w1 (w.heap.size + 1) 3 _ _ r1.out
    have f4 := frozen_of_row w1 (w.heap.size + 1) 4 _ _ r1.out
    go_wp2
    refine bodyPost_ret (v := .tuple #[.agg #[.int .i64 0, .int .i64 0, .int .i64 0, .int .i64 0, .slice none 0 0], .bool false]) (by simp [results, Try.results39, go_sem, g0, g1, g2, g3, g4]; try rfl) rfl ?_
    refine ⟨_, rfl, OwnS.nil _ _, ?_⟩
    have b := B1.out
    go_grown
  | true =>
    have OK := Lib.hid (HB0.out.mp rfl)
    obtain ⟨l1, l8, hall, -, -⟩ := OK.out.parts'
    go_wp2_with fail
    refine (l02Turns_any w.heap.size 28 q _ cs _ n1.out (HC.out.later B1.out) l8 hall).mono ?_
    rintro e w2 ⟨vt, rfl, ot, b2⟩
    have n2 := Lib.hid ((b2.block w.heap.size (by omega)).trans n1.out)
    have r2 := Lib.hid ((b2.block (w.heap.size + 1) (by omega)).trans r1.out)
    have z2 := b2.size
    have B2 : Hid (Below w.heap.size w w2) := B1.out.trans (b2.mono (by omega))
    have OT := Lib.hid ot
    clear b2 ot n1 r1 B1 l1 l8 hall
    go_wp2_with fail
    refine (l02Poses_any w.heap.size 28 q _ cs _ n2.out (HC.out.later B2.out) OK.out).mono ?_
    rintro e w3 ⟨vp, rfl, op, b3⟩
    have r3 := Lib.hid ((b3.block (w.heap.size + 1) (by omega)).trans r2.out)
    have z3 := b3.size
    have B3 : Hid (Below w.heap.size w w3) := B2.out.trans (b3.mono (by omega))
    have OT3 := Lib.hid (OT.out.later b3)
    have OP := Lib.hid op
    clear b3 op n2 r2 B2 OT HC
    obtain ⟨n60, n1, hd, hrd, hl⟩ := rev_road OK.out
    obtain ⟨gt, ct, rfl, -⟩ := OT3.out.caps (by omega)
    obtain ⟨gp, cp, rfl, -⟩ := OP.out.caps (by rw [posesTo_length]; omega)
    rw [posesTo_length]
    have lgp := (OP.out.lt gp rfl).2
    have lgt := (OT3.out.lt gt rfl).2
    have ngp : ¬ gp = w3.heap.size := by omega
    have ngp' : ¬ w3.heap.size = gp := by omega
    have PG : Hid (∀ i, i ≤ (turnsC cs).length → (allPs q cs)[i]? = some (poseN q ((turnsC cs).take i))) := fun i hi => posesTo_get _ _ _ _ (by omega)
    have OK2 := rev_axis OK.out
    have R1 : ∀ c ∈ revT (turnsC cs), c.r = 1 := by rw [← hd]; exact difs_one
    have M2 : b = true ↔ OkA (headP (revL q cs)) (mergeL (revT (turnsC cs))) := HB.out.trans ((and_iff_right OK.out).trans OK2.symm)
    have hL : revT (turnsC cs) = ((turnsC cs).take ((turnsC cs).length - 1)).reverse ++ [⟨1, 0, 0⟩] := rfl
    have HP : Hid (∀ i, i ≤ (turnsC cs).length → OkP (poseN q ((turnsC cs).take i))) := fun i hi => OK.out.pose i hi
    have h0 : headP (revL q cs) = backAt (fun i => poseN q ((turnsC cs).take i)) (turnsC cs).length 0 := by
      unfold headP
      rw [List.head?_eq_getElem?, revL, backL_get _ (by omega)]
      rfl
    have RP : Hid (RdS 4 encPs w3 (.slice (some ⟨gp, 0, none⟩) ((turnsC cs).length + 1) cp) (allPs q cs)) := by
      show RdS _ _ _ _ _
      have o := OP.out.rd encPs_len
      rw [posesTo_length] at o
      exact o
    have RT := Lib.hid (OT3.out.rd encCv_len)
    have C := Lib.hid (rev_get (turnsC cs))
    have RTL := Lib.hid (revT_len (turnsC cs) (by omega))
    obtain ⟨pf, hpf⟩ : ∃ pf : Nat → Ps, (fun i => poseN q ((turnsC cs).take i)) = pf := ⟨_, rfl⟩
    have hpa : ∀ i, poseN q ((turnsC cs).take i) = pf i := fun i => congrFun hpf i
    simp only [hpa] at PG HP h0
    clear hpf hpa
    generalize turnsC cs = t at *
    obtain ⟨n, hn⟩ : ∃ n, t.length = n := ⟨_, rfl⟩
    have HN := Lib.hid hn
    obtain ⟨N, hN⟩ : ∃ N, n + 1 = N := ⟨_, rfl⟩
    rw [hn] at n60 n1 RP RT PG HP h0 C RTL hL ⊢
    rw [hN] at RP ⊢
    obtain ⟨m, hm⟩ : ∃ m, n = m + 1 := ⟨n - 1, by omega⟩
    obtain ⟨pa, hpa'⟩ : ∃ x, pf n = x := ⟨_, rfl⟩
    obtain ⟨pb, hpb'⟩ : ∃ x, pf m = x := ⟨_, rfl⟩
    have ga := PG.out n (by omega)
    have gb := PG.out m (by omega)
    have ob := HP.out m (by omega)
    rw [hpa'] at ga
    rw [hpb'] at gb ob
    have oy := ob.2.2.1
    have op' := ob.2.2.2
    unfold OkHead at oy op'
    have wy : IntKind.i64.wrap (-pb.y) = -pb.y := IntWalk.i64_in _ (by omega)
    have wp : IntKind.i64.wrap (-pb.p) = -pb.p := IntWalk.i64_in _ (by omega)
    have wm : IntKind.i64.wrap ((n : Int) - 1) = (m : Int) := (IntWalk.i64_in _ (by omega)).trans (by omega)
    obtain ⟨pa0, pa1, pa2, pa3⟩ := RP.out.at4g ga
    obtain ⟨pb0, pb1, pb2, pb3⟩ := RP.out.at4g gb
    have nN : n < N := by omega
    have mN : m < N := by omega
    have HH : Hid (headP (revL q cs) = ⟨pa.s, pa.h, -pb.y, -pb.p⟩) := by
      show _ = _
      rw [h0, backAt, show n - 0 = n by omega, show n - 1 = m by omega, hpa', hpb']
    rw [show headP (revL q cs) = ⟨pa.s, pa.h, -pb.y, -pb.p⟩ from HH.out] at M2
    have HM := Lib.hid hm
    have HB2 := Lib.hid M2
    have HR1 := Lib.hid R1
    have RL1 : Hid (((t.take (n - 1)).reverse).length = n - 1) := by show _ = _; rw [List.length_reverse, List.length_take, HN.out]; omega
    obtain ⟨L, hL2⟩ : ∃ L, (t.take (n - 1)).reverse = L := ⟨_, rfl⟩
    rw [hL2] at hL C RL1
    have HL := Lib.hid hL
    clear OK2 M2 R1 hL hL2 hn hN hm hpa' hpb' ga gb ob hrd hl hd h0 PG HP HB HB0 OK RP op' oy
    go_wp2_with fail
    clear pa0 pa1 pa2 pa3 pb0 pb1 pb2 pb3 wy wp wm nN mN
    generalize hx5 : w3.alloc (.cells #[.int .i64 pa.s, .int .i64 pa.h, .int .i64 (-pb.y), .int .i64 (-pb.p), .slice none 0 0] 28) = w5
    have z5 : w5.heap.size = w3.heap.size + 1 := by rw [← hx5]; simp
    have NO : Hid (w5.heap[w3.heap.size]? = some (.cells #[.int .i64 pa.s, .int .i64 pa.h, .int .i64 (-pb.y), .int .i64 (-pb.p), .slice none 0 0] 28 (0, 0))) := by rw [← hx5]; exact heap_alloc_new _ _
    have bb5 : Below w3.heap.size w3 w5 := by rw [← hx5]; go_grown
    have B5 : Hid (Below w.heap.size w w5) := B3.out.trans (bb5.mono (by omega))
    have RT5 := Lib.hid (RT.out.later bb5)
    have r5 := Lib.hid ((bb5.block (w.heap.size + 1) (by omega)).trans r3.out)
    have OU : Hid (OwnS 46 3 encCv (w5.alloc (.cells #[] 46)) w5.heap.size (.slice (some ⟨w5.heap.size, 0, none⟩) 0 0) (L.take 0)) := by
      show OwnS _ _ _ _ _ _ _
      exact World.ownsRow_lit (e := 46) (size := 3) w5 #[] 0 (Nat.le_refl _) (by decide) rfl
    have BU : Hid (Below w5.heap.size w5 (w5.alloc (.cells #[] 46))) := by show Below _ _ _; go_grown
    rw [← z5]
    have z5a : w3.heap.size + 1 ≤ w5.heap.size := by omega
    have z5b : w5.heap.size ≤ w3.heap.size + 1 := by omega
    clear z5 hx5 bb5 RT r3 B3 OT3
    go_loopw [8, 9] (fun lv xv wr => ∃ (j c g : Nat) (x : Int), xv = .int .i64 x ∧ lv = .slice (some ⟨g, 0, none⟩) j c ∧ Hid (x = (n : Int) - 2 - j) ∧ -1 ≤ x ∧ x ≤ 60 ∧ j ≤ 60 ∧ Hid (OwnS 46 3 encCv wr w5.heap.size lv (L.take j)) ∧ Hid (Below w5.heap.size w5 wr)) (fun _ xv _ => (intOf xv + 1).toNat)
    case atStart => exact ⟨0, 0, _, _, rfl, rfl, by show _ = _; omega, by omega, by omega, by omega, OU, BU⟩
    case round =>
      obtain ⟨j, c1, g, x, rfl, rfl, hx, hx1, hx2, hj, O, B⟩ := hrel
      clear OU BU
      have hsz := B.out.size
      by_cases hx0 : 0 ≤ x
      · obtain ⟨k, rfl⟩ : ∃ k : Nat, x = k := ⟨x.toNat, by omega⟩
        have kn : k < n := by have := hx.out; omega
        have kn' : (k : Int) < (n : Int) := by omega
        obtain ⟨c, hc⟩ : ∃ c, t[k]? = some c := ⟨_, List.getElem?_eq_getElem (by have := HN.out; omega)⟩
        have E1 : Hid (L.take (j + 1) = L.take j ++ [c]) := by
          show _ = _
          have h := C.out j (by have := HN.out; have := hx.out; omega)
          rw [show n - 2 - j = k by have := hx.out; omega, hc] at h
          rw [List.take_add_one, h]
          rfl
        obtain ⟨t0, t1, t2⟩ := (RT5.out.later B.out).at3g hc
        have hlen : (L.take j).length = j := by rw [List.length_take, RL1.out]; have := hx.out; omega
        have own := O.out
        unfold OwnS at own
        rw [hlen] at own
        have OWN := Lib.hid own
        have HLEN := Lib.hid hlen
        clear own hlen hc hx0
        go_wp2_with (at_builtin; refine wpList_append_lies _ rfl _ _ _ rfl w5.heap.size 46 i0 _ 3 24 Try.underlying26 hi hz0 hz1 hz2 rfl (by omega) _ _ _ rfl (OWN.out.alloc _) ⟨wr.heap.size, 0, none⟩ 1 1 [.int .i64 c.r, .int .i64 c.b, .int .i64 c.s] rfl rfl (World.news_of_block (cs := #[.int .i64 c.r, .int .i64 c.b, .int .i64 c.s]) (t := 46) (fr := (0, 0)) (heap_alloc_new wr _)) (by simp [Value.oneCell']) (by omega) (by unfold maxLen; omega) (by omega) (by simp only [World.size_alloc]; omega) _ rfl ?_)
        intro gg cap1 w9 hown1 hgrow hat hlt'
        have O9 : Hid (OwnS 46 3 encCv w9 w5.heap.size (.slice (some ⟨gg, 0, none⟩) (j + 1) cap1) (L.take (j + 1))) := by
          show OwnS _ _ _ _ _ _ _
          unfold OwnS
          rw [E1.out, List.length_append, HLEN.out, List.flatMap_append]
          exact hown1
        have gr := grownBy_trans' (World.grownBy_alloc wr _ _) hgrow
        have B9 : Hid (Below w5.heap.size w5 w9) := B.out.grown gr (by omega) (fun b e => (O.out.lt b e).1)
        have HX : Hid ((k : Int) - 1 = (n : Int) - 2 - ((j + 1 : Nat) : Int)) := by show _ = _; have := hx.out; omega
        have jb : j + 1 ≤ 60 := by have := hx.out; omega
        clear hown1 hgrow hat hlt' gr OWN O B HLEN t0 t1 t2
        go_wp2
        exact ⟨⟨j + 1, cap1, gg, (k : Int) - 1, rfl, rfl, HX, by omega, by omega, jb, O9, B9⟩, by simp only [intOf]; omega⟩
      · obtain rfl : x = -1 := by omega
        have E1 : Hid (L.take j = L) := List.take_of_length_le (by rw [RL1.out]; have := hx.out; omega)
        have hlen : L.length = j := by rw [RL1.out]; have := hx.out; omega
        have own := O.out
        rw [E1.out] at own
        unfold OwnS at own
        rw [hlen] at own
        have OWN := Lib.hid own
        have HLEN := Lib.hid hlen
        clear own hlen hx0 hx1 hx2
        go_wp2_with (at_builtin; refine wpList_append_lies _ rfl _ _ _ rfl w5.heap.size 46 i0 _ 3 24 Try.underlying26 hi hz0 hz1 hz2 rfl (by omega) _ _ _ rfl (OWN.out.alloc _) ⟨wr.heap.size, 0, none⟩ 1 1 [.int .i64 1, .int .i64 0, .int .i64 0] rfl rfl (World.news_of_block (cs := #[.int .i64 1, .int .i64 0, .int .i64 0]) (t := 46) (fr := (0, 0)) (heap_alloc_new wr _)) (by simp [Value.oneCell']) (by omega) (by unfold maxLen; omega) (by omega) (by simp only [World.size_alloc]; omega) _ rfl ?_)
        intro gg cap1 w9 hown1 hgrow hat hlt'
        have O9 : Hid (OwnS 46 3 encCv w9 w5.heap.size (.slice (some ⟨gg, 0, none⟩) (j + 1) cap1) (revT t)) := by
          show OwnS _ _ _ _ _ _ _
          unfold OwnS
          rw [HL.out, List.length_append, HLEN.out, List.flatMap_append]
          exact hown1
        have gr := grownBy_trans' (World.grownBy_alloc wr _ _) hgrow
        have B9 : Hid (Below w5.heap.size w5 w9) := B.out.grown gr (by omega) (fun b e => (O.out.lt b e).1)
        clear hown1 hgrow hat hlt' gr OWN O B HLEN
        have jl : j + 1 = (revT t).length := by rw [RTL.out]; have := hx.out; omega
        have MG := Lib.hid (l02Merge_any (.slice (some ⟨gg, 0, none⟩) (j + 1) cap1) (revT t) w9 (O9.out.rd encCv_len) (by rw [RTL.out]; omega) (fun d hd => by rw [HR1.out d hd]; omega) (by rw [sumR_one _ HR1.out, RTL.out]; omega))
        clear jl
        go_wp2_with fail
        refine MG.out.mono ?_
        rintro e w10 ⟨vm, rfl, om, b10⟩
        obtain ⟨am, cm, rfl⟩ := om.form
        have z9 := B9.out.size
        have z10 := b10.size
        have B10 : Hid (Below w5.heap.size w5 w10) := B9.out.trans (b10.mono z9)
        have NO10 := Lib.hid ((B10.out.block w3.heap.size (by omega)).trans NO.out)
        have r10 := Lib.hid ((B10.out.block (w.heap.size + 1) (by omega)).trans r5.out)
        have OM := Lib.hid om
        have LM : (mergeL (revT t)).length ≤ 60 := by have h := mergeL_length (revT t); rw [RTL.out] at h; omega
        have LOM : Hid (∀ c, (Value.slice am (mergeL (revT t)).length cm).ownBlock = some c → c ≠ w3.heap.size) := fun c h => by have := (OM.out.lt c h).1; omega
        obtain ⟨M, hM⟩ : ∃ M, mergeL (revT t) = M := ⟨_, rfl⟩
        rw [hM] at HB2 HY OM LOM LM ⊢
        obtain ⟨-, lo⟩ := boxA_at (q := ⟨pa.s, pa.h, -pb.y, -pb.p⟩) NO10.out
        have o4 : w10.cell? ⟨w3.heap.size, 4, none⟩ = some (.slice none 0 0) := cell_of_row w10 w3.heap.size 4 _ _ _ NO10.out
        have of4 := frozen_of_row w10 w3.heap.size 4 _ _ NO10.out
        clear MG om b10 O9 B9 hM NO r5 hsz
        go_wp2_with fail
        generalize hx11 : w10.setCell ⟨w3.heap.size, 4, none⟩ (.slice am M.length cm) = w11
        have N11 : w11.heap[w3.heap.size]? = some (.cells #[.int .i64 pa.s, .int .i64 pa.h, .int .i64 (-pb.y), .int .i64 (-pb.p), .slice am M.length cm] 28 (0, 0)) := by
          rw [← hx11]
          exact heap_setCell_same w10 w3.heap.size 4 _ 28 (.slice am M.length cm) NO10.out
        have bw : Below w3.heap.size w10 w11 := by rw [← hx11]; exact (Below.refl w3.heap.size w10).setCell (p := ⟨w3.heap.size, 4, none⟩) (Nat.le_refl _) _
        have OM11 : Hid (OwnS 46 3 encCv w11 w9.heap.size (.slice am M.length cm) M) := Lib.hid (by rw [← hx11]; exact OM.out.setBelow (show w3.heap.size < w9.heap.size by omega) _)
        have r11 := Lib.hid ((bw.block (w.heap.size + 1) (by omega)).trans r10.out)
        have z11 := bw.size
        have N11' := Lib.hid N11
        have B11 : Hid (Below w.heap.size w w11) := B5.out.trans ((B10.out.mono (by omega)).trans (bw.mono (by omega)))
        clear hx11 bw OM r10 NO10 o4 of4 lo N11 B10
        refine (l02Is_any w3.heap.size 28 ⟨pa.s, pa.h, -pb.y, -pb.p⟩ am cm M w11 N11'.out (OM11.out.rd encCv_len) (by omega) b HB2.out).mono ?_
        rintro e w12 ⟨rfl, b12⟩
        have z12 := b12.size
        have N12 := Lib.hid ((b12.block w3.heap.size (by omega)).trans N11'.out)
        have r12 := (b12.block (w.heap.size + 1) (by omega)).trans r11.out
        have OM12 := Lib.hid (OM11.out.later b12)
        have B12 : Hid (Below w.heap.size w w12) := B11.out.trans (b12.mono (by omega))
        obtain ⟨⟨g0, g1, g2, g3, g4⟩, -⟩ := boxA_at (q := zP0) r12
        have f0 := frozen_of_row w12 (w.heap.size + 1) 0 _ _ r12
        have f1 := frozen_of_row w12 (w.heap.size + 1) 1 _ _ r12
        have f2 := frozen_of_row w12 (w.heap.size + 1) 2 _ _ r12
        have f3 := frozen_of_row w12 (w.heap.size + 1) 3 _ _ r12
        have f4 := frozen_of_row w12 (w.heap.size + 1) 4 _ _ r12
        clear b12 N11' r11 OM11 B11 HB2 r12
        cases b with
        | false =>
          obtain rfl : r = zP0 := HR.out
          obtain rfl : ys = [] := HY.out
          clear N12 OM12
          go_wp2
          refine bodyPost_ret (v := .tuple #[.agg #[.int .i64 0, .int .i64 0, .int .i64 0, .int .i64 0, .slice none 0 0], .bool false]) (by simp [results, Try.results39, go_sem, g0, g1, g2, g3, g4]; try rfl) rfl ?_
          refine ⟨_, rfl, OwnS.nil _ _, ?_⟩
          have b := B12.out
          go_grown
        | true =>
          have hr0 : r = ⟨pa.s, pa.h, -pb.y, -pb.p⟩ := HR.out.trans HH.out
          subst hr0
          obtain rfl : ys = M := HY.out
          obtain ⟨⟨y0, y1, y2, y3, y4⟩, -⟩ := boxA_at (q := ⟨pa.s, pa.h, -pb.y, -pb.p⟩) N12.out
          have npa : ¬ w3.heap.size = w.heap.size + 1 := by omega
          have npb : ¬ w.heap.size + 1 = w3.heap.size := by omega
          clear HR HY HH N12
          go_wp2
          refine bodyPost_ret (v := .tuple #[.agg #[.int .i64 pa.s, .int .i64 pa.h, .int .i64 (-pb.y), .int .i64 (-pb.p), .slice am ys.length cm], .bool true]) (by simp [results, Try.results39, go_sem, g0, g1, g2, g3, g4]; try rfl) rfl ?_
          refine ⟨_, rfl, ?_, ?_⟩
          · have o := OM12.out.mono (show w.heap.size + 2 ≤ _ by omega)
            refine OwnS.mono ?_ (show w.heap.size ≤ w.heap.size + 2 by omega)
            exact ((((o.setBelow (by simp) _).setBelow (by simp) _).setBelow (by simp) _).setBelow (by simp) _).setBelow (by simp) _
          · have b := B12.out
            go_grown
end Go.Proofs.Ythhnnkgfnhggbaa
