/- LowPoints on both sides. -/
import Derived.Test.YtgokhbcifgikgabLow
import Derived.WalkSpells
namespace Go.Proofs.Ytgokhbcifgikgab
open Go.ChangeShapes Go.WideShapes Go.ChangeAt Go.RowKit
set_option linter.unusedVariables false
set_option linter.unusedSimpArgs false

theorem info_i64L : (Try.prog.info? 2).map (fun i => (i.zero, i.size, i.bytes)) = some (some (.int .i64 0), 1, 8) := by kernel_rfl

/-- The heights along an axis. -/
def hts (q : Ps) (cs : List Cv) (i : Nat) : Int := (poseN q ((turnsC cs).take i)).h
theorem allPs_get (q : Ps) (cs : List Cv) (i : Nat) (h : i < (allPs q cs).length) : ∃ p, (allPs q cs)[i]? = some p ∧ p.h = hts q cs i := by
  rw [allPs, posesTo_length] at h
  exact ⟨_, posesTo_get q _ _ i h, rfl⟩
theorem RdS.at4 {w : World} {a : Option Addr} {n cap : Nat} {xs : List Ps} (h : RdS 4 encPs w (.slice a n cap) xs) (i : Nat) (x : Ps) (hx : xs[i]? = some x) :
    ∃ b off, a = some ⟨b, off, none⟩ ∧ w.cell? ⟨b, off + i * 4, none⟩ = some (.int .i64 x.s) ∧ w.cell? ⟨b, off + i * 4 + 1, none⟩ = some (.int .i64 x.h) ∧ w.cell? ⟨b, off + i * 4 + 2, none⟩ = some (.int .i64 x.y) ∧ w.cell? ⟨b, off + i * 4 + 3, none⟩ = some (.int .i64 x.p) := by
  obtain ⟨a', c', hv, h⟩ := h
  simp only [Value.slice.injEq] at hv
  obtain ⟨rfl, -, -⟩ := hv
  obtain ⟨b, off, rfl, h2⟩ := h.resolve_left (by intro e; rw [e] at hx; simp at hx)
  exact ⟨b, off, rfl, h2 i x hx 0 _ rfl, h2 i x hx 1 _ rfl, h2 i x hx 2 _ rfl, h2 i x hx 3 _ rfl⟩

set_option maxRecDepth 100000 in
set_option maxHeartbeats 4000000 in
theorem implLow_yes (q : Ps) (v : Value) (cs : List Cv) (w : World) (hc : RdS 3 encCv w v cs) (lz : cs.length ≤ 1048576) (h : OkA q cs) (ys : List Int) (hys : Rising (LowBy (hts q cs) (allPs q cs).length) ys) :
    Calls Try.prog 27 #[(.agg #[.int .i64 q.s, .int .i64 q.h, .int .i64 q.y, .int .i64 q.p, v])] w fun e w' => ∃ v', e = .returned (.tuple #[v', .bool true]) ∧ OwnI w' w.heap.size v' ys ∧ Below w.heap.size w w' := by
  obtain ⟨i0, hi, hz0, hz1, hz2⟩ := info_parts info_i64L
  have HC := Lib.hid hc
  obtain ⟨a, cap, rfl, _⟩ := hc
  have c1 := Lib.hid (fun w (hr : RdS 3 encCv w (.slice a cs.length cap) cs) => implPosesOf_any q _ cs w hr lz true ⟨fun _ => h, fun _ => rfl⟩ _ rfl)
  have HY := Lib.hid hys
  have GT := Lib.hid (fun i => allPs_get q cs i)
  have n61 := allPs_len q cs h
  obtain ⟨xs, hxs⟩ : ∃ x, x = allPs q cs := ⟨_, rfl⟩
  obtain ⟨H, hH⟩ : ∃ x, x = hts q cs := ⟨_, rfl⟩
  simp only [if_pos] at c1
  rw [← hxs] at c1
  rw [← hxs, ← hH] at HY
  rw [← hxs, ← hH] at GT
  rw [← hxs] at n61
  obtain ⟨N, hN⟩ : ∃ N, N = xs.length := ⟨_, rfl⟩
  rw [← hN] at n61 HY
  have HN := Lib.hid hN
  have NE : Hid (1 ≤ N) := by show 1 ≤ N; rw [hN, hxs, allPs, posesTo_length]; omega
  clear h lz hys hxs hH hN
  go_enter Try.func27, Try.ntmps27
  go_wp2_with fail
  refine (c1.out _ (HC.out.later (by go_grown))).mono ?_
  rintro e w1 ⟨vp, rfl, op, b1⟩
  have B1 : Hid (Below w.heap.size w w1) := Below.trans (by go_grown) (b1.mono (by simp))
  obtain ⟨ap, cp, rfl⟩ := op.form
  have RP := Lib.hid (op.rd encPs_len)
  rw [← HN.out] at RP
  rw [← HN.out]
  have z1 := B1.out.size
  clear op b1 c1
  go_wp2
  have N1 : 1 ≤ N := by have := NE.out; omega
  have O0 : Hid (OwnI w1 w1.heap.size (.slice none 0 0) []) := World.ownsRow_nil _ _ _ _
  have B0 : Hid (Below w1.heap.size w1 w1) := Below.refl _ _
  have R0 : Hid (Rising (LowBy H 1) []) := Rising.nil fun i => by rintro ⟨h1, _, e, h2, h3, _⟩; omega
  have F0 : Hid (Fallen H 1 0) := ⟨fun h => by omega, fun _ j h1 h2 => by omega⟩
  go_loopw [6, 7, 8] (fun ov fv iv wr => ∃ (i m c1 f : Nat) (ad : Option Addr) (zs : List Int), 1 ≤ i ∧ i ≤ N ∧ iv = .int .i64 i ∧ fv = .int .i64 f ∧ ov = .slice ad m c1 ∧ Hid (m = zs.length) ∧ Hid (Rising (LowBy H i) zs) ∧ Hid (Fallen H i f) ∧ m ≤ i ∧ Hid (OwnI wr w1.heap.size (.slice ad m c1) zs) ∧ Hid (Below w1.heap.size w1 wr)) (fun _ _ iv _ => N - (intOf iv).toNat)
  case atStart => exact ⟨1, 0, 0, 0, none, [], by omega, N1, rfl, rfl, rfl, rfl, R0, F0, by omega, O0, B0⟩
  case round =>
    obtain ⟨i, m, c1, f, ad, zs, hi1, hk, rfl, rfl, rfl, hm, hr, hf, hmi, ho, B⟩ := hrel
    clear O0 B0 R0 F0
    have hsz := B.out.size
    by_cases hlt : i < N
    · obtain ⟨k, hik⟩ : ∃ k, i = k + 1 := ⟨i - 1, by omega⟩
      obtain ⟨p0, hp0, hh0⟩ := GT.out k (by have := HN.out; omega)
      obtain ⟨p1, hp1, hh1⟩ := GT.out i (by have := HN.out; omega)
      obtain ⟨ba, oa, rfl, _, e0, _, _⟩ := (RP.out.later B.out).at4 k p0 hp0
      obtain ⟨ba', oa', hba, _, e1, _, _⟩ := (RP.out.later B.out).at4 i p1 hp1
      simp only [Option.some.injEq, Addr.mk.injEq, and_true] at hba
      obtain ⟨rfl, rfl⟩ := hba
      obtain ⟨x0, hx0⟩ : ∃ x, x = p0.h := ⟨_, rfl⟩
      obtain ⟨x1, hx1⟩ : ∃ x, x = p1.h := ⟨_, rfl⟩
      rw [← hx0] at e0 hh0
      rw [← hx1] at e1 hh1
      have q1 : IntKind.i64.wrap ((i : Int) - 1) = (k : Int) := by rw [hik]; exact IntWalk.i64_in _ (by omega) |>.trans (by omega)
      have HI := Lib.hid hik
      have H0 : Hid (x0 = H (i - 1)) := by show _ = _; rw [hh0, hik]; rfl
      have H1 := Lib.hid hh1
      have kN : k < N := by omega
      have own : Hid (wr.ownsRow w1.heap.size 2 1 (.slice ad m c1) m (zs.map (Value.int .i64))) := by
        have e := ho.out
        unfold OwnI at e
        rw [← hm.out] at e
        exact e
      clear hp0 hp1 hx0 hx1 hh0 hh1 hik
      rcases Int.lt_trichotomy x1 x0 with hc | hc | hc
      · have S := fall_step (f := f) hi1 hr.out (by rw [← H0.out, ← H1.out]; exact hc)
        have SR := Lib.hid S.1
        have SF := Lib.hid S.2
        have d1 : decide (x1 < x0) = true := by simpa using hc
        clear S hc
        go_wp2
        go_quiet (fail)
        go_wp2
        exact ⟨⟨i + 1, m, c1, i, ad, zs, by omega, by omega, by go_num, rfl, rfl, hm, SR, SF, by omega, ho.out.drewN _, ⟨B.out.os, B.out.tape, B.out.output, B.out.size, B.out.block⟩⟩, by simp only [intOf]; omega⟩
      · have S := stay_step hi1 hr.out hf.out (by rw [← H0.out, ← H1.out]; exact hc)
        have SR := Lib.hid S.1
        have SF := Lib.hid S.2
        have d1 : decide (x1 < x0) = false := by simp; omega
        have d2 : decide (x0 < x1) = false := by simp; omega
        clear S hc
        go_wp2
        go_quiet (fail)
        go_wp2
        exact ⟨⟨i + 1, m, c1, f, ad, zs, by omega, by omega, by go_num, rfl, rfl, hm, SR, SF, by omega, ho.out.drewN _, ⟨B.out.os, B.out.tape, B.out.output, B.out.size, B.out.block⟩⟩, by simp only [intOf]; omega⟩
      · have d1 : decide (x1 < x0) = false := by simp; omega
        have d2 : decide (x0 < x1) = true := by simp; omega
        have hup : H (i - 1) < H i := by rw [← H0.out, ← H1.out]; exact hc
        clear hc
        by_cases f0 : f = 0
        · subst f0
          have S := rise_none hi1 hr.out hf.out hup
          have SR := Lib.hid S.1
          have SF := Lib.hid S.2
          clear S hup
          go_wp2
          go_quiet (fail)
          go_wp2
          exact ⟨⟨i + 1, m, c1, 0, ad, zs, by omega, by omega, by go_num, rfl, rfl, hm, SR, SF, by omega, ho.out.drewN _, ⟨B.out.os, B.out.tape, B.out.output, B.out.size, B.out.block⟩⟩, by simp only [intOf]; omega⟩
        · have S := rise_low hi1 hr.out hf.out (by omega) hup
          have SR := Lib.hid S.1
          have SF := Lib.hid S.2
          have d3 : decide (0 < f) = true := by simp; omega
          clear S hup f0
          go_wp2
          go_quiet (fail)
          obtain ⟨wz, hwz⟩ : ∃ x, wr.drewN nq = x := ⟨_, rfl⟩
          have own2 : Hid (wz.ownsRow w1.heap.size 2 1 (.slice ad m c1) m (zs.map (Value.int .i64))) := by subst hwz; exact own.out
          have BZ : Hid (Below w1.heap.size w1 wz) := by subst hwz; exact ⟨B.out.os, B.out.tape, B.out.output, B.out.size, B.out.block⟩
          have hzz : w1.heap.size ≤ wz.heap.size := BZ.out.size
          have lgz := own2.out.lt
          rw [hwz]
          clear hwz e0 e1 own B hsz ho
          go_wp2_with (at_builtin; refine wpList_append_lies _ rfl _ _ _ rfl w1.heap.size 2 i0 _ 1 8 Try.underlying40 hi hz0 hz1 hz2 rfl (by omega) _ _ _ rfl (own2.out.alloc _) ⟨wz.heap.size, 0, none⟩ 1 1 [.int .i64 f] rfl rfl (World.news_of_block (cs := #[.int .i64 f]) (t := 2) (fr := (0, 0)) (heap_alloc_new wz _)) (by simp [Value.oneCell']) (by omega) (by unfold maxLen; omega) (by omega) (by simp; omega) _ rfl ?_)
          intro gg cap1 w5 hown1 hgrow hat hlt'
          have gbr := grownBy_trans' (World.grownBy_alloc wz _ _) hgrow
          have B5 : Hid (Below w1.heap.size w1 w5) := BZ.out.grown gbr hzz (fun j e => (lgz j e).1)
          have O5 : Hid (OwnI w5 w1.heap.size (.slice (some ⟨gg, 0, none⟩) (m + 1) cap1) (zs ++ [(f : Int)])) := by
            show OwnI _ _ _ _
            unfold OwnI
            rw [List.length_append, ← hm.out, List.map_append]
            exact hown1
          have L5 : Hid (m + 1 = (zs ++ [(f : Int)]).length) := by show _ = _; rw [List.length_append, ← hm.out]; rfl
          clear hown1 hgrow hat hlt' gbr BZ own2 lgz hm hr hf
          go_wp2
          exact ⟨⟨i + 1, m + 1, cap1, 0, some ⟨gg, 0, none⟩, _, by omega, by omega, by go_num, rfl, rfl, L5, SR, SF, by omega, O5, B5⟩, by simp only [intOf]; omega⟩
    · obtain rfl : i = N := by omega
      have ey : zs = ys := hr.out.same HY.out fun _ => Iff.rfl
      subst ey
      clear hr hf HY
      go_wp2
      go_ret2
      exact ⟨_, rfl, ho.out.mono z1, B1.out.trans (B.out.mono z1)⟩
end Go.Proofs.Ytgokhbcifgikgab
