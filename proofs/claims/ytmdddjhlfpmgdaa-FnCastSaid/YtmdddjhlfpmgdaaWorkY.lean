/- FewestMoulds on both sides. (Written by tools/mkworkx.py.) -/
import Derived.Test.YtmdddjhlfpmgdaaWorkF
import Derived.Test.YtmdddjhlfpmgdaaWorkI
namespace Go.Proofs.Ytmdddjhlfpmgdaa
open Go.ChangeShapes Go.WideShapes Go.ChangeAt Go.RowKit
set_option linter.unusedVariables false
set_option linter.unusedSimpArgs false

/-- What is known of the numbers of a round. -/
theorem need_step {c u : Int} (tm : OkTm c u) {xs : List Od} (oks : OkOs xs) {k : Nat} {x : Od} (hx : xs[k]? = some x) (hz : rnd c u x.d ≠ 0) :
    ∃ S R N, S = sumP xs (k + 1) ∧ R = rnd c u x.d ∧ N = needAt c u xs k x ∧ IntKind.i64.wrap (S + R) = S + R ∧ IntKind.i64.wrap (S + R - 1) = S + R - 1 ∧ IntKind.i64.wrap ((S + R - 1).tdiv R) = N ∧ ((R == 0) = false) ∧ ¬ R = 0 ∧ 0 ≤ S ∧ S ≤ 1600 ∧ 1 ≤ R ∧ R ≤ 200 := by
  have okx := oks.2.1 x (List.mem_of_getElem? hx)
  have hk := (List.getElem?_eq_some_iff.1 hx).1
  have l8 := oks.1
  have rp := rnd_pos tm.1.1 tm.2.1 okx.1.2 hz
  have rb := rnd_bd tm.1.1 tm.2.1 okx.1.2
  have sb := sumP_bd oks.2.1 (k + 1)
  have nb := need_bd rp hx oks.2.1 (by omega)
  refine ⟨_, _, _, rfl, rfl, rfl, IntWalk.i64_in _ (by omega), IntWalk.i64_in _ (by omega), ?_, by simp; exact hz, hz, sb.1, by omega, rp, rb.2⟩
  have e : (sumP xs (k + 1) + rnd c u x.d - 1).tdiv (rnd c u x.d) = needAt c u xs k x := rfl
  rw [e]
  exact IntWalk.i64_in _ (by omega)

theorem pcs1 : PcsN 1 := by unfold PcsN; omega
theorem mouldRes_no {c u : Int} {xs : List Od} {n d : Int} {b : Bool} (h : MouldRes c u xs n d b) (no : ¬ MouldV c u xs) : n = 0 ∧ d = 0 ∧ b = false := by
  rcases h with k | k
  · exact absurd k.1 no
  · exact k.2
theorem mouldRes_yes {c u : Int} {xs : List Od} {n d : Int} {b : Bool} (h : MouldRes c u xs n d b) (yes : MouldV c u xs) : n = (bestT c u xs xs.length).1 ∧ d = (bestT c u xs xs.length).2 ∧ b = true := by
  rcases h with k | k
  · exact k.2
  · exact absurd yes k.1

set_option maxRecDepth 100000 in
set_option maxHeartbeats 8000000 in
theorem specMould_any (c u : Int) (v : Value) (xs : List Od) (w : World) (h : RdS 2 encOd w v xs) (lz : xs.length ≤ 1048576) (r d : Int) (b : Bool) (hr : MouldRes c u xs r d b) :
    Calls Try.prog 27 #[.int .i64 c, .int .i64 u, v] w fun e w' => e = .returned (.tuple #[.int .i64 r, .int .i64 d, .bool b]) ∧ Below w.heap.size w w' := by
  obtain ⟨b1, h1⟩ := bool_of (OkTm c u)
  obtain ⟨b2, h2⟩ := bool_of (OkOs xs)
  have C1 := Lib.hid (fun w => l09Times_any c u b1 h1 w)
  have C2 := Lib.hid (fun w h => l09Orders_any v xs w h lz b2 h2)
  have H1 := Lib.hid h1
  have H2 := Lib.hid h2
  have HR := Lib.hid hr
  have H := Lib.hid h
  obtain ⟨a, cap, rfl, _⟩ := h
  obtain ⟨n, hn⟩ : ∃ n, n = xs.length := ⟨_, rfl⟩
  rw [← hn] at H C2 lz
  rw [← hn]
  have HN := Lib.hid hn
  clear h1 h2 hr hn
  go_enter Try.func27, Try.ntmps27
  go_wp2_with fail
  refine (C1.out _).mono ?_
  rintro e w1 ⟨rfl, rfl⟩
  have B1' : Hid (Below w.heap.size w w) := Below.refl _ _
  cases b1 with
  | false =>
    obtain ⟨rfl, rfl, rfl⟩ := mouldRes_no HR.out (fun k => by have := H1.out.mpr k.1; simp at this)
    go_wp2
    go_returns
    exact ⟨rfl, B1'.out⟩
  | true =>
  have tm := H1.out.mp (by trivial)
  go_wp2_with fail
  refine (C2.out _ (H.out.later B1'.out)).mono ?_
  rintro e w2 ⟨rfl, c2⟩
  have B2' : Hid (Below w.heap.size w w2) := c2
  clear c2 C2 B1'
  cases b2 with
  | false =>
    obtain ⟨rfl, rfl, rfl⟩ := mouldRes_no HR.out (fun k => by have := H2.out.mpr k.2.1; simp at this)
    go_wp2
    go_returns
    exact ⟨rfl, B2'.out⟩
  | true =>
  have oks := H2.out.mp (by trivial)
  have TM := Lib.hid tm
  have OKS := Lib.hid oks
  have n8 : n ≤ 8 := by have := oks.1; have := HN.out; omega
  clear tm oks H1 H2
  by_cases n0 : n = 0
  · obtain ⟨rfl, rfl, rfl⟩ := mouldRes_no HR.out (fun k => k.2.2.1 (List.length_eq_zero_iff.mp (by have := HN.out; omega)))
    subst n0
    go_wp2
    go_returns
    exact ⟨rfl, B2'.out⟩
  have nz : ((n : Int) == 0) = false := by simp; exact n0
  go_wp2
  go_loopw [9, 10, 11, 12] (fun bv dv sv iv wr => ∃ (k : Nat) (M D S : Int), k ≤ n ∧ iv = .int .i64 k ∧ sv = .int .i64 S ∧ bv = .int .i64 M ∧ dv = .int .i64 D ∧ Hid (S = sumP xs k) ∧ Hid (M = (bestT c u xs k).1 ∧ D = (bestT c u xs k).2) ∧ Hid (NoZero c u xs k) ∧ Hid (Below w.heap.size w wr)) (fun _ _ _ iv _ => n - (intOf iv).toNat)
  case atStart => exact ⟨0, 0, 0, 0, by omega, rfl, rfl, rfl, rfl, rfl, ⟨rfl, rfl⟩, fun i x h => by omega, B2'.out⟩
  case round =>
    obtain ⟨k, M, D, S, hk, rfl, rfl, rfl, rfl, hS, hM, hZ, B⟩ := hrel
    clear B2'
    have hsz := B.out.size
    by_cases hlt : k < n
    · obtain ⟨x, hx⟩ : ∃ x, xs[k]? = some x := ⟨_, List.getElem?_eq_getElem (by have := HN.out; omega)⟩
      obtain ⟨ba, oa, rfl, e0, e1⟩ := (H.out.later B.out).at2o k x hx
      have okx := OKS.out.2.1 x (List.mem_of_getElem? hx)
      have C3 := Lib.hid (fun w => l09Rounds_any c u x.d TM.out ⟨by have := okx.1.1; omega, okx.1.2⟩ w)
      have sb := sumP_bd OKS.out.2.1 k
      rw [← hS.out] at sb
      have pb := okx.2
      unfold PcsN at pb
      by_cases hz : rnd c u x.d = 0
      · obtain ⟨rfl, rfl, rfl⟩ := mouldRes_no HR.out (fun q => q.2.2.2.1 k x (by have := HN.out; omega) hx hz)
        rw [hz] at C3
        have q1 : IntKind.i64.wrap (S + x.p) = S + x.p := IntWalk.i64_in _ (by omega)
        clear hx okx hz sb hS hM hZ
        go_wp2_with fail
        refine (C3.out _).mono ?_
        rintro e w3 ⟨rfl, rfl⟩
        go_wp2
        go_returns
        exact ⟨rfl, B.out⟩
      · obtain ⟨S2, R, N, h1, h2, h3, q2, q3, q4, z1, z2, s0, s1, r0, r1⟩ := need_step TM.out OKS.out hx hz
        have e1' := sumP_succ hx
        rw [← hS.out, ← h1] at e1'
        have q1 : IntKind.i64.wrap (S + x.p) = S2 := by rw [← e1']; exact IntWalk.i64_in _ (by omega)
        rw [← h2] at C3
        have S1 := Lib.hid h1
        have Z1 := Lib.hid (hZ.out.succ hx hz)
        have hM' := hM.out
        by_cases gN : M < N
        · have M1 : Hid (N = (bestT c u xs (k + 1)).1 ∧ x.d = (bestT c u xs (k + 1)).2) := by show _ ∧ _; rw [bestT_in hx (by rw [← h3, ← hM'.1]; exact gN)]; exact ⟨h3, rfl⟩
          clear hx okx hz sb hS hM hZ h1 h2 h3 e1' hM'
          go_wp2_with fail
          refine (C3.out _).mono ?_
          rintro e w3 ⟨rfl, rfl⟩
          go_wp2
          exact ⟨⟨k + 1, N, x.d, S2, by omega, by go_num, rfl, rfl, rfl, S1, M1, Z1, B⟩, by simp only [intOf]; omega⟩
        · have M1 : Hid (M = (bestT c u xs (k + 1)).1 ∧ D = (bestT c u xs (k + 1)).2) := by show _ ∧ _; rw [bestT_out hx (by rw [← h3, ← hM'.1]; exact gN)]; exact hM'
          clear hx okx hz sb hS hM hZ h1 h2 h3 e1' hM'
          go_wp2_with fail
          refine (C3.out _).mono ?_
          rintro e w3 ⟨rfl, rfl⟩
          go_wp2
          exact ⟨⟨k + 1, M, D, S2, by omega, by go_num, rfl, rfl, rfl, S1, M1, Z1, B⟩, by simp only [intOf]; omega⟩
    · obtain rfl : k = n := by omega
      have hM' := hM.out
      have hZ' := hZ.out
      rw [HN.out] at hM' hZ'
      have bb := bestT_bd TM.out OKS.out.2.1 (by have := OKS.out.1; omega) hZ'
      rw [← hM'.1] at bb
      have ne : xs ≠ [] := fun e => n0 (by rw [HN.out, e]; rfl)
      by_cases g2 : M ≤ 200
      · obtain ⟨hr1, hr2, rfl⟩ := mouldRes_yes HR.out ⟨TM.out, OKS.out, ne, hZ', by rw [← hM'.1]; exact g2⟩
        rw [← hM'.1] at hr1
        rw [← hM'.2] at hr2
        subst hr1
        subst hr2
        clear hM hZ hM' hZ' bb ne hS
        go_wp2
        go_returns
        exact ⟨rfl, B.out⟩
      · obtain ⟨rfl, rfl, rfl⟩ := mouldRes_no HR.out (fun q => g2 (by rw [hM'.1]; exact q.2.2.2.2))
        have g3 : 200 < M := by omega
        clear hM hZ hM' hZ' bb ne hS
        go_wp2
        go_returns
        exact ⟨rfl, B.out⟩

set_option maxRecDepth 100000 in
set_option maxHeartbeats 8000000 in
theorem implMould_any (c u : Int) (v : Value) (xs : List Od) (w : World) (h : RdS 2 encOd w v xs) (lz : xs.length ≤ 1048576) (r d : Int) (b : Bool) (hr : MouldRes c u xs r d b) :
    Calls Try.prog 28 #[.int .i64 c, .int .i64 u, v] w fun e w' => e = .returned (.tuple #[.int .i64 r, .int .i64 d, .bool b]) ∧ Below w.heap.size w w' := by
  obtain ⟨b1, h1⟩ := bool_of (OkTm c u)
  obtain ⟨b2, h2⟩ := bool_of (OkOs xs)
  have C1 := Lib.hid (fun w => implWorks_blw ⟨1, c, u⟩ b1 (h1.trans ⟨fun k => ⟨pcs1, k⟩, fun k => k.2⟩) w)
  have C2 := Lib.hid (fun w h => implOrders_any v xs w h lz b2 h2)
  have H1 := Lib.hid h1
  have H2 := Lib.hid h2
  have HR := Lib.hid hr
  have H := Lib.hid h
  obtain ⟨a, cap, rfl, _⟩ := h
  obtain ⟨n, hn⟩ : ∃ n, n = xs.length := ⟨_, rfl⟩
  rw [← hn] at H C2 lz
  rw [← hn]
  have HN := Lib.hid hn
  clear h1 h2 hr hn
  go_enter Try.func28, Try.ntmps28
  go_wp2_with fail
  refine (C1.out _).mono ?_
  rintro e w1 ⟨rfl, c1⟩
  obtain ⟨B1, N1, z1⟩ := boxWk_step (g := ⟨1, c, u⟩) (by simpa using c1)
  have B1' := Lib.hid B1
  have N1' := Lib.hid N1
  obtain ⟨⟨a0, a1, a2⟩, -⟩ := boxWk_at N1
  clear c1 C1 B1 N1
  cases b1 with
  | false =>
    obtain ⟨rfl, rfl, rfl⟩ := mouldRes_no HR.out (fun k => by have := H1.out.mpr k.1; simp at this)
    go_wp2
    go_returns
    exact ⟨rfl, B1'.out⟩
  | true =>
  have tm := H1.out.mp (by trivial)
  go_wp2_with fail
  refine (C2.out _ (H.out.later B1'.out)).mono ?_
  rintro e w2 ⟨rfl, c2⟩
  obtain ⟨B2, N2, z2⟩ := boxWk_next (g := ⟨1, c, u⟩) B1'.out N1'.out z1 c2
  have B2' := Lib.hid B2
  have N2' := Lib.hid N2
  clear c2 C2 B1' N1' B2 a0 a1 a2
  obtain ⟨⟨a0, a1, a2⟩, -⟩ := boxWk_at N2
  clear N2
  cases b2 with
  | false =>
    obtain ⟨rfl, rfl, rfl⟩ := mouldRes_no HR.out (fun k => by have := H2.out.mpr k.2.1; simp at this)
    go_wp2
    go_returns
    exact ⟨rfl, B2'.out⟩
  | true =>
  have oks := H2.out.mp (by trivial)
  have TM := Lib.hid tm
  have OKS := Lib.hid oks
  have n8 : n ≤ 8 := by have := oks.1; have := HN.out; omega
  clear tm oks H1 H2
  have ok1 : OkWk ⟨1, c, u⟩ := ⟨pcs1, TM.out⟩
  have OK1 := Lib.hid ok1
  have CW := Lib.hid (fun w (h : RdS 2 encOd w (.slice a n cap) xs) d r hr => wantedBy_any _ xs w h OKS.out d r hr)
  have CP := Lib.hid (fun m bm hm w => isPieces_any m bm hm w)
  clear ok1
  go_wp2
  go_loopw [10, 11, 29] (fun bv dv iv wr => ∃ (k : Nat) (M D : Int), k ≤ n ∧ iv = .int .i64 k ∧ bv = .int .i64 M ∧ dv = .int .i64 D ∧ Hid (M = (bestT c u xs k).1 ∧ D = (bestT c u xs k).2) ∧ Hid (NoZero c u xs k) ∧ Hid (wr.heap[w.heap.size]? = some (.cells #[.int .i64 1, .int .i64 c, .int .i64 u] 32 (0, 0))) ∧ w.heap.size + 1 ≤ wr.heap.size ∧ Hid (Below w.heap.size w wr)) (fun _ _ iv _ => n - (intOf iv).toNat)
  case atStart => exact ⟨0, 0, 0, by omega, rfl, rfl, rfl, ⟨rfl, rfl⟩, fun i x h => by omega, N2'.out, z2, B2'.out⟩
  case round =>
    obtain ⟨k, M, D, hk, rfl, rfl, rfl, hM, hZ, NN, zz, B⟩ := hrel
    clear B2' N2' z2
    have hsz := B.out.size
    by_cases hlt : k < n
    · obtain ⟨x, hx⟩ : ∃ x, xs[k]? = some x := ⟨_, List.getElem?_eq_getElem (by have := HN.out; omega)⟩
      obtain ⟨ba, oa, rfl, e0, e1⟩ := (H.out.later B.out).at2o k x hx
      have okx := OKS.out.2.1 x (List.mem_of_getElem? hx)
      have C3 := Lib.hid (fun w => readyBy_any ⟨1, c, u⟩ OK1.out x.d ⟨by have := okx.1.1; omega, okx.1.2⟩ w)
      simp only [Int.one_mul] at C3
      have BB : Hid (Below w.heap.size w (wr.alloc (.cells #[.int .i64 x.d, .int .i64 x.p] 58))) := B.out.alloc hsz _
      have NO := Lib.hid (heap_alloc_new wr (.cells #[.int .i64 x.d, .int .i64 x.p] 58))
      have NB : Hid ((wr.alloc (.cells #[.int .i64 x.d, .int .i64 x.p] 58)).heap[w.heap.size]? = some (.cells #[.int .i64 1, .int .i64 c, .int .i64 u] 32 (0, 0))) := (Below.heap_alloc _ _ _ (by omega)).trans NN.out
      have zb : wr.heap.size + 1 ≤ (wr.alloc (.cells #[.int .i64 x.d, .int .i64 x.p] 58)).heap.size := by simp
      obtain ⟨⟨a0, a1, a2⟩, -⟩ := boxWk_at (q := ⟨1, c, u⟩) NN.out
      have nzz : ¬ w.heap.size = wr.heap.size := by omega
      have nlt : w.heap.size < wr.heap.size := by omega
      by_cases hz : rnd c u x.d = 0
      · obtain ⟨rfl, rfl, rfl⟩ := mouldRes_no HR.out (fun q => q.2.2.2.1 k x (by have := HN.out; omega) hx hz)
        rw [hz] at C3
        clear hx okx hz hM hZ
        go_wp2_with fail
        refine (C3.out _).mono ?_
        rintro e w3 ⟨rfl, c3⟩
        have B3 : Hid (Below w.heap.size w w3) := BB.out.trans (c3.mono BB.out.size)
        clear c3 e0 e1 a0 a1 a2 NO NB BB NN
        go_wp2
        go_returns
        exact ⟨rfl, B3.out⟩
      · obtain ⟨S2, R, N, h1, h2, h3, q2, q3, q4, z1, z2, s0, s1, r0, r1⟩ := need_step TM.out OKS.out hx hz
        have W1 := want_at OKS.out.2.2 hx
        rw [← h1] at W1
        have C4 := Lib.hid (fun w h => CW.out w h x.d S2 W1)
        rw [← h2] at C3
        have S1 := Lib.hid h1
        have Z1 := Lib.hid (hZ.out.succ hx hz)
        have hM' := hM.out
        have MM : Hid ((M < N ∧ N = (bestT c u xs (k + 1)).1 ∧ x.d = (bestT c u xs (k + 1)).2) ∨ (¬ M < N ∧ M = (bestT c u xs (k + 1)).1 ∧ D = (bestT c u xs (k + 1)).2)) := by
          by_cases gN : M < N
          · left; rw [bestT_in hx (by rw [← h3, ← hM'.1]; exact gN)]; exact ⟨gN, h3, rfl⟩
          · right; rw [bestT_out hx (by rw [← h3, ← hM'.1]; exact gN)]; exact ⟨gN, hM'⟩
        clear hx okx hz hM hZ h1 h2 h3 hM' W1
        go_wp2_with fail
        refine (C3.out _).mono ?_
        rintro e w3 ⟨rfl, c3⟩
        have B3 : Hid (Below w.heap.size w w3) := BB.out.trans (c3.mono BB.out.size)
        have N3 : Hid (w3.heap[w.heap.size]? = some (.cells #[.int .i64 1, .int .i64 c, .int .i64 u] 32 (0, 0))) := (c3.block w.heap.size (by omega)).trans NB.out
        have NO3 := Lib.hid ((c3.block wr.heap.size (by omega)).trans NO.out)
        have z3 : wr.heap.size + 1 ≤ w3.heap.size := by have := c3.size; omega
        clear c3 e0 e1 a0 a1 a2 NO NB BB NN C3
        obtain ⟨⟨f0, f1⟩, -⟩ := boxOd_at NO3.out
        go_wp2_with fail
        refine (C4.out _ (H.out.later B3.out)).mono ?_
        rintro e w4 ⟨rfl, c4⟩
        have B4 : Hid (Below w.heap.size w w4) := B3.out.trans (c4.mono B3.out.size)
        have N4 : Hid (w4.heap[w.heap.size]? = some (.cells #[.int .i64 1, .int .i64 c, .int .i64 u] 32 (0, 0))) := (c4.block w.heap.size (by omega)).trans N3.out
        have NO4 := Lib.hid ((c4.block wr.heap.size (by omega)).trans NO3.out)
        have z4 : w.heap.size + 1 ≤ w4.heap.size := by have := c4.size; omega
        clear c4 f0 f1 NO3 N3 B3 C4 z3
        obtain ⟨⟨f0, f1⟩, -⟩ := boxOd_at NO4.out
        rcases MM.out with ⟨gN, m1, m2⟩ | ⟨gN, m1, m2⟩
        · have M1 : Hid (N = (bestT c u xs (k + 1)).1 ∧ x.d = (bestT c u xs (k + 1)).2) := ⟨m1, m2⟩
          clear m1 m2 MM
          go_wp2
          go_quiet (fail)
          go_wp2
          exact ⟨⟨k + 1, N, x.d, by omega, by go_num, rfl, rfl, M1, Z1, N4.out, z4, below_drewN B4.out _⟩, by simp only [intOf]; omega⟩
        · have M1 : Hid (M = (bestT c u xs (k + 1)).1 ∧ D = (bestT c u xs (k + 1)).2) := ⟨m1, m2⟩
          clear m1 m2 MM
          go_wp2
          exact ⟨⟨k + 1, M, D, by omega, by go_num, rfl, rfl, M1, Z1, N4, z4, B4⟩, by simp only [intOf]; omega⟩
    · obtain rfl : k = n := by omega
      have hM' := hM.out
      have hZ' := hZ.out
      rw [HN.out] at hM' hZ'
      have bb := bestT_bd TM.out OKS.out.2.1 (by have := OKS.out.1; omega) hZ'
      rw [← hM'.1] at bb
      obtain ⟨bp, hp⟩ := bool_of (PcsN M)
      have C5 := Lib.hid (fun w => CP.out M bp hp w)
      cases bp with
      | true =>
        have pm := hp.mp (by trivial)
        have ne : xs ≠ [] := fun e => by
          have e1 : M = 0 := by rw [hM'.1, e]; rfl
          have := pm.1
          omega
        obtain ⟨hr1, hr2, rfl⟩ := mouldRes_yes HR.out ⟨TM.out, OKS.out, ne, hZ', by rw [← hM'.1]; exact pm.2⟩
        rw [← hM'.1] at hr1
        rw [← hM'.2] at hr2
        subst hr1
        subst hr2
        clear hM hZ hM' hZ' bb ne hp pm
        go_wp2_with fail
        refine (C5.out _).mono ?_
        rintro e w5 ⟨rfl, rfl⟩
        go_wp2
        go_returns
        exact ⟨rfl, B.out⟩
      | false =>
        obtain ⟨rfl, rfl, rfl⟩ := mouldRes_no HR.out (fun q => by
          have l := bb.2.2 (by have := List.length_pos_iff.mpr q.2.2.1; omega) (Nat.le_refl _)
          have := hp.mpr ⟨l, by rw [hM'.1]; exact q.2.2.2.2⟩
          simp at this)
        clear hM hZ hM' hZ' bb hp
        go_wp2_with fail
        refine (C5.out _).mono ?_
        rintro e w5 ⟨rfl, rfl⟩
        go_wp2
        go_returns
        exact ⟨rfl, B.out⟩

theorem exFewestMoulds (c u : Int) (xs : List Od) (lz : xs.length ≤ 1048576) : ∃ (r d : Int) (b : Bool),
    Hid (∀ (w : World) (v2 : Value), (fun _ => True) w → RdS 2 encOd w v2 xs → Calls Try.prog 27 #[.int .i64 c, .int .i64 u, v2] w fun e w' => e = .returned (.tuple #[.int .i64 r, .int .i64 d, .bool b]) ∧ Below w.heap.size w w') ∧
    Hid (∀ (w : World) (v2 : Value), (fun _ => True) w → RdS 2 encOd w v2 xs → Calls Try.prog 28 #[.int .i64 c, .int .i64 u, v2] w fun e w' => e = .returned (.tuple #[.int .i64 r, .int .i64 d, .bool b]) ∧ Below w.heap.size w w') := by
  obtain ⟨r, d, b, h⟩ := mouldRes_ex c u xs
  exact ⟨r, d, b, fun w v _ k => specMould_any c u v xs w k lz r d b h, fun w v _ k => implMould_any c u v xs w k lz r d b h⟩
end Go.Proofs.Ytmdddjhlfpmgdaa
