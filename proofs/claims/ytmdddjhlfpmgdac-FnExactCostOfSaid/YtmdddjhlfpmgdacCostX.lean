/- CostOf on both sides. -/
import Derived.Test.YtmdddjhlfpmgdacCostM
import Derived.Test.YtmdddjhlfpmgdacCostK
import Derived.Test.YtmdddjhlfpmgdacPlanX
namespace Go.Proofs.Ytmdddjhlfpmgdac
open Go.ChangeShapes Go.WideShapes Go.ChangeAt Go.RowKit
set_option linter.unusedVariables false
set_option linter.unusedSimpArgs false

/-- What CostOf answers. -/
def CostRes (g : Hd) (xs : List Su) (n : Int) (b : Bool) : Prop := ((OkHd g ∧ OkPlan g xs) ∧ n = costTo g xs xs.length ∧ b = true) ∨ (¬ (OkHd g ∧ OkPlan g xs) ∧ n = 0 ∧ b = false)

set_option maxRecDepth 100000 in
set_option maxHeartbeats 4000000 in
theorem implCostOf_any (g : Hd) (n0 n1 n2 : Nat) (v : Value) (xs : List Su) (w : World) (hr : RdHd w n0 n1 n2 g) (l0 : n0 ≤ 1048576) (l1 : n1 ≤ 1048576) (l2 : n2 ≤ 1048576) (hv : RdSt w v xs) (lx : xs.length ≤ 1048576) (lt : ∀ x ∈ xs, x.t.length ≤ 1048576) (N : Int) (b : Bool) (ht : CostRes g xs N b) :
    Calls Try.prog 12 #[(.agg #[.slice g.ca n0 g.cc, .slice g.ha n1 g.hc, .slice g.sa n2 g.sc, .int .i64 g.p, .int .i64 g.q]), v] w fun e w' => e = .returned (.tuple #[.int .i64 N, .bool b]) ∧ Below w.heap.size w w' := by
  obtain ⟨bp, hp⟩ := ok_boolS (OkHd g ∧ OkPlan g xs)
  have C := Lib.hid (fun w hr hv => implPlan_any g n0 n1 n2 v xs w hr l0 l1 l2 hv lx lt bp hp)
  have CC := Lib.hid (fun w hr hok => changesOf_any v xs w hr lx hok)
  have H := Lib.hid hr
  have HV := Lib.hid hv
  have HP := Lib.hid hp
  have HTX := Lib.hid ht
  clear hr hp hv ht
  go_enter Try.func12, Try.ntmps12
  go_wp2_with fail
  generalize hx : w.alloc (.cells #[.slice g.ca n0 g.cc, .slice g.ha n1 g.hc, .slice g.sa n2 g.sc, .int .i64 g.p, .int .i64 g.q] 33) = w0
  have B0 : Hid (Below w.heap.size w w0) := by show Below _ _ _; rw [← hx]; go_grown
  have N0 : Hid (w0.heap[w.heap.size]? = some (.cells #[.slice g.ca n0 g.cc, .slice g.ha n1 g.hc, .slice g.sa n2 g.sc, .int .i64 g.p, .int .i64 g.q] 33 (0, 0))) := by show _ = _; rw [← hx]; exact heap_alloc_new w _
  have z0 : w.heap.size < w0.heap.size := by rw [← hx]; simp
  clear hx
  refine (C.out _ (H.out.later B0.out) (HV.out.later B0.out)).mono ?_
  rintro e w1 ⟨rfl, c1⟩
  have S := step_box B0.out N0.out z0 c1
  have B1 := Lib.hid S.1
  have N1 := Lib.hid S.2.1
  have z1 := S.2.2
  clear S c1 B0 N0 z0 C
  obtain ⟨⟨p0, p1, p2, p3, p4⟩, -, -⟩ := boxedHd_at N1.out
  cases bp
  · obtain ⟨rfl, rfl⟩ : b = false ∧ N = 0 := by
      rcases HTX.out with h | h
      · have := HP.out.mpr h.1; simp at this
      · exact ⟨h.2.2, h.2.1⟩
    go_wp2
    go_ret2
    exact ⟨rfl, B1.out⟩
  have okp := HP.out.mp (by trivial)
  obtain ⟨rfl, hN⟩ : b = true ∧ costTo g xs xs.length = N := by
    rcases HTX.out with h | h
    · exact ⟨h.2.2, h.2.1.symm⟩
    · exact absurd okp h.1
  have CG := chg_ok okp.1 okp.2
  have hr59 : ∀ x ∈ xs, 0 ≤ x.r ∧ x.r ≤ 59 := fun x hx => (CG x hx).r
  have MB := fun c => maskTo_lt xs hr59 c xs.length
  have e1 := bitsOf_unionTo xs okp.2.up hr59 xs.length (Nat.le_refl _)
  have e2 := chg_sum xs CG (fun x hx => (okp.2.ok x hx).2.2.2) xs.length (Nat.le_refl _)
  have e3 := fun c => bitsOf_maskTo xs (fun i j x y h hx hy => upSu_lt okp.2.up h hx hy) hr59 c xs.length (Nat.le_refl _)
  have CK := Lib.hid (fun w => costOf_any g n0 n1 n2 okp.1.p0 okp.1.q0 _ _ _ _ _ (MB 0) (MB 1) (MB 2) (MB 3) (MB 4) w)
  rw [union_masks xs CG (fun x hx => (okp.2.ok x hx).2.1), e1, e3 0, e3 1, e3 2, e3 3, e3 4, e2] at CK
  have eN : g.p * ((xs.length : Nat) : Int) + g.q * ((lenTo xs xs.length : Nat) : Int) = N := hN
  rw [eN] at CK
  have CX := Lib.hid (fun w hv => CC.out w hv CG)
  obtain ⟨f, hf⟩ : ∃ f : Nat → Nat, f = fun c => maskTo xs c xs.length := ⟨_, rfl⟩
  have CK' : Hid (∀ w, Calls Try.prog 42 #[(.agg #[.slice g.ca n0 g.cc, .slice g.ha n1 g.hc, .slice g.sa n2 g.sc, .int .i64 g.p, .int .i64 g.q]), .agg (arr5 f)] w fun r w' => r = .returned (.int .i64 N) ∧ Below w.heap.size w w') := by rw [hf]; exact CK.out
  rw [← hf] at CX
  have KS : Hid (∀ w', Below w1.heap.size w1 w' → (w'.cell? ⟨w.heap.size, 0, none⟩ = some (.slice g.ca n0 g.cc) ∧ w'.cell? ⟨w.heap.size, 1, none⟩ = some (.slice g.ha n1 g.hc) ∧ w'.cell? ⟨w.heap.size, 2, none⟩ = some (.slice g.sa n2 g.sc) ∧ w'.cell? ⟨w.heap.size, 3, none⟩ = some (.int .i64 g.p) ∧ w'.cell? ⟨w.heap.size, 4, none⟩ = some (.int .i64 g.q))) := by
    intro w' b
    obtain ⟨⟨p0, p1, p2, p3, p4⟩, -, -⟩ := boxedHd_at ((b.block w.heap.size z1).trans N1.out)
    exact ⟨p0, p1, p2, p3, p4⟩
  clear HP HTX okp hN CG hr59 MB e1 e2 e3 CK eN CC hf
  go_wp2_with fail
  clear p0 p1 p2 p3 p4
  go_region_held3 (fun w' => (w'.cell? ⟨w.heap.size, 0, none⟩ = some (.slice g.ca n0 g.cc) ∧ w'.cell? ⟨w.heap.size, 1, none⟩ = some (.slice g.ha n1 g.hc) ∧ w'.cell? ⟨w.heap.size, 2, none⟩ = some (.slice g.sa n2 g.sc) ∧ w'.cell? ⟨w.heap.size, 3, none⟩ = some (.int .i64 g.p) ∧ w'.cell? ⟨w.heap.size, 4, none⟩ = some (.int .i64 g.q)))
    (first | exact KS.out _ DZ.out | exact KS.out _ DY.out | exact KS.out _ (Below.refl _ _).drew)
    (first
      | (go_at_call 43; refine (CX.out _ (HV.out.later (B1.out.trans ((Below.refl _ _).drew.mono B1.out.size)))).mono ?_; rintro e wy ⟨rfl, c3⟩; have DY : Hid (Below w1.heap.size w1 wy) := (Below.refl _ _).drew.trans c3)
      | (go_at_call 42; refine (CK'.out _).mono ?_; rintro e wz ⟨rfl, c4⟩; have DZ : Hid (Below w1.heap.size w1 wz) := DY.out.trans (c4.mono DY.out.size)))
  all_goals
    rename_i hHeld
    clear hHeld
    have B4 : Hid (Below w.heap.size w wz) := B1.out.trans (DZ.out.mono B1.out.size)
    clear c3 c4 DY DZ KS CX CK'
    try go_wp2
    go_ret2
    exact ⟨rfl, B4.out⟩

set_option maxRecDepth 100000 in
set_option maxHeartbeats 4000000 in
theorem l08Cost_any (G : Nat) (ty : TypeId) (g : Hd) (n0 n1 n2 : Nat) (v : Value) (xs : List Su) (w : World) (hG : w.heap[G]? = some (.cells #[.slice g.ca n0 g.cc, .slice g.ha n1 g.hc, .slice g.sa n2 g.sc, .int .i64 g.p, .int .i64 g.q] ty (0, 0))) (ok : OkHd g) (okp : OkPlan g xs) (hv : RdSt w v xs) (N : Int) (hN : costTo g xs xs.length = N) :
    Calls Try.prog 37 #[.pointer (some ⟨G, 0, none⟩), v] w fun e w' => e = .returned (.int .i64 N) ∧ Below w.heap.size w w' := by
  have CG := chg_ok ok okp
  have hr59 : ∀ x ∈ xs, 0 ≤ x.r ∧ x.r ≤ 59 := fun x hx => (CG x hx).r
  have lx := stops_le okp.up hr59
  have H := Lib.hid hv
  have HG := Lib.hid hG
  have CGh := Lib.hid CG
  have pb := ok.p0
  have qb := ok.q0
  have PB := Lib.hid ok.p0
  have QB := Lib.hid ok.q0
  obtain ⟨a, cap, rfl, -⟩ := id hv.rows
  obtain ⟨n, hn⟩ : ∃ n, n = xs.length := ⟨_, rfl⟩
  rw [← hn] at H lx hN
  rw [← hn]
  have HN := Lib.hid hn
  have HNN := Lib.hid hN
  have lG := (Array.getElem?_eq_some_iff.1 hG).1
  clear hv hn hN CG hr59 ok okp hG
  go_enter Try.func37, Try.ntmps37
  go_wp2
  go_loopw [5, 6] (fun s i wr => ∃ (k : Nat) (S : Int), k ≤ n ∧ i = .int .i64 k ∧ s = .int .i64 S ∧ Hid (S = costTo g xs k) ∧ Hid (Below w.heap.size w wr)) (fun _ i _ => n - (intOf i).toNat)
  case atStart => exact ⟨0, 0, by omega, rfl, rfl, (by show _ = _; simp [costTo, lenTo]), Below.refl _ _⟩
  case round =>
    obtain ⟨k, S, hk, rfl, rfl, hS, B⟩ := hrel
    have hsz := B.out.size
    by_cases hlt : k < n
    · obtain ⟨x, hx⟩ : ∃ x, xs[k]? = some x := ⟨_, List.getElem?_eq_getElem (by have := HN.out; omega)⟩
      obtain ⟨ba, oa, rfl, e0, e1, xr, -⟩ := (H.out.later B.out).at hx
      obtain ⟨⟨p0, p1, p2, p3, p4⟩, -, -⟩ := boxedHd_at ((B.out.block G lG).trans HG.out)
      have xn := (CGh.out x (List.mem_of_getElem? hx)).n
      have b0 := costTo_bd PB.out QB.out CGh.out (show k ≤ 60 by omega)
      have b1 := costTo_bd PB.out QB.out CGh.out (show k + 1 ≤ 60 by omega)
      have es := costTo_succ (g := g) hx
      rw [← hS.out] at b0 es
      obtain ⟨m, hm⟩ : ∃ m, m = x.t.length := ⟨_, rfl⟩
      rw [← hm] at e1 xn es
      have m0 : 0 ≤ g.q * (m : Int) := Int.mul_nonneg qb.1 (by omega)
      have m1 : g.q * (m : Int) ≤ 10000 * 5 := Int.mul_le_mul qb.2 (by omega) (by omega) (by omega)
      have q1 : IntKind.i64.wrap (g.q * (m : Int)) = g.q * (m : Int) := IntWalk.i64_in _ (by omega)
      have q2 : IntKind.i64.wrap (g.p + g.q * (m : Int)) = g.p + g.q * (m : Int) := IntWalk.i64_in _ (by omega)
      obtain ⟨S2, hS2⟩ : ∃ S2, S2 = S + (g.p + g.q * (m : Int)) := ⟨_, rfl⟩
      have q3 : IntKind.i64.wrap (S + (g.p + g.q * (m : Int))) = S2 := by rw [hS2]; exact IntWalk.i64_in _ (by omega)
      have S1 : Hid (S2 = costTo g xs (k + 1)) := by show _ = _; rw [es, hS2]
      clear hx es b0 b1 hS2 xr hm hS m0 m1
      go_wp2
      go_quiet (fail)
      go_wp2
      exact ⟨⟨k + 1, S2, by omega, by go_num, rfl, S1, ⟨B.out.os, B.out.tape, B.out.output, B.out.size, B.out.block⟩⟩, by simp only [intOf]; omega⟩
    · obtain rfl : k = n := by omega
      obtain rfl : S = N := by rw [hS.out]; exact HNN.out
      go_wp2
      go_ret
      exact ⟨rfl, B.out⟩

set_option maxRecDepth 100000 in
set_option maxHeartbeats 4000000 in
theorem specCostOf_any (g : Hd) (n0 n1 n2 : Nat) (v : Value) (xs : List Su) (w : World) (hr : RdHd w n0 n1 n2 g) (l0 : n0 ≤ 1048576) (l1 : n1 ≤ 1048576) (l2 : n2 ≤ 1048576) (hv : RdSt w v xs) (lx : xs.length ≤ 1048576) (lt : ∀ x ∈ xs, x.t.length ≤ 1048576) (N : Int) (b : Bool) (ht : CostRes g xs N b) :
    Calls Try.prog 9 #[(.agg #[.slice g.ca n0 g.cc, .slice g.ha n1 g.hc, .slice g.sa n2 g.sc, .int .i64 g.p, .int .i64 g.q]), v] w fun e w' => e = .returned (.tuple #[.int .i64 N, .bool b]) ∧ Below w.heap.size w w' := by
  obtain ⟨b1, h1⟩ := ok_boolS (OkHd g)
  obtain ⟨b2, h2⟩ := ok_boolS (OkPlan g xs)
  have C := Lib.hid (fun (w : World) hG hr => l08Is_any w.heap.size 33 g n0 n1 n2 (w.alloc (.cells #[.slice g.ca n0 g.cc, .slice g.ha n1 g.hc, .slice g.sa n2 g.sc, .int .i64 g.p, .int .i64 g.q] 33)) hG hr l0 l1 l2 b1 h1)
  have C2 := Lib.hid (fun G w hG hr hv => l08Plan_any G 33 g n0 n1 n2 v xs w hG hr l0 l2 hv lx lt b2 h2)
  have C3 := Lib.hid (fun G w hG ok okp hv hN => l08Cost_any G 33 g n0 n1 n2 v xs w hG ok okp hv N hN)
  have H := Lib.hid hr
  have HV := Lib.hid hv
  have H1 := Lib.hid h1
  have H2 := Lib.hid h2
  have HTX := Lib.hid ht
  clear hr h1 h2 hv ht
  go_enter Try.func9, Try.ntmps9
  go_wp2_with fail
  refine (C.out _ (heap_alloc_new w _) (H.out.later (by go_grown))).mono ?_
  rintro e w1 ⟨rfl, q, rfl⟩
  have B1 : Hid (Below w.heap.size w ((w.alloc (.cells #[.slice g.ca n0 g.cc, .slice g.ha n1 g.hc, .slice g.sa n2 g.sc, .int .i64 g.p, .int .i64 g.q] 33)).drewN q)) := Below.trans (show Below w.heap.size w (w.alloc _) by go_grown) ⟨rfl, rfl, rfl, Nat.le_refl _, fun _ _ => rfl⟩
  have N1 : Hid (((w.alloc (.cells #[.slice g.ca n0 g.cc, .slice g.ha n1 g.hc, .slice g.sa n2 g.sc, .int .i64 g.p, .int .i64 g.q] 33)).drewN q).heap[w.heap.size]? = some (.cells #[.slice g.ca n0 g.cc, .slice g.ha n1 g.hc, .slice g.sa n2 g.sc, .int .i64 g.p, .int .i64 g.q] 33 (0, 0))) := heap_alloc_new w _
  generalize (w.alloc (.cells #[.slice g.ca n0 g.cc, .slice g.ha n1 g.hc, .slice g.sa n2 g.sc, .int .i64 g.p, .int .i64 g.q] 33)).drewN q = w0 at *
  cases b1
  · obtain ⟨rfl, rfl⟩ : b = false ∧ N = 0 := by
      rcases HTX.out with h | h
      · have := H1.out.mpr h.1.1; simp at this
      · exact ⟨h.2.2, h.2.1⟩
    go_wp2
    go_ret2
    exact ⟨rfl, B1.out⟩
  · go_wp2_with fail
    refine (C2.out _ _ N1.out (H.out.later B1.out) (HV.out.later B1.out)).mono ?_
    rintro e w2 ⟨rfl, q2, rfl⟩
    have B2 : Hid (Below w.heap.size w (w0.drewN q2)) := B1.out.trans ⟨rfl, rfl, rfl, Nat.le_refl _, fun _ _ => rfl⟩
    have N2 : Hid ((w0.drewN q2).heap[w.heap.size]? = some (.cells #[.slice g.ca n0 g.cc, .slice g.ha n1 g.hc, .slice g.sa n2 g.sc, .int .i64 g.p, .int .i64 g.q] 33 (0, 0))) := N1.out
    generalize w0.drewN q2 = w2 at *
    cases b2
    · obtain ⟨rfl, rfl⟩ : b = false ∧ N = 0 := by
        rcases HTX.out with h | h
        · have := H2.out.mpr h.1.2; simp at this
        · exact ⟨h.2.2, h.2.1⟩
      go_wp2
      go_ret2
      exact ⟨rfl, B2.out⟩
    · have okh := H1.out.mp (by trivial)
      have okp := H2.out.mp (by trivial)
      obtain ⟨rfl, hN⟩ : b = true ∧ costTo g xs xs.length = N := by
        rcases HTX.out with h | h
        · exact ⟨h.2.2, h.2.1.symm⟩
        · exact absurd ⟨okh, okp⟩ h.1
      have C4 := Lib.hid (C3.out _ _ N2.out okh okp (HV.out.later B2.out) hN)
      clear okh okp hN C3 C2 C H1 H2 HTX
      go_wp2_with fail
      refine C4.out.mono ?_
      rintro e w3 ⟨rfl, c3⟩
      have B3 : Hid (Below w.heap.size w w3) := B2.out.trans (c3.mono B2.out.size)
      clear c3
      go_wp2
      go_ret2
      exact ⟨rfl, B3.out⟩

theorem exCostOf (g0 : Hd) (n0 n1 n2 : Nat) (e : n0 = g0.c.length ∧ n1 = g0.h.length ∧ n2 = g0.s.length) (xs1 : List Su) (lt : (n0 : Int) + (n1 : Int) + (n2 : Int) + ((xs1.length + sumSt xs1 : Nat) : Int) ≤ 1048576) : ∃ (N : Int) (b : Bool),
    Hid (∀ (w : World) (k0 : Hd) (v1 : Value) (zs1 : List Su), k0.same g0 → k0.caps n0 n1 n2 → RdHd w n0 n1 n2 k0 → RdSt w v1 zs1 → zs1.map Su.so = xs1.map Su.so → Calls Try.prog 9 #[(.agg #[.slice k0.ca n0 k0.cc, .slice k0.ha n1 k0.hc, .slice k0.sa n2 k0.sc, .int .i64 k0.p, .int .i64 k0.q]), v1] w fun e w' => e = .returned (.tuple #[.int .i64 N, .bool b]) ∧ Below w.heap.size w w') ∧
    Hid (∀ (w : World) (k0 : Hd) (v1 : Value) (zs1 : List Su), k0.same g0 → k0.caps n0 n1 n2 → RdHd w n0 n1 n2 k0 → RdSt w v1 zs1 → zs1.map Su.so = xs1.map Su.so → Calls Try.prog 12 #[(.agg #[.slice k0.ca n0 k0.cc, .slice k0.ha n1 k0.hc, .slice k0.sa n2 k0.sc, .int .i64 k0.p, .int .i64 k0.q]), v1] w fun e w' => e = .returned (.tuple #[.int .i64 N, .bool b]) ∧ Below w.heap.size w w') := by
  obtain ⟨N, b, h⟩ : ∃ N b, CostRes g0 xs1 N b := by
    by_cases h : OkHd g0 ∧ OkPlan g0 xs1
    · exact ⟨_, _, .inl ⟨h, rfl, rfl⟩⟩
    · exact ⟨_, _, .inr ⟨h, rfl, rfl⟩⟩
  have sm : ∀ (zs : List Su), zs.map Su.so = xs1.map Su.so → zs.length ≤ 1048576 ∧ ∀ x ∈ zs, x.t.length ≤ 1048576 := fun zs hs => stops_small (n := n0 + n1 + n2) (by rw [map_so_len hs, sumSt_so hs]; omega)
  have key : ∀ (k : Hd) (zs : List Su), k.same g0 → zs.map Su.so = xs1.map Su.so → CostRes k zs N b := fun k zs hs he => by
    rcases h with ⟨⟨h1, h2⟩, h3, h4⟩ | ⟨h1, h2, h3⟩
    · refine .inl ⟨⟨h1.same (Hd.same_symm hs), okPlan_same h2 (Hd.same_symm hs) he.symm⟩, ?_, h4⟩
      rw [h3]
      unfold costTo
      rw [hs.2.2.2.1, hs.2.2.2.2, map_so_len he, lenTo_same he]
    · exact .inr ⟨fun h' => h1 ⟨h'.1.same hs, okPlan_same h'.2 hs he⟩, h2, h3⟩
  exact ⟨N, b, fun w k v zs hs _ hr hv he => specCostOf_any k n0 n1 n2 v zs w hr (by omega) (by omega) (by omega) hv (sm zs he).1 (sm zs he).2 N b (key k zs hs he), fun w k v zs hs _ hr hv he => implCostOf_any k n0 n1 n2 v zs w hr (by omega) (by omega) (by omega) hv (sm zs he).1 (sm zs he).2 N b (key k zs hs he)⟩
end Go.Proofs.Ytmdddjhlfpmgdac
