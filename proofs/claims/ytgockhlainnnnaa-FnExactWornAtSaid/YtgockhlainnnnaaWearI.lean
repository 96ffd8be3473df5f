/- The wear of a cutter and its failures: the program's side. -/
import Derived.Test.YtgockhlainnnnaaWearM
import Derived.Test.YtgockhlainnnnaaHeadI
import Derived.Deep.RegionHeld3
namespace Go.Proofs.Ytgockhlainnnnaa
open Go.ChangeShapes Go.WideShapes Go.ChangeAt Go.RowKit
set_option linter.unusedVariables false
set_option linter.unusedSimpArgs false

set_option maxHeartbeats 1000000 in
theorem hasCutter_any (g : Hd) (n0 n1 n2 : Nat) (l0 : n0 ≤ 1099511627776) (x : Int) (b : Bool) (hb : b = true ↔ 0 ≤ x ∧ x ≤ (n0 : Int) - 1) (w : World) : Calls Try.prog 63 #[(.agg #[.slice g.ca n0 g.cc, .slice g.ha n1 g.hc, .slice g.sa n2 g.sc, .int .i64 g.p, .int .i64 g.q]), .int .i64 x] w fun e w' => e = .returned (.bool b) ∧ Below w.heap.size w w' := by
  have C := Lib.hid (fun w => within_any x 0 ((n0 : Int) - 1) b hb w)
  have q1 : IntKind.i64.wrap ((n0 : Int) - 1) = (n0 : Int) - 1 := IntWalk.i64_in _ (by omega)
  clear hb
  go_enter Try.func63, Try.ntmps63
  go_wp2_with fail
  refine (C.out _).mono ?_
  rintro e w' ⟨rfl, rfl⟩
  go_wp2
  go_ret
  exact ⟨rfl, by go_grown⟩

set_option maxRecDepth 100000 in
set_option maxHeartbeats 4000000 in
theorem wear_any (g : Hd) (n0 n1 n2 : Nat) (w : World) (hr : RdHd w n0 n1 n2 g) (cp : g.caps n0 n1 n2) (ok : OkHd g) (c f k u : Nat) (x : Cu) (hx : g.c[c]? = some x) (hu : u = f + k) (hf : u ≤ n1) :
    Calls Try.prog 60 #[(.agg #[.slice g.ca n0 g.cc, .slice g.ha n1 g.hc, .slice g.sa n2 g.sc, .int .i64 g.p, .int .i64 g.q]), .int .i64 c, .int .i64 f, .int .i64 u] w fun e w' => e = .returned (.int .i64 (x.k * wsum g.h f k)) ∧ Below w.heap.size w w' := by
  obtain ⟨e0, e1, e2⟩ := hr.len
  have hc : c < n0 := by rw [e0]; exact (List.getElem?_eq_some_iff.1 hx).1
  have lf : n1 ≤ 60 := by have := ok.h0; omega
  have lc : n0 ≤ 5 := by have := ok.c0; omega
  have okx := ok.c1 x (List.mem_of_getElem? hx)
  have cp1 : n1 ≤ g.hc := cp.2.1
  have R0 := Lib.hid hr.r0
  have R1 := Lib.hid hr.r1
  have HX := Lib.hid hx
  have HH := Lib.hid ok.h1
  have E1 := Lib.hid e1
  have HU := Lib.hid hu
  have h1 : f ≤ u := by omega
  have kb : k ≤ 60 := by omega
  obtain ⟨S, hS⟩ : ∃ S, S = wsum g.h f k := ⟨_, rfl⟩
  have sb := wsum_bound ok.h1 f k
  rw [← hS] at sb
  have q9 : IntKind.i64.wrap (x.k * S) = x.k * S := IntWalk.i64_in _ (by
    have a1 : 0 ≤ x.k * S := Int.mul_nonneg (by have := okx.1; omega) (by omega)
    have a2 := Int.mul_le_mul okx.1.2 (show S ≤ 6000 by omega) (by omega) (by omega)
    omega)
  have HS := Lib.hid hS
  rw [← hS]
  have i1 : (0 : Int) ≤ (f : Int) := by omega
  have i2 : (f : Int) ≤ (u : Int) := by omega
  have i3 : (u : Int) ≤ (g.hc : Int) := by omega
  have ku : Hid (u - f = k) := by show u - f = k; omega
  clear hr cp ok hx e0 e1 e2 hu hS okx
  obtain ⟨ba, oa, ea, u0, u1⟩ := R0.out.at2g c x HX.out _ _ rfl
  by_cases h0 : f = u
  · -- no ring at all
    have S0 : Hid (S = 0) := by
      show S = 0
      have : k = 0 := by have := ku.out; omega
      rw [HS.out, this]; rfl
    subst h0
    obtain rfl : S = 0 := S0.out
    rw [ea]
    by_cases hh : g.hc = f
    · go_enter Try.func60, Try.ntmps60
      go_wp2
      have B0 : Hid (Below w.heap.size w (w.alloc (.cells #[.slice (some ⟨ba, oa, none⟩) n0 g.cc, .slice g.ha n1 f, .slice g.sa n2 g.sc, .int .i64 g.p, .int .i64 g.q] 30))) := by show Below _ _ _; go_grown
      have N0 : Hid ((w.alloc (.cells #[.slice (some ⟨ba, oa, none⟩) n0 g.cc, .slice g.ha n1 f, .slice g.sa n2 g.sc, .int .i64 g.p, .int .i64 g.q] 30)).heap[w.heap.size]? = _) := heap_alloc_new w _
      generalize w.alloc (.cells #[.slice (some ⟨ba, oa, none⟩) n0 g.cc, .slice g.ha n1 f, .slice g.sa n2 g.sc, .int .i64 g.p, .int .i64 g.q] 30) = w0 at *
      obtain ⟨⟨p0, p1, p2, p3, p4⟩, -, -⟩ := boxedHd_at N0.out
      have U0 : w0.cell? ⟨ba, oa + c * 2, none⟩ = some (.int .i64 x.k) := (B0.out.cell (p := ⟨ba, oa + c * 2, none⟩) (World.block_lt_of_cell? w _ u0)).trans u0
      refine wp_loop_rounds 1 ?_
      rw [rounds_succ]
      go_wp2
      go_ret
      exact ⟨by rw [Int.mul_zero]; rfl, B0.out⟩
    · go_enter Try.func60, Try.ntmps60
      go_wp2
      have B0 : Hid (Below w.heap.size w (w.alloc (.cells #[.slice (some ⟨ba, oa, none⟩) n0 g.cc, .slice g.ha n1 g.hc, .slice g.sa n2 g.sc, .int .i64 g.p, .int .i64 g.q] 30))) := by show Below _ _ _; go_grown
      have N0 : Hid ((w.alloc (.cells #[.slice (some ⟨ba, oa, none⟩) n0 g.cc, .slice g.ha n1 g.hc, .slice g.sa n2 g.sc, .int .i64 g.p, .int .i64 g.q] 30)).heap[w.heap.size]? = _) := heap_alloc_new w _
      generalize w.alloc (.cells #[.slice (some ⟨ba, oa, none⟩) n0 g.cc, .slice g.ha n1 g.hc, .slice g.sa n2 g.sc, .int .i64 g.p, .int .i64 g.q] 30) = w0 at *
      obtain ⟨⟨p0, p1, p2, p3, p4⟩, -, -⟩ := boxedHd_at N0.out
      have U0 : w0.cell? ⟨ba, oa + c * 2, none⟩ = some (.int .i64 x.k) := (B0.out.cell (p := ⟨ba, oa + c * 2, none⟩) (World.block_lt_of_cell? w _ u0)).trans u0
      refine wp_loop_rounds 1 ?_
      rw [rounds_succ]
      go_wp2
      go_ret
      exact ⟨by rw [Int.mul_zero]; rfl, B0.out⟩
  · obtain ⟨y0, hy0⟩ : ∃ y, g.h[f]? = some y := ⟨_, List.getElem?_eq_getElem (by have := E1.out; omega)⟩
    obtain ⟨bb, ob, eb, -⟩ := R1.out.atg f y0 hy0
    have hh : ¬ g.hc = f := by omega
    have R1' := Lib.hid (fun (j : Nat) (y : Int) (hy : g.h[f + j]? = some y) => (R1.out.atg (f + j) y hy))
    rw [eb] at R1'
    rw [ea, eb]
    clear hy0 ea eb R1
    go_enter Try.func60, Try.ntmps60
    go_wp2
    rename_i K hK
    simp only [ku.out]
    have B0 : Hid (Below w.heap.size w (w.alloc (.cells #[.slice (some ⟨ba, oa, none⟩) n0 g.cc, .slice (some ⟨bb, ob, none⟩) n1 g.hc, .slice g.sa n2 g.sc, .int .i64 g.p, .int .i64 g.q] 30))) := by show Below _ _ _; go_grown
    have N0 : Hid ((w.alloc (.cells #[.slice (some ⟨ba, oa, none⟩) n0 g.cc, .slice (some ⟨bb, ob, none⟩) n1 g.hc, .slice g.sa n2 g.sc, .int .i64 g.p, .int .i64 g.q] 30)).heap[w.heap.size]? = _) := heap_alloc_new w _
    generalize w.alloc (.cells #[.slice (some ⟨ba, oa, none⟩) n0 g.cc, .slice (some ⟨bb, ob, none⟩) n1 g.hc, .slice g.sa n2 g.sc, .int .i64 g.p, .int .i64 g.q] 30) = w0 at *
    have RR : Hid (∀ (j : Nat) (y : Int), g.h[f + j]? = some y → w0.cell? ⟨bb, ob + f + j, none⟩ = some (.int .i64 y)) := by
      intro j y hy
      obtain ⟨b', o', e', cc'⟩ := R1'.out j y hy
      simp only [Option.some.injEq, Addr.mk.injEq, and_true] at e'
      obtain ⟨rfl, rfl⟩ := e'
      have := World.block_lt_of_cell? w _ cc'
      rw [Nat.add_assoc]
      exact (B0.out.cell (p := ⟨bb, ob + (f + j), none⟩) this).trans cc'
    have U0 : Hid (w0.cell? ⟨ba, oa + c * 2, none⟩ = some (.int .i64 x.k)) := (B0.out.cell (p := ⟨ba, oa + c * 2, none⟩) (World.block_lt_of_cell? w _ u0)).trans u0
    have SB := Lib.hid (fun j => wsum_bound HH.out f j)
    clear u0 u1 R1' R0
    obtain ⟨⟨p0, p1, p2, p3, p4⟩, -, -⟩ := boxedHd_at N0.out
    go_loop [9, 11, 18] (fun sv _ iv => ∃ (j : Nat) (s : Int), j ≤ k ∧ iv = .int .i64 j ∧ sv = .int .i64 s ∧ Hid (s = wsum g.h f j)) (fun _ _ iv => k - (intOf iv).toNat)
    case atStart => exact ⟨0, 0, by omega, rfl, rfl, rfl⟩
    case round =>
      obtain ⟨j, s, hj, rfl, rfl, hs⟩ := hrel
      by_cases hlt : j < k
      · obtain ⟨y, hy⟩ : ∃ y, g.h[f + j]? = some y := ⟨_, List.getElem?_eq_getElem (by have := E1.out; have := HU.out; omega)⟩
        have c1 := RR.out j y hy
        have WS := Lib.hid (wsum_succ hy)
        have s2 : Hid (s + y = wsum g.h f (j + 1)) := by show _ = _; rw [WS.out, hs.out]
        have b1 := SB.out (j + 1)
        rw [← s2.out] at b1
        have q1 : IntKind.i64.wrap (s + y) = s + y := IntWalk.i64_in _ (by omega)
        clear hy WS hs
        go_wp2
        exact ⟨⟨j + 1, s + y, by omega, by go_num, rfl, s2⟩, by simp only [intOf]; omega⟩
      · obtain rfl : j = k := by omega
        obtain rfl : s = S := by rw [hs.out, HS.out]
        have u0 := U0.out
        clear hs
        go_wp2
        go_ret
        exact ⟨rfl, B0.out⟩

set_option maxRecDepth 100000 in
set_option maxHeartbeats 4000000 in
theorem failure1_any (H Cb Fb : Nat) (ty t1 t2 : TypeId) (g : Hd) (n0 n1 n2 : Nat) (c f i : Nat) (w : World) (hH : w.heap[H]? = some (.cells #[.slice g.ca n0 g.cc, .slice g.ha n1 g.hc, .slice g.sa n2 g.sc, .int .i64 g.p, .int .i64 g.q] ty (0, 0))) (hC : w.heap[Cb]? = some (.cells #[.int .i64 c] t1 (0, 0))) (hF : w.heap[Fb]? = some (.cells #[.int .i64 f] t2 (0, 0))) (hr : RdHd w n0 n1 n2 g) (cp : g.caps n0 n1 n2) (ok : OkHd g) (x : Cu) (hx : g.c[c]? = some x) (hi : f + i < n1) (b : Bool) (hb : b = decide (x.l < x.k * wsum g.h f (i + 1))) :
    Calls Try.prog 83 #[.int .i64 i, .pointer (some ⟨H, 0, none⟩), .pointer (some ⟨Cb, 0, none⟩), .pointer (some ⟨Fb, 0, none⟩)] w fun e w' => e = .returned (.bool b) ∧ Below w.heap.size w w' := by
  obtain ⟨e0, e1, e2⟩ := hr.len
  obtain ⟨⟨p0, p1, p2, p3, p4⟩, -, zH⟩ := boxedHd_at hH
  have pc := cell_of_row w Cb 0 _ t1 _ hC
  have pf := cell_of_row w Fb 0 _ t2 _ hF
  simp at pc pf
  have zC := World.block_lt_of_cell? w _ pc
  have zF := World.block_lt_of_cell? w _ pf
  have lc : n0 ≤ 5 := by have := ok.c0; omega
  have lf : n1 ≤ 60 := by have := ok.h0; omega
  have hc : c < n0 := by rw [e0]; exact (List.getElem?_eq_some_iff.1 hx).1
  obtain ⟨fi, hfi⟩ : ∃ z, z = f + i := ⟨_, rfl⟩
  obtain ⟨u, hu⟩ : ∃ z, z = f + (i + 1) := ⟨_, rfl⟩
  have q1 : IntKind.i64.wrap ((f : Int) + (i : Int)) = (fi : Int) := by rw [IntWalk.i64_in _ (by omega)]; omega
  have q2 : IntKind.i64.wrap ((fi : Int) + 1) = (u : Int) := by rw [IntWalk.i64_in _ (by omega)]; omega
  obtain ⟨S, hS⟩ : ∃ S, S = x.k * wsum g.h f (i + 1) := ⟨_, rfl⟩
  have C := Lib.hid (fun w hr => wear_any g n0 n1 n2 w hr cp ok c f (i + 1) u x hx hu (by omega))
  rw [← hS] at C hb
  obtain ⟨ba, oa, ea, u0, u1⟩ := hr.r0.at2g c x hx _ _ rfl
  have zA := World.block_lt_of_cell? w _ u1
  rw [ea] at p0 C
  have HR : Hid (RdHd w n0 n1 n2 g) := hr
  have EA := Lib.hid ea
  have KS : Hid (∀ w', Below w.heap.size w w' → (w'.cell? ⟨H, 0, none⟩ = some (.slice (some ⟨ba, oa, none⟩) n0 g.cc) ∧ w'.cell? ⟨H, 1, none⟩ = some (.slice g.ha n1 g.hc) ∧ w'.cell? ⟨H, 2, none⟩ = some (.slice g.sa n2 g.sc) ∧ w'.cell? ⟨H, 3, none⟩ = some (.int .i64 g.p) ∧ w'.cell? ⟨H, 4, none⟩ = some (.int .i64 g.q) ∧ w'.cell? ⟨Cb, 0, none⟩ = some (.int .i64 c) ∧ w'.cell? ⟨Fb, 0, none⟩ = some (.int .i64 f) ∧ w'.cell? ⟨ba, oa + c * 2 + 1, none⟩ = some (.int .i64 x.l))) :=
    fun w' b => ⟨(b.cell (p := ⟨H, 0, none⟩) zH).trans p0, (b.cell (p := ⟨H, 1, none⟩) zH).trans p1, (b.cell (p := ⟨H, 2, none⟩) zH).trans p2, (b.cell (p := ⟨H, 3, none⟩) zH).trans p3, (b.cell (p := ⟨H, 4, none⟩) zH).trans p4, (b.cell (p := ⟨Cb, 0, none⟩) zC).trans pc, (b.cell (p := ⟨Fb, 0, none⟩) zF).trans pf, (b.cell (p := ⟨ba, oa + c * 2 + 1, none⟩) zA).trans u1⟩
  have HB := Lib.hid hb
  clear hH hC hF hr cp ok hx hS ea e0 e1 e2 hfi hu hb p0 p1 p2 p3 p4 pc pf u0 u1
  go_enter Try.func83, Try.ntmps83
  go_wp2
  go_region_held3 (fun w' => (w'.cell? ⟨H, 0, none⟩ = some (.slice (some ⟨ba, oa, none⟩) n0 g.cc) ∧ w'.cell? ⟨H, 1, none⟩ = some (.slice g.ha n1 g.hc) ∧ w'.cell? ⟨H, 2, none⟩ = some (.slice g.sa n2 g.sc) ∧ w'.cell? ⟨H, 3, none⟩ = some (.int .i64 g.p) ∧ w'.cell? ⟨H, 4, none⟩ = some (.int .i64 g.q) ∧ w'.cell? ⟨Cb, 0, none⟩ = some (.int .i64 c) ∧ w'.cell? ⟨Fb, 0, none⟩ = some (.int .i64 f) ∧ w'.cell? ⟨ba, oa + c * 2 + 1, none⟩ = some (.int .i64 x.l)))
    (first | exact KS.out _ D1.out | exact KS.out _ (Below.refl _ _).drew)
    ((go_at_call 60; refine (C.out _ (HR.out.later (Below.refl _ _).drew)).mono ?_; rintro e w1 ⟨rfl, b1⟩; have D1 : Hid (Below w.heap.size w w1) := (Below.refl _ _).drew.trans b1))
  rename_i hHeld
  clear hHeld b1 KS C HR
  go_wp2
  go_ret
  exact ⟨by simp [HB.out], D1.out⟩
end Go.Proofs.Ytgockhlainnnnaa
