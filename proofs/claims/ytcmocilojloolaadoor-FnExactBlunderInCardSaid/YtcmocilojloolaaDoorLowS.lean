/- Greatest common divisors and lowest terms: of the specification. -/
import Derived.Test.YtcmocilojloolaaDoorLowI
namespace Go.Proofs.YtcmocilojloolaaDoor
open Go.ChangeShapes Go.WideShapes Go.ChangeAt Go.RowKit
set_option linter.unusedVariables false
set_option linter.unusedSimpArgs false

theorem l00MaxN_any (a b : Int) (w : World) :
    Calls Tryd.prog 69 #[.int .i64 a, .int .i64 b] w fun e w' => e = .returned (.int .i64 (if b < a then a else b)) ∧ w' = w := by
  obtain ⟨r, hr⟩ : ∃ r, r = if b < a then a else b := ⟨_, rfl⟩
  rw [← hr]
  by_cases hb : b < a
  · obtain rfl : r = a := by rw [hr, if_pos hb]
    clear hr
    go_enter Tryd.func69, Tryd.ntmps69
    go_wp2
    go_ret
    exact ⟨rfl, rfl⟩
  · obtain rfl : r = b := by rw [hr, if_neg hb]
    clear hr
    go_enter Tryd.func69, Tryd.ntmps69
    go_wp2
    go_ret
    exact ⟨rfl, rfl⟩
theorem l02AbsN_any (n : Int) (hn : Bd 1000000000000000000 n) (w : World) :
    Calls Tryd.prog 89 #[.int .i64 n] w fun e w' => e = .returned (.int .i64 (n.natAbs : Int)) ∧ w' = w := by
  unfold Bd at hn
  have q1 : IntKind.i64.wrap (-n) = -n := IntWalk.i64_in _ (by omega)
  have C := l00MaxN_any n (-n) w
  rw [show (if -n < n then n else -n) = (n.natAbs : Int) by split <;> omega] at C
  have CH := Lib.hid C
  clear hn C
  go_enter Tryd.func89, Tryd.ntmps89
  go_wp2_with fail
  refine CH.out.mono ?_
  rintro e w1 ⟨rfl, rfl⟩
  go_wp2
  go_ret
  exact ⟨rfl, rfl⟩

set_option maxRecDepth 100000 in
set_option maxHeartbeats 4000000 in
theorem l10Gcd_any (a b : Int) (ha : Bd 1000000000000000000 a) (hb : Bd 1000000000000000000 b) (w : World) :
    Calls Tryd.prog 58 #[.int .i64 a, .int .i64 b] w fun e w' => e = .returned (.int .i64 (Int.gcd a b)) ∧ Below w.heap.size w w' := by
  obtain ⟨G, hG⟩ : ∃ G : Int, G = (Int.gcd a b : Int) := ⟨_, rfl⟩
  have HG : Hid ((Int.gcd (a.natAbs : Int) (b.natAbs : Int) : Int) = G) := by show _ = _; rw [hG]; simp [Int.gcd]
  have C1 := Lib.hid (l02AbsN_any a ha w)
  have C2 := Lib.hid (l02AbsN_any b hb w)
  have a1 : 0 ≤ (a.natAbs : Int) ∧ (a.natAbs : Int) ≤ 1000000000000000000 := by unfold Bd at ha; omega
  have b1 : 0 ≤ (b.natAbs : Int) ∧ (b.natAbs : Int) ≤ 1000000000000000000 := by unfold Bd at hb; omega
  obtain ⟨A, hA⟩ : ∃ A : Int, A = (a.natAbs : Int) := ⟨_, rfl⟩
  obtain ⟨B, hB⟩ : ∃ B : Int, B = (b.natAbs : Int) := ⟨_, rfl⟩
  rw [← hA] at C1 a1 HG
  rw [← hB] at C2 b1 HG
  rw [← hG]
  clear hG ha hb hA hB
  go_enter Tryd.func58, Tryd.ntmps58
  go_wp2_with fail
  refine C1.out.mono ?_
  rintro e w1 ⟨rfl, rfl⟩
  go_wp2_with fail
  refine C2.out.mono ?_
  rintro e w1 ⟨rfl, rfl⟩
  go_wp2
  go_loopw [0, 1, 5] (fun u v _ wr => ∃ x y : Int, (0 ≤ x ∧ x ≤ 1000000000000000000) ∧ (0 ≤ y ∧ y ≤ 1000000000000000000) ∧ u = .int .i64 x ∧ v = .int .i64 y ∧ Hid ((Int.gcd x y : Int) = G) ∧ Hid (wr = w1)) (fun _ v _ _ => (intOf v).toNat)
  case atStart => exact ⟨A, B, a1, b1, rfl, rfl, HG, rfl⟩
  case round =>
    obtain ⟨x, y, hx, hy, rfl, rfl, hg, BB⟩ := hrel
    clear HG
    by_cases y0 : y = 0
    · subst y0
      obtain rfl : x = G := by have := hg.out; rw [gcd_zero_r x hx.1] at this; exact this
      clear hg
      have BE : Hid (Below w1.heap.size w1 wr) := by show Below _ _ _; rw [BB.out]; exact Below.refl _ _
      clear BB
      go_wp2
      go_ret
      exact ⟨rfl, BE.out⟩
    · have yp : 0 < y := by omega
      have y2 : (y == 0) = false := by simpa using y0
      have em : x.tmod y = x % y := Int.tmod_eq_emod_of_nonneg hx.1
      have g1 : Hid ((Int.gcd y (x % y) : Int) = G) := by show _ = _; rw [← em, ← gcd_step x y hx.1 yp]; exact hg.out
      have r0 : 0 ≤ x % y ∧ x % y < y := ⟨Int.emod_nonneg _ (by omega), Int.emod_lt_of_pos _ yp⟩
      have q1 : IntKind.i64.wrap (x % y) = x % y := IntWalk.i64_in _ (by omega)
      have q2 : IntKind.i64.wrap (x.tmod y) = x % y := by rw [em]; exact q1
      clear hg y0
      go_wp2
      exact ⟨⟨y, x % y, hy, ⟨r0.1, by omega⟩, rfl, rfl, g1, BB⟩, by simp only [intOf]; omega⟩

set_option maxRecDepth 100000 in
set_option maxHeartbeats 8000000 in
theorem l10Lowest_any (U : Int) (hU : 0 < U ∧ U ≤ 1000000000000000000) (v : Value) (zs : List Int) (w : World) (h : RdI w v zs) (hl : zs.length ≤ 100) (hz : ∀ z ∈ zs, Bd 1000000000000000000 z) :
    Calls Tryd.prog 53 #[v, .int .i64 U] w fun e w' => ∃ u, e = .returned (.tuple #[.int .i64 (lowU U zs), u]) ∧ OwnI w' w.heap.size u (lowL U zs) ∧ Below w.heap.size w w' := by
  obtain ⟨i0, hi, hz0, hz1, hz2⟩ := info_parts info_i64
  obtain ⟨a, cap, rfl, ra⟩ := id h
  obtain ⟨n, hn⟩ : ∃ n, n = zs.length := ⟨_, rfl⟩
  have H := Lib.hid h
  rw [← hn] at H hl
  rw [← hn]
  have HN := Lib.hid hn
  have HZ := Lib.hid hz
  have LN : Hid ((lowL U zs).length = n) := by show _ = _; rw [lowL_len]; exact hn.symm
  have GP : Hid (∀ k, 0 < gcdL U (zs.take k) ∧ gcdL U (zs.take k) ≤ U) := fun k => gcdL_le hU.1
  have G0 : Hid (U = gcdL U (zs.take 0)) := by show _ = _; simp [gcdL]
  obtain ⟨Q, hQ⟩ : ∃ Q, Q = lowU U zs := ⟨_, rfl⟩
  have HQ := Lib.hid hQ
  rw [← hQ]
  clear h ra hn hz hQ
  go_enter Tryd.func53, Tryd.ntmps53
  go_wp2
  go_loopw [6, 7] (fun dv iv wr => ∃ (k : Nat) (d : Int), k ≤ n ∧ iv = .int .i64 k ∧ dv = .int .i64 d ∧ Hid (d = gcdL U (zs.take k)) ∧ Hid (Below w.heap.size w wr)) (fun _ iv _ => n - (intOf iv).toNat)
  case atStart => exact ⟨0, U, by omega, rfl, rfl, G0, Below.refl _ _⟩
  case round =>
    obtain ⟨k, d, hk, rfl, rfl, hd, B⟩ := hrel
    by_cases hlt : k < n
    · obtain ⟨z, hz⟩ : ∃ z, zs[k]? = some z := ⟨_, List.getElem?_eq_getElem (by have := HN.out; omega)⟩
      obtain ⟨b, off, rfl, c1⟩ := (H.out.later B.out).atV k z hz
      have zb := HZ.out z (List.mem_of_getElem? hz)
      have gp := GP.out k
      rw [← hd.out] at gp
      have ND : Hid ((Int.gcd d z : Int) = gcdL U (zs.take (k + 1))) := by show _ = _; rw [gcdL_take hz, ← hd.out]
      have CC := Lib.hid (l10Gcd_any d z (by unfold Bd; omega) zb wr)
      clear hz hd zb gp
      go_wp2_with fail
      refine CC.out.mono ?_
      rintro e w2 ⟨rfl, b2⟩
      have B2 : Hid (Below w.heap.size w w2) := B.out.trans (b2.mono B.out.size)
      clear b2 CC B
      go_wp2
      exact ⟨⟨k + 1, _, by omega, by go_num, rfl, ND, B2⟩, by simp only [intOf]; omega⟩
    · obtain rfl : k = n := by omega
      have hd2 : Hid (d = gcdL U zs) := by show _ = _; rw [hd.out, List.take_of_length_le (by have := HN.out; omega)]
      have gp := GP.out k
      rw [← hd.out] at gp
      have d0 : (d == 0) = false := by simp; omega
      have d1 : ¬ d = 0 := by omega
      obtain ⟨wo, hwo⟩ : ∃ x, x = wr := ⟨_, rfl⟩
      subst hwo
      have O1 := Lib.hid (own_built wo wo.heap.size (lowL U zs) rfl)
      have B1 : Hid (Below wo.heap.size wo (wo.alloc (.cells #[] 2))) := by show Below _ _ _; go_grown
      clear hd
      go_wp2
      go_loopw [8, 9] (fun ov iv wr => ∃ (j c1 : Nat) (ad : Option Addr), j ≤ k ∧ iv = .int .i64 j ∧ ov = .slice ad j c1 ∧ Hid (OwnI wr wo.heap.size (.slice ad j c1) ((lowL U zs).take j)) ∧ Hid (Below wo.heap.size wo wr)) (fun _ iv _ => k - (intOf iv).toNat)
      case atStart => exact ⟨0, 0, _, by omega, rfl, rfl, O1, B1⟩
      case round =>
        obtain ⟨j, c1, ad, hj, rfl, rfl, ho, B2⟩ := hrel
        clear O1 B1
        by_cases hlt2 : j < k
        · obtain ⟨z, hz⟩ : ∃ z, zs[j]? = some z := ⟨_, List.getElem?_eq_getElem (by have := HN.out; omega)⟩
          obtain ⟨b, off, rfl, c2⟩ := ((H.out.later B.out).later B2.out).atV j z hz
          have zb := HZ.out z (List.mem_of_getElem? hz)
          have tb := tdiv_bd zb (show 0 < d by omega)
          have EV : Hid ((lowL U zs)[j]? = some (z.tdiv d)) := by show _ = _; rw [lowL_get hz, hd2.out]
          unfold Bd at tb
          obtain ⟨y, hy⟩ : ∃ y, y = z.tdiv d := ⟨_, rfl⟩
          have q1 : IntKind.i64.wrap (z.tdiv d) = y := by rw [hy]; exact IntWalk.i64_in _ (by omega)
          rw [← hy] at EV
          have own := Lib.hid (own_take LN.out hj ho.out)
          have lgz := own.out.lt
          have sz := B2.out.size
          clear hz zb tb ho hy
          go_wp2_with (at_builtin; refine wpList_append_lies _ rfl _ _ _ rfl wo.heap.size 2 i0 _ 1 8 Tryd.underlying28 hi hz0 hz1 hz2 rfl (by omega) _ _ _ rfl (own.out.alloc _) ⟨wr.heap.size, 0, none⟩ 1 1 [.int .i64 y] rfl rfl (World.news_of_block (cs := #[.int .i64 y]) (t := 2) (fr := (0, 0)) (heap_alloc_new wr _)) (by simp [Value.oneCell']) (by omega) (by unfold maxLen; omega) (by omega) (by simp only [World.size_alloc]; omega) _ rfl ?_)
          intro gg cap1 w5 hown1 hgrow hat hlt'
          have O5 := Lib.hid (own_next EV.out hown1)
          have B5 : Hid (Below wo.heap.size wo w5) := B2.out.grown (grownBy_trans (World.grownBy_alloc wr _ _) hgrow) sz (fun j e => (lgz j e).1)
          clear hown1 hgrow hat hlt' own lgz B2 EV
          go_wp2
          exact ⟨⟨j + 1, cap1, _, by omega, by go_num, rfl, O5, B5⟩, by simp only [intOf]; omega⟩
        · obtain rfl : j = k := by omega
          have O6 := Lib.hid (OwnI.mono (own_all LN.out ho.out) B.out.size)
          have BF : Hid (Below w.heap.size w wr) := B.out.trans (B2.out.mono B.out.size)
          have tb := tdiv_bd (M := 1000000000000000000) (a := U) (d := d) (by unfold Bd; omega) (by omega)
          unfold Bd at tb
          obtain rfl : Q = U.tdiv d := by rw [HQ.out]; unfold lowU; rw [hd2.out]
          have q1 : IntKind.i64.wrap (U.tdiv d) = U.tdiv d := IntWalk.i64_in _ (by omega)
          clear ho B2 tb
          go_wp2
          go_ret2
          exact ⟨_, rfl, O6.out, BF.out⟩
end Go.Proofs.YtcmocilojloolaaDoor
