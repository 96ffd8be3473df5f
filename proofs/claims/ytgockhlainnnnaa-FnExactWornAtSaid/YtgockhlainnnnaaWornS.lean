/- The wear of the cutters under a plan: the specification's side. -/
import Derived.Test.YtgockhlainnnnaaWornM
import Derived.Test.YtgockhlainnnnaaHas
import Derived.Test.YtgockhlainnnnaaAppI
import Derived.Test.YtgockhlainnnnaaOpens2
import Derived.Test.YtgockhlainnnnaaPlanS
import Derived.Deep.QuietTactic
namespace Go.Proofs.Ytgockhlainnnnaa
open Go.ChangeShapes Go.WideShapes Go.ChangeAt Go.RowKit
set_option linter.unusedVariables false
set_option linter.unusedSimpArgs false

set_option maxRecDepth 100000 in
set_option maxHeartbeats 4000000 in
theorem l08Changes_any (v : Value) (xs : List Su) (w : World) (hr : RdSt w v xs) (lx : xs.length ≤ 1048576) (lt : ∀ x ∈ xs, x.t.length ≤ 1048576) (c p : Nat) (b : Bool) (hb : b = true ↔ Ch xs c p) :
    Calls Try.prog 79 #[v, .int .i64 c, .int .i64 p] w fun e w' => e = .returned (.bool b) ∧ w' = w := by
  have HR := Lib.hid hr
  have LT := Lib.hid lt
  obtain ⟨a, cap, rfl, -⟩ := id hr.rows
  obtain ⟨n, hn⟩ : ∃ n, n = xs.length := ⟨_, rfl⟩
  rw [← hn] at HR lx
  rw [← hn]
  have HN := Lib.hid hn
  have HB := Lib.hid hb
  clear hr hn hb lt
  go_enter Try.func79, Try.ntmps79
  go_wp2
  go_loop [7] (fun i => ∃ k : Nat, k ≤ n ∧ i = .int .i64 k ∧ Hid (∀ x ∈ xs.take k, ¬ (x.r = (p : Int) ∧ (c : Int) ∈ x.t))) (fun i => n - (intOf i).toNat)
  case atStart => exact ⟨0, by omega, rfl, fun x hx => by simp at hx⟩
  case round =>
    obtain ⟨k, hk, rfl, ha⟩ := hrel
    by_cases hlt : k < n
    · obtain ⟨x, hx⟩ : ∃ x, xs[k]? = some x := ⟨_, List.getElem?_eq_getElem (by have := HN.out; omega)⟩
      obtain ⟨ba, oa, rfl, c0, c1, xr, -⟩ := HR.out.at hx
      have HX := Lib.hid hx
      have tl := LT.out x (List.mem_of_getElem? hx)
      have XR := Lib.hid xr
      clear hx xr
      by_cases h1 : x.r = (p : Int)
      · have e1 : ((x.r == (p : Int)) : Bool) = true := by simpa using h1
        obtain ⟨b1, hb1⟩ := ok_boolS ((c : Int) ∈ x.t)
        have C := Lib.hid (l00Has_any (.slice x.a x.t.length x.c) x.t c w XR.out tl b1 hb1)
        obtain ⟨m, hm⟩ : ∃ m, m = x.t.length := ⟨_, rfl⟩
        rw [← hm] at c1 C
        have HB1 := Lib.hid hb1
        have H1 := Lib.hid h1
        rw [h1] at c0
        clear hm tl XR hb1 h1 e1
        go_wp2_with fail
        refine C.out.mono ?_
        rintro e w' ⟨rfl, hw⟩
        subst hw
        cases b1
        · have A1 : Hid (∀ x ∈ xs.take (k + 1), ¬ (x.r = (p : Int) ∧ (c : Int) ∈ x.t)) := take_all ha.out HX.out (fun h => by have := HB1.out.mpr h.2; simp at this)
          clear ha HB1 C
          go_wp2
          exact ⟨⟨k + 1, by omega, by go_num, A1⟩, by simp only [intOf]; omega⟩
        · obtain rfl : b = true := HB.out.mpr ⟨x, List.mem_of_getElem? HX.out, H1.out, HB1.out.mp (by trivial)⟩
          clear ha HB1 C
          go_wp2
          go_ret
          exact ⟨rfl, rfl⟩
      · have e1 : ((x.r == (p : Int)) : Bool) = false := by simpa using h1
        have A1 : Hid (∀ x ∈ xs.take (k + 1), ¬ (x.r = (p : Int) ∧ (c : Int) ∈ x.t)) := take_all ha.out HX.out (fun h => h1 h.1)
        clear ha XR tl
        go_wp2
        exact ⟨⟨k + 1, by omega, by go_num, A1⟩, by simp only [intOf]; omega⟩
    · obtain rfl : k = n := by omega
      obtain rfl : b = false := b_false HB.out (fun ⟨x, hx, h1, h2⟩ => ha.out x (by rw [List.take_of_length_le (by have := HN.out; omega)]; exact hx) ⟨h1, h2⟩)
      clear ha
      go_wp2
      go_ret
      exact ⟨rfl, rfl⟩

set_option maxRecDepth 100000 in
set_option maxHeartbeats 8000000 in
theorem l08Worn_any (G : Nat) (ty : TypeId) (g : Hd) (n0 n1 n2 : Nat) (v : Value) (xs : List Su) (w : World) (hG : w.heap[G]? = some (.cells #[.slice g.ca n0 g.cc, .slice g.ha n1 g.hc, .slice g.sa n2 g.sc, .int .i64 g.p, .int .i64 g.q] ty (0, 0))) (hr : RdHd w n0 n1 n2 g) (ok : OkHd g) (hv : RdSt w v xs) (lx : xs.length ≤ 1048576) (lt : ∀ x ∈ xs, x.t.length ≤ 1048576) (c R : Nat) (x : Cu) (hx : g.c[c]? = some x) (hR : R ≤ n1) (p : Nat) (hp : LastLt xs c (R + 1) p) :
    Calls Try.prog 55 #[.pointer (some ⟨G, 0, none⟩), v, .int .i64 c, .int .i64 R] w fun e w' => e = .returned (.int .i64 (x.k * wsum g.h p (R - p))) ∧ ∃ q, w' = w.drewN q := by
  obtain ⟨e0, e1, e2⟩ := hr.len
  obtain ⟨⟨p0, p1, p2, p3, p4⟩, -, -⟩ := boxedHd_at hG
  have hc : c < n0 := by rw [e0]; exact (List.getElem?_eq_some_iff.1 hx).1
  have lf : n1 ≤ 60 := by have := ok.h0; omega
  have lc : n0 ≤ 5 := by have := ok.c0; omega
  have okx := ok.c1 x (List.mem_of_getElem? hx)
  obtain ⟨ba, oa, ea, u0, u1⟩ := hr.r0.at2g c x hx _ _ rfl
  rw [ea] at p0
  have R1 := Lib.hid hr.r1
  have HV := Lib.hid hv
  have HH := Lib.hid ok.h1
  have E1 := Lib.hid e1
  have HP := Lib.hid hp
  obtain ⟨kx, hkx⟩ : ∃ z, z = x.k := ⟨_, rfl⟩
  have ok1 : 1 ≤ kx ∧ kx ≤ 100 := by rw [hkx]; exact okx.1
  rw [← hkx] at u0
  rw [← hkx]
  have CH := Lib.hid (fun (wz : World) (q : Nat) (hz : wz = w.drewN q) (n : Nat) (b : Bool) (hb : b = true ↔ Ch xs c n) => l08Changes_any v xs wz (by rw [hz]; exact HV.out.drewN q) lx lt c n b hb)
  have SB := Lib.hid (fun f k => wsum_bound ok.h1 f k)
  clear hG hr ok hx e0 e1 e2 ea hkx okx hv hp u1
  go_enter Try.func55, Try.ntmps55
  go_wp2
  go_loopw [9, 10] (fun wv nv wr => ∃ (n p : Nat) (a : Int), n ≤ R + 1 ∧ nv = .int .i64 n ∧ wv = .int .i64 a ∧ 0 ≤ a ∧ a ≤ 1000000 ∧ Hid (LastLt xs c n p) ∧ Hid (a = kx * wsum g.h p (min n R - p)) ∧ Hid (∃ q, wr = w.drewN q)) (fun _ nv _ => R + 1 - (intOf nv).toNat)
  case atStart => exact ⟨0, 0, 0, by omega, rfl, rfl, by omega, by omega, LastLt.zero xs c, by show _ = _; simp [wsum], 0, rfl⟩
  case round =>
    obtain ⟨n, p', a, hn, rfl, rfl, a0, a1, hl, ha, hw⟩ := hrel
    obtain ⟨q, hq⟩ := hw.out
    have ec : ∀ p, wr.cell? p = w.cell? p := fun p => by rw [hq]; rfl
    have s0 := (ec _).trans p0
    have s1 := (ec _).trans p1
    have s2 := (ec _).trans u0
    by_cases hle : n ≤ R
    · have le1 : (n : Int) ≤ (R : Int) := by omega
      obtain ⟨b, hb⟩ := ok_boolS (Ch xs c n)
      have C := Lib.hid (CH.out wr q hq n b hb)
      have HQ := Lib.hid hq
      have HBB := Lib.hid hb
      -- the state behind the change
      obtain ⟨pn, an, hpn, han, an0, an1⟩ : ∃ (pn : Nat) (an : Int), LastLt xs c (n + 1) pn ∧ an = kx * wsum g.h pn (n - pn) ∧ 0 ≤ an ∧ an ≤ 1000000 ∧ pn ≤ n ∧ an = (if b = true then 0 else a) := by
        by_cases hcc : Ch xs c n
        · obtain rfl : b = true := hb.mpr hcc
          exact ⟨n, 0, hl.out.yes hcc, by rw [Nat.sub_self]; simp [wsum], by omega, by omega, Nat.le_refl _, rfl⟩
        · have bf : b = false := b_false hb hcc
          subst bf
          refine ⟨p', a, hl.out.same hcc, ?_, a0, a1, by have := hl.out.lt; omega, rfl⟩
          have e : min n R = n := by omega
          have h := ha.out
          rwa [e] at h
      obtain ⟨an1, pnn, eb⟩ := an1
      have HPN := Lib.hid hpn
      have HAN := Lib.hid han
      clear hb hq hw hl ha hpn han p0 p1 u0
      by_cases hlR : n < R
      · have lt1 : (n : Int) < (R : Int) := by omega
        have ln1 : n < n1 := by omega
        obtain ⟨y, hy⟩ : ∃ y, g.h[n]? = some y := ⟨_, List.getElem?_eq_getElem (by have := E1.out; omega)⟩
        have hy' := HH.out y (List.mem_of_getElem? hy)
        obtain ⟨bb, ob, eb2, v0⟩ := R1.out.atg n y hy
        have s3 := (ec _).trans v0
        rw [eb2] at s1
        have WS := Lib.hid (wsum_succ (h := g.h) (f := pn) (k := n - pn) (x := y) (by rw [show pn + (n - pn) = n by omega]; exact hy))
        have mb : 0 ≤ kx * y ∧ kx * y ≤ 10000 := ⟨Int.mul_nonneg (by omega) (by omega), by
          have := Int.mul_le_mul (show kx ≤ 100 by omega) (show y ≤ 100 by omega) (by omega) (by omega)
          omega⟩
        obtain ⟨z, hz⟩ : ∃ z, z = kx * y := ⟨_, rfl⟩
        rw [← hz] at mb
        have q1 : IntKind.i64.wrap (kx * y) = z := by rw [← hz]; exact IntWalk.i64_in _ (by omega)
        obtain ⟨a2, ha2⟩ : ∃ u, u = an + z := ⟨_, rfl⟩
        have q2 : IntKind.i64.wrap (an + z) = a2 := by rw [ha2]; exact IntWalk.i64_in _ (by omega)
        have HA2 : Hid (a2 = kx * wsum g.h pn (min (n + 1) R - pn)) := by
          show _ = _
          rw [show min (n + 1) R - pn = (n - pn) + 1 by omega, WS.out, Int.mul_add, ha2, HAN.out, hz]
        have b2 : 0 ≤ a2 ∧ a2 ≤ 1000000 := by
          have hb := SB.out pn (min (n + 1) R - pn)
          have h1 : min (n + 1) R - pn ≤ 60 := by omega
          have e := HA2.out
          have m1 : 0 ≤ kx * wsum g.h pn (min (n + 1) R - pn) := Int.mul_nonneg (by omega) hb.1
          have m2 := Int.mul_le_mul ok1.2 (show wsum g.h pn (min (n + 1) R - pn) ≤ 6000 by omega) hb.1 (by omega)
          omega
        have HAZ := Lib.hid ha2
        have zb : 0 ≤ z ∧ z ≤ 10000 := mb
        clear hy hy' eb2 v0 WS hz ha2 mb HAN ec
        go_wp2_with fail
        refine C.out.mono ?_
        rintro e w' ⟨rfl, hw'⟩
        subst hw'
        cases b
        · simp only [Bool.false_eq_true, if_false] at eb
          subst eb
          go_wp2
          go_quiet (fail)
          go_wp2
          exact ⟨⟨n + 1, pn, a2, by omega, by go_num, rfl, b2.1, b2.2, HPN, HA2, _, by rw [HQ.out]; exact World.drewN_drewN _ _ _⟩, by simp only [intOf]; omega⟩
        · simp only [if_true] at eb
          subst eb
          obtain rfl : z = a2 := by have e := HAZ.out; omega
          clear HAZ
          have q2' : wrap64 z = z := by unfold wrap64; omega
          go_wp2
          go_quiet (fail)
          go_wp2
          exact ⟨⟨n + 1, pn, z, by omega, by go_num, rfl, b2.1, b2.2, HPN, HA2, _, by rw [HQ.out]; exact World.drewN_drewN _ _ _⟩, by simp only [intOf]; omega⟩
      · obtain rfl : n = R := by omega
        have nlt : ¬ (n : Int) < (n : Int) := by omega
        have HA2 : Hid (an = kx * wsum g.h pn (min (n + 1) n - pn)) := by show _ = _; rw [show min (n + 1) n = n by omega]; exact HAN.out
        clear HAN ec
        go_wp2_with fail
        refine C.out.mono ?_
        rintro e w' ⟨rfl, hw'⟩
        subst hw'
        cases b
        · simp only [Bool.false_eq_true, if_false] at eb
          subst eb
          go_wp2
          exact ⟨⟨n + 1, pn, an, by omega, by go_num, rfl, an0, an1, HPN, HA2, _, HQ.out⟩, by simp only [intOf]; omega⟩
        · simp only [if_true] at eb
          subst eb
          go_wp2
          exact ⟨⟨n + 1, pn, 0, by omega, by go_num, rfl, an0, an1, HPN, HA2, _, HQ.out⟩, by simp only [intOf]; omega⟩
    · obtain rfl : n = R + 1 := by omega
      have nle : ¬ ((R : Int) + 1 ≤ (R : Int)) := by omega
      have e : Hid (kx * wsum g.h p (R - p) = a) := by
        show _ = _
        rw [ha.out, show min (R + 1) R = R by omega, hl.out.uniq HP.out]
      clear hl ha
      go_wp2
      go_ret
      exact ⟨by rw [e.out]; rfl, q, by first | exact hq | rfl⟩

/-- The wear of each cutter before ring R. -/
def IsWorn (g : Hd) (xs : List Su) (R : Nat) (L : List Int) : Prop := L.length = g.c.length ∧ ∀ c x p, g.c[c]? = some x → LastLt xs c (R + 1) p → L[c]? = some (x.k * wsum g.h p (R - p))

theorem isWorn_ex (g : Hd) (xs : List Su) (R : Nat) : ∃ L, IsWorn g xs R L := by
  obtain ⟨L, h1, h2⟩ := choose_list g.c.length (fun c (y : Int) => ∀ x p, g.c[c]? = some x → LastLt xs c (R + 1) p → y = x.k * wsum g.h p (R - p)) (fun c hc => by
    obtain ⟨p, hp⟩ := lastLt_ex xs c (R + 1)
    refine ⟨g.c[c].k * wsum g.h p (R - p), fun x q hx hq => ?_⟩
    rw [List.getElem?_eq_getElem hc] at hx
    rw [← Option.some.inj hx, hp.uniq hq])
  refine ⟨L, h1, fun c x p hx hp => ?_⟩
  obtain ⟨y, hy⟩ : ∃ y, L[c]? = some y := ⟨_, List.getElem?_eq_getElem (by have := (List.getElem?_eq_some_iff.1 hx).1; omega)⟩
  rw [hy, h2 c y hy x p hx hp]
theorem isWorn_same {g k : Hd} {xs ys : List Su} {R : Nat} {L : List Int} (h : IsWorn g xs R L) (e : g.same k) (es : xs.map Su.so = ys.map Su.so) : IsWorn k ys R L := by
  refine ⟨by rw [h.1, e.1], fun c x p hx hp => ?_⟩
  rw [← e.1] at hx
  rw [← e.2.1]
  exact h.2 c x p hx (lastLt_same es.symm hp)

/-- What WornAt answers. -/
def WornAtOf (g : Hd) (xs : List Su) (n1 : Nat) (a2 : Int) (L : List Int) (b : Bool) : Prop := (b = true ∧ OkHd g ∧ OkPlan g xs ∧ (0 ≤ a2 ∧ a2 ≤ (n1 : Int)) ∧ IsWorn g xs a2.toNat L) ∨ (b = false ∧ ¬ (OkHd g ∧ OkPlan g xs ∧ (0 ≤ a2 ∧ a2 ≤ (n1 : Int))) ∧ L = [])

theorem OwnS_nilI (w : World) (B : Nat) : OwnI w B (.slice none 0 0) [] := World.ownsRow_nil _ _ _ _
theorem info_i64w : (Try.prog.info? 2).map (fun i => (i.zero, i.size, i.bytes)) = some (some (.int .i64 0), 1, 8) := by kernel_rfl

set_option maxRecDepth 100000 in
set_option maxHeartbeats 8000000 in
theorem specWornAt_any (g : Hd) (n0 n1 n2 : Nat) (v : Value) (xs : List Su) (w : World) (hr : RdHd w n0 n1 n2 g) (l0 : n0 ≤ 1048576) (l1 : n1 ≤ 1048576) (l2 : n2 ≤ 1048576) (hv : RdSt w v xs) (lx : xs.length ≤ 1048576) (lt : ∀ x ∈ xs, x.t.length ≤ 1048576) (a2 : Int) (L : List Int) (b : Bool) (ht : WornAtOf g xs n1 a2 L b) :
    Calls Try.prog 20 #[(.agg #[.slice g.ca n0 g.cc, .slice g.ha n1 g.hc, .slice g.sa n2 g.sc, .int .i64 g.p, .int .i64 g.q]), v, .int .i64 a2] w fun e w' => ∃ u, e = .returned (.tuple #[u, .bool b]) ∧ OwnIC w' w.heap.size w'.heap.size u L ∧ Below w.heap.size w w' := by
  obtain ⟨i0, hi, hz0, hz1, hz2⟩ := info_parts info_i64w
  obtain ⟨b1, h1⟩ := ok_boolS (OkHd g)
  obtain ⟨b2, h2⟩ := ok_boolS (OkPlan g xs)
  obtain ⟨b3, h3⟩ := ok_boolS (0 ≤ a2 ∧ a2 ≤ (n1 : Int))
  have C := Lib.hid (fun (w : World) hG hr => l08Is_any w.heap.size 30 g n0 n1 n2 (w.alloc (.cells #[.slice g.ca n0 g.cc, .slice g.ha n1 g.hc, .slice g.sa n2 g.sc, .int .i64 g.p, .int .i64 g.q] 30)) hG hr l0 l1 l2 b1 h1)
  have C2 := Lib.hid (fun G w hG hr hv => l08Plan_any G 30 g n0 n1 n2 v xs w hG hr l0 l2 hv lx lt b2 h2)
  have C3 := Lib.hid (fun w => in_any a2 0 (n1 : Int) b3 h3 w)
  have CW := Lib.hid (fun G w hG hr ok hv => l08Worn_any G 30 g n0 n1 n2 v xs w hG hr ok hv lx lt)
  have E0 := Lib.hid hr.len.1
  have H := Lib.hid hr
  have HV := Lib.hid hv
  have H1 := Lib.hid h1
  have H2 := Lib.hid h2
  have H3 := Lib.hid h3
  have HTX := Lib.hid ht
  clear hr h1 h2 h3 hv ht
  go_enter Try.func20, Try.ntmps20
  go_wp2_with fail
  refine (C.out _ (heap_alloc_new w _) (H.out.later (by go_grown))).mono ?_
  rintro e w1 ⟨rfl, q, rfl⟩
  have B1 : Hid (Below w.heap.size w ((w.alloc (.cells #[.slice g.ca n0 g.cc, .slice g.ha n1 g.hc, .slice g.sa n2 g.sc, .int .i64 g.p, .int .i64 g.q] 30)).drewN q)) := Below.trans (show Below w.heap.size w (w.alloc _) by go_grown) ⟨rfl, rfl, rfl, Nat.le_refl _, fun _ _ => rfl⟩
  have N1 : Hid (((w.alloc (.cells #[.slice g.ca n0 g.cc, .slice g.ha n1 g.hc, .slice g.sa n2 g.sc, .int .i64 g.p, .int .i64 g.q] 30)).drewN q).heap[w.heap.size]? = some (.cells #[.slice g.ca n0 g.cc, .slice g.ha n1 g.hc, .slice g.sa n2 g.sc, .int .i64 g.p, .int .i64 g.q] 30 (0, 0))) := heap_alloc_new w _
  have z1 : w.heap.size < ((w.alloc (.cells #[.slice g.ca n0 g.cc, .slice g.ha n1 g.hc, .slice g.sa n2 g.sc, .int .i64 g.p, .int .i64 g.q] 30)).drewN q).heap.size := by show _ < (w.alloc _).heap.size; simp
  generalize (w.alloc (.cells #[.slice g.ca n0 g.cc, .slice g.ha n1 g.hc, .slice g.sa n2 g.sc, .int .i64 g.p, .int .i64 g.q] 30)).drewN q = w0 at *
  cases b1
  · obtain ⟨rfl, rfl⟩ : b = false ∧ L = [] := by
      rcases HTX.out with h | h
      · have := H1.out.mpr h.2.1; simp at this
      · exact ⟨h.1, h.2.2⟩
    go_wp2
    go_ret2
    exact ⟨_, rfl, OwnIC.of (OwnS_nilI _ _), B1.out⟩
  go_wp2_with fail
  refine (C2.out _ _ N1.out (H.out.later B1.out) (HV.out.later B1.out)).mono ?_
  rintro e w2 ⟨rfl, q2, rfl⟩
  have B2 : Hid (Below w.heap.size w (w0.drewN q2)) := B1.out.trans ⟨rfl, rfl, rfl, Nat.le_refl _, fun _ _ => rfl⟩
  have N2 : Hid ((w0.drewN q2).heap[w.heap.size]? = some (.cells #[.slice g.ca n0 g.cc, .slice g.ha n1 g.hc, .slice g.sa n2 g.sc, .int .i64 g.p, .int .i64 g.q] 30 (0, 0))) := N1.out
  have z2 : w.heap.size < (w0.drewN q2).heap.size := z1
  clear B1 N1 z1
  generalize w0.drewN q2 = w3 at *
  obtain ⟨⟨p0, p1, p2, p3, p4⟩, -, -⟩ := boxedHd_at N2.out
  cases b2
  · obtain ⟨rfl, rfl⟩ : b = false ∧ L = [] := by
      rcases HTX.out with h | h
      · have := H2.out.mpr h.2.2.1; simp at this
      · exact ⟨h.1, h.2.2⟩
    go_wp2
    go_ret2
    exact ⟨_, rfl, OwnIC.of (OwnS_nilI _ _), B2.out⟩
  go_wp2_with fail
  refine (C3.out _).mono ?_
  rintro e w' ⟨rfl, rfl⟩
  cases b3
  · obtain ⟨rfl, rfl⟩ : b = false ∧ L = [] := by
      rcases HTX.out with h | h
      · have := H3.out.mpr h.2.2.2.1; simp at this
      · exact ⟨h.1, h.2.2⟩
    go_wp2
    go_ret2
    exact ⟨_, rfl, OwnIC.of (OwnS_nilI _ _), B2.out⟩
  have ok := H1.out.mp (by trivial)
  have k2 := H2.out.mp (by trivial)
  have k3 := H3.out.mp (by trivial)
  obtain ⟨R, rfl⟩ : ∃ R : Nat, a2 = R := ⟨a2.toNat, by omega⟩
  have Rn : R ≤ n1 := by omega
  obtain ⟨rfl, hL⟩ : b = true ∧ IsWorn g xs R L := by
    rcases HTX.out with h | h
    · exact ⟨h.1, h.2.2.2.2⟩
    · exact absurd ⟨ok, k2, k3⟩ h.2.1
  have LN : Hid (L.length = n0) := by show _ = _; rw [hL.1, ← E0.out]
  have HL := Lib.hid hL
  have OK := Lib.hid ok
  have n5 : n0 ≤ 5 := by have := ok.c0; have := E0.out; omega
  clear C C2 C3 H1 H2 H3 HTX ok k2 k3 hL
  go_wp2
  have O0 : Hid (OwnI (w3.alloc (.cells #[] 2)) w3.heap.size (.slice (some ⟨w3.heap.size, 0, none⟩) 0 0) (L.take 0)) := own_built w3 _ L rfl
  have B3 : Hid (Below w.heap.size w (w3.alloc (.cells #[] 2))) := B2.out.alloc B2.out.size _
  have y3 : w3.heap.size ≤ (w3.alloc (.cells #[] 2)).heap.size := by simp
  have N3 : Hid ((w3.alloc (.cells #[] 2)).heap[w.heap.size]? = some (.cells #[.slice g.ca n0 g.cc, .slice g.ha n1 g.hc, .slice g.sa n2 g.sc, .int .i64 g.p, .int .i64 g.q] 30 (0, 0))) := (Below.heap_alloc _ _ _ z2).trans N2.out
  obtain ⟨B, hB⟩ : ∃ B, B = w3.heap.size := ⟨_, rfl⟩
  have bB : w.heap.size < B := by omega
  rw [← hB] at O0 y3 ⊢
  generalize w3.alloc (.cells #[] 2) = w4 at *
  clear hB p0 p1 p2 p3 p4 N2 B2
  go_loopw [8, 9] (fun ov iv wr => ∃ (k gg c1 : Nat), k ≤ n0 ∧ iv = .int .i64 k ∧ ov = .slice (some ⟨gg, 0, none⟩) k c1 ∧ Hid (OwnI wr B (.slice (some ⟨gg, 0, none⟩) k c1) (L.take k)) ∧ Hid (wr.heap[w.heap.size]? = some (.cells #[.slice g.ca n0 g.cc, .slice g.ha n1 g.hc, .slice g.sa n2 g.sc, .int .i64 g.p, .int .i64 g.q] 30 (0, 0))) ∧ Hid (Below w.heap.size w wr) ∧ B ≤ wr.heap.size) (fun _ iv _ => n0 - (intOf iv).toNat)
  case atStart => exact ⟨0, B, 0, by omega, rfl, rfl, O0, N3, B3, y3⟩
  case round =>
    obtain ⟨k, gg, c1, hk, rfl, rfl, ho, NN, BB, yr⟩ := hrel
    clear O0 N3 B3 y3
    obtain ⟨⟨p0, p1, p2, p3, p4⟩, -, -⟩ := boxedHd_at NN.out
    by_cases hlt : k < n0
    · obtain ⟨x, hx⟩ : ∃ x, g.c[k]? = some x := ⟨_, List.getElem?_eq_getElem (by have := E0.out; omega)⟩
      obtain ⟨p, hp⟩ := lastLt_ex xs k (R + 1)
      obtain ⟨z, hz⟩ : ∃ z, z = x.k * wsum g.h p (R - p) := ⟨_, rfl⟩
      have LZ : Hid (L[k]? = some z) := by show _ = _; rw [hz]; exact HL.out.2 k x p hx hp
      have D := Lib.hid (CW.out w.heap.size wr NN.out (H.out.later BB.out) OK.out (HV.out.later BB.out) k R x hx Rn p hp)
      rw [← hz] at D
      have own := Lib.hid (own_take LN.out hk ho.out)
      have lo := ho.out.lt
      clear hx hp hz ho
      go_wp2_with fail
      refine D.out.mono ?_
      rintro e w5 ⟨rfl, q5, rfl⟩
      have own5 : Hid ((wr.drewN q5).ownsRow B 2 1 (.slice (some ⟨gg, 0, none⟩) k c1) k ((L.take k).map (Value.int .i64))) := own.out
      have NN5 : Hid ((wr.drewN q5).heap[w.heap.size]? = some (.cells #[.slice g.ca n0 g.cc, .slice g.ha n1 g.hc, .slice g.sa n2 g.sc, .int .i64 g.p, .int .i64 g.q] 30 (0, 0))) := NN.out
      have BB5 : Hid (Below w.heap.size w (wr.drewN q5)) := BB.out.trans ⟨rfl, rfl, rfl, Nat.le_refl _, fun _ _ => rfl⟩
      have yr5 : B ≤ (wr.drewN q5).heap.size := yr
      have lo5 : ∀ b, (Value.slice (some ⟨gg, 0, none⟩) k c1).ownBlock = some b → B ≤ b ∧ b < (wr.drewN q5).heap.size := lo
      clear own NN BB yr lo D p0 p1 p2 p3 p4
      generalize wr.drewN q5 = w6 at *
      go_wp2_with (at_builtin; refine wpList_append_lies _ rfl _ _ _ rfl B 2 i0 _ 1 8 Try.underlying23 hi hz0 hz1 hz2 rfl (by omega) _ _ _ rfl (own5.out.alloc _) ⟨w6.heap.size, 0, none⟩ 1 1 [.int .i64 z] rfl rfl (World.news_of_block (cs := #[.int .i64 z]) (t := 2) (fr := (0, 0)) (heap_alloc_new w6 _)) (by simp [Value.oneCell']) (by omega) (by unfold maxLen; omega) (by omega) (by simp; omega) _ rfl ?_)
      intro g2 cap2 w7 hown hgrow hat hlt'
      have O7 : Hid (OwnI w7 B (.slice (some ⟨g2, 0, none⟩) (k + 1) cap2) (L.take (k + 1))) := own_next LZ.out hown
      have G7 := World.grownBy_alloc w6 (.cells #[.int .i64 z] 2) (some gg)
      have s7 : w6.heap.size ≤ w7.heap.size := by have := hgrow.size; simp only [World.size_alloc] at this; omega
      have N7 : Hid (w7.heap[w.heap.size]? = some (.cells #[.slice g.ca n0 g.cc, .slice g.ha n1 g.hc, .slice g.sa n2 g.sc, .int .i64 g.p, .int .i64 g.q] 30 (0, 0))) := by
        show _ = _
        rw [hgrow.block w.heap.size (by simp only [World.size_alloc]; omega) (fun e => by have := (lo5 _ e.symm).1; omega), Below.heap_alloc _ _ _ (by omega)]
        exact NN5.out
      have B7 : Hid (Below w.heap.size w w7) := (BB5.out.alloc BB5.out.size (.cells #[.int .i64 z] 2)).grown hgrow (by simp only [World.size_alloc]; have := BB5.out.size; omega) (fun j e => by have := (lo5 j e).1; omega)
      clear hown hgrow hat hlt' own5 NN5 BB5 lo5 LZ G7
      go_wp2
      exact ⟨⟨k + 1, g2, cap2, by omega, by go_num, rfl, O7, N7, B7, by omega⟩, by simp only [intOf]; omega⟩
    · obtain rfl : k = n0 := by omega
      have O := Lib.hid (own_all LN.out ho.out)
      clear ho
      go_wp2
      go_ret2
      exact ⟨_, rfl, (OwnIC.of O.out).mono (by omega), BB.out⟩
end Go.Proofs.Ytgockhlainnnnaa
