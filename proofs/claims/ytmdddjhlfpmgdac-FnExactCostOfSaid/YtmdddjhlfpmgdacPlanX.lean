/- IsPlan on both sides. -/
import Derived.Test.YtmdddjhlfpmgdacPlanS
import Derived.Test.YtmdddjhlfpmgdacPlanI
namespace Go.Proofs.Ytmdddjhlfpmgdac
open Go.ChangeShapes Go.WideShapes Go.ChangeAt Go.RowKit
set_option linter.unusedVariables false
set_option linter.unusedSimpArgs false

set_option maxRecDepth 100000 in
set_option maxHeartbeats 4000000 in
theorem everyStop_any (g : Hd) (n0 n1 n2 : Nat) (l0 : n0 ≤ 1048576) (l2 : n2 ≤ 1048576) (v : Value) (xs : List Su) (w : World) (hr : RdHd w n0 n1 n2 g) (h : RdSt w v xs) (lz : xs.length ≤ 1048576) (lt : ∀ x ∈ xs, x.t.length ≤ 1048576) (b : Bool) (hb : b = true ↔ ∀ c ∈ xs, OkSu g c) :
    Calls Try.prog 73 #[v, .func (.func 74) #[(.agg #[.slice g.ca n0 g.cc, .slice g.ha n1 g.hc, .slice g.sa n2 g.sc, .int .i64 g.p, .int .i64 g.q])] #[]] w fun e w' => e = .returned (.bool b) ∧ Below w.heap.size w w' := by
  have H := Lib.hid h
  have HB := Lib.hid hb
  have HR := Lib.hid hr
  have LT := Lib.hid lt
  obtain ⟨a, cap, rfl, _⟩ := id h.rows
  obtain ⟨n, hn⟩ : ∃ n, n = xs.length := ⟨_, rfl⟩
  rw [← hn] at H lz
  rw [← hn]
  have HN := Lib.hid hn
  clear hn hb h hr lt
  go_enter Try.func73, Try.ntmps73
  go_wp2
  go_loopw [9] (fun i wr => ∃ k : Nat, k ≤ n ∧ i = .int .i64 k ∧ Hid (∀ c ∈ xs.take k, OkSu g c) ∧ Hid (Below w.heap.size w wr)) (fun i _ => n - (intOf i).toNat)
  case atStart => exact ⟨0, by omega, rfl, by intro c hc; simp at hc, Below.refl _ _⟩
  case round =>
    obtain ⟨k, hk, rfl, hall, B⟩ := hrel
    have hsz := B.out.size
    by_cases hlt : k < n
    · obtain ⟨c, hx⟩ : ∃ x, xs[k]? = some x := ⟨_, List.getElem?_eq_getElem (by have := HN.out; omega)⟩
      obtain ⟨ba, oa, rfl, e0, e1, xr, -⟩ := (H.out.later B.out).at hx
      have tl := LT.out c (List.mem_of_getElem? hx)
      obtain ⟨m, hm⟩ : ∃ m, m = c.t.length := ⟨_, rfl⟩
      rw [← hm] at e1 xr tl
      have XR := Lib.hid xr
      obtain ⟨bv, hbv⟩ := ok_boolS (OkSu g c)
      have d1 := Lib.hid (fun w hr hx => canStop_any g n0 n1 n2 l0 l2 c m w hr hx tl bv hbv)
      have HX := Lib.hid hx
      have BV := Lib.hid hbv
      clear hx hm xr hbv
      go_wp2_with fail
      have B1 : Hid (Below w.heap.size w (wr.alloc (.cells #[.int .i64 c.r, .slice c.a m c.c] 80))) := B.out.alloc hsz _
      have X1 : Hid (RdI (wr.alloc (.cells #[.int .i64 c.r, .slice c.a m c.c] 80)) (.slice c.a m c.c) c.t) := XR.out.later (Below.alloc (Below.refl _ _) (Nat.le_refl _) _)
      refine (d1.out _ (HR.out.later B1.out) X1.out).mono ?_
      rintro e w3 ⟨rfl, b3⟩
      have B3 : Hid (Below w.heap.size w w3) := B1.out.trans (b3.mono B1.out.size)
      clear b3 e0 e1 B1 X1 XR d1 B
      cases bv
      · obtain rfl : b = false := b_false HB.out (fun h => by have := BV.out.mpr (h c (List.mem_of_getElem? HX.out)); simp at this)
        clear hall
        go_wp2
        go_ret
        exact ⟨rfl, B3.out⟩
      · have hall' : Hid (∀ c ∈ xs.take (k + 1), OkSu g c) := take_all hall.out HX.out (BV.out.mp (by trivial))
        clear hall
        go_wp2
        exact ⟨⟨k + 1, by omega, by go_num, hall', B3⟩, by simp only [intOf]; omega⟩
    · obtain rfl : k = n := by omega
      obtain rfl : b = true := HB.out.mpr (by have := hall.out; rwa [List.take_of_length_le (by have := HN.out; omega)] at this)
      clear hall
      go_wp2
      go_ret
      exact ⟨rfl, B.out⟩

set_option maxRecDepth 100000 in
set_option maxHeartbeats 4000000 in
theorem implPlan_any (g : Hd) (n0 n1 n2 : Nat) (v : Value) (xs : List Su) (w : World) (hr : RdHd w n0 n1 n2 g) (l0 : n0 ≤ 1048576) (l1 : n1 ≤ 1048576) (l2 : n2 ≤ 1048576) (hv : RdSt w v xs) (lx : xs.length ≤ 1048576) (lt : ∀ x ∈ xs, x.t.length ≤ 1048576) (b : Bool) (hb : b = true ↔ OkHd g ∧ OkPlan g xs) :
    Calls Try.prog 41 #[(.agg #[.slice g.ca n0 g.cc, .slice g.ha n1 g.hc, .slice g.sa n2 g.sc, .int .i64 g.p, .int .i64 g.q]), v] w fun e w' => e = .returned (.bool b) ∧ Below w.heap.size w w' := by
  obtain ⟨b1, h1⟩ := ok_boolS (OkHd g)
  obtain ⟨b2, h2⟩ := ok_boolS (∀ x ∈ xs, OkSu g x)
  obtain ⟨b3, h3⟩ := ok_boolS (UpSu xs)
  have HB : Hid (b = true ↔ (b1 = true ∧ b2 = true ∧ b3 = true)) := by
    show _ ↔ _
    rw [hb, h1, h2, h3]
    exact ⟨fun h => ⟨h.1, h.2.ok, h.2.up⟩, fun h => ⟨h.1, h.2.1, h.2.2⟩⟩
  have C1 := Lib.hid (fun w hr => implHead_any g n0 n1 n2 w hr l0 l1 l2 b1 h1)
  have C2 := Lib.hid (fun w hr h => everyStop_any g n0 n1 n2 l0 l2 v xs w hr h lx lt b2 h2)
  have C3 := Lib.hid (fun w h => everyTwo_stops v xs w h lx b3 h3)
  have HR := Lib.hid hr
  have HV := Lib.hid hv
  obtain ⟨a, cap, rfl, _⟩ := id hv.rows
  generalize xs.length = n at *
  clear hr hv hb h1 h2 h3
  go_enter Try.func41, Try.ntmps41
  go_wp2_with fail
  generalize hx : w.alloc (.cells #[.slice g.ca n0 g.cc, .slice g.ha n1 g.hc, .slice g.sa n2 g.sc, .int .i64 g.p, .int .i64 g.q] 33) = w0
  have B0 : Hid (Below w.heap.size w w0) := by show Below _ _ _; rw [← hx]; go_grown
  have N0 : Hid (w0.heap[w.heap.size]? = some (.cells #[.slice g.ca n0 g.cc, .slice g.ha n1 g.hc, .slice g.sa n2 g.sc, .int .i64 g.p, .int .i64 g.q] 33 (0, 0))) := by show _ = _; rw [← hx]; exact heap_alloc_new w _
  have z0 : w.heap.size < w0.heap.size := by rw [← hx]; simp
  clear hx
  refine (C1.out _ (HR.out.later B0.out)).mono ?_
  rintro e w1 ⟨rfl, c1⟩
  have S := step_box B0.out N0.out z0 c1
  have B1 := Lib.hid S.1
  have N1 := Lib.hid S.2.1
  have z1 := S.2.2
  clear S c1 B0 N0 z0 C1
  obtain ⟨⟨p0, p1, p2, p3, p4⟩, -, -⟩ := boxedHd_at N1.out
  cases b1
  · obtain rfl : b = false := b_false HB.out (fun h => by simp at h)
    go_wp2
    go_ret
    exact ⟨rfl, B1.out⟩
  go_wp2_with fail
  refine (C2.out _ (HR.out.later B1.out) (HV.out.later B1.out)).mono ?_
  rintro e w2 ⟨rfl, c1⟩
  have B2 : Hid (Below w.heap.size w w2) := B1.out.trans (c1.mono B1.out.size)
  clear c1 B1 N1 p0 p1 p2 p3 p4 C2
  cases b2
  · obtain rfl : b = false := b_false HB.out (fun h => by simp at h)
    go_wp2
    go_ret
    exact ⟨rfl, B2.out⟩
  go_wp2_with fail
  refine (C3.out _ (HV.out.later B2.out)).mono ?_
  rintro e w3 ⟨rfl, c1⟩
  have B3 : Hid (Below w.heap.size w w3) := B2.out.trans (c1.mono B2.out.size)
  obtain rfl : b = b3 := by
    rw [Bool.eq_iff_iff, HB.out]
    exact ⟨fun h => h.2.2, fun h => ⟨by trivial, by trivial, h⟩⟩
  clear c1 B2 C3
  go_wp2
  go_ret
  exact ⟨by simp, B3.out⟩

theorem stops_small {xs : List Su} {n : Nat} (lt : (n : Int) + ((xs.length + sumSt xs : Nat) : Int) ≤ 1048576) : xs.length ≤ 1048576 ∧ ∀ x ∈ xs, x.t.length ≤ 1048576 :=
  ⟨by omega, fun x hx => by have := sumSt_mem hx; omega⟩

end Go.Proofs.Ytmdddjhlfpmgdac
