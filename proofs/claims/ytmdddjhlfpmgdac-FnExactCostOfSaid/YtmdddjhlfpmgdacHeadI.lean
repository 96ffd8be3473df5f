/- Valid heads: the program's check. -/
import Derived.Test.YtmdddjhlfpmgdacHeadM
namespace Go.Proofs.Ytmdddjhlfpmgdac
open Go.ChangeShapes Go.WideShapes Go.ChangeAt Go.RowKit
set_option linter.unusedVariables false
set_option linter.unusedSimpArgs false

theorem cutterIs_any (g : Cu) (b : Bool) (hb : b = true ↔ OkCu g) (w : World) :
    Calls Try.prog 103 #[(.agg #[.int .i64 g.k, .int .i64 g.l])] w fun e w' => e = .returned (.bool b) ∧ Below w.heap.size w w' := by
  obtain ⟨b1, h1⟩ := ok_boolS (1 ≤ g.k ∧ g.k ≤ 100)
  obtain ⟨b2, h2⟩ := ok_boolS (1 ≤ g.l ∧ g.l ≤ 1000000)
  obtain rfl : b = (b1 && b2) := by rw [Bool.eq_iff_iff, hb, Bool.and_eq_true, h1, h2]; rfl
  have C1 := Lib.hid (fun w => isTrack_any g.k b1 h1 w)
  have C2 := Lib.hid (fun w => isLimit_any g.l b2 h2 w)
  clear hb h1 h2
  go_enter Try.func103, Try.ntmps103
  go_wp2_with fail
  refine (C1.out _).mono ?_
  rintro e w1 ⟨rfl, b1'⟩
  have B1 : Hid (Below w.heap.size w w1) := Below.trans (by go_grown) (b1'.mono (by simp only [World.size_alloc]; omega))
  have n1 := (b1'.block w.heap.size (by simp only [World.size_alloc]; omega)).trans (heap_alloc_new w _)
  obtain ⟨⟨k0, k1⟩, -⟩ := boxCu_at n1
  clear b1' n1
  cases b1
  · go_wp2
    go_ret
    exact ⟨rfl, B1.out⟩
  · go_wp2_with fail
    refine (C2.out _).mono ?_
    rintro e w2 ⟨rfl, b2'⟩
    have B2 : Hid (Below w.heap.size w w2) := B1.out.trans (b2'.mono B1.out.size)
    clear b2' k0 k1
    go_wp2
    go_ret
    exact ⟨by simp, B2.out⟩

set_option maxRecDepth 100000 in
set_option maxHeartbeats 2000000 in
theorem everyCutter_any (v : Value) (xs : List Cu) (w : World) (h : RdS 2 encCu w v xs) (lz : xs.length ≤ 1048576) (b : Bool) (hb : b = true ↔ ∀ c ∈ xs, OkCu c) :
    Calls Try.prog 102 #[v, .func (.func 103) #[] #[]] w fun e w' => e = .returned (.bool b) ∧ Below w.heap.size w w' := by
  have H := Lib.hid h
  have HB := Lib.hid hb
  obtain ⟨a, cap, rfl, _⟩ := h
  obtain ⟨n, hn⟩ : ∃ n, n = xs.length := ⟨_, rfl⟩
  rw [← hn] at H lz
  rw [← hn]
  have HN := Lib.hid hn
  clear hn hb
  go_enter Try.func102, Try.ntmps102
  go_wp2
  go_loopw [9] (fun i wr => ∃ k : Nat, k ≤ n ∧ i = .int .i64 k ∧ Hid (∀ c ∈ xs.take k, OkCu c) ∧ Hid (Below w.heap.size w wr)) (fun i _ => n - (intOf i).toNat)
  case atStart => exact ⟨0, by omega, rfl, by intro c hc; simp at hc, Below.refl _ _⟩
  case round =>
    obtain ⟨k, hk, rfl, hall, B⟩ := hrel
    by_cases hlt : k < n
    · obtain ⟨c, hx⟩ : ∃ x, xs[k]? = some x := ⟨_, List.getElem?_eq_getElem (by have := HN.out; omega)⟩
      obtain ⟨ba, oa, rfl, e0, e1⟩ := (H.out.later B.out).at2g k c hx _ _ rfl
      have hsz := B.out.size
      by_cases hc : OkCu c
      · have d1 := Lib.hid (fun w => cutterIs_any c true ⟨fun _ => hc, fun _ => rfl⟩ w)
        have hall' : Hid (∀ c ∈ xs.take (k + 1), OkCu c) := take_all hall.out hx hc
        clear hx hc hall
        go_wp2_with fail
        refine (d1.out _).mono ?_
        rintro e w3 ⟨rfl, b3⟩
        have B3 : Hid (Below w.heap.size w w3) := ((B.out.alloc hsz _)).trans (b3.mono (by simp; omega))
        clear b3 e0 e1
        go_wp2
        exact ⟨⟨k + 1, by omega, by go_num, hall', B3⟩, by simp only [intOf]; omega⟩
      · have d1 := Lib.hid (fun w => cutterIs_any c false ⟨fun h => (by cases h), fun h => absurd h hc⟩ w)
        obtain rfl : b = false := b_false HB.out (fun h => hc (h c (List.mem_of_getElem? hx)))
        clear hx hc hall
        go_wp2_with fail
        refine (d1.out _).mono ?_
        rintro e w3 ⟨rfl, b3⟩
        have B3 : Hid (Below w.heap.size w w3) := ((B.out.alloc hsz _)).trans (b3.mono (by simp; omega))
        clear b3 e0 e1
        go_wp2
        go_ret
        exact ⟨rfl, B3.out⟩
    · obtain rfl : k = n := by omega
      obtain rfl : b = true := HB.out.mpr (by have := hall.out; rwa [List.take_of_length_le (by have := HN.out; omega)] at this)
      go_wp2
      go_ret
      exact ⟨rfl, B.out⟩

theorem withinH_any (n lo hi : Int) (b : Bool) (hb : b = true ↔ lo ≤ n ∧ n ≤ hi) (w : World) :
    Calls Try.prog 91 #[.int .i64 n, .int .i64 lo, .int .i64 hi] w fun e w' => e = .returned (.bool b) ∧ w = w' := by
  by_cases h1 : lo ≤ n
  · by_cases h2 : n ≤ hi
    · obtain rfl : b = true := hb.mpr ⟨h1, h2⟩
      clear hb
      go_enter Try.func91, Try.ntmps91
      go_wp2
      go_ret
      exact ⟨rfl, rfl⟩
    · obtain rfl : b = false := b_false hb (fun h => h2 h.2)
      clear hb
      go_enter Try.func91, Try.ntmps91
      go_wp2
      go_ret
      exact ⟨rfl, rfl⟩
  · obtain rfl : b = false := b_false hb (fun h => h1 h.1)
    clear hb
    go_enter Try.func91, Try.ntmps91
    go_wp2
    go_ret
    exact ⟨rfl, rfl⟩

/-- A step of a walk over a head's box at G: the facts of the world behind. -/
theorem step_box {w w1 w2 : World} {G : Nat} {o : Obj} (B : Below w.heap.size w w1) (N : w1.heap[G]? = some o) (hG : G < w1.heap.size) (b : Below w1.heap.size w1 w2) : Below w.heap.size w w2 ∧ w2.heap[G]? = some o ∧ G < w2.heap.size :=
  ⟨B.trans (b.mono B.size), (b.block G hG).trans N, by have := b.size; omega⟩

set_option maxRecDepth 100000 in
set_option maxHeartbeats 8000000 in
theorem implHead_any (g : Hd) (n0 n1 n2 : Nat) (w : World) (hr : RdHd w n0 n1 n2 g) (l0 : n0 ≤ 1048576) (l1 : n1 ≤ 1048576) (l2 : n2 ≤ 1048576) (b : Bool) (hb : b = true ↔ OkHd g) :
    Calls Try.prog 72 #[(.agg #[.slice g.ca n0 g.cc, .slice g.ha n1 g.hc, .slice g.sa n2 g.sc, .int .i64 g.p, .int .i64 g.q])] w fun e w' => e = .returned (.bool b) ∧ Below w.heap.size w w' := by
  obtain ⟨e0, e1, e2⟩ := hr.len
  obtain ⟨b1, h1⟩ := ok_boolS ((1 : Int) ≤ (n0 : Int) ∧ (n0 : Int) ≤ 5)
  obtain ⟨b2, h2⟩ := ok_boolS (∀ x ∈ g.c, OkCu x)
  obtain ⟨b3, h3⟩ := ok_boolS (∀ x ∈ g.h, 0 ≤ x ∧ x ≤ 100)
  obtain ⟨b4, h4⟩ := ok_boolS ((∀ x ∈ g.s, 0 ≤ x ∧ x ≤ (n1 : Int) - 1) ∧ Up g.s)
  obtain ⟨b5, h5⟩ := ok_boolS (0 ≤ g.p ∧ g.p ≤ 10000)
  obtain ⟨b6, h6⟩ := ok_boolS (0 ≤ g.q ∧ g.q ≤ 10000)
  have C1 := Lib.hid (fun w => withinH_any (n0 : Int) 1 5 b1 h1 w)
  have C2 := Lib.hid (fun w h => everyCutter_any (.slice g.ca n0 g.cc) g.c w h (by omega) b2 h2)
  have C3 := Lib.hid (fun w h => every_isHardness (.slice g.ha n1 g.hc) g.h w h (by omega) b3 h3)
  have C4 := Lib.hid (fun w h => isSet_hasRing g n0 n1 n2 (by omega) (.slice g.sa n2 g.sc) g.s w h (by omega) b4 h4)
  have C5 := Lib.hid (fun w => isPrice_any g.p b5 h5 w)
  have C6 := Lib.hid (fun w => isPrice_any g.q b6 h6 w)
  have HB : Hid (b = true ↔ (b1 = true ∧ b2 = true ∧ n1 ≤ 60 ∧ b3 = true ∧ n2 ≤ 8 ∧ b4 = true ∧ b5 = true ∧ b6 = true)) := by
    show _ ↔ _
    rw [hb, h1, h2, h3, h4, h5, h6]
    constructor
    · intro h
      have := h.c0
      have := h.h0
      have := h.s0
      refine ⟨by omega, h.c1, by omega, h.h1, by omega, ?_, h.p0, h.q0⟩
      have e := h.s1
      rw [← e1] at e
      exact e
    · rintro ⟨a1, a2, a3, a4, a5, a6, a7, a8⟩
      exact ⟨by omega, by omega, by omega, by rw [← e1]; exact a6, a2, a4, a7, a8⟩
  have R0 := Lib.hid hr.r0
  have R1 := Lib.hid hr.r1
  have R2 := Lib.hid hr.r2
  clear hr hb h1 h2 h3 h4 h5 h6 e0 e1 e2
  go_enter Try.func72, Try.ntmps72
  go_wp2_with fail
  generalize hx : w.alloc (.cells #[.slice g.ca n0 g.cc, .slice g.ha n1 g.hc, .slice g.sa n2 g.sc, .int .i64 g.p, .int .i64 g.q] 33) = w0
  have B0 : Hid (Below w.heap.size w w0) := by show Below _ _ _; rw [← hx]; go_grown
  have N0 : Hid (w0.heap[w.heap.size]? = some (.cells #[.slice g.ca n0 g.cc, .slice g.ha n1 g.hc, .slice g.sa n2 g.sc, .int .i64 g.p, .int .i64 g.q] 33 (0, 0))) := by show _ = _; rw [← hx]; exact heap_alloc_new w _
  have z0 : w.heap.size < w0.heap.size := by rw [← hx]; simp
  clear hx
  obtain ⟨⟨p0, p1, p2, p3, p4⟩, -, -⟩ := boxedHd_at N0.out
  refine (C1.out _).mono ?_
  rintro e w' ⟨rfl, rfl⟩
  cases b1
  · obtain rfl : b = false := b_false HB.out (fun h => by cases h.1)
    go_wp2
    go_ret
    exact ⟨rfl, B0.out⟩
  go_wp2_with fail
  refine (C2.out _ (R0.out.later B0.out)).mono ?_
  rintro e w1 ⟨rfl, c1⟩
  have S := step_box B0.out N0.out z0 c1
  have B1 := Lib.hid S.1
  have N1 := Lib.hid S.2.1
  have z1 := S.2.2
  clear S c1 B0 N0 z0 p0 p1 p2 p3 p4 C1 C2
  obtain ⟨⟨p0, p1, p2, p3, p4⟩, -, -⟩ := boxedHd_at N1.out
  cases b2
  · obtain rfl : b = false := b_false HB.out (fun h => by cases h.2.1)
    go_wp2
    go_ret
    exact ⟨rfl, B1.out⟩
  by_cases hn1 : (n1 : Int) ≤ 60
  rotate_left
  · obtain rfl : b = false := b_false HB.out (fun h => hn1 (by have := h.2.2.1; omega))
    go_wp2
    go_ret
    exact ⟨rfl, B1.out⟩
  go_wp2_with fail
  refine (C3.out _ (R1.out.later B1.out)).mono ?_
  rintro e w2 ⟨rfl, c1⟩
  have S := step_box B1.out N1.out z1 c1
  have B2 := Lib.hid S.1
  have N2 := Lib.hid S.2.1
  have z2 := S.2.2
  clear S c1 B1 N1 z1 p0 p1 p2 p3 p4 C3
  obtain ⟨⟨p0, p1, p2, p3, p4⟩, -, -⟩ := boxedHd_at N2.out
  cases b3
  · obtain rfl : b = false := b_false HB.out (fun h => by cases h.2.2.2.1)
    go_wp2
    go_ret
    exact ⟨rfl, B2.out⟩
  by_cases hn2 : (n2 : Int) ≤ 8
  rotate_left
  · obtain rfl : b = false := b_false HB.out (fun h => hn2 (by have := h.2.2.2.2.1; omega))
    go_wp2
    go_ret
    exact ⟨rfl, B2.out⟩
  go_wp2_with fail
  refine (C4.out _ (R2.out.later B2.out)).mono ?_
  rintro e w3 ⟨rfl, c1⟩
  have S := step_box B2.out N2.out z2 c1
  have B3 := Lib.hid S.1
  have N3 := Lib.hid S.2.1
  have z3 := S.2.2
  clear S c1 B2 N2 z2 p0 p1 p2 p3 p4 C4
  obtain ⟨⟨p0, p1, p2, p3, p4⟩, -, -⟩ := boxedHd_at N3.out
  cases b4
  · obtain rfl : b = false := b_false HB.out (fun h => by cases h.2.2.2.2.2.1)
    go_wp2
    go_ret
    exact ⟨rfl, B3.out⟩
  go_wp2_with fail
  refine (C5.out _).mono ?_
  rintro e w4 ⟨rfl, c1⟩
  have S := step_box B3.out N3.out z3 c1
  have B4 := Lib.hid S.1
  have N4 := Lib.hid S.2.1
  have z4 := S.2.2
  clear S c1 B3 N3 z3 p0 p1 p2 p3 p4 C5
  obtain ⟨⟨p0, p1, p2, p3, p4⟩, -, -⟩ := boxedHd_at N4.out
  cases b5
  · obtain rfl : b = false := b_false HB.out (fun h => by cases h.2.2.2.2.2.2.1)
    go_wp2
    go_ret
    exact ⟨rfl, B4.out⟩
  go_wp2_with fail
  refine (C6.out _).mono ?_
  rintro e w5 ⟨rfl, c1⟩
  have B5 : Hid (Below w.heap.size w w5) := B4.out.trans (c1.mono B4.out.size)
  clear c1 B4 N4 z4 p0 p1 p2 p3 p4 C6
  obtain rfl : b = b6 := by
    rw [Bool.eq_iff_iff, HB.out]
    exact ⟨fun h => h.2.2.2.2.2.2.2, fun h => ⟨by trivial, by trivial, by omega, by trivial, by omega, by trivial, by trivial, h⟩⟩
  go_wp2
  go_ret
  exact ⟨by simp, B5.out⟩

end Go.Proofs.Ytmdddjhlfpmgdac
