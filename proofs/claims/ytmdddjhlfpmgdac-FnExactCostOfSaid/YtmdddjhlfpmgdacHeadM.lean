/- Valid heads: the specification's check. -/
import Derived.Test.YtmdddjhlfpmgdacHeadP
import Derived.Test.YtmdddjhlfpmgdacHeadB
namespace Go.Proofs.Ytmdddjhlfpmgdac
open Go.ChangeShapes Go.WideShapes Go.ChangeAt Go.RowKit
set_option linter.unusedVariables false
set_option linter.unusedSimpArgs false

theorem RdS.at2g {T : Type} {enc : T → List Value} {w : World} {a : Option Addr} {n cap : Nat} {xs : List T} (h : RdS 2 enc w (.slice a n cap) xs) (i : Nat) (x : T) (hx : xs[i]? = some x) (u0 u1 : Value) (he : enc x = [u0, u1]) :
    ∃ b off, a = some ⟨b, off, none⟩ ∧ w.cell? ⟨b, off + i * 2, none⟩ = some u0 ∧ w.cell? ⟨b, off + i * 2 + 1, none⟩ = some u1 := by
  obtain ⟨a', c', hv, h2⟩ := h
  simp only [Value.slice.injEq] at hv
  obtain ⟨rfl, -, -⟩ := hv
  obtain ⟨b, off, rfl, hc⟩ := h2.resolve_left (by intro e; rw [e] at hx; simp at hx)
  have c0 := hc i x hx 0 u0 (by rw [he]; rfl)
  have c1 := hc i x hx 1 u1 (by rw [he]; rfl)
  exact ⟨b, off, rfl, c0, by rw [Nat.add_assoc]; exact c1⟩

theorem RdI.atg {w : World} {a : Option Addr} {n cap : Nat} {zs : List Int} (h : RdI w (.slice a n cap) zs) (i : Nat) (x : Int) (hx : zs[i]? = some x) :
    ∃ b off, a = some ⟨b, off, none⟩ ∧ w.cell? ⟨b, off + i, none⟩ = some (.int .i64 x) := by
  obtain ⟨a', c', hv, h2⟩ := h
  simp only [Value.slice.injEq] at hv
  obtain ⟨rfl, -, -⟩ := hv
  obtain ⟨b, off, rfl, hc⟩ := h2.resolve_left (by intro e; rw [e] at hx; simp at hx)
  exact ⟨b, off, rfl, hc i x hx⟩

def OkCu (x : Cu) : Prop := (1 ≤ x.k ∧ x.k ≤ 100) ∧ (1 ≤ x.l ∧ x.l ≤ 1000000)

/-- A valid head. -/
structure OkHd (g : Hd) : Prop where
  c0 : 1 ≤ g.c.length ∧ g.c.length ≤ 5
  h0 : g.h.length ≤ 60
  s0 : g.s.length ≤ 8
  s1 : RisesIn 0 ((g.h.length : Int) - 1) g.s
  c1 : ∀ x ∈ g.c, OkCu x
  h1 : ∀ x ∈ g.h, 0 ≤ x ∧ x ≤ 100
  p0 : 0 ≤ g.p ∧ g.p ≤ 10000
  q0 : 0 ≤ g.q ∧ g.q ≤ 10000

theorem OkHd.same {g k : Hd} (h : OkHd g) (e : g.same k) : OkHd k := by
  obtain ⟨e0, e1, e2, e3, e4⟩ := e
  obtain ⟨a, b, c, d, f, i, j, l⟩ := h
  rw [e0] at a f
  rw [e1] at b d i
  rw [e2] at c d
  rw [e3] at j
  rw [e4] at l
  exact ⟨a, b, c, d, f, i, j, l⟩
theorem okHd_same {g k : Hd} (e : g.same k) : OkHd g ↔ OkHd k := ⟨fun h => h.same e, fun h => h.same (Hd.same_symm e)⟩

theorem take_all {T : Type} {P : T → Prop} {zs : List T} {k : Nat} {x : T} (h : ∀ y ∈ zs.take k, P y) (hx : zs[k]? = some x) (hp : P x) : ∀ y ∈ zs.take (k + 1), P y := by
  intro y hy
  rw [List.take_add_one, hx] at hy
  rcases List.mem_append.mp hy with hy | hy
  · exact h y hy
  · have : y = x := by simpa using hy
    subst this; exact hp

set_option maxRecDepth 100000 in
set_option maxHeartbeats 8000000 in
theorem l08Is_any (G : Nat) (ty : TypeId) (g : Hd) (n0 n1 n2 : Nat) (w : World) (hG : w.heap[G]? = some (.cells #[.slice g.ca n0 g.cc, .slice g.ha n1 g.hc, .slice g.sa n2 g.sc, .int .i64 g.p, .int .i64 g.q] ty (0, 0))) (hr : RdHd w n0 n1 n2 g) (l0 : n0 ≤ 1048576) (l1 : n1 ≤ 1048576) (l2 : n2 ≤ 1048576) (b : Bool) (hb : b = true ↔ OkHd g) :
    Calls Try.prog 35 #[.pointer (some ⟨G, 0, none⟩)] w fun e w' => e = .returned (.bool b) ∧ ∃ q, w' = w.drewN q := by
  obtain ⟨e0, e1, e2⟩ := hr.len
  obtain ⟨⟨p0, p1, p2, p3, p4⟩, -, -⟩ := boxedHd_at hG
  have R0 := Lib.hid hr.r0
  have R1 := Lib.hid hr.r1
  have R2 := Lib.hid hr.r2
  have E0 := Lib.hid e0
  have E1 := Lib.hid e1
  have E2 := Lib.hid e2
  have HB := Lib.hid hb
  have q1 : IntKind.i64.wrap ((n1 : Int) - 1) = (n1 : Int) - 1 := IntWalk.i64_in _ (by omega)
  clear hG hr hb e0 e1 e2
  by_cases h0 : (1 : Int) ≤ (n0 : Int) ∧ (n0 : Int) ≤ 5
  rotate_left
  · have C := Lib.hid (fun w => in_any (n0 : Int) 1 5 false (by simp; omega) w)
    obtain rfl : b = false := b_false HB.out (fun h => h0 (by have := h.c0; have := E0.out; omega))
    go_enter Try.func35, Try.ntmps35
    go_wp2_with fail
    refine (C.out _).mono ?_
    rintro e w' ⟨rfl, rfl⟩
    go_wp2
    go_ret
    exact ⟨rfl, 0, rfl⟩
  have C := Lib.hid (fun w => in_any (n0 : Int) 1 5 true (by simpa using h0) w)
  by_cases h1 : (60 : Int) < (n1 : Int)
  · obtain rfl : b = false := b_false HB.out (fun h => by have := h.h0; have := E1.out; omega)
    go_enter Try.func35, Try.ntmps35
    go_wp2_with fail
    refine (C.out _).mono ?_
    rintro e w' ⟨rfl, rfl⟩
    go_wp2
    go_ret
    exact ⟨rfl, 0, rfl⟩
  by_cases h2 : (8 : Int) < (n2 : Int)
  · obtain rfl : b = false := b_false HB.out (fun h => by have := h.s0; have := E2.out; omega)
    go_enter Try.func35, Try.ntmps35
    go_wp2_with fail
    refine (C.out _).mono ?_
    rintro e w' ⟨rfl, rfl⟩
    go_wp2
    go_ret
    exact ⟨rfl, 0, rfl⟩
  by_cases h3 : RisesIn 0 ((n1 : Int) - 1) g.s
  rotate_left
  · have C3 := Lib.hid (fun w h => l00Rises_any (.slice g.sa n2 g.sc) g.s 0 ((n1 : Int) - 1) w h (by have := E2.out; omega) false (by simpa using h3))
    obtain rfl : b = false := b_false HB.out (fun h => h3 (by have := h.s1; rwa [← E1.out] at this))
    go_enter Try.func35, Try.ntmps35
    go_wp2_with fail
    refine (C.out _).mono ?_
    rintro e w' ⟨rfl, rfl⟩
    go_wp2_with fail
    refine (C3.out _ R2.out).mono ?_
    rintro e w' ⟨rfl, q, rfl⟩
    go_wp2
    go_ret
    exact ⟨rfl, q, rfl⟩
  have C3 := Lib.hid (fun w h => l00Rises_any (.slice g.sa n2 g.sc) g.s 0 ((n1 : Int) - 1) w h (by have := E2.out; omega) true (by simpa using h3))
  have H3 := Lib.hid h3
  clear h3
  go_enter Try.func35, Try.ntmps35
  go_wp2_with fail
  refine (C.out _).mono ?_
  rintro e w' ⟨rfl, rfl⟩
  go_wp2_with fail
  refine (C3.out _ R2.out).mono ?_
  rintro e w' ⟨rfl, q, rfl⟩
  clear C C3
  go_wp2
  go_loop [4] (fun i => ∃ k : Nat, k ≤ n0 ∧ i = .int .i64 k ∧ Hid (∀ x ∈ g.c.take k, OkCu x)) (fun i => n0 - (intOf i).toNat)
  case atStart => exact ⟨0, by omega, rfl, fun x hx => by simp at hx⟩
  case round =>
    obtain ⟨k, hk, rfl, ha⟩ := hrel
    by_cases hlt : k < n0
    · obtain ⟨x, hx⟩ : ∃ x, g.c[k]? = some x := ⟨_, List.getElem?_eq_getElem (by have := E0.out; omega)⟩
      obtain ⟨ba, oa, ea, u0, u1⟩ := R0.out.at2g k x hx _ _ rfl
      rw [ea] at p0
      have HX := Lib.hid hx
      clear ea hx
      by_cases hv : 1 ≤ x.k ∧ x.k ≤ 100
      rotate_left
      · have D := Lib.hid (fun w => in_any x.k 1 100 false (by simp; omega) w)
        obtain rfl : b = false := b_false HB.out (fun h => hv (h.c1 x (List.mem_of_getElem? HX.out)).1)
        clear ha hv
        go_wp2_with fail
        refine (D.out _).mono ?_
        rintro e w' ⟨rfl, rfl⟩
        go_wp2
        go_ret
        exact ⟨rfl, q, rfl⟩
      have D := Lib.hid (fun w => in_any x.k 1 100 true (by simpa using hv) w)
      by_cases hv2 : 1 ≤ x.l ∧ x.l ≤ 1000000
      rotate_left
      · have D2 := Lib.hid (fun w => in_any x.l 1 1000000 false (by simp; omega) w)
        obtain rfl : b = false := b_false HB.out (fun h => hv2 (h.c1 x (List.mem_of_getElem? HX.out)).2)
        clear ha hv hv2
        go_wp2_with fail
        refine (D.out _).mono ?_
        rintro e w' ⟨rfl, rfl⟩
        go_wp2_with fail
        refine (D2.out _).mono ?_
        rintro e w' ⟨rfl, rfl⟩
        go_wp2
        go_ret
        exact ⟨rfl, q, rfl⟩
      have D2 := Lib.hid (fun w => in_any x.l 1 1000000 true (by simpa using hv2) w)
      have A1 : Hid (∀ x ∈ g.c.take (k + 1), OkCu x) := take_all ha.out HX.out ⟨hv, hv2⟩
      clear ha hv hv2
      go_wp2_with fail
      refine (D.out _).mono ?_
      rintro e w' ⟨rfl, rfl⟩
      go_wp2_with fail
      refine (D2.out _).mono ?_
      rintro e w' ⟨rfl, rfl⟩
      clear D D2
      go_wp2
      exact ⟨⟨k + 1, by omega, by go_num, A1⟩, by simp only [intOf]; omega⟩
    · obtain rfl : k = n0 := by omega
      have HC : Hid (∀ x ∈ g.c, OkCu x) := by show ∀ x ∈ g.c, OkCu x; have := ha.out; rwa [List.take_of_length_le (by have := E0.out; omega)] at this
      clear ha hlt hk
      go_wp2
      go_loop [5] (fun i => ∃ k : Nat, k ≤ n1 ∧ i = .int .i64 k ∧ Hid (∀ x ∈ g.h.take k, 0 ≤ x ∧ x ≤ 100)) (fun i => n1 - (intOf i).toNat)
      case atStart => exact ⟨0, by omega, rfl, fun x hx => by simp at hx⟩
      case round =>
        obtain ⟨j, hk, rfl, ha⟩ := hrel
        by_cases hlt : j < n1
        · obtain ⟨x, hx⟩ : ∃ x, g.h[j]? = some x := ⟨_, List.getElem?_eq_getElem (by have := E1.out; omega)⟩
          obtain ⟨ba, oa, ea, u0⟩ := R1.out.atg j x hx
          rw [ea] at p1
          have HX := Lib.hid hx
          clear ea hx
          by_cases hv : 0 ≤ x ∧ x ≤ 100
          rotate_left
          · have D := Lib.hid (fun w => in_any x 0 100 false (by simp; omega) w)
            obtain rfl : b = false := b_false HB.out (fun h => hv (h.h1 x (List.mem_of_getElem? HX.out)))
            clear ha hv
            go_wp2_with fail
            refine (D.out _).mono ?_
            rintro e w' ⟨rfl, rfl⟩
            go_wp2
            go_ret
            exact ⟨rfl, q, rfl⟩
          have D := Lib.hid (fun w => in_any x 0 100 true (by simpa using hv) w)
          have A1 : Hid (∀ x ∈ g.h.take (j + 1), 0 ≤ x ∧ x ≤ 100) := take_all ha.out HX.out hv
          clear ha hv
          go_wp2_with fail
          refine (D.out _).mono ?_
          rintro e w' ⟨rfl, rfl⟩
          clear D
          go_wp2
          exact ⟨⟨j + 1, by omega, by go_num, A1⟩, by simp only [intOf]; omega⟩
        · obtain rfl : j = n1 := by omega
          have HH : Hid (∀ x ∈ g.h, 0 ≤ x ∧ x ≤ 100) := by show ∀ x ∈ g.h, 0 ≤ x ∧ x ≤ 100; have := ha.out; rwa [List.take_of_length_le (by have := E1.out; omega)] at this
          obtain ⟨b7, hb7⟩ := ok_boolS (0 ≤ g.p ∧ g.p ≤ 10000)
          obtain ⟨b8, hb8⟩ := ok_boolS (0 ≤ g.q ∧ g.q ≤ 10000)
          have D := Lib.hid (fun w => in_any g.p 0 10000 b7 hb7 w)
          have D2 := Lib.hid (fun w => in_any g.q 0 10000 b8 hb8 w)
          obtain rfl : b = (b7 && b8) := by
            rw [Bool.eq_iff_iff, HB.out, Bool.and_eq_true, hb7, hb8]
            exact ⟨fun h => ⟨h.p0, h.q0⟩, fun h => ⟨by have := E0.out; omega, by have := E1.out; omega, by have := E2.out; omega, by rw [← E1.out]; exact H3.out, HC.out, HH.out, h.1, h.2⟩⟩
          clear ha hlt hk hb7 hb8 HB
          go_wp2_with fail
          refine (D.out _).mono ?_
          rintro e w' ⟨rfl, rfl⟩
          cases b7
          · go_wp2
            go_ret
            exact ⟨rfl, q, rfl⟩
          · go_wp2_with fail
            refine (D2.out _).mono ?_
            rintro e w' ⟨rfl, rfl⟩
            go_wp2
            go_ret
            exact ⟨by simp, q, rfl⟩

end Go.Proofs.Ytmdddjhlfpmgdac
