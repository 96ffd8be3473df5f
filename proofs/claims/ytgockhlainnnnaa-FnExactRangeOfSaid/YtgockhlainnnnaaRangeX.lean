/- RangeOf on both sides. -/
import Derived.Test.YtgockhlainnnnaaWearS
import Derived.Test.YtgockhlainnnnaaFailI
namespace Go.Proofs.Ytgockhlainnnnaa
open Go.ChangeShapes Go.WideShapes Go.ChangeAt Go.RowKit
set_option linter.unusedVariables false
set_option linter.unusedSimpArgs false

set_option maxRecDepth 100000 in
set_option maxHeartbeats 4000000 in
theorem specRange_any (g : Hd) (n0 n1 n2 : Nat) (w : World) (hr : RdHd w n0 n1 n2 g) (l0 : n0 ≤ 1048576) (l1 : n1 ≤ 1048576) (l2 : n2 ≤ 1048576) (a1 a2 r : Int) (b : Bool)
    (hb : (OkHd g ∧ (0 ≤ a1 ∧ a1 ≤ (n0 : Int) - 1) ∧ (0 ≤ a2 ∧ a2 ≤ (n1 : Int) - 1) ∧ b = true ∧ (∃ m : Nat, r = m ∧ ∀ x, g.c[a1.toNat]? = some x → Drives x.k x.l 0 g.h a2.toNat m)) ∨ (¬ (OkHd g ∧ (0 ≤ a1 ∧ a1 ≤ (n0 : Int) - 1) ∧ (0 ≤ a2 ∧ a2 ≤ (n1 : Int) - 1)) ∧ b = false ∧ r = 0)) :
    Calls Try.prog 27 #[(.agg #[.slice g.ca n0 g.cc, .slice g.ha n1 g.hc, .slice g.sa n2 g.sc, .int .i64 g.p, .int .i64 g.q]), .int .i64 a1, .int .i64 a2] w fun e w' => e = .returned (.tuple #[.int .i64 r, .bool b]) ∧ Below w.heap.size w w' := by
  obtain ⟨e0, e1, e2⟩ := hr.len
  obtain ⟨b1, h1⟩ := ok_boolS (OkHd g)
  obtain ⟨b2, h2⟩ := ok_boolS (0 ≤ a1 ∧ a1 ≤ (n0 : Int) - 1)
  obtain ⟨b3, h3⟩ := ok_boolS (0 ≤ a2 ∧ a2 ≤ (n1 : Int) - 1)
  rw [← h1, ← h2, ← h3] at hb
  have C1 := Lib.hid (fun (w : World) hG hr => l08Is_any w.heap.size 30 g n0 n1 n2 (w.alloc (.cells #[.slice g.ca n0 g.cc, .slice g.ha n1 g.hc, .slice g.sa n2 g.sc, .int .i64 g.p, .int .i64 g.q] 30)) hG hr l0 l1 l2 b1 h1)
  have C2 := Lib.hid (fun w => in_any a1 0 ((n0 : Int) - 1) b2 h2 w)
  have C3 := Lib.hid (fun w => in_any a2 0 ((n1 : Int) - 1) b3 h3 w)
  have q0 : IntKind.i64.wrap ((n0 : Int) - 1) = (n0 : Int) - 1 := IntWalk.i64_in _ (by omega)
  have q1 : IntKind.i64.wrap ((n1 : Int) - 1) = (n1 : Int) - 1 := IntWalk.i64_in _ (by omega)
  have HR := Lib.hid hr
  have HB := Lib.hid hb
  have H1 := Lib.hid h1
  have H2 := Lib.hid h2
  have H3 := Lib.hid h3
  have E0 := Lib.hid e0
  clear hr hb h1 h2 h3 e0 e1 e2
  go_enter Try.func27, Try.ntmps27
  go_wp2_with fail
  refine (C1.out _ (heap_alloc_new w _) (HR.out.later (by go_grown))).mono ?_
  rintro e w1 ⟨rfl, q, rfl⟩
  have N1 : Hid (((w.alloc (.cells #[.slice g.ca n0 g.cc, .slice g.ha n1 g.hc, .slice g.sa n2 g.sc, .int .i64 g.p, .int .i64 g.q] 30)).drewN q).heap[w.heap.size]? = some (.cells #[.slice g.ca n0 g.cc, .slice g.ha n1 g.hc, .slice g.sa n2 g.sc, .int .i64 g.p, .int .i64 g.q] 30 (0, 0))) := heap_alloc_new w _
  have B1 : Hid (Below w.heap.size w ((w.alloc (.cells #[.slice g.ca n0 g.cc, .slice g.ha n1 g.hc, .slice g.sa n2 g.sc, .int .i64 g.p, .int .i64 g.q] 30)).drewN q)) := Below.trans (show Below w.heap.size w (w.alloc _) by go_grown) ⟨rfl, rfl, rfl, Nat.le_refl _, fun _ _ => rfl⟩
  generalize (w.alloc (.cells #[.slice g.ca n0 g.cc, .slice g.ha n1 g.hc, .slice g.sa n2 g.sc, .int .i64 g.p, .int .i64 g.q] 30)).drewN q = w0 at *
  obtain ⟨⟨p0, p1, p2, p3, p4⟩, -, -⟩ := boxedHd_at N1.out
  cases b1
  · obtain ⟨rfl, rfl⟩ : b = false ∧ r = 0 := by rcases HB.out with h | h; exact absurd h.1 (by simp); exact h.2
    go_wp2
    go_ret2
    exact ⟨rfl, B1.out⟩
  go_wp2_with fail
  refine (C2.out _).mono ?_
  rintro e w' ⟨rfl, rfl⟩
  cases b2
  · obtain ⟨rfl, rfl⟩ : b = false ∧ r = 0 := by rcases HB.out with h | h; exact absurd h.2.1 (by simp); exact h.2
    go_wp2
    go_ret2
    exact ⟨rfl, B1.out⟩
  go_wp2_with fail
  refine (C3.out _).mono ?_
  rintro e w' ⟨rfl, rfl⟩
  cases b3
  · obtain ⟨rfl, rfl⟩ : b = false ∧ r = 0 := by rcases HB.out with h | h; exact absurd h.2.2.1 (by simp); exact h.2
    go_wp2
    go_ret2
    exact ⟨rfl, B1.out⟩
  have ok := H1.out.mp (by trivial)
  have i1 := H2.out.mp (by trivial)
  have i2 := H3.out.mp (by trivial)
  obtain ⟨c, rfl⟩ : ∃ c : Nat, a1 = c := ⟨a1.toNat, by omega⟩
  obtain ⟨f, rfl⟩ : ∃ c : Nat, a2 = c := ⟨a2.toNat, by omega⟩
  obtain ⟨rfl, m, rfl, hm⟩ : b = true ∧ ∃ m : Nat, r = m ∧ ∀ x, g.c[(c : Int).toNat]? = some x → Drives x.k x.l 0 g.h (f : Int).toNat m := by rcases HB.out with h | h; exact h.2.2.2; exact absurd (by simp) h.1
  obtain ⟨x, hx⟩ : ∃ x, g.c[c]? = some x := ⟨_, List.getElem?_eq_getElem (by have := E0.out; omega)⟩
  have D := Lib.hid (l08Range_any w.heap.size 30 g n0 n1 n2 w0 N1.out (HR.out.later B1.out) ok c f x hx (by omega) 0 (by omega) m (hm x hx))
  clear hm hx ok C1 C2 C3 p0 p1 p2 p3 p4 HB
  go_wp2_with fail
  refine D.out.mono ?_
  rintro e w' ⟨rfl, q', rfl⟩
  go_wp2
  go_ret2
  exact ⟨rfl, B1.out.trans ⟨rfl, rfl, rfl, Nat.le_refl _, fun _ _ => rfl⟩⟩

set_option maxRecDepth 100000 in
set_option maxHeartbeats 4000000 in
theorem implRange_any (g : Hd) (n0 n1 n2 : Nat) (w : World) (hr : RdHd w n0 n1 n2 g) (cp : g.caps n0 n1 n2) (l0 : n0 ≤ 1048576) (l1 : n1 ≤ 1048576) (l2 : n2 ≤ 1048576) (a1 a2 r : Int) (b : Bool)
    (hb : (OkHd g ∧ (0 ≤ a1 ∧ a1 ≤ (n0 : Int) - 1) ∧ (0 ≤ a2 ∧ a2 ≤ (n1 : Int) - 1) ∧ b = true ∧ (∃ m : Nat, r = m ∧ ∀ x, g.c[a1.toNat]? = some x → Drives x.k x.l 0 g.h a2.toNat m)) ∨ (¬ (OkHd g ∧ (0 ≤ a1 ∧ a1 ≤ (n0 : Int) - 1) ∧ (0 ≤ a2 ∧ a2 ≤ (n1 : Int) - 1)) ∧ b = false ∧ r = 0)) :
    Calls Try.prog 28 #[(.agg #[.slice g.ca n0 g.cc, .slice g.ha n1 g.hc, .slice g.sa n2 g.sc, .int .i64 g.p, .int .i64 g.q]), .int .i64 a1, .int .i64 a2] w fun e w' => e = .returned (.tuple #[.int .i64 r, .bool b]) ∧ Below w.heap.size w w' := by
  obtain ⟨e0, e1, e2⟩ := hr.len
  obtain ⟨b1, h1⟩ := ok_boolS (OkHd g)
  obtain ⟨b2, h2⟩ := ok_boolS (0 ≤ a1 ∧ a1 ≤ (n0 : Int) - 1)
  obtain ⟨b3, h3⟩ := ok_boolS (0 ≤ a2 ∧ a2 ≤ (n1 : Int) - 1)
  rw [← h1, ← h2, ← h3] at hb
  have C1 := Lib.hid (fun w hr => implHead_any g n0 n1 n2 w hr l0 l1 l2 b1 h1)
  have C2 := Lib.hid (fun w => hasCutter_any g n0 n1 n2 (by omega) a1 b2 h2 w)
  have C3 := Lib.hid (fun w => hasRing_any g n0 n1 n2 (by omega) a2 b3 h3 w)
  have HR := Lib.hid hr
  have HB := Lib.hid hb
  have H1 := Lib.hid h1
  have H2 := Lib.hid h2
  have H3 := Lib.hid h3
  have E0 := Lib.hid e0
  have E1 := Lib.hid e1
  have CP := Lib.hid cp
  clear hr hb h1 h2 h3 e0 e1 e2 cp
  go_enter Try.func28, Try.ntmps28
  go_wp2_with fail
  generalize hx : w.alloc (.cells #[.slice g.ca n0 g.cc, .slice g.ha n1 g.hc, .slice g.sa n2 g.sc, .int .i64 g.p, .int .i64 g.q] 30) = w0
  have B0 : Hid (Below w.heap.size w w0) := by show Below _ _ _; rw [← hx]; go_grown
  have N0 : Hid (w0.heap[w.heap.size]? = some (.cells #[.slice g.ca n0 g.cc, .slice g.ha n1 g.hc, .slice g.sa n2 g.sc, .int .i64 g.p, .int .i64 g.q] 30 (0, 0))) := by show _ = _; rw [← hx]; exact heap_alloc_new w _
  have z0 : w.heap.size < w0.heap.size := by rw [← hx]; simp
  clear hx
  refine (C1.out _ (HR.out.later B0.out)).mono ?_
  rintro e w1 ⟨rfl, c1⟩
  have S := step_box B0.out N0.out z0 c1
  have B1 := Lib.hid S.1
  have N1 := Lib.hid S.2.1
  have z1 := S.2.2
  clear S c1 B0 N0 z0 C1
  obtain ⟨⟨p0, p1, p2, p3, p4⟩, -, -⟩ := boxedHd_at N1.out
  cases b1
  · obtain ⟨rfl, rfl⟩ : b = false ∧ r = 0 := by rcases HB.out with h | h; exact absurd h.1 (by simp); exact h.2
    go_wp2
    go_ret2
    exact ⟨rfl, B1.out⟩
  go_wp2_with fail
  refine (C2.out _).mono ?_
  rintro e w2 ⟨rfl, c1⟩
  have S := step_box B1.out N1.out z1 c1
  have B2 := Lib.hid S.1
  have N2 := Lib.hid S.2.1
  have z2 := S.2.2
  clear S c1 B1 N1 z1 C2 p0 p1 p2 p3 p4
  obtain ⟨⟨p0, p1, p2, p3, p4⟩, -, -⟩ := boxedHd_at N2.out
  cases b2
  · obtain ⟨rfl, rfl⟩ : b = false ∧ r = 0 := by rcases HB.out with h | h; exact absurd h.2.1 (by simp); exact h.2
    go_wp2
    go_ret2
    exact ⟨rfl, B2.out⟩
  go_wp2_with fail
  refine (C3.out _).mono ?_
  rintro e w3 ⟨rfl, c1⟩
  have S := step_box B2.out N2.out z2 c1
  have B3 := Lib.hid S.1
  have N3 := Lib.hid S.2.1
  have z3 := S.2.2
  clear S c1 B2 N2 z2 C3 p0 p1 p2 p3 p4
  obtain ⟨⟨p0, p1, p2, p3, p4⟩, -, -⟩ := boxedHd_at N3.out
  cases b3
  · obtain ⟨rfl, rfl⟩ : b = false ∧ r = 0 := by rcases HB.out with h | h; exact absurd h.2.2.1 (by simp); exact h.2
    go_wp2
    go_ret2
    exact ⟨rfl, B3.out⟩
  have ok := H1.out.mp (by trivial)
  have i1 := H2.out.mp (by trivial)
  have i2 := H3.out.mp (by trivial)
  obtain ⟨c, rfl⟩ : ∃ c : Nat, a1 = c := ⟨a1.toNat, by omega⟩
  obtain ⟨f, rfl⟩ : ∃ c : Nat, a2 = c := ⟨a2.toNat, by omega⟩
  obtain ⟨rfl, m, rfl, hm⟩ : b = true ∧ ∃ m : Nat, r = m ∧ ∀ x, g.c[(c : Int).toNat]? = some x → Drives x.k x.l 0 g.h (f : Int).toNat m := by rcases HB.out with h | h; exact h.2.2.2; exact absurd (by simp) h.1
  obtain ⟨x, hx⟩ : ∃ x, g.c[c]? = some x := ⟨_, List.getElem?_eq_getElem (by have := E0.out; omega)⟩
  obtain ⟨z, hz⟩ : ∃ z, z = f + m := ⟨_, rfl⟩
  have hm' : Drives x.k x.l 0 g.h f m := hm x hx
  have zz : z ≤ 60 := by have := hm'.le; have := ok.h0; omega
  have D := Lib.hid (failure_any g n0 n1 n2 w3 (HR.out.later B3.out) CP.out ok c f x hx (by omega) m hm' z hz)
  have q1 : IntKind.i64.wrap ((z : Int) - (f : Int)) = (m : Int) := by rw [IntWalk.i64_in _ (by omega)]; omega
  clear hm hx ok HB hm' hz
  go_wp2_with fail
  refine D.out.mono ?_
  rintro e w4 ⟨rfl, c1⟩
  have B4 : Hid (Below w.heap.size w w4) := B3.out.trans (c1.mono B3.out.size)
  clear c1 D p0 p1 p2 p3 p4 N3
  go_wp2
  go_ret2
  exact ⟨rfl, B4.out⟩

theorem exRangeOf (g0 : Hd) (n0 n1 n2 : Nat) (e : n0 = g0.c.length ∧ n1 = g0.h.length ∧ n2 = g0.s.length) (a1 a2 : Int) (lt : (n0 : Int) + (n1 : Int) + (n2 : Int) ≤ 1048576) : ∃ (r : Int) (b : Bool),
    Hid (∀ (w : World) (k0 : Hd), k0.same g0 → k0.caps n0 n1 n2 → RdHd w n0 n1 n2 k0 → Calls Try.prog 27 #[(.agg #[.slice k0.ca n0 k0.cc, .slice k0.ha n1 k0.hc, .slice k0.sa n2 k0.sc, .int .i64 k0.p, .int .i64 k0.q]), .int .i64 a1, .int .i64 a2] w fun e w' => e = .returned (.tuple #[.int .i64 r, .bool b]) ∧ Below w.heap.size w w') ∧
    Hid (∀ (w : World) (k0 : Hd), k0.same g0 → k0.caps n0 n1 n2 → RdHd w n0 n1 n2 k0 → Calls Try.prog 28 #[(.agg #[.slice k0.ca n0 k0.cc, .slice k0.ha n1 k0.hc, .slice k0.sa n2 k0.sc, .int .i64 k0.p, .int .i64 k0.q]), .int .i64 a1, .int .i64 a2] w fun e w' => e = .returned (.tuple #[.int .i64 r, .bool b]) ∧ Below w.heap.size w w') := by
  by_cases h : OkHd g0 ∧ (0 ≤ a1 ∧ a1 ≤ (n0 : Int) - 1) ∧ (0 ≤ a2 ∧ a2 ≤ (n1 : Int) - 1)
  · obtain ⟨x, hx⟩ : ∃ x, g0.c[a1.toNat]? = some x := ⟨_, List.getElem?_eq_getElem (by omega)⟩
    obtain ⟨m, hm⟩ := drives_ex x.k x.l 0 g0.h a2.toNat (by omega)
    have key : ∀ k : Hd, k.same g0 → (OkHd k ∧ (0 ≤ a1 ∧ a1 ≤ (n0 : Int) - 1) ∧ (0 ≤ a2 ∧ a2 ≤ (n1 : Int) - 1) ∧ true = true ∧ (∃ m' : Nat, (m : Int) = m' ∧ ∀ x, k.c[a1.toNat]? = some x → Drives x.k x.l 0 k.h a2.toNat m')) := fun k hs => ⟨h.1.same (Hd.same_symm hs), h.2.1, h.2.2, rfl, m, rfl, fun y hy => by
      rw [hs.1, hx] at hy
      rw [← Option.some.inj hy, hs.2.1]; exact hm⟩
    exact ⟨m, true, fun w k hs _ hr => specRange_any k n0 n1 n2 w hr (by omega) (by omega) (by omega) a1 a2 m true (.inl (key k hs)), fun w k hs cp hr => implRange_any k n0 n1 n2 w hr cp (by omega) (by omega) (by omega) a1 a2 m true (.inl (key k hs))⟩
  · have key : ∀ k : Hd, k.same g0 → ¬ (OkHd k ∧ (0 ≤ a1 ∧ a1 ≤ (n0 : Int) - 1) ∧ (0 ≤ a2 ∧ a2 ≤ (n1 : Int) - 1)) := fun k hs h' => h ⟨h'.1.same hs, h'.2⟩
    exact ⟨0, false, fun w k hs _ hr => specRange_any k n0 n1 n2 w hr (by omega) (by omega) (by omega) a1 a2 0 false (.inr ⟨key k hs, rfl, rfl⟩), fun w k hs cp hr => implRange_any k n0 n1 n2 w hr cp (by omega) (by omega) (by omega) a1 a2 0 false (.inr ⟨key k hs, rfl, rfl⟩)⟩
end Go.Proofs.Ytgockhlainnnnaa
