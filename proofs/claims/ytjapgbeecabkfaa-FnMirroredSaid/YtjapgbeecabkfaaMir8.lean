/- Mirroring a machine exchanges right and left. -/
import Derived.Test.YtjapgbeecabkfaaR8M
import Derived.Test.YtjapgbeecabkfaaMirM
import Derived.Test.YtjapgbeecabkfaaVal
namespace Go.Proofs.Ytjapgbeecabkfaa
open Go.ChangeShapes Go.WideShapes Go.ChangeAt Go.RowKit
set_option linter.unusedVariables false
set_option linter.unusedSimpArgs false

theorem mirM_mir (m : Mc) : mirM (mirM m) = m := by
  apply Mc.eq <;> simp [mirM, mirP]
theorem side_mir (m : Mc) : sideM (mirM m) = -sideM m := by simp only [sideM, mirM, mirP]; omega
theorem high_mir (m : Mc) : highM (mirM m) = highM m := rfl
theorem swing_mir (m : Mc) : swingM (mirM m) = -swingM m := by simp only [swingM, mirM, mirP]; omega
theorem tilt_mir (m : Mc) : tiltM (mirM m) = tiltM m := rfl
theorem adv_mir (m : Mc) : (mirM m).a = m.a := rfl
theorem gaps_mir (m : Mc) : ∃ a b c d, gapsM m = [a, b, c, d] ∧ gapsM (mirM m) = [c, b, a, d] := by
  refine ⟨_, _, _, _, rfl, ?_⟩
  unfold gapsM
  rw [side_mir, high_mir, show (40 : Int) - -sideM m = 40 + sideM m by omega, show (40 : Int) + -sideM m = 40 - sideM m by omega]
theorem strokes_mir (m : Mc) : ∃ a b c d, strokesM m = [a, b, c, d] ∧ strokesM (mirM m) = [c, b, a, d] := by
  refine ⟨_, _, _, _, rfl, ?_⟩
  unfold strokesM
  rw [swing_mir, tilt_mir, adv_mir, show m.a - -swingM m = m.a + swingM m by omega, show m.a + -swingM m = m.a - swingM m by omega]
theorem okM_mir {m : Mc} (h : OkM m) : OkM (mirM m) := by
  obtain ⟨⟨⟨⟨a1, a2⟩, a3, ⟨a4, a5⟩, a6⟩, ⟨⟨b1, b2⟩, b3, ⟨b4, b5⟩, b6⟩, c1, c2⟩, hg, hs⟩ := h
  obtain ⟨a, b, c, d, e1, e2⟩ := gaps_mir m
  obtain ⟨a', b', c', d', e3, e4⟩ := strokes_mir m
  refine ⟨⟨⟨⟨?_, ?_⟩, a3, ⟨?_, ?_⟩, a6⟩, ⟨⟨?_, ?_⟩, b3, ⟨?_, ?_⟩, b6⟩, c1, c2⟩, ?_, ?_⟩
  case refine_9 => rw [e2]; rw [e1] at hg; intro x hx; exact hg x (by simp only [List.mem_cons, List.mem_nil_iff, or_false] at hx ⊢; rcases hx with h | h | h | h <;> simp [h])
  case refine_10 => rw [e4]; rw [e3] at hs; intro x hx; exact hs x (by simp only [List.mem_cons, List.mem_nil_iff, or_false] at hx ⊢; rcases hx with h | h | h | h <;> simp [h])
  all_goals (simp only [mirM, mirP]; omega)

theorem r8Long_any (a0 a1 : Option Addr) (l0 l1 c0 c1 : Nat) (h0 : l0 ≤ 9223372036854775807) (h1 : l1 ≤ 9223372036854775807) (b : Bool) (hb : b = true ↔ ¬ ((l0 : Int) ≤ 48 ∧ (l1 : Int) ≤ 48)) (w : World) :
    Calls Try.prog 39 #[.slice a0 l0 c0, .slice a1 l1 c1] w fun e w' => e = .returned (.bool b) ∧ w = w' := by
  by_cases g0 : (48 : Int) < l0
  · obtain rfl : b = true := hb.mpr (by omega)
    clear hb
    go_enter Try.func39, Try.ntmps39
    go_wp2
    go_ret
    exact ⟨rfl, rfl⟩
  · by_cases g1 : (48 : Int) < l1
    · obtain rfl : b = true := hb.mpr (by omega)
      have d : decide ((48 : Int) < l1) = true := by simpa using g1
      clear hb
      go_enter Try.func39, Try.ntmps39
      go_wp2
      go_ret
      exact ⟨rfl, rfl⟩
    · obtain rfl : b = false := b_false hb (by omega)
      have d : decide ((48 : Int) < l1) = false := by simpa using g1
      clear hb
      go_enter Try.func39, Try.ntmps39
      go_wp2
      go_ret
      exact ⟨rfl, rfl⟩

theorem list4 {w : World} {B : Nat} {v : Value} {a b c d : Int} (h : OwnI w B v [a, b, c, d]) : ∃ g off cap, v = .slice (some ⟨g, off, none⟩) 4 cap ∧ w.cell? ⟨g, off, none⟩ = some (.int .i64 a) ∧ w.cell? ⟨g, off + 1, none⟩ = some (.int .i64 b) ∧ w.cell? ⟨g, off + 2, none⟩ = some (.int .i64 c) ∧ w.cell? ⟨g, off + 3, none⟩ = some (.int .i64 d) := by
  obtain ⟨ad, cap, rfl, hc⟩ := h.rd
  obtain ⟨g, off, rfl, hc2⟩ := hc.resolve_left (by simp)
  exact ⟨g, off, cap, rfl, hc2 0 a rfl, hc2 1 b rfl, hc2 2 c rfl, hc2 3 d rfl⟩

set_option maxRecDepth 100000 in
set_option maxHeartbeats 16000000 in
theorem mirrored_law (w : World) (a0 a1 : Option Addr) (l0 l1 c0 c1 : Nat) (zs : List Int) (R0 : Hid (RdB w (.slice a0 l0 c0) zs)) (lz : zs.length ≤ 48) (h0 : l0 ≤ 48) (h1 : l1 ≤ 48) :
    Calls Try.prog 12 #[.slice a0 l0 c0, .slice a1 l1 c1] w fun e w' => e = .returned (.bool true) ∧ Below w.heap.size w w' := by
  go_enter Try.func12, Try.ntmps12
  go_wp2_with fail
  refine (r8Long_any a0 a1 l0 l1 c0 c1 (by omega) (by omega) false ⟨(fun e => by cases e), (fun h => absurd h (by omega))⟩ w).mono ?_
  rintro e w' ⟨rfl, rfl⟩
  go_wp2_with fail
  refine (r8Machine_any w _ zs R0.out (by omega)).mono ?_
  rintro e w1 ⟨m, ok, rfl, b1⟩
  have B1 := Lib.hid b1
  have z1 := b1.size
  have ok2 : OkM (mirM m) := okM_mir ok
  have hx : mirM (mirM m) = m := mirM_mir m
  have C1 := Lib.hid (fun w => implMirror_yes m ok w)
  have C2 := Lib.hid (fun w => implMirror_yes (mirM m) ok2 w)
  have C3 := Lib.hid (fun w => implGaps_yes m ok w)
  have C4 := Lib.hid (fun w => implGaps_yes (mirM m) ok2 w)
  have C5 := Lib.hid (fun w => implStrokes_yes m ok w)
  have C6 := Lib.hid (fun w => implStrokes_yes (mirM m) ok2 w)
  rw [hx] at C2
  obtain ⟨G0, G1, G2, G3, e1, e2⟩ := gaps_mir m
  obtain ⟨T0, T1, T2, T3, e3, e4⟩ := strokes_mir m
  rw [e1] at C3; rw [e2] at C4; rw [e3] at C5; rw [e4] at C6
  obtain ⟨x, hxx⟩ : ∃ x, x = mirM m := ⟨_, rfl⟩
  rw [← hxx] at C1 C2 C4 C6
  clear b1 hx e1 e2 e3 e4 hxx ok ok2 R0
  go_wp2_with fail
  generalize hW : World.alloc w1 (.cells #[.int .i64 m.u.s, .int .i64 m.u.h, .int .i64 m.u.y, .int .i64 m.u.p, .int .i64 m.t.s, .int .i64 m.t.h, .int .i64 m.t.y, .int .i64 m.t.p, .int .i64 m.a] 29) = u1
  have bw : Below w1.heap.size w1 u1 := by rw [← hW]; exact Below.alloc (Below.refl _ _) (Nat.le_refl _) _
  have NX : u1.heap[w1.heap.size]? = some (.cells #[.int .i64 m.u.s, .int .i64 m.u.h, .int .i64 m.u.y, .int .i64 m.u.p, .int .i64 m.t.s, .int .i64 m.t.h, .int .i64 m.t.y, .int .i64 m.t.p, .int .i64 m.a] 29 (0, 0)) := by rw [← hW]; exact heap_alloc_new _ _
  obtain ⟨X, hX⟩ : ∃ b, b = w1.heap.size := ⟨_, rfl⟩
  rw [← hX] at NX ⊢
  have lX : X < u1.heap.size := (Array.getElem?_eq_some_iff.1 NX).1
  have B1u : Hid (Below w.heap.size w u1) := B1.out.trans (bw.mono (by omega))
  clear hW bw B1
  refine (C1.out _).mono ?_
  rintro e w2 ⟨rfl, b2⟩
  have NX2 := (b2.block X lX).trans NX
  have B2 : Hid (Below w.heap.size w w2) := B1u.out.trans (b2.mono (by omega))
  have z2 : X < w2.heap.size := by have := b2.size; omega
  have y2 : w.heap.size ≤ w2.heap.size := B2.out.size
  clear b2 NX B1u C1 hX lX
  go_wp2_with fail
  generalize hW : World.alloc w2 (.cells #[.int .i64 x.u.s, .int .i64 x.u.h, .int .i64 x.u.y, .int .i64 x.u.p, .int .i64 x.t.s, .int .i64 x.t.h, .int .i64 x.t.y, .int .i64 x.t.p, .int .i64 x.a] 29) = u2
  have bw : Below w2.heap.size w2 u2 := by rw [← hW]; exact Below.alloc (Below.refl _ _) (Nat.le_refl _) _
  have NY : u2.heap[w2.heap.size]? = some (.cells #[.int .i64 x.u.s, .int .i64 x.u.h, .int .i64 x.u.y, .int .i64 x.u.p, .int .i64 x.t.s, .int .i64 x.t.h, .int .i64 x.t.y, .int .i64 x.t.p, .int .i64 x.a] 29 (0, 0)) := by rw [← hW]; exact heap_alloc_new _ _
  obtain ⟨Y, hY⟩ : ∃ b, b = w2.heap.size := ⟨_, rfl⟩
  rw [← hY] at NY ⊢
  have lY : Y < u2.heap.size := (Array.getElem?_eq_some_iff.1 NY).1
  have NX3 := (bw.block X z2).trans NX2
  have B2u : Hid (Below w.heap.size w u2) := B2.out.trans (bw.mono (by omega))
  have lX2 : X < u2.heap.size := by have := bw.size; omega
  clear hW bw B2 NX2
  refine (C2.out _).mono ?_
  rintro e w3 ⟨rfl, b3⟩
  have NX4 := (b3.block X lX2).trans NX3
  have NY4 := (b3.block Y lY).trans NY
  have B3 : Hid (Below w.heap.size w w3) := B2u.out.trans (b3.mono (by omega))
  have zX : X < w3.heap.size := by have := b3.size; omega
  have zY : Y < w3.heap.size := by have := b3.size; omega
  have y3 : w.heap.size ≤ w3.heap.size := B3.out.size
  clear b3 NX3 NY B2u C2 hY lY lX2 z2 y2
  obtain ⟨⟨k0, k1, k2, k3, k4, k5, k6, k7, k8⟩, -, -⟩ := boxMc_at (q := m) NX4
  have nX : ¬ X = w3.heap.size := by omega
  go_wp2_with fail
  generalize hW : World.alloc w3 (.cells #[.int .i64 m.u.s, .int .i64 m.u.h, .int .i64 m.u.y, .int .i64 m.u.p, .int .i64 m.t.s, .int .i64 m.t.h, .int .i64 m.t.y, .int .i64 m.t.p, .int .i64 m.a] 29) = u3
  have bw : Below w3.heap.size w3 u3 := by rw [← hW]; exact Below.alloc (Below.refl _ _) (Nat.le_refl _) _
  have NZ : u3.heap[w3.heap.size]? = some (.cells #[.int .i64 m.u.s, .int .i64 m.u.h, .int .i64 m.u.y, .int .i64 m.u.p, .int .i64 m.t.s, .int .i64 m.t.h, .int .i64 m.t.y, .int .i64 m.t.p, .int .i64 m.a] 29 (0, 0)) := by rw [← hW]; exact heap_alloc_new _ _
  obtain ⟨Z, hZ⟩ : ∃ b, b = w3.heap.size := ⟨_, rfl⟩
  rw [← hZ] at NZ ⊢
  have lZ : Z < u3.heap.size := (Array.getElem?_eq_some_iff.1 NZ).1
  have QX := Lib.hid ((bw.block X zX).trans NX4)
  have QY := Lib.hid ((bw.block Y zY).trans NY4)
  have QZ := Lib.hid NZ
  have B3u : Hid (Below w.heap.size w u3) := B3.out.trans (bw.mono (by omega))
  have vX : X < u3.heap.size := by have := bw.size; omega
  have vY : Y < u3.heap.size := by have := bw.size; omega
  clear hW bw B3 NX4 NY4 NZ hZ nX k0 k1 k2 k3 k4 k5 k6 k7 k8
  refine (C3.out _).mono ?_
  rintro e w4 ⟨g1, rfl, o, b⟩
  have Bw4 : Hid (Below w.heap.size w w4) := B3u.out.trans (b.mono (by have := B3u.out.size; omega))
  have QXw4 := Lib.hid ((b.block X (by omega)).trans QX.out)
  have QYw4 := Lib.hid ((b.block Y (by omega)).trans QY.out)
  have QZw4 := Lib.hid ((b.block Z (by omega)).trans QZ.out)
  have sw4 := b.size
  have Og1 := Lib.hid o
  clear o b QX QY QZ B3u C3
  have QX := Lib.hid QXw4.out
  have QY := Lib.hid QYw4.out
  have QZ := Lib.hid QZw4.out
  clear QXw4 QYw4 QZw4
  obtain ⟨⟨k0, k1, k2, k3, k4, k5, k6, k7, k8⟩, -, -⟩ := boxMc_at (q := x) QY.out
  go_wp2_with fail
  clear k0 k1 k2 k3 k4 k5 k6 k7 k8
  refine (C4.out _).mono ?_
  rintro e w5 ⟨g2, rfl, o, b⟩
  have Bw5 : Hid (Below w.heap.size w w5) := Bw4.out.trans (b.mono (by have := Bw4.out.size; omega))
  have QXw5 := Lib.hid ((b.block X (by omega)).trans QX.out)
  have QYw5 := Lib.hid ((b.block Y (by omega)).trans QY.out)
  have QZw5 := Lib.hid ((b.block Z (by omega)).trans QZ.out)
  have sw5 := b.size
  have Og1w5 := Lib.hid (Og1.out.below b fun k e => (Og1.out.lt k e).2)
  have Og2 := Lib.hid o
  clear o b QX QY QZ Bw4 C4 Og1
  have QX := Lib.hid QXw5.out
  have QY := Lib.hid QYw5.out
  have QZ := Lib.hid QZw5.out
  have Og1 := Lib.hid Og1w5.out
  clear QXw5 QYw5 QZw5 Og1w5
  obtain ⟨⟨k0, k1, k2, k3, k4, k5, k6, k7, k8⟩, -, -⟩ := boxMc_at (q := m) QX.out
  go_wp2_with fail
  clear k0 k1 k2 k3 k4 k5 k6 k7 k8
  refine (C5.out _).mono ?_
  rintro e w6 ⟨t1, rfl, o, b⟩
  have Bw6 : Hid (Below w.heap.size w w6) := Bw5.out.trans (b.mono (by have := Bw5.out.size; omega))
  have QXw6 := Lib.hid ((b.block X (by omega)).trans QX.out)
  have QYw6 := Lib.hid ((b.block Y (by omega)).trans QY.out)
  have QZw6 := Lib.hid ((b.block Z (by omega)).trans QZ.out)
  have sw6 := b.size
  have Og1w6 := Lib.hid (Og1.out.below b fun k e => (Og1.out.lt k e).2)
  have Og2w6 := Lib.hid (Og2.out.below b fun k e => (Og2.out.lt k e).2)
  have Ot1 := Lib.hid o
  clear o b QX QY QZ Bw5 C5 Og1 Og2
  have QX := Lib.hid QXw6.out
  have QY := Lib.hid QYw6.out
  have QZ := Lib.hid QZw6.out
  have Og1 := Lib.hid Og1w6.out
  have Og2 := Lib.hid Og2w6.out
  clear QXw6 QYw6 QZw6 Og1w6 Og2w6
  obtain ⟨⟨k0, k1, k2, k3, k4, k5, k6, k7, k8⟩, -, -⟩ := boxMc_at (q := x) QY.out
  go_wp2_with fail
  clear k0 k1 k2 k3 k4 k5 k6 k7 k8
  refine (C6.out _).mono ?_
  rintro e w7 ⟨t2, rfl, o, b⟩
  have Bw7 : Hid (Below w.heap.size w w7) := Bw6.out.trans (b.mono (by have := Bw6.out.size; omega))
  have QXw7 := Lib.hid ((b.block X (by omega)).trans QX.out)
  have QYw7 := Lib.hid ((b.block Y (by omega)).trans QY.out)
  have QZw7 := Lib.hid ((b.block Z (by omega)).trans QZ.out)
  have sw7 := b.size
  have Og1w7 := Lib.hid (Og1.out.below b fun k e => (Og1.out.lt k e).2)
  have Og2w7 := Lib.hid (Og2.out.below b fun k e => (Og2.out.lt k e).2)
  have Ot1w7 := Lib.hid (Ot1.out.below b fun k e => (Ot1.out.lt k e).2)
  have Ot2 := Lib.hid o
  clear o b QX QY QZ Bw6 C6 Og1 Og2 Ot1
  have QX := Lib.hid QXw7.out
  have QY := Lib.hid QYw7.out
  have QZ := Lib.hid QZw7.out
  have Og1 := Lib.hid Og1w7.out
  have Og2 := Lib.hid Og2w7.out
  have Ot1 := Lib.hid Ot1w7.out
  clear QXw7 QYw7 QZw7 Og1w7 Og2w7 Ot1w7
  obtain ⟨ag1, pg1, cg1, rfl, dg10, dg11, dg12, dg13⟩ := list4 Og1.out
  obtain ⟨ag2, pg2, cg2, rfl, dg20, dg21, dg22, dg23⟩ := list4 Og2.out
  obtain ⟨at1, pt1, ct1, rfl, dt10, dt11, dt12, dt13⟩ := list4 Ot1.out
  obtain ⟨at2, pt2, ct2, rfl, dt20, dt21, dt22, dt23⟩ := list4 Ot2.out
  obtain ⟨⟨k0, k1, k2, k3, k4, k5, k6, k7, k8⟩, -, -⟩ := boxMc_at (q := m) QX.out
  obtain ⟨⟨j0, j1, j2, j3, j4, j5, j6, j7, j8⟩, -, -⟩ := boxMc_at (q := m) QZ.out
  clear QX QY QZ Og1 Og2 Ot1 Ot2
  go_wp2_with fail
  go_loopw [18] (fun i wr => ∃ k mm : Nat, k ≤ 4 ∧ i = .int .i64 (k : Int) ∧ wr = w7.drewN mm) (fun i _ => 4 - (intOf i).toNat)
  case atStart => exact ⟨0, 0, by omega, rfl, rfl⟩
  case round =>
    obtain ⟨k, mm, hk, rfl, rfl⟩ := hrel
    clear k0 k1 k2 k3 k4 k5 k6 k7 k8 j0 j1 j2 j3 j4 j5 j6 j7 j8
    by_cases hlt : k < 4
    · rcases (show k = 0 ∨ k = 1 ∨ k = 2 ∨ k = 3 by omega) with rfl | rfl | rfl | rfl
      · go_wp2
        go_quiet (fail)
        go_wp2
        exact ⟨⟨1, _, by omega, rfl, rfl⟩, by simp only [intOf]; omega⟩
      · go_wp2
        go_quiet (fail)
        go_wp2
        exact ⟨⟨2, _, by omega, rfl, rfl⟩, by simp only [intOf]; omega⟩
      · go_wp2
        go_quiet (fail)
        go_wp2
        exact ⟨⟨3, _, by omega, rfl, rfl⟩, by simp only [intOf]; omega⟩
      · go_wp2
        go_quiet (fail)
        go_wp2
        exact ⟨⟨4, _, by omega, rfl, rfl⟩, by simp only [intOf]; omega⟩
    · obtain rfl : k = 4 := by omega
      go_wp2
      go_ret
      exact ⟨rfl, Bw7.out.trans ⟨rfl, rfl, rfl, Nat.le_refl _, fun _ _ => rfl⟩⟩

theorem walkFnMirrored (w : World) (a0 : Option Addr) (l0 c0 : Nat) (z0 : List Int) (r0 : IsRow .u8 w a0 l0 c0 z0) (a1 : Option Addr) (l1 c1 : Nat) (z1 : List Int) (r1 : IsRow .u8 w a1 l1 c1 z1) :
    Calls Try.prog 12 #[.slice a0 l0 c0, .slice a1 l1 c1] w fun e w' => e = .returned (.bool true) ∧ Below w.heap.size w w' := by
  have m0 := r0.len_le
  have m1 := r1.len_le
  obtain ⟨R0, e0⟩ := r0.rdB
  by_cases h : (l0 : Int) ≤ 48 ∧ (l1 : Int) ≤ 48
  · exact mirrored_law w a0 a1 l0 l1 c0 c1 _ R0 (by omega) (by omega) (by omega)
  · clear R0 e0 r0 r1
    go_enter Try.func12, Try.ntmps12
    go_wp2_with fail
    refine (r8Long_any a0 a1 l0 l1 c0 c1 (by omega) (by omega) true ⟨(fun _ => h), (fun _ => rfl)⟩ w).mono ?_
    rintro e w' ⟨rfl, rfl⟩
    go_wp2
    go_ret
    exact ⟨rfl, Below.refl _ _⟩
end Go.Proofs.Ytjapgbeecabkfaa
