/- The program's machines: which are valid. -/
import Derived.Test.YthhnnkgfnhggbabDoorImplM
namespace Go.Proofs.YthhnnkgfnhggbabDoor
open Go.ChangeShapes Go.WideShapes Go.ChangeAt Go.RowKit
set_option linter.unusedVariables false
set_option linter.unusedSimpArgs false

theorem row4 {w : World} {g : Nat} {t : TypeId} {a b c d : Int} (h : w.heap[g]? = some (.cells #[.int .i64 a, .int .i64 b, .int .i64 c, .int .i64 d] t (0, 0))) :
    RdI w (.slice (some ⟨g, 0, none⟩) 4 4) [a, b, c, d] := by
  refine ⟨_, _, rfl, .inr ⟨g, 0, rfl, ?_⟩⟩
  intro j x hx
  rw [Nat.zero_add]
  match j, hx with
  | 0, hx => cases hx; exact cell_of_row w g 0 _ t _ h
  | 1, hx => cases hx; exact cell_of_row w g 1 _ t _ h
  | 2, hx => cases hx; exact cell_of_row w g 2 _ t _ h
  | 3, hx => cases hx; exact cell_of_row w g 3 _ t _ h

set_option maxHeartbeats 2000000 in
theorem least_any (a b c d x : Int) (hx : LeastOf [a, b, c, d] x) (w : World) :
    Calls Tryd.prog 134 #[.agg #[.int .i64 a, .int .i64 b, .int .i64 c, .int .i64 d]] w fun e w' => e = .returned (.int .i64 x) ∧ Below w.heap.size w w' := by
  have HX := Lib.hid hx
  clear hx
  go_enter Tryd.func134, Tryd.ntmps134
  go_wp2_with fail
  refine (min_any _ 4 4 [a, b, c, d] _ rfl (by omega) (by omega) (row4 (heap_alloc_new w _)) x HX.out).mono ?_
  rintro e w' ⟨rfl, rfl⟩
  go_wp2
  go_ret
  exact ⟨rfl, by go_grown⟩

set_option maxHeartbeats 2000000 in
theorem greatest_any (a b c d x : Int) (hx : GreatestOf [a, b, c, d] x) (w : World) :
    Calls Tryd.prog 135 #[.agg #[.int .i64 a, .int .i64 b, .int .i64 c, .int .i64 d]] w fun e w' => e = .returned (.int .i64 x) ∧ Below w.heap.size w w' := by
  have HX := Lib.hid hx
  clear hx
  go_enter Tryd.func135, Tryd.ntmps135
  go_wp2_with fail
  refine (max_any _ 4 4 [a, b, c, d] _ rfl (by omega) (by omega) (row4 (heap_alloc_new w _)) x HX.out).mono ?_
  rintro e w' ⟨rfl, rfl⟩
  go_wp2
  go_ret
  exact ⟨rfl, by go_grown⟩


theorem least_ex (a b c d : Int) : ∃ x, LeastOf [a, b, c, d] x := by
  refine ⟨min (min a b) (min c d), ?_, ?_⟩
  · simp only [List.mem_cons, List.mem_nil_iff, or_false]; omega
  · simp only [List.mem_cons, List.mem_nil_iff, or_false]; omega
theorem greatest_ex (a b c d : Int) : ∃ x, GreatestOf [a, b, c, d] x := by
  refine ⟨max (max a b) (max c d), ?_, ?_⟩
  · simp only [List.mem_cons, List.mem_nil_iff, or_false]; omega
  · simp only [List.mem_cons, List.mem_nil_iff, or_false]; omega

theorem okM_iff (m : Mc) (h : NearM m) (x y z : Int) (hx : LeastOf (gapsM m) x) (hy : LeastOf (strokesM m) y) (hz : GreatestOf (strokesM m) z) : OkM m ↔ 0 ≤ x ∧ 0 ≤ y ∧ z ≤ 2400 := by
  constructor
  · rintro ⟨-, g, s⟩
    exact ⟨g x hx.1, (s y hy.1).1, (s z hz.1).2⟩
  · rintro ⟨h1, h2, h3⟩
    exact ⟨h, fun u hu => Int.le_trans h1 (hx.2 u hu), fun u hu => ⟨Int.le_trans h2 (hy.2 u hu), Int.le_trans (hz.2 u hu) h3⟩⟩

set_option maxHeartbeats 4000000 in
theorem implValid_any (m : Mc) (b : Bool) (hb : b = true ↔ OkM m) (w : World) :
    Calls Tryd.prog 86 #[(.agg #[.int .i64 m.u.s, .int .i64 m.u.h, .int .i64 m.u.y, .int .i64 m.u.p, .int .i64 m.t.s, .int .i64 m.t.h, .int .i64 m.t.y, .int .i64 m.t.p, .int .i64 m.a])] w fun e w' => e = .returned (.bool b) ∧ Below w.heap.size w w' := by
  by_cases h1 : OkP m.u
  · have c1 := Lib.hid (fun w => implPose_any m.u true ⟨fun _ => h1, fun _ => rfl⟩ w)
    by_cases h2 : OkP m.t
    · have c2 := Lib.hid (fun w => implPose_any m.t true ⟨fun _ => h2, fun _ => rfl⟩ w)
      by_cases h3 : 0 ≤ m.a ∧ m.a ≤ 2400
      · have hn : NearM m := ⟨h1, h2, h3.1, h3.2⟩
        obtain ⟨x, hx⟩ := least_ex (40 - sideM m) (40 - highM m) (40 + sideM m) (40 + highM m)
        obtain ⟨y, hy⟩ := least_ex (m.a - swingM m) (m.a - tiltM m) (m.a + swingM m) (m.a + tiltM m)
        obtain ⟨z, hz⟩ := greatest_ex (m.a - swingM m) (m.a - tiltM m) (m.a + swingM m) (m.a + tiltM m)
        have key := okM_iff m hn x y z hx hy hz
        have c3 := Lib.hid (fun w => within_any m.a 0 2400 true ⟨fun _ => h3, fun _ => rfl⟩ w)
        have c4 := Lib.hid (fun w => strokes_any m hn w)
        have c5 := Lib.hid (fun w => gaps_any m hn w)
        have c6 := Lib.hid (fun w => least_any _ _ _ _ x hx w)
        have c7 := Lib.hid (fun w => least_any _ _ _ _ y hy w)
        have c8 := Lib.hid (fun w => greatest_any _ _ _ _ z hz w)
        rw [key] at hb
        clear key hx hy hz h1 h2 h3 hn
        by_cases gx : 0 ≤ x
        · by_cases gy : 0 ≤ y
          · by_cases gz : z ≤ 2400
            · obtain rfl : b = true := hb.mpr ⟨gx, gy, gz⟩
              have dz : decide (z ≤ 2400) = true := by simpa using gz
              clear hb
              go_enter Tryd.func86, Tryd.ntmps86
              go_wp2_with fail
              refine (c1.out _).mono ?_
              rintro e w1 ⟨rfl, rfl⟩
              go_wp2_with fail
              refine (c2.out _).mono ?_
              rintro e w1 ⟨rfl, rfl⟩
              go_wp2_with fail
              refine (c3.out _).mono ?_
              rintro e w1 ⟨rfl, rfl⟩
              go_wp2_with fail
              refine (c4.out _).mono ?_
              rintro e w4 ⟨rfl, b4⟩
              have n4 := (b4.block w.heap.size (by simp only [World.size_alloc]; omega)).trans (((Below.heap_alloc _ _ _ (by simp only [World.size_alloc]; omega)).trans (Below.heap_alloc _ _ _ (by simp only [World.size_alloc]; omega))).trans (heap_alloc_new w (.cells #[.int .i64 m.u.s, .int .i64 m.u.h, .int .i64 m.u.y, .int .i64 m.u.p, .int .i64 m.t.s, .int .i64 m.t.h, .int .i64 m.t.y, .int .i64 m.t.p, .int .i64 m.a] 80)))
              have z4 : w.heap.size < w4.heap.size := by have := b4.size; simp only [World.size_alloc] at this; omega
              have B4 : Hid (Below w.heap.size w w4) := Below.trans (by go_grown) (b4.mono (by simp only [World.size_alloc]; omega))
              obtain ⟨⟨k0, k1, k2, k3, k4, k5, k6, k7, k8⟩, -, -⟩ := boxMc_at (q := m) n4
              have N4 := Lib.hid n4
              have y4 : ¬ w.heap.size = w4.heap.size := by omega
              clear b4 n4
              go_wp2_with fail
              refine (c5.out _).mono ?_
              rintro e w5 ⟨rfl, b5⟩
              have s5 := (b5.block w4.heap.size (by simp)).trans (heap_alloc_new w4 (.cells #[.int .i64 (m.a - swingM m), .int .i64 (m.a - tiltM m), .int .i64 (m.a + swingM m), .int .i64 (m.a + tiltM m)] 177))
              have z5 : w4.heap.size < w5.heap.size := by have := b5.size; simp only [World.size_alloc] at this; omega
              have B5 : Hid (Below w.heap.size w w5) := Below.trans (B4.out.alloc (by omega) _) (b5.mono (by simp only [World.size_alloc]; omega))
              have S5 := Lib.hid s5
              clear b5 s5 k0 k1 k2 k3 k4 k5 k6 k7 k8 B4 N4 y4
              go_wp2_with fail
              refine (c6.out _).mono ?_
              rintro e w6 ⟨rfl, b6⟩
              have B6 : Hid (Below w.heap.size w w6) := B5.out.trans (b6.mono (by omega))
              have s6 := (b6.block w4.heap.size z5).trans S5.out
              have z6 := b6.size
              have S6 := Lib.hid s6
              have j0 := cell_of_row w6 w4.heap.size 0 _ _ _ s6
              have j1 := cell_of_row w6 w4.heap.size 1 _ _ _ s6
              have j2 := cell_of_row w6 w4.heap.size 2 _ _ _ s6
              have j3 := cell_of_row w6 w4.heap.size 3 _ _ _ s6
              clear b6 s6 B5 S5
              go_wp2_with fail
              refine (c7.out _).mono ?_
              rintro e w7 ⟨rfl, b7⟩
              have B7 : Hid (Below w.heap.size w w7) := B6.out.trans (b7.mono (by omega))
              have s7 := (b7.block w4.heap.size (by omega)).trans S6.out
              have z7 := b7.size
              clear j0 j1 j2 j3
              have j0 := cell_of_row w7 w4.heap.size 0 _ _ _ s7
              have j1 := cell_of_row w7 w4.heap.size 1 _ _ _ s7
              have j2 := cell_of_row w7 w4.heap.size 2 _ _ _ s7
              have j3 := cell_of_row w7 w4.heap.size 3 _ _ _ s7
              clear b7 s7 B6 S6
              go_wp2_with fail
              refine (c8.out _).mono ?_
              rintro e w8 ⟨rfl, b8⟩
              have B8 : Hid (Below w.heap.size w w8) := B7.out.trans (b8.mono (by omega))
              clear b8 B7
              go_wp2
              go_ret
              exact ⟨rfl, B8.out⟩
            · obtain rfl : b = false := b_false hb fun h => gz h.2.2
              have dz : decide (z ≤ 2400) = false := by simpa using gz
              clear hb
              go_enter Tryd.func86, Tryd.ntmps86
              go_wp2_with fail
              refine (c1.out _).mono ?_
              rintro e w1 ⟨rfl, rfl⟩
              go_wp2_with fail
              refine (c2.out _).mono ?_
              rintro e w1 ⟨rfl, rfl⟩
              go_wp2_with fail
              refine (c3.out _).mono ?_
              rintro e w1 ⟨rfl, rfl⟩
              go_wp2_with fail
              refine (c4.out _).mono ?_
              rintro e w4 ⟨rfl, b4⟩
              have n4 := (b4.block w.heap.size (by simp only [World.size_alloc]; omega)).trans (((Below.heap_alloc _ _ _ (by simp only [World.size_alloc]; omega)).trans (Below.heap_alloc _ _ _ (by simp only [World.size_alloc]; omega))).trans (heap_alloc_new w (.cells #[.int .i64 m.u.s, .int .i64 m.u.h, .int .i64 m.u.y, .int .i64 m.u.p, .int .i64 m.t.s, .int .i64 m.t.h, .int .i64 m.t.y, .int .i64 m.t.p, .int .i64 m.a] 80)))
              have z4 : w.heap.size < w4.heap.size := by have := b4.size; simp only [World.size_alloc] at this; omega
              have B4 : Hid (Below w.heap.size w w4) := Below.trans (by go_grown) (b4.mono (by simp only [World.size_alloc]; omega))
              obtain ⟨⟨k0, k1, k2, k3, k4, k5, k6, k7, k8⟩, -, -⟩ := boxMc_at (q := m) n4
              have N4 := Lib.hid n4
              have y4 : ¬ w.heap.size = w4.heap.size := by omega
              clear b4 n4
              go_wp2_with fail
              refine (c5.out _).mono ?_
              rintro e w5 ⟨rfl, b5⟩
              have s5 := (b5.block w4.heap.size (by simp)).trans (heap_alloc_new w4 (.cells #[.int .i64 (m.a - swingM m), .int .i64 (m.a - tiltM m), .int .i64 (m.a + swingM m), .int .i64 (m.a + tiltM m)] 177))
              have z5 : w4.heap.size < w5.heap.size := by have := b5.size; simp only [World.size_alloc] at this; omega
              have B5 : Hid (Below w.heap.size w w5) := Below.trans (B4.out.alloc (by omega) _) (b5.mono (by simp only [World.size_alloc]; omega))
              have S5 := Lib.hid s5
              clear b5 s5 k0 k1 k2 k3 k4 k5 k6 k7 k8 B4 N4 y4
              go_wp2_with fail
              refine (c6.out _).mono ?_
              rintro e w6 ⟨rfl, b6⟩
              have B6 : Hid (Below w.heap.size w w6) := B5.out.trans (b6.mono (by omega))
              have s6 := (b6.block w4.heap.size z5).trans S5.out
              have z6 := b6.size
              have S6 := Lib.hid s6
              have j0 := cell_of_row w6 w4.heap.size 0 _ _ _ s6
              have j1 := cell_of_row w6 w4.heap.size 1 _ _ _ s6
              have j2 := cell_of_row w6 w4.heap.size 2 _ _ _ s6
              have j3 := cell_of_row w6 w4.heap.size 3 _ _ _ s6
              clear b6 s6 B5 S5
              go_wp2_with fail
              refine (c7.out _).mono ?_
              rintro e w7 ⟨rfl, b7⟩
              have B7 : Hid (Below w.heap.size w w7) := B6.out.trans (b7.mono (by omega))
              have s7 := (b7.block w4.heap.size (by omega)).trans S6.out
              have z7 := b7.size
              clear j0 j1 j2 j3
              have j0 := cell_of_row w7 w4.heap.size 0 _ _ _ s7
              have j1 := cell_of_row w7 w4.heap.size 1 _ _ _ s7
              have j2 := cell_of_row w7 w4.heap.size 2 _ _ _ s7
              have j3 := cell_of_row w7 w4.heap.size 3 _ _ _ s7
              clear b7 s7 B6 S6
              go_wp2_with fail
              refine (c8.out _).mono ?_
              rintro e w8 ⟨rfl, b8⟩
              have B8 : Hid (Below w.heap.size w w8) := B7.out.trans (b8.mono (by omega))
              clear b8 B7
              go_wp2
              go_ret
              exact ⟨rfl, B8.out⟩
          · obtain rfl : b = false := b_false hb fun h => gy h.2.1
            clear hb
            go_enter Tryd.func86, Tryd.ntmps86
            go_wp2_with fail
            refine (c1.out _).mono ?_
            rintro e w1 ⟨rfl, rfl⟩
            go_wp2_with fail
            refine (c2.out _).mono ?_
            rintro e w1 ⟨rfl, rfl⟩
            go_wp2_with fail
            refine (c3.out _).mono ?_
            rintro e w1 ⟨rfl, rfl⟩
            go_wp2_with fail
            refine (c4.out _).mono ?_
            rintro e w4 ⟨rfl, b4⟩
            have n4 := (b4.block w.heap.size (by simp only [World.size_alloc]; omega)).trans (((Below.heap_alloc _ _ _ (by simp only [World.size_alloc]; omega)).trans (Below.heap_alloc _ _ _ (by simp only [World.size_alloc]; omega))).trans (heap_alloc_new w (.cells #[.int .i64 m.u.s, .int .i64 m.u.h, .int .i64 m.u.y, .int .i64 m.u.p, .int .i64 m.t.s, .int .i64 m.t.h, .int .i64 m.t.y, .int .i64 m.t.p, .int .i64 m.a] 80)))
            have z4 : w.heap.size < w4.heap.size := by have := b4.size; simp only [World.size_alloc] at this; omega
            have B4 : Hid (Below w.heap.size w w4) := Below.trans (by go_grown) (b4.mono (by simp only [World.size_alloc]; omega))
            obtain ⟨⟨k0, k1, k2, k3, k4, k5, k6, k7, k8⟩, -, -⟩ := boxMc_at (q := m) n4
            have N4 := Lib.hid n4
            have y4 : ¬ w.heap.size = w4.heap.size := by omega
            clear b4 n4
            go_wp2_with fail
            refine (c5.out _).mono ?_
            rintro e w5 ⟨rfl, b5⟩
            have s5 := (b5.block w4.heap.size (by simp)).trans (heap_alloc_new w4 (.cells #[.int .i64 (m.a - swingM m), .int .i64 (m.a - tiltM m), .int .i64 (m.a + swingM m), .int .i64 (m.a + tiltM m)] 177))
            have z5 : w4.heap.size < w5.heap.size := by have := b5.size; simp only [World.size_alloc] at this; omega
            have B5 : Hid (Below w.heap.size w w5) := Below.trans (B4.out.alloc (by omega) _) (b5.mono (by simp only [World.size_alloc]; omega))
            have S5 := Lib.hid s5
            clear b5 s5 k0 k1 k2 k3 k4 k5 k6 k7 k8 B4 N4 y4
            go_wp2_with fail
            refine (c6.out _).mono ?_
            rintro e w6 ⟨rfl, b6⟩
            have B6 : Hid (Below w.heap.size w w6) := B5.out.trans (b6.mono (by omega))
            have s6 := (b6.block w4.heap.size z5).trans S5.out
            have z6 := b6.size
            have S6 := Lib.hid s6
            have j0 := cell_of_row w6 w4.heap.size 0 _ _ _ s6
            have j1 := cell_of_row w6 w4.heap.size 1 _ _ _ s6
            have j2 := cell_of_row w6 w4.heap.size 2 _ _ _ s6
            have j3 := cell_of_row w6 w4.heap.size 3 _ _ _ s6
            clear b6 s6 B5 S5
            go_wp2_with fail
            refine (c7.out _).mono ?_
            rintro e w7 ⟨rfl, b7⟩
            have B7 : Hid (Below w.heap.size w w7) := B6.out.trans (b7.mono (by omega))
            clear b7 B6 S6
            go_wp2
            go_ret
            exact ⟨rfl, B7.out⟩
        · obtain rfl : b = false := b_false hb fun h => gx h.1
          clear hb
          go_enter Tryd.func86, Tryd.ntmps86
          go_wp2_with fail
          refine (c1.out _).mono ?_
          rintro e w1 ⟨rfl, rfl⟩
          go_wp2_with fail
          refine (c2.out _).mono ?_
          rintro e w1 ⟨rfl, rfl⟩
          go_wp2_with fail
          refine (c3.out _).mono ?_
          rintro e w1 ⟨rfl, rfl⟩
          go_wp2_with fail
          refine (c4.out _).mono ?_
          rintro e w4 ⟨rfl, b4⟩
          have n4 := (b4.block w.heap.size (by simp only [World.size_alloc]; omega)).trans (((Below.heap_alloc _ _ _ (by simp only [World.size_alloc]; omega)).trans (Below.heap_alloc _ _ _ (by simp only [World.size_alloc]; omega))).trans (heap_alloc_new w (.cells #[.int .i64 m.u.s, .int .i64 m.u.h, .int .i64 m.u.y, .int .i64 m.u.p, .int .i64 m.t.s, .int .i64 m.t.h, .int .i64 m.t.y, .int .i64 m.t.p, .int .i64 m.a] 80)))
          have z4 : w.heap.size < w4.heap.size := by have := b4.size; simp only [World.size_alloc] at this; omega
          have B4 : Hid (Below w.heap.size w w4) := Below.trans (by go_grown) (b4.mono (by simp only [World.size_alloc]; omega))
          obtain ⟨⟨k0, k1, k2, k3, k4, k5, k6, k7, k8⟩, -, -⟩ := boxMc_at (q := m) n4
          have N4 := Lib.hid n4
          have y4 : ¬ w.heap.size = w4.heap.size := by omega
          clear b4 n4
          go_wp2_with fail
          refine (c5.out _).mono ?_
          rintro e w5 ⟨rfl, b5⟩
          have s5 := (b5.block w4.heap.size (by simp)).trans (heap_alloc_new w4 (.cells #[.int .i64 (m.a - swingM m), .int .i64 (m.a - tiltM m), .int .i64 (m.a + swingM m), .int .i64 (m.a + tiltM m)] 177))
          have z5 : w4.heap.size < w5.heap.size := by have := b5.size; simp only [World.size_alloc] at this; omega
          have B5 : Hid (Below w.heap.size w w5) := Below.trans (B4.out.alloc (by omega) _) (b5.mono (by simp only [World.size_alloc]; omega))
          have S5 := Lib.hid s5
          clear b5 s5 k0 k1 k2 k3 k4 k5 k6 k7 k8 B4 N4 y4
          go_wp2_with fail
          refine (c6.out _).mono ?_
          rintro e w6 ⟨rfl, b6⟩
          have B6 : Hid (Below w.heap.size w w6) := B5.out.trans (b6.mono (by omega))
          clear b6 B5 S5
          go_wp2
          go_ret
          exact ⟨rfl, B6.out⟩
      · obtain rfl : b = false := b_false hb fun h => h3 h.1.2.2
        have c3 := Lib.hid (fun w => within_any m.a 0 2400 false ⟨fun h => (by cases h), fun h => absurd h h3⟩ w)
        clear hb h1 h2 h3
        go_enter Tryd.func86, Tryd.ntmps86
        go_wp2_with fail
        refine (c1.out _).mono ?_
        rintro e w1 ⟨rfl, rfl⟩
        go_wp2_with fail
        refine (c2.out _).mono ?_
        rintro e w1 ⟨rfl, rfl⟩
        go_wp2_with fail
        refine (c3.out _).mono ?_
        rintro e w1 ⟨rfl, rfl⟩
        go_wp2
        go_ret
        exact ⟨rfl, by go_grown⟩
    · obtain rfl : b = false := b_false hb fun h => h2 h.1.2.1
      have c2 := Lib.hid (fun w => implPose_any m.t false ⟨fun h => (by cases h), fun h => absurd h h2⟩ w)
      clear hb h1 h2
      go_enter Tryd.func86, Tryd.ntmps86
      go_wp2_with fail
      refine (c1.out _).mono ?_
      rintro e w1 ⟨rfl, rfl⟩
      go_wp2_with fail
      refine (c2.out _).mono ?_
      rintro e w1 ⟨rfl, rfl⟩
      go_wp2
      go_ret
      exact ⟨rfl, by go_grown⟩
  · obtain rfl : b = false := b_false hb fun h => h1 h.1.1
    have c1 := Lib.hid (fun w => implPose_any m.u false ⟨fun h => (by cases h), fun h => absurd h h1⟩ w)
    clear hb h1
    go_enter Tryd.func86, Tryd.ntmps86
    go_wp2_with fail
    refine (c1.out _).mono ?_
    rintro e w1 ⟨rfl, rfl⟩
    go_wp2
    go_ret
    exact ⟨rfl, by go_grown⟩
end Go.Proofs.YthhnnkgfnhggbabDoor
