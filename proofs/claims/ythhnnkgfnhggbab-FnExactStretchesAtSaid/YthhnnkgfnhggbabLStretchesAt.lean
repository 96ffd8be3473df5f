/- The law of StretchesAt. -/
import Derived.Test.YthhnnkgfnhggbabStrX
import Derived.Test.YthhnnkgfnhggbabExKit
import Derived.Deep.RegionHeld3
namespace Go.Proofs.Ythhnnkgfnhggbab
open Go.ChangeShapes Go.WideShapes Go.ChangeAt Go.RowKit
set_option linter.unusedVariables false
set_option linter.unusedSimpArgs false

theorem strF_small {zs : List Int} {L : Int} {k : Nat} : ∀ t ∈ strF zs L k, t.length = 2 := by
  have h : ∀ k, ∀ t ∈ (strS zs L k).1, t.length = 2 := by
    intro k
    induction k with
    | zero => intro t h; simp [strS] at h
    | succ k ih =>
      intro t h
      rw [strS] at h
      split at h
      · exact ih t h
      · cases hs : (strS zs L k).2 with
        | none => rw [hs] at h; exact ih t h
        | some f =>
          rw [hs] at h
          rcases List.mem_append.1 h with h | h
          · exact ih t h
          · have : t = [(f : Int), (k : Int) - 1] := by simpa using h
            rw [this]; rfl
  intro t ht
  rw [strF] at ht
  cases hs : (strS zs L k).2 with
  | none => rw [hs] at ht; exact h k t ht
  | some f =>
    rw [hs] at ht
    rcases List.mem_append.1 ht with h' | h'
    · exact h k t h'
    · have : t = [(f : Int), (k : Int) - 1] := by simpa using h'
      rw [this]; rfl

theorem sumT_two (ys : List Sl) (h : ∀ x ∈ ys, x.t.length = 2) : sumT ys = 2 * ys.length := by
  induction ys with
  | nil => rfl
  | cons y ys ih =>
    have := ih fun x hx => h x (List.mem_cons_of_mem _ hx)
    have h1 := h y (List.mem_cons_self ..)
    unfold sumT at this ⊢
    simp only [List.map_cons, List.sum_cons, List.length_cons]
    omega

theorem exStretchesAt (zs : List Int) (L : Int) (lz : zs.length ≤ 1048576) : ∃ (R : List (List Int)) (r1 : Bool), (∀ ys : List Sl, ys.map Sl.t = R → ys.length ≤ 1000 ∧ sumT ys ≤ 100000 ∧ ∀ x ∈ ys, x.t.length ≤ 1000) ∧
    (Hid (∀ (w : World) (v0 : Value), True → RdI w v0 zs → Calls Try.prog 4 #[v0, .int .i64 L] w fun e w' => ∃ u0 us, e = .returned (.tuple #[u0, .bool r1]) ∧ OwnSS w' w.heap.size w'.heap.size u0 us ∧ us.map Sl.t = R ∧ Below w.heap.size w w')) ∧
    (Hid (∀ (w : World) (v0 : Value), True → RdI w v0 zs → Calls Try.prog 6 #[v0, .int .i64 L] w fun e w' => ∃ u0 us, e = .returned (.tuple #[u0, .bool r1]) ∧ OwnSS w' w.heap.size w'.heap.size u0 us ∧ us.map Sl.t = R ∧ Below w.heap.size w w')) := by
  by_cases hv : StrV zs L
  · refine ⟨strF zs L 24, true, fun ys hy => ?_, fun w v _ h => (specStr_yes v zs L w h (by omega) hv).mono ?_, fun w v _ h => (implStr_yes v zs L w h (by omega) hv).mono ?_⟩
    · have h2 : ∀ x ∈ ys, x.t.length = 2 := fun x hx => strF_small _ (by rw [← hy]; exact List.mem_map_of_mem hx)
      have l := strF_len rfl hy
      have := sumT_two ys h2
      exact ⟨by omega, by omega, fun x hx => by have := h2 x hx; omega⟩
    · rintro e w' ⟨v', xs, rfl, h1, h2, h3⟩
      exact ⟨v', xs, rfl, h1, h2, h3⟩
    · rintro e w' ⟨v', xs, rfl, h1, h2, h3⟩
      exact ⟨v', xs, rfl, h1, h2, h3⟩
  · refine ⟨[], false, fun ys hy => ?_, fun w v _ h => (specStr_no v zs L w h (by omega) hv).mono ?_, fun w v _ h => (implStr_no v zs L w h (by omega) hv).mono ?_⟩
    · have : ys = [] := by simpa using hy
      subst this
      exact ⟨by simp, by simp [sumT], by simp⟩
    · rintro e w' ⟨rfl, b⟩
      exact ⟨_, [], rfl, (OwnSS.nil w' _ w'.heap.size (Nat.le_refl _)), rfl, b⟩
    · rintro e w' ⟨rfl, b⟩
      exact ⟨_, [], rfl, (OwnSS.nil w' _ w'.heap.size (Nat.le_refl _)), rfl, b⟩

set_option maxRecDepth 100000 in
set_option maxHeartbeats 8000000 in
theorem stretchesAt_law (s0 : Option Addr) (p0 : Nat) (xs0 : List Int) (a1 : Int) (w : World) (T : World → Prop) (hT : ∀ w', Below w.heap.size w w' → T w') (hc0 : RdI w (.slice s0 xs0.length p0) xs0) (lz : xs0.length ≤ 1048576) (R : List (List Int)) (r1 : Bool) (ly0 : ∀ ys : List Sl, ys.map Sl.t = R → ys.length ≤ 1000 ∧ sumT ys ≤ 100000 ∧ ∀ x ∈ ys, x.t.length ≤ 1000)
    (c1 : Hid (∀ (w : World) (v0 : Value), T w → RdI w v0 xs0 → Calls Try.prog 4 #[v0, .int .i64 a1] w fun e w' => ∃ u0 us, e = .returned (.tuple #[u0, .bool r1]) ∧ OwnSS w' w.heap.size w'.heap.size u0 us ∧ us.map Sl.t = R ∧ Below w.heap.size w w'))
    (c2 : Hid (∀ (w : World) (v0 : Value), T w → RdI w v0 xs0 → Calls Try.prog 6 #[v0, .int .i64 a1] w fun e w' => ∃ u0 us, e = .returned (.tuple #[u0, .bool r1]) ∧ OwnSS w' w.heap.size w'.heap.size u0 us ∧ us.map Sl.t = R ∧ Below w.heap.size w w')) :
    Calls Try.prog 3 #[.slice s0 xs0.length p0, .int .i64 a1] w fun e w' => e = .returned (.bool true) ∧ Below w.heap.size w w' := by
  have HT := Lib.hid hT
  have H0 := Lib.hid hc0
  have LZ := Lib.hid lz
  have LY0 := Lib.hid ly0
  have g0 : ¬ ((1048576 : Int) < xs0.length) := by omega
  clear hT hc0 lz ly0
  go_enter Try.func3, Try.ntmps3
  go_wp2_with fail
  refine (toInts_any _ xs0 _ H0.out (by have := LZ.out; omega)).mono ?_
  rintro e w1 ⟨va0, rfl, o1, b1⟩
  have y1 : w.heap.size ≤ w1.heap.size := b1.size
  have E1 : Hid (Below w.heap.size w w1) := b1
  clear b1
  have Oa0_1 := Lib.hid o1
  have LRa0 := Lib.hid Oa0_1.out.lt
  clear o1
  go_wp2_with fail
  refine (c1.out _ _ (HT.out _ E1.out) ((Oa0_1.out).rd)).mono ?_
  rintro e w2 ⟨vw0, uw, rfl, ow0, mw, b2⟩
  have Mw := Lib.hid mw
  have Sw := Lib.hid (LY0.out _ mw)
  clear mw
  have z2 : w1.heap.size ≤ w2.heap.size := b2.size
  have y2 : w.heap.size ≤ w2.heap.size := by omega
  have E2 : Hid (Below w.heap.size w w2) := E1.out.trans (b2.mono (by omega))
  have Oa0_2 := Lib.hid (Oa0_1.out.later b2)
  clear b2 E1 Oa0_1
  have Ow0_2 := Lib.hid ow0
  clear ow0
  clear Oa0_2 LRa0
  go_wp2_with fail
  refine (toInts_any _ xs0 _ (H0.out.later E2.out) (by have := LZ.out; omega)).mono ?_
  rintro e w3 ⟨vx0, rfl, o3, b3⟩
  have z3 : w2.heap.size ≤ w3.heap.size := b3.size
  have y3 : w.heap.size ≤ w3.heap.size := by omega
  have E3 : Hid (Below w.heap.size w w3) := E2.out.trans (b3.mono (by omega))
  have Ow0_3 := Lib.hid (Ow0_2.out.later b3)
  clear b3 E2 Ow0_2
  have Ox0_3 := Lib.hid o3
  have LRx0 := Lib.hid Ox0_3.out.lt
  clear o3
  go_wp2_with fail
  refine (c2.out _ _ (HT.out _ E3.out) ((Ox0_3.out).rd)).mono ?_
  rintro e w4 ⟨vg0, ug, rfl, og0, mg, b4⟩
  have Mg := Lib.hid mg
  have Sg := Lib.hid (LY0.out _ mg)
  clear mg
  have z4 : w3.heap.size ≤ w4.heap.size := b4.size
  have y4 : w.heap.size ≤ w4.heap.size := by omega
  have E4 : Hid (Below w.heap.size w w4) := E3.out.trans (b4.mono (by omega))
  have Ow0_4 := Lib.hid (Ow0_3.out.later b4)
  have Ox0_4 := Lib.hid (Ox0_3.out.later b4)
  clear b4 E3 Ow0_3 Ox0_3
  have Og0_4 := Lib.hid og0
  clear og0
  go_wp2_with fail
  refine (eqIntSS_same _ _ ug uw _ ((Og0_4.out).rd) ((Ow0_4.out).rd) (by rw [Mg.out, Mw.out]) (by have := Sg.out.1; omega) (fun x hx => by have := Sg.out.2.2 x hx; omega)).mono ?_
  rintro e w5 ⟨rfl, b5⟩
  have z5 : w4.heap.size ≤ w5.heap.size := b5.size
  have y5 : w.heap.size ≤ w5.heap.size := by omega
  have E5 : Hid (Below w.heap.size w w5) := E4.out.trans (b5.mono (by omega))
  have Ow0_5 := Lib.hid (Ow0_4.out.later b5)
  have Ox0_5 := Lib.hid (Ox0_4.out.later b5)
  have Og0_5 := Lib.hid (Og0_4.out.later b5)
  clear b5 E4 Ow0_4 Ox0_4 Og0_4
  go_wp2_with fail
  refine (toInts_any _ xs0 _ (H0.out.later E5.out) (by have := LZ.out; omega)).mono ?_
  rintro e w6 ⟨vt0, rfl, o6, b6⟩
  have z6 : w5.heap.size ≤ w6.heap.size := b6.size
  have y6 : w.heap.size ≤ w6.heap.size := by omega
  have E6 : Hid (Below w.heap.size w w6) := E5.out.trans (b6.mono (by omega))
  have Ow0_6 := Lib.hid (Ow0_5.out.later b6)
  have Ox0_6 := Lib.hid (Ox0_5.out.later b6)
  have Og0_6 := Lib.hid (Og0_5.out.later b6)
  clear b6 E5 Ow0_5 Ox0_5 Og0_5
  have Ot0_6 := Lib.hid o6
  have LRt0 := Lib.hid Ot0_6.out.lt
  clear o6
  go_wp2_with fail
  refine (eqInt64S_same _ _ xs0 _ ((Ox0_6.out).rd) ((Ot0_6.out).rd) (by have := LZ.out; omega)).mono ?_
  rintro e w7 ⟨rfl, b7⟩
  have z7 : w6.heap.size ≤ w7.heap.size := b7.size
  have y7 : w.heap.size ≤ w7.heap.size := by omega
  have E7 : Hid (Below w.heap.size w w7) := E6.out.trans (b7.mono (by omega))
  have Ow0_7 := Lib.hid (Ow0_6.out.later b7)
  have Ox0_7 := Lib.hid (Ox0_6.out.later b7)
  have Og0_7 := Lib.hid (Og0_6.out.later b7)
  have Ot0_7 := Lib.hid (Ot0_6.out.later b7)
  clear b7 E6 Ow0_6 Ox0_6 Og0_6 Ot0_6
  clear Ot0_7 LRt0
  go_wp2_with fail
  refine (markInts_any _ xs0 _ _ Ox0_7.out (by have := LZ.out; omega) (1) (by omega) (by have := LZ.out; omega)).mono ?_
  rintro e w8 ⟨rfl, o8, g8_⟩
  have z8 : w7.heap.size ≤ w8.heap.size := g8_.size
  have y8 : w.heap.size ≤ w8.heap.size := by omega
  have E8 : Hid (Below w.heap.size w w8) := E7.out.grown g8_ (by omega) (fun c h => by have := LRx0.out c h; omega)
  have Ow0_8 := Lib.hid (Ow0_7.out.chg (ChgS.of_grown (B := w2.heap.size) (C := w3.heap.size) g8_ (fun c h => by have := LRx0.out c h; omega)) (by omega))
  have Og0_8 := Lib.hid (Og0_7.out.chg (ChgS.of_grown (B := w2.heap.size) (C := w3.heap.size) g8_ (fun c h => by have := LRx0.out c h; omega)) (by omega))
  clear g8_ E7 Ow0_7 Ox0_7 Og0_7
  have Ox0_8 := Lib.hid o8
  clear o8
  clear Ox0_8 LRx0
  have kneg : ¬ (1 + (xs0.length : Int) < 0) := by omega
  go_wp2_with fail
  refine (eqIntSS_same _ _ ug uw _ ((Og0_8.out).rd) ((Ow0_8.out).rd) (by rw [Mg.out, Mw.out]) (by have := Sg.out.1; omega) (fun x hx => by have := Sg.out.2.2 x hx; omega)).mono ?_
  rintro e w9 ⟨rfl, b9⟩
  have z9 : w8.heap.size ≤ w9.heap.size := b9.size
  have y9 : w.heap.size ≤ w9.heap.size := by omega
  have E9 : Hid (Below w.heap.size w w9) := E8.out.trans (b9.mono (by omega))
  have Ow0_9 := Lib.hid (Ow0_8.out.later b9)
  have Og0_9 := Lib.hid (Og0_8.out.later b9)
  clear b9 E8 Ow0_8 Og0_8
  clear kneg
  go_wp2_with fail
  refine (markIntSS_any _ ug _ _ _ Og0_9.out (by have := Sg.out.1; omega) (by have := Sg.out.2.1; omega) (1) (by omega) (by omega)).mono ?_
  rintro e w10 ⟨rfl, o10, g10_⟩
  have z10 : w9.heap.size ≤ w10.heap.size := g10_.size
  have y10 : w.heap.size ≤ w10.heap.size := by omega
  have E10 : Hid (Below w.heap.size w w10) := g10_.below E9.out (by omega) (by omega)
  have Ow0_10 := Lib.hid (Ow0_9.out.chg g10_ (by omega))
  clear g10_ E9 Ow0_9 Og0_9
  have Og0_10 := Lib.hid o10
  clear o10
  have mneg : ¬ (1 + ((sumT ug : Nat) : Int) < 0) := by omega
  go_wp2_with fail
  refine (heldIntSS_any _ ug _ 1 ((Og0_10.out).rd) (by have := Sg.out.1; omega) (by have := Sg.out.2.1; omega) (by omega) (by omega)).mono ?_
  rintro e w' ⟨rfl, rfl⟩
  go_wp2_with fail
  refine (toInts_any _ xs0 _ (H0.out.later E10.out) (by have := LZ.out; omega)).mono ?_
  rintro e w11 ⟨vb0, rfl, o11, b11⟩
  have z11 : w10.heap.size ≤ w11.heap.size := b11.size
  have y11 : w.heap.size ≤ w11.heap.size := by omega
  have E11 : Hid (Below w.heap.size w w11) := E10.out.trans (b11.mono (by omega))
  have Ow0_11 := Lib.hid (Ow0_10.out.later b11)
  have Og0_11 := Lib.hid (Og0_10.out.later b11)
  clear b11 E10 Ow0_10 Og0_10
  have Ob0_11 := Lib.hid o11
  have LRb0 := Lib.hid Ob0_11.out.lt
  clear o11
  go_wp2_with fail
  refine (c2.out _ _ (HT.out _ E11.out) ((Ob0_11.out).rd)).mono ?_
  rintro e w12 ⟨vh0, uh, rfl, oh0, mh, b12⟩
  have Mh := Lib.hid mh
  have Sh := Lib.hid (LY0.out _ mh)
  clear mh
  have z12 : w11.heap.size ≤ w12.heap.size := b12.size
  have y12 : w.heap.size ≤ w12.heap.size := by omega
  have E12 : Hid (Below w.heap.size w w12) := E11.out.trans (b12.mono (by omega))
  have Ow0_12 := Lib.hid (Ow0_11.out.later b12)
  have Og0_12 := Lib.hid (Og0_11.out.later b12)
  have Ob0_12 := Lib.hid (Ob0_11.out.later b12)
  clear b12 E11 Ow0_11 Og0_11 Ob0_11
  have Oh0_12 := Lib.hid oh0
  clear oh0
  clear Ob0_12 LRb0
  go_wp2_with fail
  refine (eqIntSS_same _ _ uh uw _ ((Oh0_12.out).rd) ((Ow0_12.out).rd) (by rw [Mh.out, Mw.out]) (by have := Sh.out.1; omega) (fun x hx => by have := Sh.out.2.2 x hx; omega)).mono ?_
  rintro e w13 ⟨rfl, b13⟩
  have z13 : w12.heap.size ≤ w13.heap.size := b13.size
  have y13 : w.heap.size ≤ w13.heap.size := by omega
  have E13 : Hid (Below w.heap.size w w13) := E12.out.trans (b13.mono (by omega))
  have Ow0_13 := Lib.hid (Ow0_12.out.later b13)
  have Og0_13 := Lib.hid (Og0_12.out.later b13)
  have Oh0_13 := Lib.hid (Oh0_12.out.later b13)
  clear b13 E12 Ow0_12 Og0_12 Oh0_12
  go_wp2_with fail
  refine (heldIntSS_any _ ug _ 1 ((Og0_13.out).rd) (by have := Sg.out.1; omega) (by have := Sg.out.2.1; omega) (by omega) (by omega)).mono ?_
  rintro e w' ⟨rfl, rfl⟩
  go_wp2
  go_ret
  exact ⟨rfl, E13.out⟩

set_option maxRecDepth 100000 in
theorem walkFnExactStretchesAt (w : World) (s0 : Option Addr) (len0 p0 : Nat) (z0 : List Int) (w0 : IsRow .i64 w s0 len0 p0 z0) (a1 : Int) (wa1 : (Lit.int .i64 a1).wf = true) :
    Calls Try.prog 3 #[.slice s0 len0 p0, .int .i64 a1] w fun e w' => e = .returned (.bool true) ∧ Below w.heap.size w w' := by
  have m0 := w0.len_le
  obtain ⟨hc0, hz0⟩ := w0.rd
  obtain ⟨xs0, hxs0⟩ : ∃ xs, xs = z0.take len0 := ⟨_, rfl⟩
  rw [← hxs0] at hc0 hz0
  clear hxs0 w0
  subst hz0
  by_cases lz : xs0.length ≤ 1048576
  · obtain ⟨R, r1, ly0, c1, c2⟩ := exStretchesAt xs0 a1 lz
    exact stretchesAt_law s0 p0 xs0 a1 w (fun _ => True) (fun _ _ => trivial) hc0 lz R r1 ly0 c1 c2
  · have hl' : (1048576 : Int) < xs0.length := by omega
    clear lz hc0
    go_enter Try.func3, Try.ntmps3
    go_wp2
    go_ret
    exact ⟨rfl, by go_grown⟩
end Go.Proofs.Ythhnnkgfnhggbab
