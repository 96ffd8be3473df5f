/- Works: pieces that are ready and wanted, on both sides. -/
import Derived.Test.YtmdddjhlfpmgdaaWorkT
namespace Go.Proofs.Ytmdddjhlfpmgdaa
open Go.ChangeShapes Go.WideShapes Go.ChangeAt Go.RowKit
set_option linter.unusedVariables false
set_option linter.unusedSimpArgs false

set_option maxHeartbeats 1000000 in
theorem l09Rounds_any (c u d : Int) (ok : OkTm c u) (hd : -400 ≤ d ∧ d ≤ 200) (w : World) :
    Calls Try.prog 48 #[.int .i64 c, .int .i64 u, .int .i64 d] w fun e w' => e = .returned (.int .i64 (rnd c u d)) ∧ w = w' := by
  obtain ⟨⟨c0, c1⟩, u0, u1⟩ := ok
  have bd := rnd_bd c0 u0 hd.2
  obtain ⟨R, hR⟩ : ∃ R, rnd c u d = R := ⟨_, rfl⟩
  rw [hR] at bd ⊢
  by_cases h : d < u
  · have e : R = 0 := by rw [← hR]; unfold rnd; rw [if_pos h]
    subst e
    clear hR
    go_enter Try.func48, Try.ntmps48
    go_wp2
    go_ret
    exact ⟨rfl, rfl⟩
  · have q1 : IntKind.i64.wrap (d - u) = d - u := IntWalk.i64_in _ (by omega)
    have q2 : IntKind.i64.wrap ((d - u).tdiv c) = R := by
      have e : (d - u).tdiv c = R := by rw [← hR]; unfold rnd; rw [if_neg h]
      rw [e]; exact IntWalk.i64_in _ (by omega)
    have z1 : (c == 0) = false := by simp; omega
    have z2 : ¬ c = 0 := by omega
    clear hR
    go_enter Try.func48, Try.ntmps48
    go_wp2
    go_ret
    exact ⟨rfl, rfl⟩

set_option maxHeartbeats 1000000 in
theorem readyBy_any (g : Wk) (ok : OkWk g) (d : Int) (hd : -400 ≤ d ∧ d ≤ 200) (w : World) :
    Calls Try.prog 50 #[(.agg #[.int .i64 g.m, .int .i64 g.c, .int .i64 g.u]), .int .i64 d] w fun e w' => e = .returned (.int .i64 (g.m * rnd g.c g.u d)) ∧ Below w.heap.size w w' := by
  obtain ⟨hm, ⟨c0, c1⟩, u0, u1⟩ := ok
  have bd := rnd_bd c0 u0 hd.2
  have bm := made_bd hm c0 u0 hd.2
  obtain ⟨R, hR⟩ : ∃ R, rnd g.c g.u d = R := ⟨_, rfl⟩
  rw [hR] at bd bm ⊢
  obtain ⟨M, hM⟩ : ∃ M, (if d - g.u < 0 then 0 else d - g.u) = M := ⟨_, rfl⟩
  have q1 : IntKind.i64.wrap (d - g.u) = d - g.u := IntWalk.i64_in _ (by omega)
  have q2 : IntKind.i64.wrap (M.tdiv g.c) = R := by
    have e : M.tdiv g.c = R := by rw [← hR, ← hM]; exact rnd_max _ _ _
    rw [e]; exact IntWalk.i64_in _ (by omega)
  have q3 : IntKind.i64.wrap (g.m * R) = g.m * R := IntWalk.i64_in _ (by omega)
  have z1 : (g.c == 0) = false := by simp; omega
  have z2 : ¬ g.c = 0 := by omega
  clear hR hm
  have G0 : Hid (Below w.heap.size w (w.alloc (.cells #[.int .i64 g.m, .int .i64 g.c, .int .i64 g.u] 32))) := by show Below _ _ _; go_grown
  have KS : Hid (∀ w', Below (w.heap.size + 1) (w.alloc (.cells #[.int .i64 g.m, .int .i64 g.c, .int .i64 g.u] 32)) w' → (w'.cell? ⟨w.heap.size, 0, none⟩ = some (.int .i64 g.m) ∧ w'.cell? ⟨w.heap.size, 1, none⟩ = some (.int .i64 g.c) ∧ w'.cell? ⟨w.heap.size, 2, none⟩ = some (.int .i64 g.u))) := by
    intro w' b
    obtain ⟨⟨a0, a1, a2⟩, -⟩ := boxWk_at ((b.block w.heap.size (by omega)).trans (heap_alloc_new w _))
    exact ⟨a0, a1, a2⟩
  go_enter Try.func50, Try.ntmps50
  go_wp2
  go_region_held3 (fun w' => (w'.cell? ⟨w.heap.size, 0, none⟩ = some (.int .i64 g.m) ∧ w'.cell? ⟨w.heap.size, 1, none⟩ = some (.int .i64 g.c) ∧ w'.cell? ⟨w.heap.size, 2, none⟩ = some (.int .i64 g.u)))
    (exact KS.out _ (Below.refl _ _).drew)
    (fail)
  all_goals
    try go_wp2
    go_ret
    exact ⟨rfl, below_drewN G0.out 1⟩

set_option maxRecDepth 100000 in
set_option maxHeartbeats 2000000 in
theorem wantedBy_any (v : Value) (xs : List Od) (w : World) (h : RdS 2 encOd w v xs) (ok : OkOs xs) (d : Int) (r : Int) (hr : wantTo xs d xs.length = r) :
    Calls Try.prog 54 #[v, .int .i64 d] w fun e w' => e = .returned (.int .i64 r) ∧ Below w.heap.size w w' := by
  have H := Lib.hid h
  obtain ⟨a, cap, rfl, _⟩ := h
  have OK := Lib.hid ok
  have HR := Lib.hid hr
  obtain ⟨m, hm⟩ : ∃ m, m = xs.length := ⟨_, rfl⟩
  have m8 : m ≤ 8 := by have := ok.1; omega
  rw [← hm] at H
  rw [← hm]
  have HM := Lib.hid hm
  clear hm ok hr
  go_enter Try.func54, Try.ntmps54
  go_wp2
  go_loopw [5, 10] (fun s i wr => ∃ (k : Nat) (S : Int), k ≤ m ∧ i = .int .i64 k ∧ s = .int .i64 S ∧ Hid (S = wantTo xs d k) ∧ Hid (Below w.heap.size w wr)) (fun _ i _ => m - (intOf i).toNat)
  case atStart => exact ⟨0, 0, by omega, rfl, rfl, rfl, Below.refl _ _⟩
  case round =>
    obtain ⟨k, S, hk, rfl, rfl, hS, B⟩ := hrel
    have hsz := B.out.size
    by_cases hlt : k < m
    · obtain ⟨c, hx⟩ : ∃ x, xs[k]? = some x := ⟨_, List.getElem?_eq_getElem (by have := HM.out; omega)⟩
      obtain ⟨ba, oa, rfl, e0, e1⟩ := (H.out.later B.out).at2o k c hx
      have okc := (OK.out.2.1 c (List.mem_of_getElem? hx)).2
      have bd := wantTo_bd OK.out.2.1 d k
      rw [← hS.out] at bd
      unfold PcsN at okc
      by_cases g : c.d ≤ d
      · have S1 : Hid (S + c.p = wantTo xs d (k + 1)) := by show _ = _; rw [wantTo_in hx g, hS.out]
        have q1 : IntKind.i64.wrap (S + c.p) = S + c.p := IntWalk.i64_in _ (by omega)
        clear hx
        go_wp2
        exact ⟨⟨k + 1, S + c.p, by omega, by go_num, rfl, S1, by first | exact B.out | exact B.out.alloc hsz _⟩, by simp only [intOf]; omega⟩
      · have S1 : Hid (S = wantTo xs d (k + 1)) := by show _ = _; rw [wantTo_out hx g, hS.out]
        clear hx
        go_wp2
        exact ⟨⟨k + 1, S, by omega, by go_num, rfl, S1, by first | exact B.out | exact B.out.alloc hsz _⟩, by simp only [intOf]; omega⟩
    · obtain rfl : k = m := by omega
      obtain rfl : S = r := by rw [hS.out, ← HR.out, HM.out]
      go_wp2
      go_ret
      exact ⟨rfl, B.out⟩

def ReadyV (g : Wk) (d : Int) : Prop := OkWk g ∧ DayN d
def ReadyRes (g : Wk) (d : Int) (r : Int) (b : Bool) : Prop := (ReadyV g d ∧ r = g.m * rnd g.c g.u d ∧ b = true) ∨ (¬ ReadyV g d ∧ r = 0 ∧ b = false)

/-- The box of works behind a call. -/
theorem boxWk_step {w w1 : World} {g : Wk} {t : TypeId} (b : Below (w.heap.size + 1) (w.alloc (.cells #[.int .i64 g.m, .int .i64 g.c, .int .i64 g.u] t)) w1) :
    Below w.heap.size w w1 ∧ w1.heap[w.heap.size]? = some (.cells #[.int .i64 g.m, .int .i64 g.c, .int .i64 g.u] t (0, 0)) ∧ w.heap.size + 1 ≤ w1.heap.size :=
  ⟨Below.trans (by go_grown) (b.mono (by omega)), (b.block w.heap.size (by omega)).trans (heap_alloc_new w _), by have := b.size; simp only [World.size_alloc] at this; omega⟩
theorem boxWk_next {w w1 w2 : World} {g : Wk} {t : TypeId} (B : Below w.heap.size w w1) (N : w1.heap[w.heap.size]? = some (.cells #[.int .i64 g.m, .int .i64 g.c, .int .i64 g.u] t (0, 0))) (z : w.heap.size + 1 ≤ w1.heap.size) (b : Below w1.heap.size w1 w2) :
    Below w.heap.size w w2 ∧ w2.heap[w.heap.size]? = some (.cells #[.int .i64 g.m, .int .i64 g.c, .int .i64 g.u] t (0, 0)) ∧ w.heap.size + 1 ≤ w2.heap.size :=
  ⟨B.trans (b.mono (by omega)), (b.block w.heap.size (by omega)).trans N, by have := b.size; omega⟩

set_option maxRecDepth 100000 in
set_option maxHeartbeats 2000000 in
theorem specReady_any (g : Wk) (d r : Int) (b : Bool) (h : ReadyRes g d r b) (w : World) :
    Calls Try.prog 19 #[(.agg #[.int .i64 g.m, .int .i64 g.c, .int .i64 g.u]), .int .i64 d] w fun e w' => e = .returned (.tuple #[.int .i64 r, .bool b]) ∧ Below w.heap.size w w' := by
  obtain ⟨b1, h1⟩ := bool_of (OkWk g)
  obtain ⟨b2, h2⟩ := bool_of (DayN d)
  have C1 := Lib.hid (fun w => l09Works_blw g b1 h1 w)
  have C2 := Lib.hid (fun w => l09Day_any d b2 h2 w)
  have H1 := Lib.hid h1
  have H2 := Lib.hid h2
  have H := Lib.hid h
  clear h1 h2 h
  go_enter Try.func19, Try.ntmps19
  go_wp2_with fail
  refine (C1.out _).mono ?_
  rintro e w1 ⟨rfl, c1⟩
  obtain ⟨B1, N1, z1⟩ := boxWk_step (by simpa using c1)
  have B1' := Lib.hid B1
  have N1' := Lib.hid N1
  obtain ⟨⟨a0, a1, a2⟩, -⟩ := boxWk_at N1
  clear c1 C1 B1 N1
  cases b1
  · obtain ⟨rfl, rfl⟩ : r = 0 ∧ b = false := by
      rcases H.out with k | k
      · have := H1.out.mpr k.1.1; simp at this
      · exact k.2
    go_wp2
    go_ret2
    exact ⟨rfl, B1'.out⟩
  go_wp2_with fail
  refine (C2.out _).mono ?_
  rintro e w2 ⟨rfl, rfl⟩
  cases b2
  · obtain ⟨rfl, rfl⟩ : r = 0 ∧ b = false := by
      rcases H.out with k | k
      · have := H2.out.mpr k.1.2; simp at this
      · exact k.2
    go_wp2
    go_ret2
    exact ⟨rfl, B1'.out⟩
  have ok := H1.out.mp (by trivial)
  have od := H2.out.mp (by trivial)
  obtain ⟨hr, rfl⟩ : r = g.m * rnd g.c g.u d ∧ b = true := by
    rcases H.out with k | k
    · exact k.2
    · exact absurd ⟨ok, od⟩ k.1
  have C3 := Lib.hid (fun w => l09Rounds_any g.c g.u d ok.2 ⟨by have := od.1; omega, od.2⟩ w)
  have bm := made_bd ok.1 ok.2.1.1 ok.2.2.1 od.2
  rw [← hr] at bm
  generalize rnd g.c g.u d = R at *
  have q3 : IntKind.i64.wrap (g.m * R) = r := by rw [← hr]; exact IntWalk.i64_in _ (by omega)
  have KS : Hid (∀ w', Below w1.heap.size w1 w' → (w'.cell? ⟨w.heap.size, 0, none⟩ = some (.int .i64 g.m) ∧ w'.cell? ⟨w.heap.size, 1, none⟩ = some (.int .i64 g.c) ∧ w'.cell? ⟨w.heap.size, 2, none⟩ = some (.int .i64 g.u))) := by
    intro w' b
    obtain ⟨⟨a0, a1, a2⟩, -⟩ := boxWk_at ((b.block w.heap.size (by omega)).trans N1'.out)
    exact ⟨a0, a1, a2⟩
  clear hr ok od H1 H2 H
  go_wp2_with fail
  go_region_held3 (fun w' => (w'.cell? ⟨w.heap.size, 0, none⟩ = some (.int .i64 g.m) ∧ w'.cell? ⟨w.heap.size, 1, none⟩ = some (.int .i64 g.c) ∧ w'.cell? ⟨w.heap.size, 2, none⟩ = some (.int .i64 g.u)))
    (exact KS.out _ (Below.refl _ _).drew)
    ((go_at_call 48; refine (C3.out _).mono ?_; rintro e w2 ⟨rfl, rfl⟩))
  all_goals
    try go_wp2
    go_ret2
    exact ⟨by first | rfl | rw [q3], below_drewN B1'.out _⟩

set_option maxRecDepth 100000 in
set_option maxHeartbeats 2000000 in
theorem implReady_any (g : Wk) (d r : Int) (b : Bool) (h : ReadyRes g d r b) (w : World) :
    Calls Try.prog 20 #[(.agg #[.int .i64 g.m, .int .i64 g.c, .int .i64 g.u]), .int .i64 d] w fun e w' => e = .returned (.tuple #[.int .i64 r, .bool b]) ∧ Below w.heap.size w w' := by
  obtain ⟨b1, h1⟩ := bool_of (OkWk g)
  obtain ⟨b2, h2⟩ := bool_of (DayN d)
  have C1 := Lib.hid (fun w => implWorks_blw g b1 h1 w)
  have C2 := Lib.hid (fun w => isDay_any d b2 h2 w)
  have H1 := Lib.hid h1
  have H2 := Lib.hid h2
  have H := Lib.hid h
  clear h1 h2 h
  go_enter Try.func20, Try.ntmps20
  go_wp2_with fail
  refine (C1.out _).mono ?_
  rintro e w1 ⟨rfl, c1⟩
  obtain ⟨B1, N1, z1⟩ := boxWk_step (by simpa using c1)
  have B1' := Lib.hid B1
  have N1' := Lib.hid N1
  obtain ⟨⟨a0, a1, a2⟩, -⟩ := boxWk_at N1
  clear c1 C1 B1 N1
  cases b1
  · obtain ⟨rfl, rfl⟩ : r = 0 ∧ b = false := by
      rcases H.out with k | k
      · have := H1.out.mpr k.1.1; simp at this
      · exact k.2
    go_wp2
    go_ret2
    exact ⟨rfl, B1'.out⟩
  go_wp2_with fail
  refine (C2.out _).mono ?_
  rintro e w2 ⟨rfl, rfl⟩
  cases b2
  · obtain ⟨rfl, rfl⟩ : r = 0 ∧ b = false := by
      rcases H.out with k | k
      · have := H2.out.mpr k.1.2; simp at this
      · exact k.2
    go_wp2
    go_ret2
    exact ⟨rfl, B1'.out⟩
  have ok := H1.out.mp (by trivial)
  have od := H2.out.mp (by trivial)
  obtain ⟨hr, rfl⟩ : r = g.m * rnd g.c g.u d ∧ b = true := by
    rcases H.out with k | k
    · exact k.2
    · exact absurd ⟨ok, od⟩ k.1
  have C3 := Lib.hid (fun w => readyBy_any g ok d ⟨by have := od.1; omega, od.2⟩ w)
  rw [← hr] at C3
  clear hr ok od H1 H2 H C2
  go_wp2_with fail
  refine (C3.out _).mono ?_
  rintro e w3 ⟨rfl, c3⟩
  have B3 : Hid (Below w.heap.size w w3) := B1'.out.trans (c3.mono (by omega))
  clear c3 a0 a1 a2
  go_wp2
  go_ret2
  exact ⟨rfl, B3.out⟩

theorem exReadyBy (g : Wk) (d : Int) : ∃ (r : Int) (b : Bool),
    Hid (∀ (w : World), (fun _ => True) w → Calls Try.prog 19 #[(.agg #[.int .i64 g.m, .int .i64 g.c, .int .i64 g.u]), .int .i64 d] w fun e w' => e = .returned (.tuple #[.int .i64 r, .bool b]) ∧ Below w.heap.size w w') ∧
    Hid (∀ (w : World), (fun _ => True) w → Calls Try.prog 20 #[(.agg #[.int .i64 g.m, .int .i64 g.c, .int .i64 g.u]), .int .i64 d] w fun e w' => e = .returned (.tuple #[.int .i64 r, .bool b]) ∧ Below w.heap.size w w') := by
  obtain ⟨r, b, h⟩ : ∃ r b, ReadyRes g d r b := by
    by_cases h : ReadyV g d
    · exact ⟨_, _, .inl ⟨h, rfl, rfl⟩⟩
    · exact ⟨_, _, .inr ⟨h, rfl, rfl⟩⟩
  exact ⟨r, b, fun w _ => specReady_any g d r b h w, fun w _ => implReady_any g d r b h w⟩
end Go.Proofs.Ytmdddjhlfpmgdaa
