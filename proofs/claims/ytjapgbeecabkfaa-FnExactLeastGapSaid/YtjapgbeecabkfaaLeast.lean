/- LeastGap on both sides. -/
import Derived.Test.YtjapgbeecabkfaaVal
import Derived.Deep.RegionHeld3
namespace Go.Proofs.Ytjapgbeecabkfaa
open Go.ChangeShapes Go.WideShapes Go.ChangeAt Go.RowKit
set_option linter.unusedVariables false
set_option linter.unusedSimpArgs false

/-- x is the least, and k its first place. -/
def FirstLeast (zs : List Int) (k : Nat) (x : Int) : Prop := LeastOf zs x ∧ zs[k]? = some x ∧ ∀ j, j < k → zs[j]? ≠ some x

theorem first_idx (zs : List Int) (x : Int) (h : x ∈ zs) : ∃ k : Nat, zs[k]? = some x ∧ ∀ j : Nat, j < k → zs[j]? ≠ some x := by
  induction zs with
  | nil => simp at h
  | cons y ys ih =>
    by_cases e : y = x
    · subst e; exact ⟨0, rfl, fun j hj => by omega⟩
    · obtain ⟨k, h1, h2⟩ := ih (by simpa [Ne.symm e, eq_comm, e] using h)
      refine ⟨k + 1, by simpa using h1, fun j hj => ?_⟩
      cases j with
      | zero => simpa using e
      | succ j => simpa using h2 j (by omega)

theorem firstLeast_ex (zs : List Int) (x : Int) (h : LeastOf zs x) : ∃ k, FirstLeast zs k x := by
  obtain ⟨k, h1, h2⟩ := first_idx zs x h.1
  exact ⟨k, h, h1, h2⟩

set_option maxRecDepth 100000 in
set_option maxHeartbeats 4000000 in
theorem l04Least_any (g : Nat) (t : TypeId) (m : Mc) (h : NearM m) (k : Nat) (x : Int) (hx : FirstLeast (gapsM m) k x) (w : World) (hg : w.heap[g]? = some (.cells #[.int .i64 m.u.s, .int .i64 m.u.h, .int .i64 m.u.y, .int .i64 m.u.p, .int .i64 m.t.s, .int .i64 m.t.h, .int .i64 m.t.y, .int .i64 m.t.p, .int .i64 m.a] t (0, 0))) :
    Calls Try.prog 69 #[.pointer (some ⟨g, 0, none⟩)] w fun e w' => e = .returned (.int .i64 k) ∧ Below w.heap.size w w' := by
  have c1 := Lib.hid (l04Gaps_any g t m h w hg)
  have LG : Hid ((gapsM m).length = 4) := rfl
  obtain ⟨G, hG⟩ : ∃ G, G = gapsM m := ⟨_, rfl⟩
  rw [← hG] at c1 LG hx
  have HX := Lib.hid hx
  clear hx hG h hg
  go_enter Try.func69, Try.ntmps69
  go_wp2_with fail
  refine c1.out.mono ?_
  rintro e w1 ⟨v, rfl, o1, b1⟩
  have B1 := Lib.hid b1
  obtain ⟨ac, cc, rfl, hc⟩ := o1.rd
  obtain ⟨gb, go, rfl, hc2⟩ := hc.resolve_left (by intro e; have := LG.out; rw [e] at this; simp at this)
  have HC := Lib.hid hc2
  rw [LG.out]
  obtain ⟨y0, hy0⟩ : ∃ y, G[0]? = some y := ⟨_, List.getElem?_eq_getElem (by have := LG.out; omega)⟩
  have I0 : Hid (∃ y, G[0]? = some y ∧ (∀ j z, j < 1 → G[j]? = some z → y ≤ z) ∧ ∀ j z, j < 0 → G[j]? = some z → y < z) := by
    refine ⟨y0, hy0, fun j z hj hz => ?_, fun j z hj => by omega⟩
    obtain rfl : j = 0 := by omega
    rw [hy0] at hz; cases hz; omega
  clear b1 o1 hc hc2 c1 hy0
  go_wp2_with fail
  go_loopw [4, 5] (fun bs i wr => ∃ (k b mm : Nat), 1 ≤ k ∧ k ≤ 4 ∧ b < k ∧ bs = .int .i64 b ∧ i = .int .i64 k ∧ wr = w1.drewN mm ∧ Hid (∃ y, G[b]? = some y ∧ (∀ j z, j < k → G[j]? = some z → y ≤ z) ∧ ∀ j z, j < b → G[j]? = some z → y < z)) (fun _ i _ => 4 - (intOf i).toNat)
  case atStart => exact ⟨1, 0, 0, by omega, by omega, by omega, rfl, rfl, rfl, I0⟩
  case round =>
    obtain ⟨n, b, mm, n1, hn, hb, rfl, rfl, rfl, IK⟩ := hrel
    clear I0
    by_cases hlt : n < 4
    · obtain ⟨z, hz⟩ : ∃ z, G[n]? = some z := ⟨_, List.getElem?_eq_getElem (by have := LG.out; omega)⟩
      obtain ⟨y, hy, i1, i2⟩ := IK.out
      have d1 := HC.out n z hz
      have d2 := HC.out b y hy
      have lt : (n : Int) < 4 := by omega
      have bt : (b : Int) < 4 := by omega
      have bt' : b < 4 := by omega
      by_cases hzy : z < y
      · have IK' : Hid (∃ y, G[n]? = some y ∧ (∀ j z, j < n + 1 → G[j]? = some z → y ≤ z) ∧ ∀ j z, j < n → G[j]? = some z → y < z) := by
          refine ⟨z, hz, fun j u hj hu => ?_, fun j u hj hu => ?_⟩
          · by_cases e : j = n
            · subst e; rw [hz] at hu; cases hu; omega
            · have := i1 j u (by omega) hu; omega
          · have := i1 j u hj hu; omega
        clear hz hy i1 i2 IK
        go_wp2
        go_quiet (fail)
        go_wp2
        exact ⟨⟨n + 1, n, _, by omega, by omega, by omega, rfl, by go_num, rfl, IK'⟩, by simp only [intOf]; omega⟩
      · have IK' : Hid (∃ y, G[b]? = some y ∧ (∀ j z, j < n + 1 → G[j]? = some z → y ≤ z) ∧ ∀ j z, j < b → G[j]? = some z → y < z) := by
          refine ⟨y, hy, fun j u hj hu => ?_, i2⟩
          by_cases e : j = n
          · subst e; rw [hz] at hu; cases hu; omega
          · exact i1 j u (by omega) hu
        clear hz hy i1 i2 IK
        go_wp2
        go_quiet (fail)
        go_wp2
        exact ⟨⟨n + 1, b, _, by omega, by omega, by omega, rfl, by go_num, rfl, IK'⟩, by simp only [intOf]; omega⟩
    · obtain rfl : n = 4 := by omega
      obtain rfl : b = k := by
        obtain ⟨y, hy, i1, i2⟩ := IK.out
        obtain ⟨⟨x1, x2⟩, hk, hj⟩ := HX.out
        have l := LG.out
        have kl : k < 4 := by have := (List.getElem?_eq_some_iff.1 hk).1; omega
        have e1 : y ≤ x := i1 k x kl hk
        have e2 : x ≤ y := x2 y (List.mem_of_getElem? hy)
        have e : y = x := by omega
        subst e
        by_cases h1 : b < k
        · exact absurd hy (hj b h1)
        · by_cases h2 : k < b
          · have := i2 k y h2 hk; omega
          · omega
      clear IK HX
      go_wp2
      go_ret
      exact ⟨rfl, B1.out.trans ⟨rfl, rfl, rfl, Nat.le_refl _, fun _ _ => rfl⟩⟩

set_option maxHeartbeats 2000000 in
theorem specLeast_yes (m : Mc) (h : OkM m) (k : Nat) (x : Int) (hx : FirstLeast (gapsM m) k x) (w : World) :
    Calls Try.prog 31 #[(.agg #[.int .i64 m.u.s, .int .i64 m.u.h, .int .i64 m.u.y, .int .i64 m.u.p, .int .i64 m.t.s, .int .i64 m.t.h, .int .i64 m.t.y, .int .i64 m.t.p, .int .i64 m.a])] w fun e w' => e = .returned (.tuple #[.int .i64 x, .int .i64 k, .bool true]) ∧ Below w.heap.size w w' := by
  have c1 := Lib.hid (fun g t w hg => l04Is_any g t m true ⟨fun _ => h, fun _ => rfl⟩ w hg)
  have c2 := Lib.hid (fun g t w hg => l04Least_any g t m h.1 k x hx w hg)
  have c3 := Lib.hid (fun g t w hg => l04Gaps_any g t m h.1 w hg)
  have HX := Lib.hid hx
  have k4 : k < 4 := (List.getElem?_eq_some_iff.1 hx.2.1).1
  have k4' : (k : Int) < 4 := by omega
  have q1 : IntKind.i64.wrap (k : Int) = k := IntWalk.i64_in _ (by omega)
  clear h hx
  go_enter Try.func31, Try.ntmps31
  go_wp2_with fail
  refine (c1.out _ _ _ (heap_alloc_new w (.cells #[.int .i64 m.u.s, .int .i64 m.u.h, .int .i64 m.u.y, .int .i64 m.u.p, .int .i64 m.t.s, .int .i64 m.t.h, .int .i64 m.t.y, .int .i64 m.t.p, .int .i64 m.a] 29))).mono ?_
  rintro e w1 ⟨rfl, b1⟩
  have B1 : Hid (Below w.heap.size w w1) := Below.trans (by go_grown) (b1.mono (by simp))
  have N1 := Lib.hid ((b1.block w.heap.size (by simp)).trans (heap_alloc_new w (.cells #[.int .i64 m.u.s, .int .i64 m.u.h, .int .i64 m.u.y, .int .i64 m.u.p, .int .i64 m.t.s, .int .i64 m.t.h, .int .i64 m.t.y, .int .i64 m.t.p, .int .i64 m.a] 29)))
  have z1 : w.heap.size < w1.heap.size := by have := b1.size; simp only [World.size_alloc] at this; omega
  clear b1 c1
  go_wp2_with fail
  refine (c2.out _ _ _ N1.out).mono ?_
  rintro e w2 ⟨rfl, b2⟩
  have N2 := Lib.hid ((b2.block w.heap.size (by omega)).trans N1.out)
  have B2 := Lib.hid (B1.out.trans (b2.mono (by omega)))
  clear b2 c2 N1 B1
  go_wp2_with fail
  refine (c3.out _ _ _ N2.out).mono ?_
  rintro e w3 ⟨v, rfl, o3, b3⟩
  have B3 := Lib.hid (B2.out.trans (b3.mono B2.out.size))
  obtain ⟨ac, cc, rfl, hc⟩ := o3.rd
  obtain ⟨gb, go, rfl, hc2⟩ := hc.resolve_left (by simp [gapsM])
  have d1 := hc2 k x HX.out.2.1
  rw [show (gapsM m).length = 4 from rfl]
  clear b3 o3 hc hc2 c3 N2 B2 HX
  go_wp2
  go_returns
  exact ⟨rfl, B3.out⟩

set_option maxHeartbeats 2000000 in
theorem specLeast_no (m : Mc) (h : ¬ OkM m) (w : World) :
    Calls Try.prog 31 #[(.agg #[.int .i64 m.u.s, .int .i64 m.u.h, .int .i64 m.u.y, .int .i64 m.u.p, .int .i64 m.t.s, .int .i64 m.t.h, .int .i64 m.t.y, .int .i64 m.t.p, .int .i64 m.a])] w fun e w' => e = .returned (.tuple #[.int .i64 0, .int .i64 0, .bool false]) ∧ Below w.heap.size w w' := by
  have c1 := Lib.hid (fun g t w hg => l04Is_any g t m false ⟨fun e => (by cases e), fun e => absurd e h⟩ w hg)
  clear h
  go_enter Try.func31, Try.ntmps31
  go_wp2_with fail
  refine (c1.out _ _ _ (heap_alloc_new w (.cells #[.int .i64 m.u.s, .int .i64 m.u.h, .int .i64 m.u.y, .int .i64 m.u.p, .int .i64 m.t.s, .int .i64 m.t.h, .int .i64 m.t.y, .int .i64 m.t.p, .int .i64 m.a] 29))).mono ?_
  rintro e w1 ⟨rfl, b1⟩
  have B1 : Hid (Below w.heap.size w w1) := Below.trans (by go_grown) (b1.mono (by simp))
  clear b1
  go_wp2
  go_returns
  exact ⟨rfl, B1.out⟩

set_option maxHeartbeats 2000000 in
theorem implLeast_no (m : Mc) (h : ¬ OkM m) (w : World) :
    Calls Try.prog 32 #[(.agg #[.int .i64 m.u.s, .int .i64 m.u.h, .int .i64 m.u.y, .int .i64 m.u.p, .int .i64 m.t.s, .int .i64 m.t.h, .int .i64 m.t.y, .int .i64 m.t.p, .int .i64 m.a])] w fun e w' => e = .returned (.tuple #[.int .i64 0, .int .i64 0, .bool false]) ∧ Below w.heap.size w w' := by
  have c1 := Lib.hid (fun w => implValid_any m false ⟨fun e => (by cases e), fun e => absurd e h⟩ w)
  clear h
  go_enter Try.func32, Try.ntmps32
  go_wp2_with fail
  refine (c1.out _).mono ?_
  rintro e w1 ⟨rfl, b1⟩
  have B1 : Hid (Below w.heap.size w w1) := Below.trans (by go_grown) (b1.mono (by simp))
  clear b1
  go_wp2
  go_returns
  exact ⟨rfl, B1.out⟩

set_option maxHeartbeats 2000000 in
theorem implLeast_yes (m : Mc) (h : OkM m) (k : Nat) (x : Int) (hx : FirstLeast (gapsM m) k x) (w : World) :
    Calls Try.prog 32 #[(.agg #[.int .i64 m.u.s, .int .i64 m.u.h, .int .i64 m.u.y, .int .i64 m.u.p, .int .i64 m.t.s, .int .i64 m.t.h, .int .i64 m.t.y, .int .i64 m.t.p, .int .i64 m.a])] w fun e w' => e = .returned (.tuple #[.int .i64 x, .int .i64 k, .bool true]) ∧ Below w.heap.size w w' := by
  have c1 := Lib.hid (fun w => implValid_any m true ⟨fun _ => h, fun _ => rfl⟩ w)
  have c2 := Lib.hid (fun w => gaps_any m h.1 w)
  have c3 := Lib.hid (fun w => least_any (40 - sideM m) (40 - highM m) (40 + sideM m) (40 + highM m) x hx.1 w)
  have HX := Lib.hid hx
  have k4 : k < 4 := (List.getElem?_eq_some_iff.1 hx.2.1).1
  have q1 : IntKind.i64.wrap (k : Int) = k := IntWalk.i64_in _ (by omega)
  clear h hx
  go_enter Try.func32, Try.ntmps32
  go_wp2_with fail
  refine (c1.out _).mono ?_
  rintro e w1 ⟨rfl, b1⟩
  have B1 : Hid (Below w.heap.size w w1) := Below.trans (by go_grown) (b1.mono (by simp))
  obtain ⟨⟨k0, k1, k2, k3, k4, k5, k6, k7, k8⟩, -, -⟩ := boxMc_at (q := m) ((b1.block w.heap.size (by simp)).trans (heap_alloc_new w (.cells #[.int .i64 m.u.s, .int .i64 m.u.h, .int .i64 m.u.y, .int .i64 m.u.p, .int .i64 m.t.s, .int .i64 m.t.h, .int .i64 m.t.y, .int .i64 m.t.p, .int .i64 m.a] 29)))
  clear b1
  go_wp2_with fail
  refine (c2.out _).mono ?_
  rintro e w2 ⟨rfl, b2⟩
  have B2 := Lib.hid (B1.out.trans (b2.mono B1.out.size))
  clear b2 k0 k1 k2 k3 k4 k5 k6 k7 k8
  go_wp2_with fail
  refine (c3.out _).mono ?_
  rintro e w3 ⟨rfl, b3⟩
  have N3 := (b3.block w2.heap.size (by simp)).trans (heap_alloc_new w2 (.cells #[.int .i64 (40 - sideM m), .int .i64 (40 - highM m), .int .i64 (40 + sideM m), .int .i64 (40 + highM m)] 79))
  have B3 : Hid (Below w.heap.size w w3) := (B2.out.alloc B2.out.size _).trans (b3.mono (by have := B2.out.size; simp only [World.size_alloc]; omega))
  have R3 := Lib.hid (row4 N3)
  clear b3 N3
  go_wp2_with fail
  refine (index_any _ 4 4 _ _ rfl (by omega) R3.out x k HX.out.2.1 HX.out.2.2).mono ?_
  rintro e w4 ⟨rfl, rfl⟩
  go_wp2
  go_returns
  exact ⟨rfl, B3.out⟩

theorem exLeastGap (q : Mc) : ∃ (x k : Int) (b : Bool),
    Hid (∀ (w : World), (fun _ => True) w → Calls Try.prog 31 #[(.agg #[.int .i64 q.u.s, .int .i64 q.u.h, .int .i64 q.u.y, .int .i64 q.u.p, .int .i64 q.t.s, .int .i64 q.t.h, .int .i64 q.t.y, .int .i64 q.t.p, .int .i64 q.a])] w fun e w' => e = .returned (.tuple #[.int .i64 x, .int .i64 k, .bool b]) ∧ Below w.heap.size w w') ∧
    Hid (∀ (w : World), (fun _ => True) w → Calls Try.prog 32 #[(.agg #[.int .i64 q.u.s, .int .i64 q.u.h, .int .i64 q.u.y, .int .i64 q.u.p, .int .i64 q.t.s, .int .i64 q.t.h, .int .i64 q.t.y, .int .i64 q.t.p, .int .i64 q.a])] w fun e w' => e = .returned (.tuple #[.int .i64 x, .int .i64 k, .bool b]) ∧ Below w.heap.size w w') := by
  by_cases h : OkM q
  · obtain ⟨x, hx⟩ := least_ex (40 - sideM q) (40 - highM q) (40 + sideM q) (40 + highM q)
    obtain ⟨k, hk⟩ := firstLeast_ex _ x hx
    exact ⟨x, k, true, fun w _ => specLeast_yes q h k x hk w, fun w _ => implLeast_yes q h k x hk w⟩
  · exact ⟨0, 0, false, fun w _ => specLeast_no q h w, fun w _ => implLeast_no q h w⟩
end Go.Proofs.Ytjapgbeecabkfaa
