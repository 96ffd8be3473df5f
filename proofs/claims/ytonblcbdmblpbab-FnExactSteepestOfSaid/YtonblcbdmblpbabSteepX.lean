/- SteepestOf on both sides. (Written by tools/mksteep.py.) -/
import Derived.Test.YtonblcbdmblpbabSettM
namespace Go.Proofs.Ytonblcbdmblpbab
open Go.ChangeShapes Go.WideShapes Go.ChangeAt Go.RowKit
set_option linter.unusedVariables false
set_option linter.unusedSimpArgs false

set_option maxRecDepth 100000 in
set_option maxHeartbeats 4000000 in
theorem specSteep_any (v : Value) (zs : List Int) (w : World) (h : RdI w v zs) (lz : zs.length ≤ 1099511627776) (p d : Int) (b : Bool) (hr : SteepRes zs p d b) :
    Calls Try.prog 41 #[v] w fun e w' => e = .returned (.tuple #[.int .i64 p, .int .i64 d, .bool b]) ∧ Below w.heap.size w w' := by
  have C := Lib.hid (l07Settled_any v zs w h lz b (by
    rcases hr with ⟨n, ok, rfl, st, rfl⟩ | ⟨no, rfl, rfl, rfl⟩
    · simpa using ok
    · simpa using no))
  obtain ⟨a, cap, rfl, ra⟩ := h
  rcases hr with ⟨m, ok, rfl, st, rfl⟩ | ⟨no, rfl, rfl, rfl⟩
  · have OK := Lib.hid ok
    have ST := Lib.hid st
    have e := ok.1
    rw [e] at C ⊢
    have RA := Lib.hid ra
    clear ra ok lz e st
    go_enter Try.func41, Try.ntmps41
    go_wp2_with fail
    refine C.out.mono ?_
    rintro e w1 ⟨rfl, rfl⟩
    go_wp2
    go_loopw [5, 6, 7, 8] (fun p d i _ wr => ∃ k : Nat, k ≤ 23 ∧ Hid (Below w.heap.size w wr) ∧ i = .int .i64 k ∧ ((k = 0 ∧ p = .int .i64 0 ∧ d = .int .i64 (-1)) ∨ ∃ (n : Nat) (e : Int), p = .int .i64 n ∧ d = .int .i64 e ∧ Hid (Steep zs k n e))) (fun _ _ i _ _ => 23 - (intOf i).toNat)
    case atStart => exact ⟨0, by omega, Below.refl _ _, rfl, .inl ⟨rfl, rfl, rfl⟩⟩
    case round =>

      obtain ⟨k, hk, B, rfl, hst⟩ := hrel
      by_cases hlt : k < 23
      · have hsz := B.out.size
        have lt24 : (k : Int) + 1 < 24 := by omega
        obtain ⟨x, hx⟩ : ∃ x, zs[k]? = some x := ⟨_, List.getElem?_eq_getElem (by have := OK.out.1; omega)⟩
        obtain ⟨y, hy⟩ : ∃ y, zs[k + 1]? = some y := ⟨_, List.getElem?_eq_getElem (by have := OK.out.1; omega)⟩
        obtain ⟨ba, oa, rfl, ca'⟩ := RA.out.resolve_left (by intro h; have := OK.out.1; rw [h] at this; simp at this)
        have la : ba < w.heap.size := World.block_lt_of_cell? w _ (ca' k x hx)
        have c1 := (B.out.cell (p := ⟨ba, oa + k, none⟩) la).trans (ca' k x hx)
        have c2 := (B.out.cell (p := ⟨ba, oa + (k + 1), none⟩) la).trans (ca' (k + 1) y hy)
        have bx := OK.out.2.at hx
        have by_ := OK.out.2.at hy
        obtain ⟨D, hD⟩ : ∃ D, D = difN zs k := ⟨_, rfl⟩
        have C2 := Lib.hid (fun w => l03Abs_any (x - y) D (by omega) (by rw [hD, difN_of hx hy]) w)
        have D0 : 0 ≤ D := by rw [hD]; exact difN_nonneg zs k
        have HD := Lib.hid hD
        have q1 : IntKind.i64.wrap (x - y) = x - y := IntWalk.i64_in _ (by omega)
        clear ca' hx hy hD bx by_ la
        rcases hst with ⟨k0, rfl, rfl⟩ | ⟨n, e, rfl, rfl, hs⟩
        · have S1 : Hid (Steep zs (k + 1) k D) := by subst k0; show Steep _ _ _ _; rw [HD.out]; exact steep_one zs
          have g : -1 < D := by omega
          clear HD k0
          go_wp2
          go_quiet ((go_at_call 68; exact (C2.out _).mono fun _ _ h => ⟨h.1, ⟨_, h.2.symm⟩⟩))
          go_wp2
          exact ⟨⟨k + 1, by omega, below_drewN B.out _, by go_num, .inr ⟨k, D, rfl, rfl, S1⟩⟩, by simp only [intOf]; omega⟩
        · by_cases g : e < D
          · have S1 : Hid (Steep zs (k + 1) k D) := by have := hs.out.more (by rw [← HD.out]; exact g); rwa [← HD.out] at this
            clear HD hs
            go_wp2
            go_quiet ((go_at_call 68; exact (C2.out _).mono fun _ _ h => ⟨h.1, ⟨_, h.2.symm⟩⟩))
            go_wp2
            exact ⟨⟨k + 1, by omega, below_drewN B.out _, by go_num, .inr ⟨k, D, rfl, rfl, S1⟩⟩, by simp only [intOf]; omega⟩
          · have S1 : Hid (Steep zs (k + 1) n e) := hs.out.same (by rw [← HD.out]; omega)
            clear HD hs
            go_wp2
            go_quiet ((go_at_call 68; exact (C2.out _).mono fun _ _ h => ⟨h.1, ⟨_, h.2.symm⟩⟩))
            go_wp2
            exact ⟨⟨k + 1, by omega, below_drewN B.out _, by go_num, .inr ⟨n, e, rfl, rfl, S1⟩⟩, by simp only [intOf]; omega⟩
      · obtain rfl : k = 23 := by omega
        rcases hst with ⟨h, -, -⟩ | ⟨n, e, rfl, rfl, hs⟩
        · exact absurd h (by omega)
        · obtain ⟨e1, e2⟩ := ST.out.uniq hs.out
          have E1 := Lib.hid e1
          have E2 := Lib.hid e2
          clear e1 e2
          go_wp2
          go_ret3
          exact ⟨by rw [E1.out, E2.out]; rfl, B.out⟩
  · generalize zs.length = m at *
    clear no ra lz
    go_enter Try.func41, Try.ntmps41
    go_wp2_with fail
    refine C.out.mono ?_
    rintro e w1 ⟨rfl, rfl⟩
    go_wp2
    go_ret3
    exact ⟨rfl, Below.refl _ _⟩

set_option maxRecDepth 100000 in
set_option maxHeartbeats 4000000 in
theorem implSteep_any (v : Value) (zs : List Int) (w : World) (h : RdI w v zs) (lz : zs.length ≤ 1099511627776) (p d : Int) (b : Bool) (hr : SteepRes zs p d b) :
    Calls Try.prog 42 #[v] w fun e w' => e = .returned (.tuple #[.int .i64 p, .int .i64 d, .bool b]) ∧ Below w.heap.size w w' := by
  have C := Lib.hid (isSettled_any v zs w h lz b (by
    rcases hr with ⟨n, ok, rfl, st, rfl⟩ | ⟨no, rfl, rfl, rfl⟩
    · simpa using ok
    · simpa using no))
  obtain ⟨a, cap, rfl, ra⟩ := h
  rcases hr with ⟨m, ok, rfl, st, rfl⟩ | ⟨no, rfl, rfl, rfl⟩
  · have OK := Lib.hid ok
    have ST := Lib.hid st
    have e := ok.1
    rw [e] at C ⊢
    have RA := Lib.hid ra
    clear ra ok lz e st
    go_enter Try.func42, Try.ntmps42
    go_wp2_with fail
    refine C.out.mono ?_
    rintro e w1 ⟨rfl, rfl⟩
    go_wp2
    go_loopw [5, 6, 7, 8, 12] (fun p d _ _ i wr => ∃ k : Nat, k ≤ 23 ∧ Hid (Below w.heap.size w wr) ∧ i = .int .i64 k ∧ ∃ (n : Nat) (e : Int), p = .int .i64 n ∧ d = .int .i64 e ∧ Hid ((k = 0 ∧ n = 0 ∧ e = 0) ∨ Steep zs k n e)) (fun _ _ _ _ i _ => 23 - (intOf i).toNat)
    case atStart => exact ⟨0, by omega, Below.refl _ _, rfl, 0, 0, rfl, rfl, .inl ⟨rfl, rfl, rfl⟩⟩
    case round =>

      obtain ⟨k, hk, B, rfl, n, e, rfl, rfl, hs⟩ := hrel
      by_cases hlt : k < 23
      · have hsz := B.out.size
        obtain ⟨x, hx⟩ : ∃ x, zs[k]? = some x := ⟨_, List.getElem?_eq_getElem (by have := OK.out.1; omega)⟩
        obtain ⟨y, hy⟩ : ∃ y, zs[k + 1]? = some y := ⟨_, List.getElem?_eq_getElem (by have := OK.out.1; omega)⟩
        obtain ⟨ba, oa, rfl, ca'⟩ := RA.out.resolve_left (by intro h; have := OK.out.1; rw [h] at this; simp at this)
        have la : ba < w.heap.size := World.block_lt_of_cell? w _ (ca' k x hx)
        have c1 := (B.out.cell (p := ⟨ba, oa + k, none⟩) la).trans (ca' k x hx)
        have c2 := (B.out.cell (p := ⟨ba, oa + (k + 1), none⟩) la).trans (ca' (k + 1) y hy)
        have bx := OK.out.2.at hx
        have by_ := OK.out.2.at hy
        obtain ⟨D, hD⟩ : ∃ D, D = difN zs k := ⟨_, rfl⟩
        have C2 := Lib.hid (fun w => absolute_any (x - y) D (by omega) (by rw [hD, difN_of hx hy]) w)
        have D0 : 0 ≤ D := by rw [hD]; exact difN_nonneg zs k
        have HD := Lib.hid hD
        have q1 : IntKind.i64.wrap (x - y) = x - y := IntWalk.i64_in _ (by omega)
        clear ca' hx hy hD bx by_ la
        by_cases g : e < D
        · have S1 : Hid ((k + 1 = 0 ∧ k = 0 ∧ D = 0) ∨ Steep zs (k + 1) k D) := by
            rcases hs.out with ⟨rfl, rfl, rfl⟩ | h
            · right; rw [HD.out]; exact steep_one zs
            · right; have := h.more (by rw [← HD.out]; exact g); rwa [← HD.out] at this
          clear HD hs
          go_wp2
          go_quiet ((go_at_call 69; exact (C2.out _).mono fun _ _ h => ⟨h.1, ⟨_, h.2.symm⟩⟩))
          go_wp2
          exact ⟨⟨k + 1, by omega, below_drewN B.out _, by go_num, k, D, rfl, rfl, S1⟩, by simp only [intOf]; omega⟩
        · have S1 : Hid ((k + 1 = 0 ∧ n = 0 ∧ e = 0) ∨ Steep zs (k + 1) n e) := by
            rcases hs.out with ⟨rfl, rfl, rfl⟩ | h
            · right
              have : D = 0 := by omega
              have e := steep_one zs
              rwa [← HD.out, this] at e
            · right; exact h.same (by rw [← HD.out]; omega)
          clear HD hs
          go_wp2
          go_quiet ((go_at_call 69; exact (C2.out _).mono fun _ _ h => ⟨h.1, ⟨_, h.2.symm⟩⟩))
          go_wp2
          exact ⟨⟨k + 1, by omega, below_drewN B.out _, by go_num, n, e, rfl, rfl, S1⟩, by simp only [intOf]; omega⟩
      · obtain rfl : k = 23 := by omega
        obtain ⟨e1, e2⟩ := ST.out.uniq (hs.out.resolve_left (by omega))
        have E1 := Lib.hid e1
        have E2 := Lib.hid e2
        clear e1 e2
        go_wp2
        go_ret3
        exact ⟨by rw [E1.out, E2.out]; rfl, B.out⟩
  · generalize zs.length = m at *
    clear no ra lz
    go_enter Try.func42, Try.ntmps42
    go_wp2_with fail
    refine C.out.mono ?_
    rintro e w1 ⟨rfl, rfl⟩
    go_wp2
    go_ret3
    exact ⟨rfl, Below.refl _ _⟩

theorem exSteepestOf (zs : List Int) (lz : zs.length ≤ 1048576) : ∃ (p d : Int) (b : Bool),
    Hid (∀ (w : World) (v0 : Value), (fun _ => True) w → RdI w v0 zs → Calls Try.prog 41 #[v0] w fun e w' => e = .returned (.tuple #[.int .i64 p, .int .i64 d, .bool b]) ∧ Below w.heap.size w w') ∧
    Hid (∀ (w : World) (v0 : Value), (fun _ => True) w → RdI w v0 zs → Calls Try.prog 42 #[v0] w fun e w' => e = .returned (.tuple #[.int .i64 p, .int .i64 d, .bool b]) ∧ Below w.heap.size w w') := by
  obtain ⟨p, d, b, h⟩ : ∃ p d b, SteepRes zs p d b := by
    by_cases h : OkSe zs
    · obtain ⟨n, d, s⟩ := steep_ex zs 22
      exact ⟨_, _, _, .inl ⟨n, h, rfl, s, rfl⟩⟩
    · exact ⟨_, _, _, .inr ⟨h, rfl, rfl, rfl⟩⟩
  exact ⟨p, d, b, fun w v _ k => specSteep_any v zs w k (by omega) p d b h, fun w v _ k => implSteep_any v zs w k (by omega) p d b h⟩
end Go.Proofs.Ytonblcbdmblpbab
