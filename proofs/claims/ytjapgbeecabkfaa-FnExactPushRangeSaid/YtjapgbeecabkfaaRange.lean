/- PushRange on both sides. -/
import Derived.Test.YtjapgbeecabkfaaNum
import Derived.Test.YtjapgbeecabkfaaPushEx
namespace Go.Proofs.Ytjapgbeecabkfaa
open Go.ChangeShapes Go.WideShapes Go.ChangeAt Go.RowKit
set_option linter.unusedVariables false
set_option linter.unusedSimpArgs false

theorem pushV_dec (m : Mc) : ∃ P : Int → Bool, ∀ n, P n = true ↔ pushV m n 0 := by
  classical
  exact ⟨fun n => decide (pushV m n 0), fun n => by simp⟩

set_option maxHeartbeats 2000000 in
theorem canPush_any (m : Mc) (n : Int) (v : Bool) (hv : v = true ↔ pushV m n 0) (w : World) :
    Calls Try.prog 78 #[(.agg #[.int .i64 m.u.s, .int .i64 m.u.h, .int .i64 m.u.y, .int .i64 m.u.p, .int .i64 m.t.s, .int .i64 m.t.h, .int .i64 m.t.y, .int .i64 m.t.p, .int .i64 m.a]), .int .i64 n] w fun e w' => e = .returned (.bool v) ∧ Below w.heap.size w w' := by
  obtain ⟨o, ho⟩ : ∃ o, o = if v then pushM m n 0 else (⟨⟨0, 0, 0, 0⟩, ⟨0, 0, 0, 0⟩, 0⟩ : Mc) := ⟨_, rfl⟩
  have c1 := Lib.hid (fun w => implPush_any m o n 0 v hv ho w)
  clear hv ho
  go_enter Try.func78, Try.ntmps78
  go_wp2_with fail
  refine (c1.out _).mono ?_
  rintro e w1 ⟨rfl, b1⟩
  have B1 : Hid (Below w.heap.size w w1) := Below.trans (by show Below _ _ _; go_grown) (b1.mono (by simp))
  have z1 := B1.out.size
  clear b1 c1
  go_wp2
  go_ret
  exact ⟨rfl, B1.out.alloc (by omega) _⟩

/-- The least and the greatest of the good numbers. -/
def FirstLast (L : List Int) (x y : Int) (b : Bool) : Prop := if L = [] then x = 0 ∧ y = 0 ∧ b = false else b = true ∧ L[0]? = some x ∧ L[L.length - 1]? = some y

set_option maxRecDepth 100000 in
set_option maxHeartbeats 4000000 in
theorem implRange_any (m : Mc) (P : Int → Bool) (hP : ∀ n, P n = true ↔ pushV m n 0) (x y : Int) (b : Bool) (hx : FirstLast (goodL (-12) P 25) x y b) (w : World) :
    Calls Try.prog 38 #[(.agg #[.int .i64 m.u.s, .int .i64 m.u.h, .int .i64 m.u.y, .int .i64 m.u.p, .int .i64 m.t.s, .int .i64 m.t.h, .int .i64 m.t.y, .int .i64 m.t.p, .int .i64 m.a])] w fun e w' => e = .returned (.tuple #[.int .i64 x, .int .i64 y, .bool b]) ∧ Below w.heap.size w w' := by
  have c0 := Lib.hid (fun (n : Int) w (_ : -1000 ≤ n) (_ : n ≤ 2000) => canPush_any m n (P n) (hP n) w)
  have c1 := Lib.hid (fun w => numbersPush_any m (-12) 25 P (by omega) (by omega) (by omega) c0 w)
  have HX := Lib.hid hx
  have ll := goodL_len (-12) P 25
  obtain ⟨L, hL⟩ : ∃ L, L = goodL (-12) P 25 := ⟨_, rfl⟩
  rw [← hL] at c1 HX ll
  clear hx hP hL c0
  go_enter Try.func38, Try.ntmps38
  go_wp2_with fail
  refine (c1.out _).mono ?_
  rintro e w1 ⟨v, rfl, o1, b1⟩
  have B1 : Hid (Below w.heap.size w w1) := Below.trans (by show Below _ _ _; go_grown) (b1.mono (by simp))
  obtain ⟨a, cap, rfl, hc⟩ := o1.rd
  have HC := Lib.hid hc
  clear b1 o1 c1 hc
  by_cases hl : L = []
  · subst hl
    have h := HX.out
    unfold FirstLast at h
    rw [if_pos rfl] at h
    obtain ⟨rfl, rfl, rfl⟩ := h
    clear HC HX
    have l0 : ([] : List Int).length = 0 := rfl
    rw [l0]
    go_wp2
    go_returns
    exact ⟨rfl, B1.out⟩
  · have h := HX.out
    unfold FirstLast at h
    rw [if_neg hl] at h
    obtain ⟨rfl, h1, h2⟩ := h
    obtain ⟨gb, go, rfl, hc2⟩ := HC.out.resolve_left hl
    have d1 := hc2 0 x h1
    have d2 := hc2 _ y h2
    have lp : 0 < L.length := List.length_pos_iff.mpr hl
    obtain ⟨N, hN⟩ : ∃ N, L.length = N + 1 := ⟨L.length - 1, by omega⟩
    rw [hN] at d2 ll ⊢
    rw [Nat.add_sub_cancel] at d2
    rw [Nat.add_zero] at d1
    have q1 : IntKind.i64.wrap (((N + 1 : Nat) : Int) - 1) = (N : Int) := by push_cast; rw [show ((N : Int) + 1 - 1) = N by omega]; exact IntWalk.i64_in _ (by omega)
    have nz : ¬ ((N + 1 : Nat) : Int) = 0 := by omega
    clear HC HX hc2 h1 h2 hl lp hN
    go_wp2
    go_quiet (fail)
    go_wp2
    go_returns
    refine ⟨rfl, ?_⟩
    exact B1.out.trans ⟨rfl, rfl, rfl, Nat.le_refl _, fun _ _ => rfl⟩

theorem firstLast_snoc_nil (n : Int) : FirstLast ([] ++ [n]) n n true := by
  unfold FirstLast; simp
theorem firstLast_snoc (L : List Int) (x y n : Int) (h : FirstLast L x y true) : FirstLast (L ++ [n]) x n true ∧ L ≠ [] := by
  unfold FirstLast at h ⊢
  by_cases hl : L = []
  · rw [if_pos hl] at h; exact absurd h.2.2 (by simp)
  · rw [if_neg hl] at h
    refine ⟨?_, hl⟩
    rw [if_neg (by simp)]
    refine ⟨rfl, ?_, ?_⟩
    · rw [List.getElem?_append_left (List.length_pos_iff.mpr hl)]; exact h.2.1
    · simp
theorem firstLast_false (L : List Int) (x y : Int) (h : FirstLast L x y false) : L = [] ∧ x = 0 ∧ y = 0 := by
  unfold FirstLast at h
  by_cases hl : L = []
  · rw [if_pos hl] at h; exact ⟨hl, h.1, h.2.1⟩
  · rw [if_neg hl] at h; exact absurd h.1 (by simp)
theorem firstLast_uniq (L : List Int) (x y x' y' : Int) (b b' : Bool) (h : FirstLast L x y b) (h' : FirstLast L x' y' b') : x = x' ∧ y = y' ∧ b = b' := by
  unfold FirstLast at h h'
  by_cases hl : L = []
  · rw [if_pos hl] at h h'
    obtain ⟨rfl, rfl, rfl⟩ := h
    obtain ⟨rfl, rfl, rfl⟩ := h'
    exact ⟨rfl, rfl, rfl⟩
  · rw [if_neg hl] at h h'
    obtain ⟨rfl, h1, h2⟩ := h
    obtain ⟨rfl, h3, h4⟩ := h'
    exact ⟨Option.some.inj (h1.symm.trans h3), Option.some.inj (h2.symm.trans h4), rfl⟩
theorem firstLast_ex (L : List Int) : ∃ x y b, FirstLast L x y b := by
  unfold FirstLast
  by_cases hl : L = []
  · exact ⟨0, 0, false, by rw [if_pos hl]; exact ⟨rfl, rfl, rfl⟩⟩
  · have lp := List.length_pos_iff.mpr hl
    exact ⟨L[0]'lp, L[L.length - 1]'(by omega), true, by rw [if_neg hl]; exact ⟨rfl, List.getElem?_eq_getElem _, List.getElem?_eq_getElem _⟩⟩

set_option maxRecDepth 100000 in
set_option maxHeartbeats 4000000 in
theorem specRange_yes (m : Mc) (hm : OkM m) (P : Int → Bool) (hP : ∀ n, P n = true ↔ pushV m n 0) (x y : Int) (b : Bool) (hx : FirstLast (goodL (-12) P 25) x y b) (w : World) :
    Calls Try.prog 37 #[(.agg #[.int .i64 m.u.s, .int .i64 m.u.h, .int .i64 m.u.y, .int .i64 m.u.p, .int .i64 m.t.s, .int .i64 m.t.h, .int .i64 m.t.y, .int .i64 m.t.p, .int .i64 m.a])] w fun e w' => e = .returned (.tuple #[.int .i64 x, .int .i64 y, .bool b]) ∧ Below w.heap.size w w' := by
  have c1 := Lib.hid (fun g t w hg => l04Is_any g t m true ⟨fun _ => hm, fun _ => rfl⟩ w hg)
  have c2 : Hid (∀ (n : Int) (g : Nat) (w : World), -12 ≤ n → n ≤ 12 → w.heap[g]? = some (.cells #[.int .i64 m.u.s, .int .i64 m.u.h, .int .i64 m.u.y, .int .i64 m.u.p, .int .i64 m.t.s, .int .i64 m.t.h, .int .i64 m.t.y, .int .i64 m.t.p, .int .i64 m.a] 29 (0, 0)) → ∃ o : Mc, Calls Try.prog 71 #[.pointer (some ⟨g, 0, none⟩), .int .i64 n, .int .i64 0] w fun e w' => e = .returned (.tuple #[(.agg #[.int .i64 o.u.s, .int .i64 o.u.h, .int .i64 o.u.y, .int .i64 o.u.p, .int .i64 o.t.s, .int .i64 o.t.h, .int .i64 o.t.y, .int .i64 o.t.p, .int .i64 o.a]), .bool (P n)]) ∧ Below w.heap.size w w') := by
    intro n g w h1 h2 hg
    have ht : OkTurn n := ⟨h1, h2⟩
    have h0 : OkTurn 0 := by unfold OkTurn; omega
    have hv : P n = true ↔ OkM (pushM m n 0) := (hP n).trans ⟨fun h => h.2.2.2, fun h => ⟨hm, ht, h0, h⟩⟩
    have := l04Push_near g _ m n 0 hm.1 ht h0 (P n) hv w hg
    cases hp : P n with
    | true => rw [hp] at this; exact ⟨pushM m n 0, by simpa using this⟩
    | false => rw [hp] at this; exact ⟨(⟨⟨0, 0, 0, 0⟩, ⟨0, 0, 0, 0⟩, 0⟩ : Mc), by simpa using this⟩
  have HX := Lib.hid hx
  clear hx hP hm
  go_enter Try.func37, Try.ntmps37
  go_wp2_with fail
  refine (c1.out _ _ _ (heap_alloc_new w (.cells #[.int .i64 m.u.s, .int .i64 m.u.h, .int .i64 m.u.y, .int .i64 m.u.p, .int .i64 m.t.s, .int .i64 m.t.h, .int .i64 m.t.y, .int .i64 m.t.p, .int .i64 m.a] 29))).mono ?_
  rintro e w1 ⟨rfl, b1⟩
  have B1 : Hid (Below w.heap.size w w1) := Below.trans (by show Below _ _ _; go_grown) (b1.mono (by simp))
  have N1 : Hid (w1.heap[w.heap.size]? = some (.cells #[.int .i64 m.u.s, .int .i64 m.u.h, .int .i64 m.u.y, .int .i64 m.u.p, .int .i64 m.t.s, .int .i64 m.t.h, .int .i64 m.t.y, .int .i64 m.t.p, .int .i64 m.a] 29 (0, 0))) := (b1.block w.heap.size (by simp)).trans (heap_alloc_new w (.cells #[.int .i64 m.u.s, .int .i64 m.u.h, .int .i64 m.u.y, .int .i64 m.u.p, .int .i64 m.t.s, .int .i64 m.t.h, .int .i64 m.t.y, .int .i64 m.t.p, .int .i64 m.a] 29))
  have z1 : w.heap.size < w1.heap.size := by have := b1.size; simp only [World.size_alloc] at this; omega
  have F0 : Hid (FirstLast (goodL (-12) P 0) 0 0 false) := by show FirstLast _ _ _ _; unfold FirstLast goodL; simp [upFrom]
  clear b1 c1
  go_wp2_with fail
  go_loopw [5, 6, 7, 8] (fun lo hi fd n wr => ∃ (k : Nat) (u v : Int) (f : Bool), k ≤ 25 ∧ lo = .int .i64 u ∧ hi = .int .i64 v ∧ fd = .bool f ∧ n = .int .i64 (-12 + k) ∧ w.heap.size < wr.heap.size ∧ Hid (FirstLast (goodL (-12) P k) u v f) ∧ Hid (wr.heap[w.heap.size]? = some (.cells #[.int .i64 m.u.s, .int .i64 m.u.h, .int .i64 m.u.y, .int .i64 m.u.p, .int .i64 m.t.s, .int .i64 m.t.h, .int .i64 m.t.y, .int .i64 m.t.p, .int .i64 m.a] 29 (0, 0))) ∧ Hid (Below w.heap.size w wr)) (fun _ _ _ n _ => 25 - (intOf n + 12).toNat)
  case atStart => exact ⟨0, 0, 0, false, by omega, rfl, rfl, rfl, rfl, z1, F0, N1, B1⟩
  case round =>
    obtain ⟨k, u, v, f, hk, rfl, rfl, rfl, rfl, zr, FK, NK, BK⟩ := hrel
    clear F0 N1 B1 z1
    by_cases hlt : k < 25
    · have le : -12 + (k : Int) ≤ 12 := by omega
      obtain ⟨o, C2⟩ := c2.out (-12 + k) _ _ (by omega) (by omega) NK.out
      have C := Lib.hid C2
      clear C2
      cases hp : P (-12 + k) with
      | true =>
        rw [hp] at C
        have GS : goodL (-12) P (k + 1) = goodL (-12) P k ++ [-12 + (k : Int)] := by rw [goodL_succ, hp]; rfl
        cases f with
        | true =>
          have FK' : Hid (FirstLast (goodL (-12) P (k + 1)) u (-12 + (k : Int)) true) := by show FirstLast _ _ _ _; rw [GS]; exact (firstLast_snoc _ _ _ _ FK.out).1
          clear GS FK hp
          go_wp2_with fail
          refine C.out.mono ?_
          rintro e w2 ⟨rfl, b2⟩
          have N2 : Hid ((w2.alloc (.cells #[.int .i64 o.u.s, .int .i64 o.u.h, .int .i64 o.u.y, .int .i64 o.u.p, .int .i64 o.t.s, .int .i64 o.t.h, .int .i64 o.t.y, .int .i64 o.t.p, .int .i64 o.a] 29)).heap[w.heap.size]? = some (.cells #[.int .i64 m.u.s, .int .i64 m.u.h, .int .i64 m.u.y, .int .i64 m.u.p, .int .i64 m.t.s, .int .i64 m.t.h, .int .i64 m.t.y, .int .i64 m.t.p, .int .i64 m.a] 29 (0, 0))) := (Below.heap_alloc _ _ _ (by have := b2.size; omega)).trans ((b2.block _ zr).trans NK.out)
          have B2 : Hid (Below w.heap.size w (w2.alloc (.cells #[.int .i64 o.u.s, .int .i64 o.u.h, .int .i64 o.u.y, .int .i64 o.u.p, .int .i64 o.t.s, .int .i64 o.t.h, .int .i64 o.t.y, .int .i64 o.t.p, .int .i64 o.a] 29))) := (BK.out.trans (b2.mono (by omega))).alloc (by have := b2.size; omega) _
          have z2 : w.heap.size < (w2.alloc (.cells #[.int .i64 o.u.s, .int .i64 o.u.h, .int .i64 o.u.y, .int .i64 o.u.p, .int .i64 o.t.s, .int .i64 o.t.h, .int .i64 o.t.y, .int .i64 o.t.p, .int .i64 o.a] 29)).heap.size := by have := b2.size; simp only [World.size_alloc]; omega
          clear b2 NK BK zr C
          go_wp2
          exact ⟨⟨k + 1, _, _, _, by omega, rfl, rfl, rfl, by push_cast; rw [Int.add_assoc], by simpa using z2, FK', N2, B2⟩, by simp only [intOf]; omega⟩
        | false =>
          have FK' : Hid (FirstLast (goodL (-12) P (k + 1)) (-12 + (k : Int)) (-12 + (k : Int)) true) := by show FirstLast _ _ _ _; rw [GS, (firstLast_false _ _ _ FK.out).1]; exact firstLast_snoc_nil _
          clear GS FK hp
          go_wp2_with fail
          refine C.out.mono ?_
          rintro e w2 ⟨rfl, b2⟩
          have N2 : Hid ((w2.alloc (.cells #[.int .i64 o.u.s, .int .i64 o.u.h, .int .i64 o.u.y, .int .i64 o.u.p, .int .i64 o.t.s, .int .i64 o.t.h, .int .i64 o.t.y, .int .i64 o.t.p, .int .i64 o.a] 29)).heap[w.heap.size]? = some (.cells #[.int .i64 m.u.s, .int .i64 m.u.h, .int .i64 m.u.y, .int .i64 m.u.p, .int .i64 m.t.s, .int .i64 m.t.h, .int .i64 m.t.y, .int .i64 m.t.p, .int .i64 m.a] 29 (0, 0))) := (Below.heap_alloc _ _ _ (by have := b2.size; omega)).trans ((b2.block _ zr).trans NK.out)
          have B2 : Hid (Below w.heap.size w (w2.alloc (.cells #[.int .i64 o.u.s, .int .i64 o.u.h, .int .i64 o.u.y, .int .i64 o.u.p, .int .i64 o.t.s, .int .i64 o.t.h, .int .i64 o.t.y, .int .i64 o.t.p, .int .i64 o.a] 29))) := (BK.out.trans (b2.mono (by omega))).alloc (by have := b2.size; omega) _
          have z2 : w.heap.size < (w2.alloc (.cells #[.int .i64 o.u.s, .int .i64 o.u.h, .int .i64 o.u.y, .int .i64 o.u.p, .int .i64 o.t.s, .int .i64 o.t.h, .int .i64 o.t.y, .int .i64 o.t.p, .int .i64 o.a] 29)).heap.size := by have := b2.size; simp only [World.size_alloc]; omega
          clear b2 NK BK zr C
          go_wp2
          exact ⟨⟨k + 1, _, _, _, by omega, rfl, rfl, rfl, by push_cast; rw [Int.add_assoc], by simpa using z2, FK', N2, B2⟩, by simp only [intOf]; omega⟩
      | false =>
        rw [hp] at C
        have GS : goodL (-12) P (k + 1) = goodL (-12) P k := by rw [goodL_succ, hp]; rfl
        have FK' : Hid (FirstLast (goodL (-12) P (k + 1)) u v f) := by show FirstLast _ _ _ _; rw [GS]; exact FK.out
        clear GS FK hp
        go_wp2_with fail
        refine C.out.mono ?_
        rintro e w2 ⟨rfl, b2⟩
        have N2 : Hid ((w2.alloc (.cells #[.int .i64 o.u.s, .int .i64 o.u.h, .int .i64 o.u.y, .int .i64 o.u.p, .int .i64 o.t.s, .int .i64 o.t.h, .int .i64 o.t.y, .int .i64 o.t.p, .int .i64 o.a] 29)).heap[w.heap.size]? = some (.cells #[.int .i64 m.u.s, .int .i64 m.u.h, .int .i64 m.u.y, .int .i64 m.u.p, .int .i64 m.t.s, .int .i64 m.t.h, .int .i64 m.t.y, .int .i64 m.t.p, .int .i64 m.a] 29 (0, 0))) := (Below.heap_alloc _ _ _ (by have := b2.size; omega)).trans ((b2.block _ zr).trans NK.out)
        have B2 : Hid (Below w.heap.size w (w2.alloc (.cells #[.int .i64 o.u.s, .int .i64 o.u.h, .int .i64 o.u.y, .int .i64 o.u.p, .int .i64 o.t.s, .int .i64 o.t.h, .int .i64 o.t.y, .int .i64 o.t.p, .int .i64 o.a] 29))) := (BK.out.trans (b2.mono (by omega))).alloc (by have := b2.size; omega) _
        have z2 : w.heap.size < (w2.alloc (.cells #[.int .i64 o.u.s, .int .i64 o.u.h, .int .i64 o.u.y, .int .i64 o.u.p, .int .i64 o.t.s, .int .i64 o.t.h, .int .i64 o.t.y, .int .i64 o.t.p, .int .i64 o.a] 29)).heap.size := by have := b2.size; simp only [World.size_alloc]; omega
        clear b2 NK BK zr C
        go_wp2
        exact ⟨⟨k + 1, _, _, _, by omega, rfl, rfl, rfl, by push_cast; rw [Int.add_assoc], by simpa using z2, FK', N2, B2⟩, by simp only [intOf]; omega⟩
    · obtain rfl : k = 25 := by omega
      obtain ⟨rfl, rfl, rfl⟩ := firstLast_uniq _ _ _ _ _ _ _ FK.out HX.out
      clear c2 FK HX
      go_wp2
      go_returns
      exact ⟨rfl, BK.out⟩

set_option maxHeartbeats 2000000 in
theorem specRange_no (m : Mc) (h : ¬ OkM m) (w : World) :
    Calls Try.prog 37 #[(.agg #[.int .i64 m.u.s, .int .i64 m.u.h, .int .i64 m.u.y, .int .i64 m.u.p, .int .i64 m.t.s, .int .i64 m.t.h, .int .i64 m.t.y, .int .i64 m.t.p, .int .i64 m.a])] w fun e w' => e = .returned (.tuple #[.int .i64 0, .int .i64 0, .bool false]) ∧ Below w.heap.size w w' := by
  have c1 := Lib.hid (fun g t w hg => l04Is_any g t m false ⟨fun e => (by cases e), fun e => absurd e h⟩ w hg)
  clear h
  go_enter Try.func37, Try.ntmps37
  go_wp2_with fail
  refine (c1.out _ _ _ (heap_alloc_new w (.cells #[.int .i64 m.u.s, .int .i64 m.u.h, .int .i64 m.u.y, .int .i64 m.u.p, .int .i64 m.t.s, .int .i64 m.t.h, .int .i64 m.t.y, .int .i64 m.t.p, .int .i64 m.a] 29))).mono ?_
  rintro e w1 ⟨rfl, b1⟩
  have B1 : Hid (Below w.heap.size w w1) := Below.trans (by show Below _ _ _; go_grown) (b1.mono (by simp))
  clear b1
  go_wp2
  go_returns
  exact ⟨rfl, B1.out⟩

theorem goodL_none (lo : Int) (P : Int → Bool) (k : Nat) (h : ∀ n, P n = false) : goodL lo P k = [] := by
  unfold goodL
  rw [List.filter_eq_nil_iff]
  intro a _
  simp [h a]

theorem exPushRange (q : Mc) : ∃ (x y : Int) (b : Bool),
    Hid (∀ (w : World), (fun _ => True) w → Calls Try.prog 37 #[(.agg #[.int .i64 q.u.s, .int .i64 q.u.h, .int .i64 q.u.y, .int .i64 q.u.p, .int .i64 q.t.s, .int .i64 q.t.h, .int .i64 q.t.y, .int .i64 q.t.p, .int .i64 q.a])] w fun e w' => e = .returned (.tuple #[.int .i64 x, .int .i64 y, .bool b]) ∧ Below w.heap.size w w') ∧
    Hid (∀ (w : World), (fun _ => True) w → Calls Try.prog 38 #[(.agg #[.int .i64 q.u.s, .int .i64 q.u.h, .int .i64 q.u.y, .int .i64 q.u.p, .int .i64 q.t.s, .int .i64 q.t.h, .int .i64 q.t.y, .int .i64 q.t.p, .int .i64 q.a])] w fun e w' => e = .returned (.tuple #[.int .i64 x, .int .i64 y, .bool b]) ∧ Below w.heap.size w w') := by
  obtain ⟨P, hP⟩ := pushV_dec q
  by_cases h : OkM q
  · obtain ⟨x, y, b, hx⟩ := firstLast_ex (goodL (-12) P 25)
    exact ⟨x, y, b, fun w _ => specRange_yes q h P hP x y b hx w, fun w _ => implRange_any q P hP x y b hx w⟩
  · have hn : ∀ n, P n = false := fun n => by
      cases e : P n with
      | false => rfl
      | true => exact absurd ((hP n).mp e).1 h
    exact ⟨0, 0, false, fun w _ => specRange_no q h w, fun w _ => implRange_any q P hP 0 0 false (by unfold FirstLast; rw [if_pos (goodL_none _ _ _ hn)]; exact ⟨rfl, rfl, rfl⟩) w⟩
end Go.Proofs.Ytjapgbeecabkfaa
