/- LatestStart on both sides. -/
import Derived.Test.YtmdddjhlfpmgdaaWorkS
import Derived.Test.YtmdddjhlfpmgdaaHas
namespace Go.Proofs.Ytmdddjhlfpmgdaa
open Go.ChangeShapes Go.WideShapes Go.ChangeAt Go.RowKit
set_option linter.unusedVariables false
set_option linter.unusedSimpArgs false

def LateV (g : Wk) (xs : List Od) : Prop := (OkWk g ∧ OkOs xs) ∧ ¬ Short g xs 0
def IsLate (g : Wk) (xs : List Od) (m : Nat) : Prop := m ≤ 200 ∧ ¬ Short g xs m ∧ ∀ j : Nat, m < j → j ≤ 200 → Short g xs j
theorem isLate_ex (g : Wk) (xs : List Od) (h : ¬ Short g xs 0) : ∃ m, IsLate g xs m := by
  have key : ∀ N : Nat, ∃ m, m ≤ N ∧ ¬ Short g xs m ∧ ∀ j : Nat, m < j → j ≤ N → Short g xs j := by
    intro N
    induction N with
    | zero => exact ⟨0, Nat.le_refl _, h, fun j h1 h2 => by omega⟩
    | succ N ih =>
      obtain ⟨m, h1, h2, h3⟩ := ih
      by_cases s : Short g xs ((N + 1 : Nat) : Int)
      · refine ⟨m, by omega, h2, fun j k1 k2 => ?_⟩
        rcases Nat.lt_or_ge j (N + 1) with l | l
        · exact h3 j k1 (by omega)
        · obtain rfl : j = N + 1 := by omega
          exact s
      · exact ⟨N + 1, Nat.le_refl _, s, fun j k1 k2 => by omega⟩
  obtain ⟨m, h1, h2, h3⟩ := key 200
  exact ⟨m, h1, h2, h3⟩
theorem IsLate.uniq {g : Wk} {xs : List Od} {m n : Nat} (h : IsLate g xs m) (k : IsLate g xs n) : m = n := by
  rcases Nat.lt_trichotomy m n with l | l | l
  · exact absurd (h.2.2 n l k.1) k.2.1
  · exact l
  · exact absurd (k.2.2 m l h.1) h.2.1
/-- What LatestStart answers. -/
def LateRes (g : Wk) (xs : List Od) (r : Int) (b : Bool) : Prop := (LateV g xs ∧ (∃ m : Nat, r = m ∧ IsLate g xs m) ∧ b = true) ∨ (¬ LateV g xs ∧ r = 0 ∧ b = false)

set_option maxRecDepth 100000 in
set_option maxHeartbeats 8000000 in
theorem specLate_any (g : Wk) (v : Value) (xs : List Od) (w : World) (h : RdS 2 encOd w v xs) (lz : xs.length ≤ 1048576) (r : Int) (b : Bool) (hr : LateRes g xs r b) :
    Calls Try.prog 29 #[(.agg #[.int .i64 g.m, .int .i64 g.c, .int .i64 g.u]), v] w fun e w' => e = .returned (.tuple #[.int .i64 r, .bool b]) ∧ Below w.heap.size w w' := by
  obtain ⟨b1, h1⟩ := bool_of (OkWk g)
  obtain ⟨b2, h2⟩ := bool_of (OkOs xs)
  have C1 := Lib.hid (fun w => l09Works_blw g b1 h1 w)
  have C2 := Lib.hid (fun w h => l09Orders_any v xs w h lz b2 h2)
  have H1 := Lib.hid h1
  have H2 := Lib.hid h2
  have HR := Lib.hid hr
  have H := Lib.hid h
  obtain ⟨a, cap, rfl, _⟩ := h
  obtain ⟨n, hn⟩ : ∃ n, n = xs.length := ⟨_, rfl⟩
  rw [← hn] at H C2 lz
  rw [← hn]
  have HN := Lib.hid hn
  clear h1 h2 hr hn
  go_enter Try.func29, Try.ntmps29
  go_wp2_with fail
  refine (C1.out _).mono ?_
  rintro e w1 ⟨rfl, c1⟩
  obtain ⟨B1, N1, z1⟩ := boxWk_step (by simpa using c1)
  have B1' := Lib.hid B1
  have N1' := Lib.hid N1
  obtain ⟨⟨a0, a1, a2⟩, -⟩ := boxWk_at N1
  clear c1 C1 B1 N1
  cases b1 with
  | false =>
    have no : ¬ OkWk g := fun k => by have := H1.out.mpr k; simp at this
    obtain ⟨rfl, rfl⟩ : r = 0 ∧ b = false := by
      rcases HR.out with k | k
      · exact absurd k.1.1.1 no
      · exact k.2
    go_wp2
    go_ret2
    exact ⟨rfl, B1'.out⟩
  | true =>
  have ok := H1.out.mp (by trivial)
  go_wp2_with fail
  refine (C2.out _ (H.out.later B1'.out)).mono ?_
  rintro e w2 ⟨rfl, c2⟩
  obtain ⟨B2, N2, z2⟩ := boxWk_next B1'.out N1'.out z1 c2
  have B2' := Lib.hid B2
  have N2' := Lib.hid N2
  clear c2 C2 B1' N1' B2 a0 a1 a2
  obtain ⟨⟨a0, a1, a2⟩, -⟩ := boxWk_at N2
  clear N2
  cases b2 with
  | false =>
    have no : ¬ OkOs xs := fun k => by have := H2.out.mpr k; simp at this
    obtain ⟨rfl, rfl⟩ : r = 0 ∧ b = false := by
      rcases HR.out with k | k
      · exact absurd k.1.1.2 no
      · exact k.2
    go_wp2
    go_ret2
    exact ⟨rfl, B2'.out⟩
  | true =>
  have oks := H2.out.mp (by trivial)
  have C3 := Lib.hid (fun w (h : RdS 2 encOd w (.slice a n cap) xs) (k : Nat) (hk : k ≤ 200) => l09Short_any g ok _ xs w h oks (k : Int) (by omega) _ rfl)
  have OK := Lib.hid ok
  have OKS := Lib.hid oks
  clear ok oks H1 H2
  go_wp2
  go_loopw [6] (fun iv wr => ∃ k : Nat, k ≤ 201 ∧ iv = .int .i64 ((k : Int) - 1) ∧ Hid (∀ j : Nat, k ≤ j → j ≤ 200 → Short g xs j) ∧ Hid (wr.heap[w.heap.size]? = some (.cells #[.int .i64 g.m, .int .i64 g.c, .int .i64 g.u] 32 (0, 0))) ∧ w.heap.size + 1 ≤ wr.heap.size ∧ Hid (Below w.heap.size w wr)) (fun iv _ => (intOf iv + 1).toNat)
  case atStart => exact ⟨201, by omega, rfl, fun j h1 h2 => by omega, N2'.out, z2, B2'.out⟩
  case round =>
    obtain ⟨k, hk, rfl, hs, NN, zz, B⟩ := hrel
    clear B2' N2' a0 a1 a2
    obtain ⟨⟨a0, a1, a2⟩, -⟩ := boxWk_at NN.out
    have hsz := B.out.size
    by_cases k0 : k = 0
    · subst k0
      have no : ¬ LateV g xs := fun q => q.2 (hs.out 0 (by omega) (by omega))
      obtain ⟨rfl, rfl⟩ : r = 0 ∧ b = false := by
        rcases HR.out with q | q
        · exact absurd q.1 no
        · exact q.2
      go_wp2
      go_ret2
      exact ⟨rfl, B.out⟩
    · obtain ⟨j, hj⟩ : ∃ j, k = j + 1 := ⟨k - 1, by omega⟩
      have e1 : (k : Int) - 1 = (j : Int) := by omega
      have j2 : j ≤ 200 := by omega
      have C4 := Lib.hid (C3.out wr (H.out.later B.out) j j2)
      have i0 : (0 : Int) ≤ (j : Int) := by omega
      have HJ := Lib.hid hj
      rw [e1]
      clear hj e1
      have SJ : Hid (shortT g.m g.c g.u xs (j : Int) xs.length ≠ [] ↔ Short g xs j) := Iff.rfl
      obtain ⟨L, hL⟩ : ∃ L, L = shortT g.m g.c g.u xs (j : Int) xs.length := ⟨_, rfl⟩
      rw [← hL] at C4 SJ
      clear hL
      go_wp2_with fail
      refine C4.out.mono ?_
      rintro e w4 ⟨u, rfl, o4, c4⟩
      obtain ⟨au, cu, rfl, -⟩ := id o4.rd
      obtain ⟨m, hm⟩ : ∃ m, m = L.length := ⟨_, rfl⟩
      rw [← hm]
      have B4 : Hid (Below w.heap.size w w4) := B.out.trans (c4.mono hsz)
      have N4 : Hid (w4.heap[w.heap.size]? = some (.cells #[.int .i64 g.m, .int .i64 g.c, .int .i64 g.u] 32 (0, 0))) := (c4.block w.heap.size (by omega)).trans NN.out
      have z4 : w.heap.size + 1 ≤ w4.heap.size := by have := c4.size; omega
      clear c4 o4 a0 a1 a2 NN B C4 zz
      by_cases m0 : m = 0
      · subst m0
        have nS : ¬ Short g xs j := fun q => SJ.out.mpr q (List.length_eq_zero_iff.mp hm.symm)
        have yes : LateV g xs := ⟨⟨OK.out, OKS.out⟩, fun q => nS (short_mono OK.out (by omega) q)⟩
        obtain ⟨⟨mm, rfl, hmm⟩, rfl⟩ : (∃ m : Nat, r = m ∧ IsLate g xs m) ∧ b = true := by
          rcases HR.out with q | q
          · exact q.2
          · exact absurd yes q.1
        obtain rfl : mm = j := hmm.uniq ⟨j2, nS, fun i h1 h2 => hs.out i (by have := HJ.out; omega) h2⟩
        clear hs hm nS yes hmm
        go_wp2
        go_ret2
        exact ⟨rfl, B4.out⟩
      · have hs' : Hid (∀ i : Nat, j ≤ i → i ≤ 200 → Short g xs i) := fun i h1 h2 => by
          rcases Nat.lt_or_ge j i with l | l
          · exact hs.out i (by have := HJ.out; omega) h2
          · obtain rfl : i = j := by omega
            exact SJ.out.mp (fun e => m0 (by rw [hm, e]; rfl))
        have d0 : ((m : Int) == 0) = false := by simp; exact m0
        have q1 : IntKind.i64.wrap ((j : Int) - 1) = (j : Int) - 1 := IntWalk.i64_in _ (by omega)
        clear hs hm m0
        go_wp2
        exact ⟨⟨j, by omega, rfl, hs', N4, z4, B4⟩, by simp only [intOf]; omega⟩

set_option maxRecDepth 100000 in
set_option maxHeartbeats 4000000 in
theorem late1_any (g : Wk) (ok : OkWk g) (a : Option Addr) (n cap : Nat) (xs : List Od) (oks : OkOs xs) (W V : Nat) (t1 t2 : TypeId) (w : World) (hW : w.heap[W]? = some (.cells #[.int .i64 g.m, .int .i64 g.c, .int .i64 g.u] t1 (0, 0))) (hV : w.heap[V]? = some (.cells #[.slice a n cap] t2 (0, 0))) (h : RdS 2 encOd w (.slice a n cap) xs) (i : Nat) (hi : i < 200) (b : Bool) (hb : b = true ↔ Short g xs ((i : Int) + 1)) :
    Calls Try.prog 56 #[.int .i64 i, .pointer (some ⟨W, 0, none⟩), .pointer (some ⟨V, 0, none⟩)] w fun e w' => e = .returned (.bool b) ∧ Below w.heap.size w w' := by
  obtain ⟨⟨a0, a1, a2⟩, -⟩ := boxWk_at hW
  have pv := cell_of_row w V 0 _ t2 _ hV
  simp at pv
  have q1 : IntKind.i64.wrap ((i : Int) + 1) = (i : Int) + 1 := IntWalk.i64_in _ (by omega)
  have C := Lib.hid (fun w (h : RdS 2 encOd w (.slice a n cap) xs) => shortL_any g ok ((i : Int) + 1) (by omega) _ xs w h oks _ rfl)
  have HB : Hid (b = true ↔ shortT g.m g.c g.u xs ((i : Int) + 1) xs.length ≠ []) := hb
  obtain ⟨L, hL⟩ : ∃ L, L = shortT g.m g.c g.u xs ((i : Int) + 1) xs.length := ⟨_, rfl⟩
  rw [← hL] at C HB
  have H := Lib.hid h
  clear hb hL ok oks hW hV h
  go_enter Try.func56, Try.ntmps56
  go_wp2_with fail
  refine (C.out _ H.out).mono ?_
  rintro e w1 ⟨u, rfl, o1, b1⟩
  obtain ⟨au, cu, rfl, -⟩ := id o1.rd
  obtain ⟨m, hm⟩ : ∃ m, m = L.length := ⟨_, rfl⟩
  rw [← hm]
  have B1 := Lib.hid b1
  have BV : Hid (b = decide (0 < m)) := by
    show _ = _
    rw [Bool.eq_iff_iff, HB.out, decide_eq_true_eq, hm]
    exact List.length_pos_iff.symm
  clear o1 b1 hm HB a0 a1 a2 pv
  go_wp2
  go_ret
  exact ⟨by simp [BV.out], B1.out⟩

set_option maxRecDepth 100000 in
set_option maxHeartbeats 4000000 in
theorem searchLate_any (g : Wk) (ok : OkWk g) (a : Option Addr) (n cap : Nat) (xs : List Od) (oks : OkOs xs) (W V : Nat) (t1 t2 : TypeId) (w : World) (hW : w.heap[W]? = some (.cells #[.int .i64 g.m, .int .i64 g.c, .int .i64 g.u] t1 (0, 0))) (hV : w.heap[V]? = some (.cells #[.slice a n cap] t2 (0, 0))) (h : RdS 2 encOd w (.slice a n cap) xs) (m : Nat) (hm : IsLate g xs m) :
    Calls Try.prog 55 #[.int .i64 200, .func (.func 56) #[] #[.pointer (some ⟨W, 0, none⟩), .pointer (some ⟨V, 0, none⟩)]] w fun e w' => e = .returned (.int .i64 m) ∧ Below w.heap.size w w' := by
  have zW := (Array.getElem?_eq_some_iff.1 hW).1
  have zV := (Array.getElem?_eq_some_iff.1 hV).1
  have m200 : m ≤ 200 := hm.1
  have CC := Lib.hid (fun (i : Nat) (b : Bool) (hb : b = true ↔ Short g xs ((i : Int) + 1)) (hi : i < 200) (wr : World) (B : Below w.heap.size w wr) => late1_any g ok a n cap xs oks W V t1 t2 wr ((B.block W zW).trans hW) ((B.block V zV).trans hV) (h.later B) i hi b hb)
  have LO := Lib.hid (fun (k : Nat) (hk : k < m) => (show ¬ Short g xs ((k : Int) + 1) from fun q => hm.2.1 (short_mono ok (by omega) q)))
  have HI := Lib.hid (fun (k : Nat) (hk : m ≤ k) (hk2 : k < 200) => (show Short g xs ((k : Int) + 1) from by have := hm.2.2 (k + 1) (by omega) (by omega); rw [Int.natCast_add] at this; exact this))
  clear hW hV h ok oks hm zW zV
  go_enter Try.func55, Try.ntmps55
  go_wp2
  go_loopw [5, 6] (fun iv jv wr => ∃ (i j : Nat), i ≤ m ∧ m ≤ j ∧ j ≤ 200 ∧ iv = .int .i64 i ∧ jv = .int .i64 j ∧ Hid (Below w.heap.size w wr)) (fun iv jv _ => (intOf jv - intOf iv).toNat)
  case atStart => exact ⟨0, 200, by omega, m200, by omega, rfl, rfl, Below.refl _ _⟩
  case round =>
    obtain ⟨i, j, h1, h2, h3, rfl, rfl, B⟩ := hrel
    have sz := B.out.size
    by_cases hlt : i < j
    · have l1 : (i : Int) < (j : Int) := by omega
      obtain ⟨h, hh⟩ : ∃ h, h = (i + j) / 2 := ⟨_, rfl⟩
      have q1 : IntKind.i64.wrap ((i : Int) + (j : Int)) = (i : Int) + (j : Int) := IntWalk.i64_in _ (by omega)
      have e1 : ((i : Int) + (j : Int)) / 2 = (h : Int) := by omega
      have b1 : i ≤ h := by omega
      have b2 : h < j := by omega
      have b3 : h < 200 := by omega
      have E1 := Lib.hid e1
      clear hh e1
      by_cases gg : h < m
      · have C1 := Lib.hid (CC.out h false (by have := LO.out h gg; simp [this]) b3 wr B.out)
        clear b3
        go_wp2_with fail
        rw [E1.out]
        refine C1.out.mono ?_
        rintro e w' ⟨rfl, b'⟩
        have B2 : Hid (Below w.heap.size w w') := B.out.trans (b'.mono sz)
        clear b' C1 B
        go_wp2
        exact ⟨⟨h + 1, j, by omega, by omega, by omega, by go_num, rfl, B2⟩, by simp only [intOf]; omega⟩
      · have C1 := Lib.hid (CC.out h true (by have := HI.out h (by omega) b3; simp [this]) b3 wr B.out)
        clear b3
        go_wp2_with fail
        rw [E1.out]
        refine C1.out.mono ?_
        rintro e w' ⟨rfl, b'⟩
        have B2 : Hid (Below w.heap.size w w') := B.out.trans (b'.mono sz)
        clear b' C1 B
        go_wp2
        exact ⟨⟨i, h, by omega, by omega, by omega, rfl, rfl, B2⟩, by simp only [intOf]; omega⟩
    · obtain rfl : i = j := by omega
      obtain rfl : i = m := by omega
      go_wp2
      go_ret
      exact ⟨rfl, B.out⟩

theorem box2step {w w1 : World} {g : Wk} {a : Option Addr} {n cap : Nat} {t t2 : TypeId} (b : Below (w.heap.size + 2) ((w.alloc (.cells #[.int .i64 g.m, .int .i64 g.c, .int .i64 g.u] t)).alloc (.cells #[.slice a n cap] t2)) w1) :
    Below w.heap.size w w1 ∧ w1.heap[w.heap.size]? = some (.cells #[.int .i64 g.m, .int .i64 g.c, .int .i64 g.u] t (0, 0)) ∧ w1.heap[w.heap.size + 1]? = some (.cells #[.slice a n cap] t2 (0, 0)) ∧ w.heap.size + 2 ≤ w1.heap.size :=
  ⟨Below.trans (by go_grown) (b.mono (by omega)), (b.block w.heap.size (by omega)).trans ((Below.heap_alloc _ _ _ (by simp)).trans (heap_alloc_new w _)), (b.block (w.heap.size + 1) (by omega)).trans (by have := heap_alloc_new (w.alloc (.cells #[.int .i64 g.m, .int .i64 g.c, .int .i64 g.u] t)) (.cells #[.slice a n cap] t2); rwa [World.size_alloc] at this), by have := b.size; simp only [World.size_alloc] at this; omega⟩
theorem box2next {w w1 w2 : World} {g : Wk} {a : Option Addr} {n cap : Nat} {t t2 : TypeId} (B : Below w.heap.size w w1) (N : w1.heap[w.heap.size]? = some (.cells #[.int .i64 g.m, .int .i64 g.c, .int .i64 g.u] t (0, 0))) (M : w1.heap[w.heap.size + 1]? = some (.cells #[.slice a n cap] t2 (0, 0))) (z : w.heap.size + 2 ≤ w1.heap.size) (b : Below w1.heap.size w1 w2) :
    Below w.heap.size w w2 ∧ w2.heap[w.heap.size]? = some (.cells #[.int .i64 g.m, .int .i64 g.c, .int .i64 g.u] t (0, 0)) ∧ w2.heap[w.heap.size + 1]? = some (.cells #[.slice a n cap] t2 (0, 0)) ∧ w.heap.size + 2 ≤ w2.heap.size :=
  ⟨B.trans (b.mono (by omega)), (b.block w.heap.size (by omega)).trans N, (b.block (w.heap.size + 1) (by omega)).trans M, by have := b.size; omega⟩

set_option maxRecDepth 100000 in
set_option maxHeartbeats 8000000 in
theorem implLate_any (g : Wk) (v : Value) (xs : List Od) (w : World) (h : RdS 2 encOd w v xs) (lz : xs.length ≤ 1048576) (r : Int) (b : Bool) (hr : LateRes g xs r b) :
    Calls Try.prog 30 #[(.agg #[.int .i64 g.m, .int .i64 g.c, .int .i64 g.u]), v] w fun e w' => e = .returned (.tuple #[.int .i64 r, .bool b]) ∧ Below w.heap.size w w' := by
  obtain ⟨b1, h1⟩ := bool_of (OkWk g)
  obtain ⟨b2, h2⟩ := bool_of (OkOs xs)
  have C1 := Lib.hid (fun w => implWorks_blw g b1 h1 w)
  have C2 := Lib.hid (fun w h => implOrders_any v xs w h lz b2 h2)
  have H1 := Lib.hid h1
  have H2 := Lib.hid h2
  have HR := Lib.hid hr
  have H := Lib.hid h
  obtain ⟨a, cap, rfl, _⟩ := h
  obtain ⟨n, hn⟩ : ∃ n, n = xs.length := ⟨_, rfl⟩
  rw [← hn] at H C2 lz
  rw [← hn]
  have HN := Lib.hid hn
  clear h1 h2 hr hn
  go_enter Try.func30, Try.ntmps30
  go_wp2_with fail
  refine (C1.out _).mono ?_
  rintro e w1 ⟨rfl, c1⟩
  obtain ⟨B1, N1, M1, z1⟩ := box2step (by simpa using c1)
  have B1' := Lib.hid B1
  have N1' := Lib.hid N1
  have M1' := Lib.hid M1
  obtain ⟨⟨a0, a1, a2⟩, -⟩ := boxWk_at N1
  have pv := cell_of_row w1 (w.heap.size + 1) 0 _ _ _ M1
  simp at pv
  clear c1 C1 B1 N1 M1
  cases b1 with
  | false =>
    have no : ¬ OkWk g := fun k => by have := H1.out.mpr k; simp at this
    obtain ⟨rfl, rfl⟩ : r = 0 ∧ b = false := by
      rcases HR.out with k | k
      · exact absurd k.1.1.1 no
      · exact k.2
    go_wp2
    go_ret2
    exact ⟨rfl, B1'.out⟩
  | true =>
  have ok := H1.out.mp (by trivial)
  go_wp2_with fail
  refine (C2.out _ (H.out.later B1'.out)).mono ?_
  rintro e w2 ⟨rfl, c2⟩
  obtain ⟨B2, N2, M2, z2⟩ := box2next B1'.out N1'.out M1'.out z1 c2
  have B2' := Lib.hid B2
  have N2' := Lib.hid N2
  have M2' := Lib.hid M2
  clear c2 C2 B1' N1' M1' B2 a0 a1 a2 pv
  obtain ⟨⟨a0, a1, a2⟩, -⟩ := boxWk_at N2
  have pv := cell_of_row w2 (w.heap.size + 1) 0 _ _ _ M2
  simp at pv
  clear N2 M2
  cases b2 with
  | false =>
    have no : ¬ OkOs xs := fun k => by have := H2.out.mpr k; simp at this
    obtain ⟨rfl, rfl⟩ : r = 0 ∧ b = false := by
      rcases HR.out with k | k
      · exact absurd k.1.1.2 no
      · exact k.2
    go_wp2
    go_ret2
    exact ⟨rfl, B2'.out⟩
  | true =>
  have oks := H2.out.mp (by trivial)
  have SJ : Hid (shortT g.m g.c g.u xs 0 xs.length ≠ [] ↔ Short g xs 0) := Iff.rfl
  obtain ⟨L, hL⟩ : ∃ L, L = shortT g.m g.c g.u xs 0 xs.length := ⟨_, rfl⟩
  have C3 := Lib.hid (fun w (h : RdS 2 encOd w (.slice a n cap) xs) => shortW_any g ok _ xs w h oks L hL.symm)
  have C4 := Lib.hid (fun (w : World) (W V : Nat) hW hV h m hm => searchLate_any g ok a n cap xs oks W V 32 25 w hW hV h m hm)
  rw [← hL] at SJ
  have OK := Lib.hid ok
  have OKS := Lib.hid oks
  clear hL ok oks H1 H2
  go_wp2_with fail
  refine (C3.out _ (H.out.later B2'.out)).mono ?_
  rintro e w3 ⟨u, rfl, o3, c3⟩
  obtain ⟨au, cu, rfl, -⟩ := id o3.rd
  obtain ⟨m, hm⟩ : ∃ m, m = L.length := ⟨_, rfl⟩
  rw [← hm]
  obtain ⟨B3, N3, M3, z3⟩ := box2next B2'.out N2'.out M2'.out z2 c3
  have B3' := Lib.hid B3
  have N3' := Lib.hid N3
  have M3' := Lib.hid M3
  clear c3 C3 B2' N2' M2' B3 a0 a1 a2 pv o3 N3 M3
  by_cases m0 : m = 0
  · subst m0
    have nS : ¬ Short g xs 0 := fun q => SJ.out.mpr q (List.length_eq_zero_iff.mp hm.symm)
    obtain ⟨⟨mm, rfl, hmm⟩, rfl⟩ : (∃ m : Nat, r = m ∧ IsLate g xs m) ∧ b = true := by
      rcases HR.out with q | q
      · exact q.2
      · exact absurd ⟨⟨OK.out, OKS.out⟩, nS⟩ q.1
    have C5 := Lib.hid (C4.out _ _ _ N3'.out M3'.out (H.out.later B3'.out) mm hmm)
    clear nS hm hmm SJ C4
    go_wp2_with fail
    refine C5.out.mono ?_
    rintro e w4 ⟨rfl, c4⟩
    have B4 : Hid (Below w.heap.size w w4) := B3'.out.trans (c4.mono B3'.out.size)
    clear c4 C5
    go_wp2
    go_ret2
    exact ⟨rfl, B4.out⟩
  · have yS : Short g xs 0 := SJ.out.mp (fun e => m0 (by rw [hm, e]; rfl))
    obtain ⟨rfl, rfl⟩ : r = 0 ∧ b = false := by
      rcases HR.out with q | q
      · exact absurd yS q.1.2
      · exact q.2
    have d0 : decide (0 < m) = true := decide_eq_true (by omega)
    clear yS hm m0
    go_wp2
    go_ret2
    exact ⟨rfl, B3'.out⟩

theorem exLatestStart (g : Wk) (xs : List Od) (lz : xs.length ≤ 1048576) : ∃ (r : Int) (b : Bool),
    Hid (∀ (w : World) (v1 : Value), (fun _ => True) w → RdS 2 encOd w v1 xs → Calls Try.prog 29 #[(.agg #[.int .i64 g.m, .int .i64 g.c, .int .i64 g.u]), v1] w fun e w' => e = .returned (.tuple #[.int .i64 r, .bool b]) ∧ Below w.heap.size w w') ∧
    Hid (∀ (w : World) (v1 : Value), (fun _ => True) w → RdS 2 encOd w v1 xs → Calls Try.prog 30 #[(.agg #[.int .i64 g.m, .int .i64 g.c, .int .i64 g.u]), v1] w fun e w' => e = .returned (.tuple #[.int .i64 r, .bool b]) ∧ Below w.heap.size w w') := by
  obtain ⟨r, b, h⟩ : ∃ r b, LateRes g xs r b := by
    by_cases h : LateV g xs
    · obtain ⟨m, hm⟩ := isLate_ex g xs h.2
      exact ⟨m, true, .inl ⟨h, ⟨m, rfl, hm⟩, rfl⟩⟩
    · exact ⟨_, _, .inr ⟨h, rfl, rfl⟩⟩
  exact ⟨r, b, fun w v _ k => specLate_any g v xs w k lz r b h, fun w v _ k => implLate_any g v xs w k lz r b h⟩
end Go.Proofs.Ytmdddjhlfpmgdaa
