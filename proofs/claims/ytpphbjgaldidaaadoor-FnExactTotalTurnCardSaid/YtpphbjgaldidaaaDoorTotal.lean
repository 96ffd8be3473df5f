/- TotalTurn on both sides. -/
import Derived.Test.YtpphbjgaldidaaaDoorRingK2
import Derived.Deep.RegionLaw
import Derived.Deep.AppendLies
import Derived.Test.YtpphbjgaldidaaaDoorSpecT
namespace Go.Proofs.YtpphbjgaldidaaaDoor
open Go.ChangeShapes Go.WideShapes Go.ChangeAt Go.RowKit
set_option linter.unusedVariables false
set_option linter.unusedSimpArgs false

/-- The sums of the first rings' turns. -/
def sumL (f : Rg → Int) : List Rg → Int
  | [] => 0
  | x :: xs => f x + sumL f xs
theorem sumL_append (f : Rg → Int) (a b : List Rg) : sumL f (a ++ b) = sumL f a + sumL f b := by
  induction a with
  | nil => simp [sumL]
  | cons x xs ih => simp only [List.cons_append, sumL, ih]; omega
theorem sumL_succ (f : Rg → Int) (xs : List Rg) (k : Nat) (x : Rg) (h : xs[k]? = some x) : sumL f (xs.take (k + 1)) = sumL f (xs.take k) + f x := by
  rw [List.take_add_one, h, Option.toList_some, sumL_append]
  simp [sumL]
theorem sumL_bd (f : Rg → Int) (xs : List Rg) (h : ∀ x ∈ xs, -10 ≤ f x ∧ f x ≤ 10) : -10 * (xs.length : Int) ≤ sumL f xs ∧ sumL f xs ≤ 10 * (xs.length : Int) := by
  induction xs with
  | nil => simp [sumL]
  | cons x xs ih =>
    have h1 := h x (by simp)
    have h2 := ih fun y hy => h y (by simp [hy])
    simp only [sumL, List.length_cons]
    push_cast
    omega
theorem sum_take_bd (f : Rg → Int) (xs : List Rg) (k : Nat) (hk : k ≤ 60) (h : ∀ x ∈ xs, -10 ≤ f x ∧ f x ≤ 10) : -600 ≤ sumL f (xs.take k) ∧ sumL f (xs.take k) ≤ 600 := by
  have := sumL_bd f (xs.take k) fun x hx => h x (List.mem_of_mem_take hx)
  have hl : ((xs.take k).length : Int) ≤ 60 := by rw [List.length_take]; omega
  omega

set_option maxHeartbeats 1000000 in
theorem plus_any (a b c d : Int) (ha : -100000000000 ≤ a ∧ a ≤ 100000000000) (hb : -100000000000 ≤ b ∧ b ≤ 100000000000) (hc : -100000000000 ≤ c ∧ c ≤ 100000000000) (hd : -100000000000 ≤ d ∧ d ≤ 100000000000) (w : World) :
    Calls Tryd.prog 21 #[.agg #[.int .i64 a, .int .i64 b], .agg #[.int .i64 c, .int .i64 d]] w fun e w' => e = .returned (.agg #[.int .i64 (a + c), .int .i64 (b + d)]) ∧ Below w.heap.size w w' := by
  have q1 : IntKind.i64.wrap (a + c) = a + c := IntWalk.i64_in _ (by omega)
  have q2 : IntKind.i64.wrap (b + d) = b + d := IntWalk.i64_in _ (by omega)
  clear ha hb hc hd
  go_enter Tryd.func21, Tryd.ntmps21
  go_wp2
  go_returns
  exact ⟨rfl, by go_grown⟩

set_option maxRecDepth 100000 in
set_option maxHeartbeats 4000000 in
theorem implTotal_yes (v : Value) (xs : List Rg) (w : World) (h : RdS 2 encRg w v xs) (lz : xs.length ≤ 1048576) (ok : OkT xs) (T : TKeys w) :
    Calls Tryd.prog 8 #[v] w fun e w' => e = .returned (.tuple #[.int .i64 (sumL bendR xs), .int .i64 (sumL riseR xs), .bool true]) ∧ Below w.heap.size w w' := by
  have H := Lib.hid h
  have HT := Lib.hid T
  have HA := Lib.hid ok.2.1
  have c1 := Lib.hid (fun w (h : RdS 2 encRg w v xs) => implTube_any v xs w h lz true ⟨fun _ => ok, fun _ => rfl⟩)
  obtain ⟨a, cap, rfl, _⟩ := h
  obtain ⟨n, hn⟩ : ∃ n, n = xs.length := ⟨_, rfl⟩
  have n60 : n ≤ 60 := by have := ok.1; omega
  rw [← hn] at H c1
  rw [← hn]
  have HN := Lib.hid hn
  clear hn lz ok T
  go_enter Tryd.func8, Tryd.ntmps8
  go_wp2_with fail
  refine (c1.out _ H.out).mono ?_
  rintro e w1 ⟨rfl, b1⟩
  have z1 := b1.size
  have B1 := Lib.hid b1
  clear b1 c1
  go_wp2
  have N0 : Hid ((w1.alloc (.cells #[.int .i64 0, .int .i64 0] 49)).heap[w1.heap.size]? = some (.cells #[.int .i64 (sumL bendR (xs.take 0)), .int .i64 (sumL riseR (xs.take 0))] 49 (0, 0))) := heap_alloc_new w1 _
  have B0 : Hid (Below w.heap.size w (w1.alloc (.cells #[.int .i64 0, .int .i64 0] 49))) := B1.out.alloc z1 _
  have y0 : w1.heap.size < (w1.alloc (.cells #[.int .i64 0, .int .i64 0] 49)).heap.size := by simp
  go_loopw [13] (fun iv wr => ∃ k : Nat, k ≤ n ∧ iv = .int .i64 k ∧ Hid (wr.heap[w1.heap.size]? = some (.cells #[.int .i64 (sumL bendR (xs.take k)), .int .i64 (sumL riseR (xs.take k))] 49 (0, 0))) ∧ Hid (Below w.heap.size w wr) ∧ w1.heap.size < wr.heap.size) (fun iv _ => n - (intOf iv).toNat)
  case atStart => exact ⟨0, by omega, rfl, N0, B0, y0⟩
  case round =>
    obtain ⟨k, hk, rfl, N, B, hz⟩ := hrel
    clear N0 B0 y0
    have bd1 := sum_take_bd bendR xs k (by omega) fun x hx => (turn_bd x (HA.out x hx)).1
    have bd2 := sum_take_bd riseR xs k (by omega) fun x hx => (turn_bd x (HA.out x hx)).2
    by_cases hlt : k < n
    · obtain ⟨c, hx⟩ : ∃ x, xs[k]? = some x := ⟨_, List.getElem?_eq_getElem (by have := HN.out; omega)⟩
      obtain ⟨ba, oa, rfl, e0, e1⟩ := (H.out.later B.out).at2 k c hx
      have hc := HA.out c (List.mem_of_getElem? hx)
      have tb := turn_bd c hc
      have s1 := sumL_succ bendR xs k c hx
      have s2 := sumL_succ riseR xs k c hx
      have hsz := B.out.size
      obtain ⟨X, hX⟩ : ∃ X, sumL bendR (xs.take k) = X := ⟨_, rfl⟩
      obtain ⟨Y, hY⟩ : ∃ Y, sumL riseR (xs.take k) = Y := ⟨_, rfl⟩
      obtain ⟨x, hx'⟩ : ∃ x, bendR c = x := ⟨_, rfl⟩
      obtain ⟨y, hy'⟩ : ∃ y, riseR c = y := ⟨_, rfl⟩
      have tc := Lib.hid (fun w T => turn_any c hc w T)
      rw [hX] at s1 N bd1
      rw [hY] at s2 N bd2
      rw [hx'] at s1 tc tb
      rw [hy'] at s2 tc tb
      have pc := Lib.hid (fun w => plus_any X Y x y (by omega) (by omega) (by omega) (by omega) w)
      have S1 := Lib.hid s1
      have S2 := Lib.hid s2
      have g1 : ¬ w1.heap.size = wr.heap.size := by omega
      clear hx s1 s2 hX hY hx' hy' hc tb bd1 bd2
      go_wp2
      have N2 : Hid ((wr.alloc (.cells #[.int .i64 c.k, .int .i64 c.y] 45)).heap[w1.heap.size]? = some (.cells #[.int .i64 X, .int .i64 Y] 49 (0, 0))) := (Below.heap_alloc _ _ _ hz).trans N.out
      have R2 : Hid ((wr.alloc (.cells #[.int .i64 c.k, .int .i64 c.y] 45)).heap[wr.heap.size]? = some (.cells #[.int .i64 c.k, .int .i64 c.y] 45 (0, 0))) := heap_alloc_new wr _
      have B2 : Hid (Below w.heap.size w (wr.alloc (.cells #[.int .i64 c.k, .int .i64 c.y] 45))) := B.out.alloc hsz _
      have z2 : w1.heap.size < (wr.alloc (.cells #[.int .i64 c.k, .int .i64 c.y] 45)).heap.size := by simp; omega
      obtain ⟨w2, hw2⟩ : ∃ w2, w2 = wr.alloc (.cells #[.int .i64 c.k, .int .i64 c.y] 45) := ⟨_, rfl⟩
      rw [← hw2] at N2 R2 B2 z2
      rw [← hw2]
      have t0 : w2.cell? ⟨w1.heap.size, 0, none⟩ = some (.int .i64 X) := cell_of_row w2 w1.heap.size 0 _ _ _ N2.out
      have t1 : w2.cell? ⟨w1.heap.size, 1, none⟩ = some (.int .i64 Y) := cell_of_row w2 w1.heap.size 1 _ _ _ N2.out
      obtain ⟨⟨r0, r1⟩, -⟩ := boxRg_at R2.out
      clear hw2 e0 e1 N
      go_region_law (first
        | (go_simp; go_at_call 22; refine (tc.out _ (HT.out.later B2.out.drew)).mono ?_; rintro e w4 ⟨rfl, b4⟩; have N4 := Lib.hid ((b4.block w1.heap.size z2).trans N2.out); have B4 : Hid (Below w.heap.size w w4) := B2.out.drew.trans (b4.mono (by have := B2.out.size; exact this)); have z4 := Nat.lt_of_lt_of_le z2 b4.size; have u0 : w4.cell? ⟨w1.heap.size, 0, none⟩ = some (.int .i64 X) := cell_of_row w4 w1.heap.size 0 _ _ _ N4.out; have u1 : w4.cell? ⟨w1.heap.size, 1, none⟩ = some (.int .i64 Y) := cell_of_row w4 w1.heap.size 1 _ _ _ N4.out)
        | (go_simp; go_at_call 21; refine (pc.out _).mono ?_; rintro e w5 ⟨rfl, b5⟩; have N5 := Lib.hid ((b5.block w1.heap.size z4).trans N4.out); have B5 : Hid (Below w.heap.size w w5) := B4.out.trans (b5.mono B4.out.size); have z5 := Nat.lt_of_lt_of_le z4 b5.size; have x0 : w5.cell? ⟨w1.heap.size, 0, none⟩ = some (.int .i64 X) := cell_of_row w5 w1.heap.size 0 _ _ _ N5.out; have x1 : w5.cell? ⟨w1.heap.size, 1, none⟩ = some (.int .i64 Y) := cell_of_row w5 w1.heap.size 1 _ _ _ N5.out; have f0 := frozen_of_row w5 w1.heap.size 0 _ _ N5.out; have f1 := frozen_of_row w5 w1.heap.size 1 _ _ N5.out))
      all_goals
        have N6 : Hid (((w5.setCell ⟨w1.heap.size, 0, none⟩ (.int .i64 (X + x))).setCell ⟨w1.heap.size, 1, none⟩ (.int .i64 (Y + y))).heap[w1.heap.size]? = some (.cells #[.int .i64 (sumL bendR (xs.take (k + 1))), .int .i64 (sumL riseR (xs.take (k + 1)))] 49 (0, 0))) := by
          have h1 := heap_setCell_same _ w1.heap.size 1 _ 49 (.int .i64 (Y + y)) (heap_setCell_same w5 w1.heap.size 0 _ 49 (.int .i64 (X + x)) N5.out)
          show _ = _
          rw [S1.out, S2.out]
          simpa using h1
        have B6 : Hid (Below w.heap.size w ((w5.setCell ⟨w1.heap.size, 0, none⟩ (.int .i64 (X + x))).setCell ⟨w1.heap.size, 1, none⟩ (.int .i64 (Y + y)))) := (B5.out.setCell (p := ⟨w1.heap.size, 0, none⟩) z1 _).setCell (p := ⟨w1.heap.size, 1, none⟩) z1 _
        have z6 : w1.heap.size < ((w5.setCell ⟨w1.heap.size, 0, none⟩ (.int .i64 (X + x))).setCell ⟨w1.heap.size, 1, none⟩ (.int .i64 (Y + y))).heap.size := by simp; omega
        clear t0 t1 r0 r1 u0 u1 x0 x1 f0 f1 N2 R2 B2 N4 B4 N5 B5 B S1 S2 tc pc
        go_wp2
        exact ⟨⟨k + 1, by omega, by go_num, N6, B6, z6⟩, by simp only [intOf]; omega⟩
    · obtain rfl : k = n := by omega
      have N6 := N.out
      rw [List.take_of_length_le (by have := HN.out; omega)] at N6
      have t0 := cell_of_row wr w1.heap.size 0 _ _ _ N6
      have t1 := cell_of_row wr w1.heap.size 1 _ _ _ N6
      have t0' : wr.cell? ⟨w1.heap.size, 0, none⟩ = some (.int .i64 (sumL bendR xs)) := t0
      have t1' : wr.cell? ⟨w1.heap.size, 1, none⟩ = some (.int .i64 (sumL riseR xs)) := t1
      clear N N6 t0 t1 bd1 bd2
      go_wp2
      go_quiet (fail)
      go_wp2
      go_ret3
      exact ⟨rfl, below_drewN' _ B.out⟩

theorem implTotal_no (v : Value) (xs : List Rg) (w : World) (h : RdS 2 encRg w v xs) (lz : xs.length ≤ 1048576) (ok : ¬ OkT xs) :
    Calls Tryd.prog 8 #[v] w fun e w' => e = .returned (.tuple #[.int .i64 0, .int .i64 0, .bool false]) ∧ Below w.heap.size w w' := by
  have H := Lib.hid h
  have c1 := Lib.hid (fun w (h : RdS 2 encRg w v xs) => implTube_any v xs w h lz false ⟨fun e => (by cases e), fun e => absurd e ok⟩)
  obtain ⟨a, cap, rfl, _⟩ := h
  clear lz ok
  go_enter Tryd.func8, Tryd.ntmps8
  go_wp2_with fail
  refine (c1.out _ H.out).mono ?_
  rintro e w1 ⟨rfl, b1⟩
  have B1 := Lib.hid b1
  clear b1 c1
  go_wp2
  go_ret3
  exact ⟨rfl, B1.out⟩

set_option maxRecDepth 100000 in
set_option maxHeartbeats 4000000 in
theorem l03Total_any (v : Value) (xs : List Rg) (w : World) (h : RdS 2 encRg w v xs) (ok : OkT xs) :
    Calls Tryd.prog 18 #[v] w fun e w' => e = .returned (.tuple #[.int .i64 (sumL bendR xs), .int .i64 (sumL riseR xs)]) ∧ Below w.heap.size w w' := by
  have H := Lib.hid h
  have HA := Lib.hid ok.2.1
  obtain ⟨a, cap, rfl, _⟩ := h
  obtain ⟨n, hn⟩ : ∃ n, n = xs.length := ⟨_, rfl⟩
  have n60 : n ≤ 60 := by have := ok.1; omega
  rw [← hn] at H
  rw [← hn]
  have HN := Lib.hid hn
  clear hn ok
  go_enter Tryd.func18, Tryd.ntmps18
  go_wp2
  go_loopw [4, 5, 6] (fun bv rv iv wr => ∃ k : Nat, k ≤ n ∧ iv = .int .i64 k ∧ bv = .int .i64 (sumL bendR (xs.take k)) ∧ rv = .int .i64 (sumL riseR (xs.take k)) ∧ Hid (Below w.heap.size w wr)) (fun _ _ iv _ => n - (intOf iv).toNat)
  case atStart => exact ⟨0, by omega, rfl, rfl, rfl, Below.refl _ _⟩
  case round =>
    obtain ⟨k, hk, rfl, rfl, rfl, B⟩ := hrel
    have bd1 := sum_take_bd bendR xs k (by omega) fun x hx => (turn_bd x (HA.out x hx)).1
    have bd2 := sum_take_bd riseR xs k (by omega) fun x hx => (turn_bd x (HA.out x hx)).2
    by_cases hlt : k < n
    · obtain ⟨c, hx⟩ : ∃ x, xs[k]? = some x := ⟨_, List.getElem?_eq_getElem (by have := HN.out; omega)⟩
      obtain ⟨ba, oa, rfl, e0, e1⟩ := (H.out.later B.out).at2 k c hx
      have hc := HA.out c (List.mem_of_getElem? hx)
      have tb := turn_bd c hc
      have s1 := sumL_succ bendR xs k c hx
      have s2 := sumL_succ riseR xs k c hx
      have hsz := B.out.size
      obtain ⟨X, hX⟩ : ∃ X, sumL bendR (xs.take k) = X := ⟨_, rfl⟩
      obtain ⟨Y, hY⟩ : ∃ Y, sumL riseR (xs.take k) = Y := ⟨_, rfl⟩
      obtain ⟨x, hx'⟩ : ∃ x, bendR c = x := ⟨_, rfl⟩
      obtain ⟨y, hy'⟩ : ∃ y, riseR c = y := ⟨_, rfl⟩
      have tc := Lib.hid (fun w => l03Turn_any c hc w)
      rw [hX] at s1 bd1 ⊢
      rw [hY] at s2 bd2 ⊢
      rw [hx'] at s1 tc tb
      rw [hy'] at s2 tc tb
      have q1 : IntKind.i64.wrap (X + x) = X + x := IntWalk.i64_in _ (by omega)
      have q2 : IntKind.i64.wrap (Y + y) = Y + y := IntWalk.i64_in _ (by omega)
      have S1 := Lib.hid s1
      have S2 := Lib.hid s2
      clear hx s1 s2 hX hY hx' hy' hc tb bd1 bd2
      go_wp2_with fail
      refine (tc.out _).mono ?_
      rintro e w2 ⟨rfl, b2⟩
      have B2 : Hid (Below w.heap.size w w2) := B.out.trans (b2.mono hsz)
      clear b2 e0 e1 B
      go_wp2
      exact ⟨⟨k + 1, by omega, by go_num, by rw [S1.out], by rw [S2.out], B2⟩, by simp only [intOf]; omega⟩
    · obtain rfl : k = n := by omega
      have e : xs.take k = xs := List.take_of_length_le (by have := HN.out; omega)
      rw [e] at bd1 bd2 ⊢
      clear e bd1 bd2
      go_wp2
      go_ret2
      exact ⟨rfl, B.out⟩

theorem specTotal_yes (v : Value) (xs : List Rg) (w : World) (h : RdS 2 encRg w v xs) (lz : xs.length ≤ 1048576) (ok : OkT xs) :
    Calls Tryd.prog 6 #[v] w fun e w' => e = .returned (.tuple #[.int .i64 (sumL bendR xs), .int .i64 (sumL riseR xs), .bool true]) ∧ Below w.heap.size w w' := by
  have H := Lib.hid h
  have c1 := Lib.hid (fun w (h : RdS 2 encRg w v xs) => l03Tube_any v xs w h lz true ⟨fun _ => ok, fun _ => rfl⟩)
  have c2 := Lib.hid (fun w (h : RdS 2 encRg w v xs) => l03Total_any v xs w h ok)
  obtain ⟨a, cap, rfl, _⟩ := h
  clear lz ok
  go_enter Tryd.func6, Tryd.ntmps6
  go_wp2_with fail
  refine (c1.out _ H.out).mono ?_
  rintro e w1 ⟨rfl, b1⟩
  have z1 := b1.size
  have B1 := Lib.hid b1
  clear b1 c1
  go_wp2_with fail
  refine (c2.out _ (H.out.later B1.out)).mono ?_
  rintro e w2 ⟨rfl, b2⟩
  have B2 : Hid (Below w.heap.size w w2) := B1.out.trans (b2.mono z1)
  clear b2 c2
  go_wp2
  go_ret3
  exact ⟨rfl, B2.out⟩

theorem specTotal_no (v : Value) (xs : List Rg) (w : World) (h : RdS 2 encRg w v xs) (lz : xs.length ≤ 1048576) (ok : ¬ OkT xs) :
    Calls Tryd.prog 6 #[v] w fun e w' => e = .returned (.tuple #[.int .i64 0, .int .i64 0, .bool false]) ∧ Below w.heap.size w w' := by
  have H := Lib.hid h
  have c1 := Lib.hid (fun w (h : RdS 2 encRg w v xs) => l03Tube_any v xs w h lz false ⟨fun e => (by cases e), fun e => absurd e ok⟩)
  obtain ⟨a, cap, rfl, _⟩ := h
  clear lz ok
  go_enter Tryd.func6, Tryd.ntmps6
  go_wp2_with fail
  refine (c1.out _ H.out).mono ?_
  rintro e w1 ⟨rfl, b1⟩
  have B1 := Lib.hid b1
  clear b1 c1
  go_wp2
  go_ret3
  exact ⟨rfl, B1.out⟩

theorem exTotalTurn (xs : List Rg) (lz : xs.length ≤ 1048576) : ∃ (x y : Int) (b : Bool),
    Hid (∀ (w : World) (v0 : Value), TKeys w → RdS 2 encRg w v0 xs → Calls Tryd.prog 6 #[v0] w fun e w' => e = .returned (.tuple #[.int .i64 x, .int .i64 y, .bool b]) ∧ Below w.heap.size w w') ∧
    Hid (∀ (w : World) (v0 : Value), TKeys w → RdS 2 encRg w v0 xs → Calls Tryd.prog 8 #[v0] w fun e w' => e = .returned (.tuple #[.int .i64 x, .int .i64 y, .bool b]) ∧ Below w.heap.size w w') := by
  by_cases ok : OkT xs
  · exact ⟨_, _, true, fun w v _ h => specTotal_yes v xs w h lz ok, fun w v T h => implTotal_yes v xs w h lz ok T⟩
  · exact ⟨0, 0, false, fun w v _ h => specTotal_no v xs w h lz ok, fun w v T h => implTotal_no v xs w h lz ok⟩
end Go.Proofs.YtpphbjgaldidaaaDoor
