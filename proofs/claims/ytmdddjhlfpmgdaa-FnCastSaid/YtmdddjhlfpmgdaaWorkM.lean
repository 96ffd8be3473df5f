/- Orders and works: what is valid, on both sides. (Written by tools/mkwork.py.) -/
import Derived.Test.YtmdddjhlfpmgdaaWithin
import Derived.Test.YtmdddjhlfpmgdaaOrders
import Derived.Test.YtmdddjhlfpmgdaaWorkss
import Derived.Handy
import Derived.IntWalk
import Derived.Deep.RegionHeld3
import Derived.BigQuiet
namespace Go.Proofs.Ytmdddjhlfpmgdaa
open Go.ChangeShapes Go.WideShapes Go.ChangeAt Go.RowKit
set_option linter.unusedVariables false
set_option linter.unusedSimpArgs false

theorem bool_of (P : Prop) : ∃ b : Bool, b = true ↔ P := by
  by_cases h : P
  · exact ⟨true, by simp [h]⟩
  · exact ⟨false, by simp [h]⟩

def DayN (n : Int) : Prop := 0 ≤ n ∧ n ≤ 200
def PcsN (n : Int) : Prop := 1 ≤ n ∧ n ≤ 200
def OkOd (o : Od) : Prop := DayN o.d ∧ PcsN o.p
/-- The days of the first k orders increase. -/
def RiseTo (xs : List Od) (k : Nat) : Prop := ∀ i r s, i + 1 < k → xs[i]? = some r → xs[i + 1]? = some s → r.d < s.d
theorem RiseTo.zero (xs : List Od) : RiseTo xs 0 := by intro i r s hi; omega
theorem RiseTo.one (xs : List Od) : RiseTo xs 1 := by intro i r s hi; omega
theorem RiseTo.succ {xs : List Od} {k : Nat} {r s : Od} (h : RiseTo xs (k + 1)) (hr : xs[k]? = some r) (hs : xs[k + 1]? = some s) (hf : r.d < s.d) : RiseTo xs (k + 2) := by
  intro i r' s' hi h1 h2
  by_cases e : i = k
  · subst e
    obtain rfl := Option.some.inj (hr.symm.trans h1)
    obtain rfl := Option.some.inj (hs.symm.trans h2)
    exact hf
  · exact h i r' s' (by omega) h1 h2
def OkOs (xs : List Od) : Prop := xs.length ≤ 8 ∧ (∀ c ∈ xs, OkOd c) ∧ RiseTo xs xs.length
def OkTm (c u : Int) : Prop := (1 ≤ c ∧ c ≤ 10) ∧ (0 ≤ u ∧ u ≤ 40)
def OkWk (w : Wk) : Prop := PcsN w.m ∧ OkTm w.c w.u

theorem RdS.at2o {w : World} {a : Option Addr} {n cap : Nat} {xs : List Od} (h : RdS 2 encOd w (.slice a n cap) xs) (i : Nat) (x : Od) (hx : xs[i]? = some x) :
    ∃ b off, a = some ⟨b, off, none⟩ ∧ w.cell? ⟨b, off + i * 2, none⟩ = some (.int .i64 x.d) ∧ w.cell? ⟨b, off + i * 2 + 1, none⟩ = some (.int .i64 x.p) := by
  obtain ⟨a', c', hv, h⟩ := h
  simp only [Value.slice.injEq] at hv
  obtain ⟨rfl, -, -⟩ := hv
  obtain ⟨b, off, rfl, h2⟩ := h.resolve_left (by intro e; rw [e] at hx; simp at hx)
  exact ⟨b, off, rfl, h2 i x hx 0 _ rfl, h2 i x hx 1 _ rfl⟩

theorem l09Day_any (n : Int) (b : Bool) (hb : b = true ↔ DayN n) (w : World) :
    Calls Try.prog 47 #[.int .i64 n] w fun e w' => e = .returned (.bool b) ∧ w = w' := by
  have HB := Lib.hid hb
  clear hb
  go_enter Try.func47, Try.ntmps47
  go_wp2_with fail
  refine (in_any n 0 200 b HB.out w).mono ?_
  rintro e w' ⟨rfl, rfl⟩
  go_wp2
  go_ret
  exact ⟨rfl, rfl⟩

theorem isDay_any (n : Int) (b : Bool) (hb : b = true ↔ DayN n) (w : World) :
    Calls Try.prog 49 #[.int .i64 n] w fun e w' => e = .returned (.bool b) ∧ w = w' := by
  have HB := Lib.hid hb
  clear hb
  go_enter Try.func49, Try.ntmps49
  go_wp2_with fail
  refine (within_any n 0 200 b HB.out w).mono ?_
  rintro e w' ⟨rfl, rfl⟩
  go_wp2
  go_ret
  exact ⟨rfl, rfl⟩

theorem isPieces_any (n : Int) (b : Bool) (hb : b = true ↔ PcsN n) (w : World) :
    Calls Try.prog 45 #[.int .i64 n] w fun e w' => e = .returned (.bool b) ∧ w = w' := by
  have HB := Lib.hid hb
  clear hb
  go_enter Try.func45, Try.ntmps45
  go_wp2_with fail
  refine (within_any n 1 200 b HB.out w).mono ?_
  rintro e w' ⟨rfl, rfl⟩
  go_wp2
  go_ret
  exact ⟨rfl, rfl⟩

set_option maxRecDepth 100000 in
set_option maxHeartbeats 8000000 in
theorem l09Orders_any (v : Value) (xs : List Od) (w : World) (h : RdS 2 encOd w v xs) (lz : xs.length ≤ 1048576) (b : Bool) (hb : b = true ↔ OkOs xs) :
    Calls Try.prog 37 #[v] w fun e w' => e = .returned (.bool b) ∧ Below w.heap.size w w' := by
  have H := Lib.hid h
  have HB := Lib.hid hb
  obtain ⟨a, cap, rfl, _⟩ := h
  obtain ⟨n, hn⟩ : ∃ n, n = xs.length := ⟨_, rfl⟩
  rw [← hn] at H lz
  rw [← hn]
  have HN := Lib.hid hn
  clear hn hb
  go_enter Try.func37, Try.ntmps37
  go_wp2
  go_loopw [3] (fun i wr => ∃ k : Nat, k ≤ n ∧ i = .int .i64 k ∧ Hid (∀ c ∈ xs.take k, OkOd c) ∧ Hid (RiseTo xs k) ∧ Hid (Below w.heap.size w wr)) (fun i _ => n - (intOf i).toNat)
  case atStart => exact ⟨0, by omega, rfl, by intro c hc; simp at hc, RiseTo.zero xs, Below.refl _ _⟩
  case round =>
    obtain ⟨k, hk, rfl, hall, hrise, B⟩ := hrel
    have hsz := B.out.size
    by_cases hlt : k < n
    · obtain ⟨c, hx⟩ : ∃ x, xs[k]? = some x := ⟨_, List.getElem?_eq_getElem (by have := HN.out; omega)⟩
      obtain ⟨ba, oa, rfl, e0, e1⟩ := (H.out.later B.out).at2o k c hx
      have la : ba < wr.heap.size := World.block_lt_of_cell? wr _ e0
      have HX := Lib.hid hx
      obtain ⟨b1, h1⟩ := bool_of (DayN c.d)
      obtain ⟨b2, h2⟩ := bool_of (PcsN c.p)
      have C1 := Lib.hid (fun w => l09Day_any c.d b1 h1 w)
      have C2 := Lib.hid (fun w => in_any c.p 1 200 b2 h2 w)
      have HO : Hid (OkOd c ↔ (b1 = true ∧ b2 = true)) := by show _ ↔ _; rw [h1, h2]; rfl
      clear hx h1 h2
      cases b1 with
      | false =>
        obtain rfl : b = false := b_false HB.out (fun h => by have := HO.out.mp (h.2.1 c (List.mem_of_getElem? HX.out)); simp at this)
        clear hall hrise HB HO HX HN H
        go_wp2
        go_quiet ((go_at_call 47; exact (C1.out _).mono fun _ _ h => ⟨h.1, ⟨_, h.2.symm⟩⟩))
        go_wp2
        go_ret
        exact ⟨rfl, below_drewN B.out _⟩
      | true =>
        cases b2 with
        | false =>
          obtain rfl : b = false := b_false HB.out (fun h => by have := HO.out.mp (h.2.1 c (List.mem_of_getElem? HX.out)); simp at this)
          clear hall hrise HB HO HX HN H
          go_wp2
          go_quiet ((first | (go_at_call 47; exact (C1.out _).mono fun _ _ h => ⟨h.1, ⟨_, h.2.symm⟩⟩) | (go_at_call 59; exact (C2.out _).mono fun _ _ h => ⟨h.1, ⟨_, h.2.symm⟩⟩)))
          go_wp2
          go_ret
          exact ⟨rfl, below_drewN B.out _⟩
        | true =>
          have hall' : Hid (∀ c ∈ xs.take (k + 1), OkOd c) := by
            intro d hd
            rw [List.take_add_one, HX.out] at hd
            simp at hd
            rcases hd with hd | rfl
            · exact hall.out d hd
            · exact HO.out.mpr ⟨rfl, rfl⟩
          by_cases k0 : k = 0
          · have K0 := Lib.hid k0
            have d0 : decide (0 < k) = false := decide_eq_false (by omega)
            have R1 : Hid (RiseTo xs (k + 1)) := by show RiseTo _ _; rw [k0]; exact RiseTo.one xs
            clear hall hrise HO HX k0
            go_wp2
            go_quiet ((first | (go_at_call 47; exact (C1.out _).mono fun _ _ h => ⟨h.1, ⟨_, h.2.symm⟩⟩) | (go_at_call 59; exact (C2.out _).mono fun _ _ h => ⟨h.1, ⟨_, h.2.symm⟩⟩)))
            go_wp2
            exact ⟨⟨k + 1, by omega, by go_num, hall', R1, below_drewN B.out _⟩, by simp only [intOf]; omega⟩
          · obtain ⟨j, hj⟩ : ∃ j, k = j + 1 := ⟨k - 1, by omega⟩
            have d0 : decide (0 < k) = true := decide_eq_true (by omega)
            obtain ⟨p, hp⟩ : ∃ x, xs[j]? = some x := ⟨_, List.getElem?_eq_getElem (by have := HN.out; omega)⟩
            obtain ⟨bb, ob, eb, f0, -⟩ := (H.out.later B.out).at2o j p hp
            simp only [Option.some.injEq, Addr.mk.injEq, and_true] at eb
            obtain ⟨rfl, rfl⟩ := eb
            have HP := Lib.hid hp
            have q1 : IntKind.i64.wrap ((k : Int) - 1) = (j : Int) := by rw [IntWalk.i64_in _ (by omega)]; omega
            have jn : j < n := by omega
            have M := Lib.hid hj
            clear hj hp k0
            by_cases hr : p.d < c.d
            · have d1 : decide (c.d ≤ p.d) = false := decide_eq_false (by omega)
              have R1 : Hid (RiseTo xs (k + 1)) := by
                have e := M.out
                have r := hrise.out
                have x := HX.out
                show RiseTo _ _
                rw [e] at r x ⊢
                exact r.succ HP.out x hr
              clear hall hrise HO HX HP hr
              go_wp2
              go_quiet ((first | (go_at_call 47; exact (C1.out _).mono fun _ _ h => ⟨h.1, ⟨_, h.2.symm⟩⟩) | (go_at_call 59; exact (C2.out _).mono fun _ _ h => ⟨h.1, ⟨_, h.2.symm⟩⟩)))
              go_wp2
              exact ⟨⟨k + 1, by omega, by go_num, hall', R1, below_drewN B.out _⟩, by simp only [intOf]; omega⟩
            · have d1 : decide (c.d ≤ p.d) = true := decide_eq_true (by omega)
              obtain rfl : b = false := b_false HB.out (fun h => hr (h.2.2 j p c (by have := HN.out; have := M.out; omega) HP.out (by rw [← M.out]; exact HX.out)))
              clear hall hrise HO HX HP hr
              go_wp2
              go_quiet ((first | (go_at_call 47; exact (C1.out _).mono fun _ _ h => ⟨h.1, ⟨_, h.2.symm⟩⟩) | (go_at_call 59; exact (C2.out _).mono fun _ _ h => ⟨h.1, ⟨_, h.2.symm⟩⟩)))
              go_wp2
              go_ret
              exact ⟨rfl, below_drewN B.out _⟩
    · obtain rfl : k = n := by omega
      by_cases h12 : k ≤ 8
      · have d12 : decide ((k : Int) ≤ 8) = true := decide_eq_true (by omega)
        obtain rfl : b = true := HB.out.mpr ⟨by have := HN.out; omega, by have := hall.out; rwa [List.take_of_length_le (by have := HN.out; omega)] at this, by have := hrise.out; rw [← HN.out]; exact this⟩
        clear HB hall hrise
        go_wp2
        go_ret
        exact ⟨rfl, B.out⟩
      · have d12 : decide ((k : Int) ≤ 8) = false := decide_eq_false (by omega)
        obtain rfl : b = false := b_false HB.out (fun h => h12 (by have := h.1; have := HN.out; omega))
        clear HB hall hrise
        go_wp2
        go_ret
        exact ⟨rfl, B.out⟩

set_option maxHeartbeats 1000000 in
theorem odIs_any (g : Od) (b : Bool) (hb : b = true ↔ OkOd g) (w : World) :
    Calls Try.prog 40 #[(.agg #[.int .i64 g.d, .int .i64 g.p])] w fun e w' => e = .returned (.bool b) ∧ w' = w.alloc (.cells #[.int .i64 g.d, .int .i64 g.p] 58) := by
  obtain ⟨b1, h1⟩ := bool_of (DayN g.d)
  obtain ⟨b2, h2⟩ := bool_of (PcsN g.p)
  have e : b = (b1 && b2) := by rw [Bool.eq_iff_iff, hb]; simp only [Bool.and_eq_true, h1, h2]; rfl
  have H1 := Lib.hid h1
  have H2 := Lib.hid h2
  subst e
  clear hb h1 h2
  go_enter Try.func40, Try.ntmps40
  go_wp2_with fail
  refine (isDay_any g.d b1 H1.out _).mono ?_
  rintro e w1 ⟨rfl, rfl⟩
  cases b1
  · go_wp2
    go_ret
    exact ⟨rfl, rfl⟩
  · go_wp2_with fail
    refine (isPieces_any g.p b2 H2.out _).mono ?_
    rintro e w1 ⟨rfl, rfl⟩
    go_wp2
    go_ret
    exact ⟨by simp, rfl⟩

theorem odIs_blw (g : Od) (b : Bool) (hb : b = true ↔ OkOd g) (w : World) :
    Calls Try.prog 40 #[(.agg #[.int .i64 g.d, .int .i64 g.p])] w fun e w' => e = .returned (.bool b) ∧ Below w.heap.size w w' :=
  (odIs_any g b hb w).mono fun e w' ⟨h1, h2⟩ => ⟨h1, by rw [h2]; exact (Below.refl _ _).alloc (Nat.le_refl _) _⟩

theorem before_any (g h : Od) (b : Bool) (hb : decide (g.d < h.d) = b) (w : World) :
    Calls Try.prog 42 #[(.agg #[.int .i64 g.d, .int .i64 g.p]), (.agg #[.int .i64 h.d, .int .i64 h.p])] w fun e w' => e = .returned (.bool b) ∧ Below w.heap.size w w' := by
  go_enter Try.func42, Try.ntmps42
  go_wp2
  go_ret
  exact ⟨rfl, by go_grown⟩

set_option maxRecDepth 100000 in
set_option maxHeartbeats 2000000 in
theorem everyOrder_any (v : Value) (xs : List Od) (w : World) (h : RdS 2 encOd w v xs) (lz : xs.length ≤ 1048576) (b : Bool) (hb : b = true ↔ ∀ c ∈ xs, OkOd c) :
    Calls Try.prog 39 #[v, .func (.func 40) #[] #[]] w fun e w' => e = .returned (.bool b) ∧ Below w.heap.size w w' := by
  have H := Lib.hid h
  have HB := Lib.hid hb
  obtain ⟨a, cap, rfl, _⟩ := h
  obtain ⟨n, hn⟩ : ∃ n, n = xs.length := ⟨_, rfl⟩
  rw [← hn] at H lz
  rw [← hn]
  have HN := Lib.hid hn
  clear hn hb
  go_enter Try.func39, Try.ntmps39
  go_wp2
  go_loopw [9] (fun i wr => ∃ k : Nat, k ≤ n ∧ i = .int .i64 k ∧ Hid (∀ c ∈ xs.take k, OkOd c) ∧ Hid (Below w.heap.size w wr)) (fun i _ => n - (intOf i).toNat)
  case atStart => exact ⟨0, by omega, rfl, by intro c hc; simp at hc, Below.refl _ _⟩
  case round =>
    obtain ⟨k, hk, rfl, hall, B⟩ := hrel
    by_cases hlt : k < n
    · obtain ⟨c, hx⟩ : ∃ x, xs[k]? = some x := ⟨_, List.getElem?_eq_getElem (by have := HN.out; omega)⟩
      obtain ⟨ba, oa, rfl, e0, e1⟩ := (H.out.later B.out).at2o k c hx
      have hsz := B.out.size
      by_cases hc : OkOd c
      · have d1 := Lib.hid (fun w => odIs_blw c true ⟨fun _ => hc, fun _ => rfl⟩ w)
        have hall' : Hid (∀ c ∈ xs.take (k + 1), OkOd c) := by
          intro d hd
          rw [List.take_add_one, hx] at hd
          simp at hd
          rcases hd with hd | rfl
          · exact hall.out d hd
          · exact hc
        clear hx hc hall
        go_wp2_with fail
        refine (d1.out _).mono ?_
        rintro e w3 ⟨rfl, b3⟩
        have B3 : Hid (Below w.heap.size w w3) := ((B.out.alloc hsz _)).trans (b3.mono (by simp; omega))
        clear b3 e0 e1
        go_wp2
        exact ⟨⟨k + 1, by omega, by go_num, hall', B3⟩, by simp only [intOf]; omega⟩
      · have d1 := Lib.hid (fun w => odIs_blw c false ⟨fun h => (by cases h), fun h => absurd h hc⟩ w)
        obtain rfl : b = false := b_false HB.out (fun h => hc (h c (List.mem_of_getElem? hx)))
        clear hx hc hall
        go_wp2_with fail
        refine (d1.out _).mono ?_
        rintro e w3 ⟨rfl, b3⟩
        have B3 : Hid (Below w.heap.size w w3) := ((B.out.alloc hsz _)).trans (b3.mono (by simp; omega))
        clear b3 e0 e1
        go_wp2
        go_ret
        exact ⟨rfl, B3.out⟩
    · obtain rfl : k = n := by omega
      obtain rfl : b = true := HB.out.mpr (by have := hall.out; rwa [List.take_of_length_le (by have := HN.out; omega)] at this)
      go_wp2
      go_ret
      exact ⟨rfl, B.out⟩


set_option maxRecDepth 100000 in
set_option maxHeartbeats 4000000 in
theorem everyTwo_rise (v : Value) (xs : List Od) (w : World) (h : RdS 2 encOd w v xs) (lz : xs.length ≤ 1048576) (b : Bool) (hb : b = true ↔ RiseTo xs xs.length) :
    Calls Try.prog 41 #[v, .func (Fn.func 42) #[] #[]] w fun e w' => e = .returned (.bool b) ∧ Below w.heap.size w w' := by
  have H := Lib.hid h
  obtain ⟨a, cap, rfl, -⟩ := h
  obtain ⟨n, hn⟩ : ∃ n, n = xs.length := ⟨_, rfl⟩
  rw [← hn] at lz H hb
  rw [← hn]
  have HN := Lib.hid hn
  have HB := Lib.hid hb
  clear hn hb
  go_enter Try.func41, Try.ntmps41
  go_wp2
  go_loopw [5] (fun i wr => ∃ k : Nat, 1 ≤ k ∧ k ≤ n + 1 ∧ i = .int .i64 k ∧ Hid (RiseTo xs k) ∧ Hid (Below w.heap.size w wr)) (fun i _ => n + 1 - (intOf i).toNat)
  case atStart => exact ⟨1, by omega, by omega, rfl, RiseTo.one xs, Below.refl _ _⟩
  case round =>
    obtain ⟨k, k1, hk, rfl, ha, B⟩ := hrel
    have sz := B.out.size
    by_cases hlt : k < n
    · obtain ⟨j, hj⟩ : ∃ j, k = j + 1 := ⟨k - 1, by omega⟩
      obtain ⟨x, hx⟩ : ∃ x, xs[j]? = some x := ⟨_, List.getElem?_eq_getElem (by have := HN.out; omega)⟩
      obtain ⟨y, hy⟩ : ∃ y, xs[k]? = some y := ⟨_, List.getElem?_eq_getElem (by have := HN.out; omega)⟩
      obtain ⟨ba, oa, rfl, a0, a1⟩ := (H.out.later B.out).at2o j x hx
      obtain ⟨bb, ob, eb, b0, b1⟩ := (H.out.later B.out).at2o k y hy
      simp only [Option.some.injEq, Addr.mk.injEq, and_true] at eb
      obtain ⟨rfl, rfl⟩ := eb
      have la : ba < wr.heap.size := World.block_lt_of_cell? wr _ a0
      have HX := Lib.hid hx
      have HY := Lib.hid hy
      have HJ := Lib.hid hj
      have q1 : IntKind.i64.wrap ((k : Int) - 1) = (j : Int) := by rw [IntWalk.i64_in _ (by omega)]; omega
      have jn : j < n := by omega
      obtain ⟨bv, hbv0⟩ : ∃ bv : Bool, decide (x.d < y.d) = bv := ⟨_, rfl⟩
      have hbv : bv = true ↔ x.d < y.d := by rw [← hbv0]; simp
      have C := Lib.hid (fun w => before_any x y bv hbv0 w)
      have BV := Lib.hid hbv
      have KS : Hid (∀ w', Below wr.heap.size wr w' → (w'.cell? ⟨ba, oa + j * 2, none⟩ = some (.int .i64 x.d) ∧ w'.cell? ⟨ba, oa + j * 2 + 1, none⟩ = some (.int .i64 x.p) ∧ w'.cell? ⟨ba, oa + k * 2, none⟩ = some (.int .i64 y.d) ∧ w'.cell? ⟨ba, oa + k * 2 + 1, none⟩ = some (.int .i64 y.p))) :=
        fun w' b => ⟨(b.cell (p := ⟨ba, oa + j * 2, none⟩) la).trans a0, (b.cell (p := ⟨ba, oa + j * 2 + 1, none⟩) la).trans a1, (b.cell (p := ⟨ba, oa + k * 2, none⟩) la).trans b0, (b.cell (p := ⟨ba, oa + k * 2 + 1, none⟩) la).trans b1⟩
      clear hx hy hj hbv hbv0 a0 a1 b0 b1 la
      go_wp2
      go_region_held3 (fun w' => (w'.cell? ⟨ba, oa + j * 2, none⟩ = some (.int .i64 x.d) ∧ w'.cell? ⟨ba, oa + j * 2 + 1, none⟩ = some (.int .i64 x.p) ∧ w'.cell? ⟨ba, oa + k * 2, none⟩ = some (.int .i64 y.d) ∧ w'.cell? ⟨ba, oa + k * 2 + 1, none⟩ = some (.int .i64 y.p)))
        (first | exact KS.out _ D1.out | exact KS.out _ (Below.refl _ _).drew)
        ((go_at_call 42; refine (C.out _).mono ?_; rintro e w1 ⟨rfl, b1⟩; have D1 : Hid (Below wr.heap.size wr w1) := (Below.refl _ _).drew.trans b1))
      rename_i hHeld
      have B2 : Hid (Below w.heap.size w w1) := B.out.trans (D1.out.mono sz)
      clear hHeld D1 KS C B b1
      cases bv with
      | true =>
        have A1 : Hid (RiseTo xs (k + 1)) := by
          have e := HJ.out
          have h2 := ha.out
          have hy := HY.out
          show RiseTo _ _
          rw [e] at h2 hy ⊢
          exact RiseTo.succ h2 HX.out hy (BV.out.mp (by simp))
        clear ha
        go_wp2
        exact ⟨⟨k + 1, by omega, by omega, by go_num, A1, B2⟩, by simp only [intOf]; omega⟩
      | false =>
        obtain rfl : b = false := b_false HB.out (fun hA => by have e := hA j x y (by have := HJ.out; omega) HX.out (by rw [← HJ.out]; exact HY.out); have := BV.out.mpr e; cases this)
        clear ha
        go_wp2
        go_ret
        exact ⟨rfl, B2.out⟩
    · obtain rfl : b = true := HB.out.mpr (fun i x y hi hx hy => ha.out i x y (by omega) hx hy)
      clear ha
      go_wp2
      go_ret
      exact ⟨rfl, B.out⟩


set_option maxRecDepth 100000 in
set_option maxHeartbeats 4000000 in
theorem implOrders_any (v : Value) (xs : List Od) (w : World) (h : RdS 2 encOd w v xs) (lz : xs.length ≤ 1048576) (b : Bool) (hb : b = true ↔ OkOs xs) :
    Calls Try.prog 14 #[v] w fun e w' => e = .returned (.bool b) ∧ Below w.heap.size w w' := by
  obtain ⟨b1, h1⟩ := bool_of (∀ c ∈ xs, OkOd c)
  obtain ⟨b2, h2⟩ := bool_of (RiseTo xs xs.length)
  have c1 := Lib.hid (fun w (hr : RdS 2 encOd w v xs) => everyOrder_any v xs w hr lz b1 h1)
  have c2 := Lib.hid (fun w (hr : RdS 2 encOd w v xs) => everyTwo_rise v xs w hr lz b2 h2)
  have H := Lib.hid h
  have HB : Hid (b = true ↔ xs.length ≤ 8 ∧ b1 = true ∧ b2 = true) := by show _ ↔ _; rw [h1, h2]; exact hb
  obtain ⟨a, cap, rfl, _⟩ := h
  obtain ⟨n, hn⟩ : ∃ n, n = xs.length := ⟨_, rfl⟩
  rw [← hn] at H lz c1 c2 HB
  rw [← hn]
  clear hn hb h1 h2
  by_cases g : n ≤ 8
  · have g60 : decide ((n : Int) ≤ 8) = true := decide_eq_true (by omega)
    have e : b = (b1 && b2) := by rw [Bool.eq_iff_iff, HB.out]; simp [g]
    subst e
    clear HB g
    go_enter Try.func14, Try.ntmps14
    go_wp2_with fail
    refine (c1.out _ H.out).mono ?_
    rintro e w1 ⟨rfl, k1⟩
    have B1 := Lib.hid k1
    clear k1 c1
    cases b1
    · go_wp2
      go_ret
      exact ⟨rfl, B1.out⟩
    · go_wp2_with fail
      refine (c2.out _ (H.out.later B1.out)).mono ?_
      rintro e w2 ⟨rfl, k2⟩
      have B2 : Hid (Below w.heap.size w w2) := B1.out.trans (k2.mono B1.out.size)
      clear k2 c2
      go_wp2
      go_ret
      exact ⟨by simp, B2.out⟩
  · have g60 : decide ((n : Int) ≤ 8) = false := decide_eq_false (by omega)
    obtain rfl : b = false := b_false HB.out (fun h => g h.1)
    clear HB
    have g61 : 8 < n := by omega
    clear g
    go_enter Try.func14, Try.ntmps14
    go_wp2
    go_ret
    exact ⟨rfl, Below.refl _ _⟩

theorem specOrders_any (v : Value) (xs : List Od) (w : World) (h : RdS 2 encOd w v xs) (lz : xs.length ≤ 1048576) (b : Bool) (hb : b = true ↔ OkOs xs) :
    Calls Try.prog 12 #[v] w fun e w' => e = .returned (.bool b) ∧ Below w.heap.size w w' := by
  have c := Lib.hid (fun w (h : RdS 2 encOd w v xs) => l09Orders_any v xs w h lz b hb)
  have H := Lib.hid h
  obtain ⟨a, cap, rfl, _⟩ := h
  clear hb
  go_enter Try.func12, Try.ntmps12
  go_wp2_with fail
  refine (c.out _ H.out).mono ?_
  rintro e w' ⟨rfl, b⟩
  have B := Lib.hid b
  clear b
  go_wp2
  go_ret
  exact ⟨rfl, B.out⟩

theorem exValidOrders (xs : List Od) (lz : xs.length ≤ 1048576) : ∃ r : Bool,
    Hid (∀ (w : World) (v0 : Value), (fun _ => True) w → RdS 2 encOd w v0 xs → Calls Try.prog 12 #[v0] w fun e w' => e = .returned (.bool r) ∧ Below w.heap.size w w') ∧
    Hid (∀ (w : World) (v0 : Value), (fun _ => True) w → RdS 2 encOd w v0 xs → Calls Try.prog 14 #[v0] w fun e w' => e = .returned (.bool r) ∧ Below w.heap.size w w') := by
  obtain ⟨b, hb⟩ := bool_of (OkOs xs)
  exact ⟨b, fun w v _ h => specOrders_any v xs w h lz b hb, fun w v _ h => implOrders_any v xs w h lz b hb⟩

/-! Works. -/
theorem l09Times_any (c u : Int) (b : Bool) (hb : b = true ↔ OkTm c u) (w : World) :
    Calls Try.prog 53 #[.int .i64 c, .int .i64 u] w fun e w' => e = .returned (.bool b) ∧ w = w' := by
  obtain ⟨b1, h1⟩ := bool_of (1 ≤ c ∧ c ≤ 10)
  obtain ⟨b2, h2⟩ := bool_of (0 ≤ u ∧ u ≤ 40)
  have e : b = (b1 && b2) := by rw [Bool.eq_iff_iff, hb]; simp only [Bool.and_eq_true, h1, h2]; rfl
  have H1 := Lib.hid h1
  have H2 := Lib.hid h2
  subst e
  clear hb h1 h2
  go_enter Try.func53, Try.ntmps53
  go_wp2_with fail
  refine (in_any c 1 10 b1 H1.out _).mono ?_
  rintro e w1 ⟨rfl, rfl⟩
  cases b1
  · go_wp2
    go_ret
    exact ⟨rfl, rfl⟩
  · go_wp2_with fail
    refine (in_any u 0 40 b2 H2.out _).mono ?_
    rintro e w1 ⟨rfl, rfl⟩
    go_wp2
    go_ret
    exact ⟨by simp, rfl⟩

set_option maxHeartbeats 1000000 in
theorem l09Works_any (g : Wk) (b : Bool) (hb : b = true ↔ OkWk g) (w : World) :
    Calls Try.prog 44 #[(.agg #[.int .i64 g.m, .int .i64 g.c, .int .i64 g.u])] w fun e w' => e = .returned (.bool b) ∧ w' = w.alloc (.cells #[.int .i64 g.m, .int .i64 g.c, .int .i64 g.u] 32) := by
  obtain ⟨b1, h1⟩ := bool_of (PcsN g.m)
  obtain ⟨b2, h2⟩ := bool_of (OkTm g.c g.u)
  have e : b = (b1 && b2) := by rw [Bool.eq_iff_iff, hb]; simp only [Bool.and_eq_true, h1, h2]; rfl
  have H1 := Lib.hid h1
  have H2 := Lib.hid h2
  subst e
  clear hb h1 h2
  go_enter Try.func44, Try.ntmps44
  go_wp2_with fail
  refine (in_any g.m 1 200 b1 H1.out _).mono ?_
  rintro e w1 ⟨rfl, rfl⟩
  cases b1
  · go_wp2
    go_ret
    exact ⟨rfl, rfl⟩
  · go_wp2_with fail
    refine (l09Times_any g.c g.u b2 H2.out _).mono ?_
    rintro e w1 ⟨rfl, rfl⟩
    go_wp2
    go_ret
    exact ⟨by simp, rfl⟩

theorem l09Works_blw (g : Wk) (b : Bool) (hb : b = true ↔ OkWk g) (w : World) :
    Calls Try.prog 44 #[(.agg #[.int .i64 g.m, .int .i64 g.c, .int .i64 g.u])] w fun e w' => e = .returned (.bool b) ∧ Below w.heap.size w w' :=
  (l09Works_any g b hb w).mono fun e w' ⟨h1, h2⟩ => ⟨h1, by rw [h2]; exact (Below.refl _ _).alloc (Nat.le_refl _) _⟩

set_option maxHeartbeats 1000000 in
theorem implWorks_any (g : Wk) (b : Bool) (hb : b = true ↔ OkWk g) (w : World) :
    Calls Try.prog 18 #[(.agg #[.int .i64 g.m, .int .i64 g.c, .int .i64 g.u])] w fun e w' => e = .returned (.bool b) ∧ w' = w.alloc (.cells #[.int .i64 g.m, .int .i64 g.c, .int .i64 g.u] 32) := by
  obtain ⟨b1, h1⟩ := bool_of (PcsN g.m)
  obtain ⟨b2, h2⟩ := bool_of (1 ≤ g.c ∧ g.c ≤ 10)
  obtain ⟨b3, h3⟩ := bool_of (0 ≤ g.u ∧ g.u ≤ 40)
  have e : b = (b1 && (b2 && b3)) := by rw [Bool.eq_iff_iff, hb]; simp only [Bool.and_eq_true, h1, h2, h3]; rfl
  have H1 := Lib.hid h1
  have H2 := Lib.hid h2
  have H3 := Lib.hid h3
  subst e
  clear hb h1 h2 h3
  go_enter Try.func18, Try.ntmps18
  go_wp2_with fail
  refine (isPieces_any g.m b1 H1.out _).mono ?_
  rintro e w1 ⟨rfl, rfl⟩
  cases b1
  · go_wp2
    go_ret
    exact ⟨rfl, rfl⟩
  · go_wp2_with fail
    refine (within_any g.c 1 10 b2 H2.out _).mono ?_
    rintro e w1 ⟨rfl, rfl⟩
    cases b2
    · go_wp2
      go_ret
      exact ⟨rfl, rfl⟩
    · go_wp2_with fail
      refine (within_any g.u 0 40 b3 H3.out _).mono ?_
      rintro e w1 ⟨rfl, rfl⟩
      go_wp2
      go_ret
      exact ⟨by simp, rfl⟩

theorem implWorks_blw (g : Wk) (b : Bool) (hb : b = true ↔ OkWk g) (w : World) :
    Calls Try.prog 18 #[(.agg #[.int .i64 g.m, .int .i64 g.c, .int .i64 g.u])] w fun e w' => e = .returned (.bool b) ∧ Below w.heap.size w w' :=
  (implWorks_any g b hb w).mono fun e w' ⟨h1, h2⟩ => ⟨h1, by rw [h2]; exact (Below.refl _ _).alloc (Nat.le_refl _) _⟩

theorem specWorks_any (g : Wk) (b : Bool) (hb : b = true ↔ OkWk g) (w : World) :
    Calls Try.prog 16 #[(.agg #[.int .i64 g.m, .int .i64 g.c, .int .i64 g.u])] w fun e w' => e = .returned (.bool b) ∧ Below w.heap.size w w' := by
  have C := Lib.hid (fun w => l09Works_any g b hb w)
  clear hb
  go_enter Try.func16, Try.ntmps16
  go_wp2_with fail
  refine (C.out _).mono ?_
  rintro e w1 ⟨rfl, rfl⟩
  go_wp2
  go_ret
  exact ⟨rfl, by go_grown⟩

theorem exValidWorks (g : Wk) : ∃ r : Bool,
    Hid (∀ (w : World), (fun _ => True) w → Calls Try.prog 16 #[(.agg #[.int .i64 g.m, .int .i64 g.c, .int .i64 g.u])] w fun e w' => e = .returned (.bool r) ∧ Below w.heap.size w w') ∧
    Hid (∀ (w : World), (fun _ => True) w → Calls Try.prog 18 #[(.agg #[.int .i64 g.m, .int .i64 g.c, .int .i64 g.u])] w fun e w' => e = .returned (.bool r) ∧ Below w.heap.size w w') := by
  obtain ⟨b, hb⟩ := bool_of (OkWk g)
  exact ⟨b, fun w _ => specWorks_any g b hb w, fun w _ => implWorks_blw g b hb w⟩
end Go.Proofs.Ytmdddjhlfpmgdaa
