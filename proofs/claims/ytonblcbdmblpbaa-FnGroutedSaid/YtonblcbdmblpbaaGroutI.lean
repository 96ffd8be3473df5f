/- Grouts: what has set, what is lost and spare, on both sides; the program's check. (Written by tools/mkgrout2.py.) -/
import Derived.Test.YtonblcbdmblpbaaGroutM
namespace Go.Proofs.Ytonblcbdmblpbaa
open Go.ChangeShapes Go.WideShapes Go.ChangeAt Go.RowKit
set_option linter.unusedVariables false
set_option linter.unusedSimpArgs false

/-- What has set. -/
def setG (g : Gt) : Int := (g.i * (100 - g.s)).tdiv 100
def lossG (g : Gt) : Int := if g.v - setG g < 0 then 0 else g.v - setG g
def spareG (g : Gt) : Int := if setG g - g.v < 0 then 0 else setG g - g.v

theorem setG_bd {g : Gt} (h : OkGt g) : (0 ≤ g.i * (100 - g.s) ∧ g.i * (100 - g.s) ≤ 10000000) ∧ 0 ≤ setG g ∧ setG g ≤ 100000 := by
  obtain ⟨-, -, ⟨h0, h1⟩, h2, h3⟩ := h
  have a : 0 ≤ g.i * (100 - g.s) := Int.mul_nonneg h0 (by omega)
  have b : g.i * (100 - g.s) ≤ 100000 * 100 := Int.mul_le_mul h1 (by omega) (by omega) (by omega)
  refine ⟨⟨a, by omega⟩, ?_⟩
  unfold setG
  generalize g.i * (100 - g.s) = m at *
  rw [Int.tdiv_eq_ediv_of_nonneg a]
  omega

set_option maxHeartbeats 1000000 in
theorem l07Set_any (g : Gt) (h : OkGt g) (w : World) :
    Calls Try.prog 64 #[(.agg #[.int .i64 g.r, .int .i64 g.v, .int .i64 g.i, .int .i64 g.s])] w fun e w' => e = .returned (.int .i64 (setG g)) ∧ w' = w.alloc (.cells #[.int .i64 g.r, .int .i64 g.v, .int .i64 g.i, .int .i64 g.s] 53) := by
  obtain ⟨⟨m0, m1⟩, s0, s1⟩ := setG_bd h
  obtain ⟨Q, hQ⟩ : ∃ Q, setG g = Q := ⟨_, rfl⟩
  have q1 : IntKind.i64.wrap (100 - g.s) = 100 - g.s := IntWalk.i64_in _ (by have := h.2.2.2; omega)
  have q2 : IntKind.i64.wrap (g.i * (100 - g.s)) = g.i * (100 - g.s) := IntWalk.i64_in _ (by omega)
  have q3 : IntKind.i64.wrap ((g.i * (100 - g.s)).tdiv 100) = Q := by rw [← hQ]; exact IntWalk.i64_in _ (by unfold setG at s0 s1; omega)
  rw [hQ]
  clear h m0 m1 s0 s1 hQ
  go_enter Try.func64, Try.ntmps64
  go_wp2
  go_ret
  exact ⟨rfl, rfl⟩

set_option maxHeartbeats 1000000 in
theorem set_any (g : Gt) (h : OkGt g) (w : World) :
    Calls Try.prog 83 #[(.agg #[.int .i64 g.r, .int .i64 g.v, .int .i64 g.i, .int .i64 g.s])] w fun e w' => e = .returned (.int .i64 (setG g)) ∧ w' = w.alloc (.cells #[.int .i64 g.r, .int .i64 g.v, .int .i64 g.i, .int .i64 g.s] 53) := by
  obtain ⟨⟨m0, m1⟩, s0, s1⟩ := setG_bd h
  obtain ⟨Q, hQ⟩ : ∃ Q, setG g = Q := ⟨_, rfl⟩
  have q1 : IntKind.i64.wrap (100 - g.s) = 100 - g.s := IntWalk.i64_in _ (by have := h.2.2.2; omega)
  have q2 : IntKind.i64.wrap (g.i * (100 - g.s)) = g.i * (100 - g.s) := IntWalk.i64_in _ (by omega)
  have q3 : IntKind.i64.wrap ((g.i * (100 - g.s)).tdiv 100) = Q := by rw [← hQ]; exact IntWalk.i64_in _ (by unfold setG at s0 s1; omega)
  rw [hQ]
  clear h m0 m1 s0 s1 hQ
  go_enter Try.func83, Try.ntmps83
  go_wp2
  go_ret
  exact ⟨rfl, rfl⟩

theorem l00Max_any (a b m : Int) (h : (if b < a then a else b) = m) (w : World) :
    Calls Try.prog 63 #[.int .i64 a, .int .i64 b] w fun e w' => e = .returned (.int .i64 m) ∧ w = w' := by
  by_cases g : b < a
  · rw [if_pos g] at h
    subst h
    go_enter Try.func63, Try.ntmps63
    go_wp2
    go_ret
    exact ⟨rfl, rfl⟩
  · rw [if_neg g] at h
    subst h
    have g' : b ≥ a := by omega
    go_enter Try.func63, Try.ntmps63
    go_wp2
    go_ret
    exact ⟨rfl, rfl⟩

set_option maxRecDepth 100000 in
set_option maxHeartbeats 2000000 in
theorem loss_any (g : Gt) (h : OkGt g) (w : World) :
    Calls Try.prog 56 #[(.agg #[.int .i64 g.r, .int .i64 g.v, .int .i64 g.i, .int .i64 g.s])] w fun e w' => e = .returned (.int .i64 (lossG g)) ∧ Below w.heap.size w w' := by
  have C := Lib.hid (fun w => (set_any g h w).mono fun e w' (h : _ ∧ _) => (⟨h.1, by rw [h.2]; exact (Below.refl _ _).alloc (Nat.le_refl _) _⟩ : e = Ending.returned (.int .i64 (setG g)) ∧ Below w.heap.size w w'))
  obtain ⟨-, s0, s1⟩ := setG_bd h
  obtain ⟨Q, hQ⟩ : ∃ Q, setG g = Q := ⟨_, rfl⟩
  obtain ⟨L, hL⟩ : ∃ L, lossG g = L := ⟨_, rfl⟩
  have q1 : IntKind.i64.wrap (g.v - Q) = g.v - Q := IntWalk.i64_in _ (by have := h.2.1; unfold Litres at this; omega)
  have q2 : (if g.v - Q < 0 then 0 else g.v - Q) = L := by rw [← hL, ← hQ]; rfl
  rw [hL]
  rw [hQ] at C
  have KS : Hid (∀ w', Below (w.heap.size + 1) (w.alloc (.cells #[.int .i64 g.r, .int .i64 g.v, .int .i64 g.i, .int .i64 g.s] 53)) w' → (w'.cell? ⟨w.heap.size, 0, none⟩ = some (.int .i64 g.r) ∧ w'.cell? ⟨w.heap.size, 1, none⟩ = some (.int .i64 g.v) ∧ w'.cell? ⟨w.heap.size, 2, none⟩ = some (.int .i64 g.i) ∧ w'.cell? ⟨w.heap.size, 3, none⟩ = some (.int .i64 g.s))) := by
    intro w' b
    obtain ⟨⟨a0, a1, a2, a3⟩, -⟩ := boxGt_at ((b.block w.heap.size (by omega)).trans (heap_alloc_new w _))
    exact ⟨a0, a1, a2, a3⟩
  have G0 : Hid (Below w.heap.size w (w.alloc (.cells #[.int .i64 g.r, .int .i64 g.v, .int .i64 g.i, .int .i64 g.s] 53))) := by show Below _ _ _; go_grown
  clear h hQ hL s0 s1
  go_enter Try.func56, Try.ntmps56
  go_wp2_with fail
  go_region_held3 (fun w' => (w'.cell? ⟨w.heap.size, 0, none⟩ = some (.int .i64 g.r) ∧ w'.cell? ⟨w.heap.size, 1, none⟩ = some (.int .i64 g.v) ∧ w'.cell? ⟨w.heap.size, 2, none⟩ = some (.int .i64 g.i) ∧ w'.cell? ⟨w.heap.size, 3, none⟩ = some (.int .i64 g.s)))
    (first | exact KS.out _ B1.out | exact KS.out _ (Below.refl _ _).drew)
    ((go_at_call 83; refine (C.out _).mono ?_; rintro e w1 ⟨rfl, b1⟩; have B1 : Hid (Below (w.heap.size + 1) (w.alloc (.cells #[.int .i64 g.r, .int .i64 g.v, .int .i64 g.i, .int .i64 g.s] 53)) w1) := (Below.refl _ _).drew.trans (b1.mono (by simp))))
  go_wp2
  go_ret
  exact ⟨rfl, G0.out.trans (B1.out.mono (by omega))⟩

set_option maxRecDepth 100000 in
set_option maxHeartbeats 2000000 in
theorem spare_any (g : Gt) (h : OkGt g) (w : World) :
    Calls Try.prog 55 #[(.agg #[.int .i64 g.r, .int .i64 g.v, .int .i64 g.i, .int .i64 g.s])] w fun e w' => e = .returned (.int .i64 (spareG g)) ∧ Below w.heap.size w w' := by
  have C := Lib.hid (fun w => (set_any g h w).mono fun e w' (h : _ ∧ _) => (⟨h.1, by rw [h.2]; exact (Below.refl _ _).alloc (Nat.le_refl _) _⟩ : e = Ending.returned (.int .i64 (setG g)) ∧ Below w.heap.size w w'))
  obtain ⟨-, s0, s1⟩ := setG_bd h
  obtain ⟨Q, hQ⟩ : ∃ Q, setG g = Q := ⟨_, rfl⟩
  obtain ⟨L, hL⟩ : ∃ L, spareG g = L := ⟨_, rfl⟩
  have q1 : IntKind.i64.wrap (Q - g.v) = Q - g.v := IntWalk.i64_in _ (by have := h.2.1; unfold Litres at this; omega)
  have q2 : (if Q - g.v < 0 then 0 else Q - g.v) = L := by rw [← hL, ← hQ]; rfl
  rw [hL]
  rw [hQ] at C
  have KS : Hid (∀ w', Below (w.heap.size + 1) (w.alloc (.cells #[.int .i64 g.r, .int .i64 g.v, .int .i64 g.i, .int .i64 g.s] 53)) w' → (w'.cell? ⟨w.heap.size, 0, none⟩ = some (.int .i64 g.r) ∧ w'.cell? ⟨w.heap.size, 1, none⟩ = some (.int .i64 g.v) ∧ w'.cell? ⟨w.heap.size, 2, none⟩ = some (.int .i64 g.i) ∧ w'.cell? ⟨w.heap.size, 3, none⟩ = some (.int .i64 g.s))) := by
    intro w' b
    obtain ⟨⟨a0, a1, a2, a3⟩, -⟩ := boxGt_at ((b.block w.heap.size (by omega)).trans (heap_alloc_new w _))
    exact ⟨a0, a1, a2, a3⟩
  have G0 : Hid (Below w.heap.size w (w.alloc (.cells #[.int .i64 g.r, .int .i64 g.v, .int .i64 g.i, .int .i64 g.s] 53))) := by show Below _ _ _; go_grown
  clear h hQ hL s0 s1
  go_enter Try.func55, Try.ntmps55
  go_wp2_with fail
  go_region_held3 (fun w' => (w'.cell? ⟨w.heap.size, 0, none⟩ = some (.int .i64 g.r) ∧ w'.cell? ⟨w.heap.size, 1, none⟩ = some (.int .i64 g.v) ∧ w'.cell? ⟨w.heap.size, 2, none⟩ = some (.int .i64 g.i) ∧ w'.cell? ⟨w.heap.size, 3, none⟩ = some (.int .i64 g.s)))
    (first | exact KS.out _ B1.out | exact KS.out _ (Below.refl _ _).drew)
    ((go_at_call 83; refine (C.out _).mono ?_; rintro e w1 ⟨rfl, b1⟩; have B1 : Hid (Below (w.heap.size + 1) (w.alloc (.cells #[.int .i64 g.r, .int .i64 g.v, .int .i64 g.i, .int .i64 g.s] 53)) w1) := (Below.refl _ _).drew.trans (b1.mono (by simp))))
  go_wp2
  go_ret
  exact ⟨rfl, G0.out.trans (B1.out.mono (by omega))⟩

set_option maxHeartbeats 1000000 in
theorem grIs_any (g : Gt) (b : Bool) (hb : b = true ↔ OkGt g) (w : World) :
    Calls Try.prog 57 #[(.agg #[.int .i64 g.r, .int .i64 g.v, .int .i64 g.i, .int .i64 g.s])] w fun e w' => e = .returned (.bool b) ∧ w' = w.alloc (.cells #[.int .i64 g.r, .int .i64 g.v, .int .i64 g.i, .int .i64 g.s] 53) := by
  obtain ⟨b1, h1⟩ := bool_of (0 ≤ g.r ∧ g.r ≤ 60)
  obtain ⟨b2, h2⟩ := bool_of (Litres g.v)
  obtain ⟨b3, h3⟩ := bool_of (Litres g.i)
  obtain ⟨b4, h4⟩ := bool_of (0 ≤ g.s ∧ g.s ≤ 100)
  have e : b = (b1 && (b2 && (b3 && b4))) := by rw [Bool.eq_iff_iff, hb]; simp only [Bool.and_eq_true, h1, h2, h3, h4]; rfl
  have H1 := Lib.hid h1
  have H2 := Lib.hid h2
  have H3 := Lib.hid h3
  have H4 := Lib.hid h4
  subst e
  clear hb h1 h2 h3 h4
  go_enter Try.func57, Try.ntmps57
  go_wp2_with fail
  refine (isRing7_any g.r b1 H1.out _).mono ?_
  rintro e w1 ⟨rfl, rfl⟩
  cases b1
  · go_wp2
    go_ret
    exact ⟨rfl, rfl⟩
  · go_wp2_with fail
    refine (isVolume_any g.v b2 H2.out _).mono ?_
    rintro e w1 ⟨rfl, rfl⟩
    cases b2
    · go_wp2
      go_ret
      exact ⟨rfl, rfl⟩
    · go_wp2_with fail
      refine (isVolume_any g.i b3 H3.out _).mono ?_
      rintro e w1 ⟨rfl, rfl⟩
      cases b3
      · go_wp2
        go_ret
        exact ⟨rfl, rfl⟩
      · go_wp2_with fail
        refine (within_any g.s 0 100 b4 H4.out _).mono ?_
        rintro e w1 ⟨rfl, rfl⟩
        go_wp2
        go_ret
        exact ⟨by simp, rfl⟩

theorem grIs_blw (g : Gt) (b : Bool) (hb : b = true ↔ OkGt g) (w : World) :
    Calls Try.prog 57 #[(.agg #[.int .i64 g.r, .int .i64 g.v, .int .i64 g.i, .int .i64 g.s])] w fun e w' => e = .returned (.bool b) ∧ Below w.heap.size w w' :=
  (grIs_any g b hb w).mono fun e w' ⟨h1, h2⟩ => ⟨h1, by rw [h2]; exact (Below.refl _ _).alloc (Nat.le_refl _) _⟩

theorem before_any (g h : Gt) (b : Bool) (hb : decide (g.r < h.r) = b) (w : World) :
    Calls Try.prog 60 #[(.agg #[.int .i64 g.r, .int .i64 g.v, .int .i64 g.i, .int .i64 g.s]), (.agg #[.int .i64 h.r, .int .i64 h.v, .int .i64 h.i, .int .i64 h.s])] w fun e w' => e = .returned (.bool b) ∧ Below w.heap.size w w' := by
  go_enter Try.func60, Try.ntmps60
  go_wp2
  go_ret
  exact ⟨rfl, by go_grown⟩

set_option maxRecDepth 100000 in
set_option maxHeartbeats 2000000 in
theorem everyGrout_any (v : Value) (xs : List Gt) (w : World) (h : RdS 4 encGt w v xs) (lz : xs.length ≤ 1048576) (b : Bool) (hb : b = true ↔ ∀ c ∈ xs, OkGt c) :
    Calls Try.prog 58 #[v, .func (.func 57) #[] #[]] w fun e w' => e = .returned (.bool b) ∧ Below w.heap.size w w' := by
  have H := Lib.hid h
  have HB := Lib.hid hb
  obtain ⟨a, cap, rfl, _⟩ := h
  obtain ⟨n, hn⟩ : ∃ n, n = xs.length := ⟨_, rfl⟩
  rw [← hn] at H lz
  rw [← hn]
  have HN := Lib.hid hn
  clear hn hb
  go_enter Try.func58, Try.ntmps58
  go_wp2
  go_loopw [9] (fun i wr => ∃ k : Nat, k ≤ n ∧ i = .int .i64 k ∧ Hid (∀ c ∈ xs.take k, OkGt c) ∧ Hid (Below w.heap.size w wr)) (fun i _ => n - (intOf i).toNat)
  case atStart => exact ⟨0, by omega, rfl, by intro c hc; simp at hc, Below.refl _ _⟩
  case round =>
    obtain ⟨k, hk, rfl, hall, B⟩ := hrel
    by_cases hlt : k < n
    · obtain ⟨c, hx⟩ : ∃ x, xs[k]? = some x := ⟨_, List.getElem?_eq_getElem (by have := HN.out; omega)⟩
      obtain ⟨ba, oa, rfl, e0, e1, e2, e3⟩ := (H.out.later B.out).at4g k c hx
      have hsz := B.out.size
      by_cases hc : OkGt c
      · have d1 := Lib.hid (fun w => grIs_blw c true ⟨fun _ => hc, fun _ => rfl⟩ w)
        have hall' : Hid (∀ c ∈ xs.take (k + 1), OkGt c) := by
          intro d hd
          rw [List.take_add_one, hx] at hd
          simp at hd
          rcases hd with hd | rfl
          · exact hall.out d hd
          · exact hc
        clear hx hc hall
        go_wp2_with fail
        refine (d1.out _).mono ?_
        rintro e w3 ⟨rfl, b3⟩
        have B3 : Hid (Below w.heap.size w w3) := ((B.out.alloc hsz _)).trans (b3.mono (by simp; omega))
        clear b3 e0 e1 e2 e3
        go_wp2
        exact ⟨⟨k + 1, by omega, by go_num, hall', B3⟩, by simp only [intOf]; omega⟩
      · have d1 := Lib.hid (fun w => grIs_blw c false ⟨fun h => (by cases h), fun h => absurd h hc⟩ w)
        obtain rfl : b = false := b_false HB.out (fun h => hc (h c (List.mem_of_getElem? hx)))
        clear hx hc hall
        go_wp2_with fail
        refine (d1.out _).mono ?_
        rintro e w3 ⟨rfl, b3⟩
        have B3 : Hid (Below w.heap.size w w3) := ((B.out.alloc hsz _)).trans (b3.mono (by simp; omega))
        clear b3 e0 e1 e2 e3
        go_wp2
        go_ret
        exact ⟨rfl, B3.out⟩
    · obtain rfl : k = n := by omega
      obtain rfl : b = true := HB.out.mpr (by have := hall.out; rwa [List.take_of_length_le (by have := HN.out; omega)] at this)
      go_wp2
      go_ret
      exact ⟨rfl, B.out⟩


set_option maxRecDepth 100000 in
set_option maxHeartbeats 4000000 in
theorem everyTwo_rise (v : Value) (xs : List Gt) (w : World) (h : RdS 4 encGt w v xs) (lz : xs.length ≤ 1048576) (b : Bool) (hb : b = true ↔ RiseTo xs xs.length) :
    Calls Try.prog 59 #[v, .func (Fn.func 60) #[] #[]] w fun e w' => e = .returned (.bool b) ∧ Below w.heap.size w w' := by
  have H := Lib.hid h
  obtain ⟨a, cap, rfl, -⟩ := h
  obtain ⟨n, hn⟩ : ∃ n, n = xs.length := ⟨_, rfl⟩
  rw [← hn] at lz H hb
  rw [← hn]
  have HN := Lib.hid hn
  have HB := Lib.hid hb
  clear hn hb
  go_enter Try.func59, Try.ntmps59
  go_wp2
  go_loopw [5] (fun i wr => ∃ k : Nat, 1 ≤ k ∧ k ≤ n + 1 ∧ i = .int .i64 k ∧ Hid (RiseTo xs k) ∧ Hid (Below w.heap.size w wr)) (fun i _ => n + 1 - (intOf i).toNat)
  case atStart => exact ⟨1, by omega, by omega, rfl, RiseTo.one xs, Below.refl _ _⟩
  case round =>
    obtain ⟨k, k1, hk, rfl, ha, B⟩ := hrel
    have sz := B.out.size
    by_cases hlt : k < n
    · obtain ⟨j, hj⟩ : ∃ j, k = j + 1 := ⟨k - 1, by omega⟩
      obtain ⟨x, hx⟩ : ∃ x, xs[j]? = some x := ⟨_, List.getElem?_eq_getElem (by have := HN.out; omega)⟩
      obtain ⟨y, hy⟩ : ∃ y, xs[k]? = some y := ⟨_, List.getElem?_eq_getElem (by have := HN.out; omega)⟩
      obtain ⟨ba, oa, rfl, a0, a1, a2, a3⟩ := (H.out.later B.out).at4g j x hx
      obtain ⟨bb, ob, eb, b0, b1, b2, b3⟩ := (H.out.later B.out).at4g k y hy
      simp only [Option.some.injEq, Addr.mk.injEq, and_true] at eb
      obtain ⟨rfl, rfl⟩ := eb
      have la : ba < wr.heap.size := World.block_lt_of_cell? wr _ a0
      have HX := Lib.hid hx
      have HY := Lib.hid hy
      have HJ := Lib.hid hj
      have q1 : IntKind.i64.wrap ((k : Int) - 1) = (j : Int) := by rw [IntWalk.i64_in _ (by omega)]; omega
      have jn : j < n := by omega
      obtain ⟨bv, hbv0⟩ : ∃ bv : Bool, decide (x.r < y.r) = bv := ⟨_, rfl⟩
      have hbv : bv = true ↔ x.r < y.r := by rw [← hbv0]; simp
      have C := Lib.hid (fun w => before_any x y bv hbv0 w)
      have BV := Lib.hid hbv
      have KS : Hid (∀ w', Below wr.heap.size wr w' → (w'.cell? ⟨ba, oa + j * 4, none⟩ = some (.int .i64 x.r) ∧ w'.cell? ⟨ba, oa + j * 4 + 1, none⟩ = some (.int .i64 x.v) ∧ w'.cell? ⟨ba, oa + j * 4 + 2, none⟩ = some (.int .i64 x.i) ∧ w'.cell? ⟨ba, oa + j * 4 + 3, none⟩ = some (.int .i64 x.s) ∧ w'.cell? ⟨ba, oa + k * 4, none⟩ = some (.int .i64 y.r) ∧ w'.cell? ⟨ba, oa + k * 4 + 1, none⟩ = some (.int .i64 y.v) ∧ w'.cell? ⟨ba, oa + k * 4 + 2, none⟩ = some (.int .i64 y.i) ∧ w'.cell? ⟨ba, oa + k * 4 + 3, none⟩ = some (.int .i64 y.s))) :=
        fun w' b => ⟨(b.cell (p := ⟨ba, oa + j * 4, none⟩) la).trans a0, (b.cell (p := ⟨ba, oa + j * 4 + 1, none⟩) la).trans a1, (b.cell (p := ⟨ba, oa + j * 4 + 2, none⟩) la).trans a2, (b.cell (p := ⟨ba, oa + j * 4 + 3, none⟩) la).trans a3, (b.cell (p := ⟨ba, oa + k * 4, none⟩) la).trans b0, (b.cell (p := ⟨ba, oa + k * 4 + 1, none⟩) la).trans b1, (b.cell (p := ⟨ba, oa + k * 4 + 2, none⟩) la).trans b2, (b.cell (p := ⟨ba, oa + k * 4 + 3, none⟩) la).trans b3⟩
      clear hx hy hj hbv hbv0 a0 a1 a2 a3 b0 b1 b2 b3 la
      go_wp2
      go_region_held3 (fun w' => (w'.cell? ⟨ba, oa + j * 4, none⟩ = some (.int .i64 x.r) ∧ w'.cell? ⟨ba, oa + j * 4 + 1, none⟩ = some (.int .i64 x.v) ∧ w'.cell? ⟨ba, oa + j * 4 + 2, none⟩ = some (.int .i64 x.i) ∧ w'.cell? ⟨ba, oa + j * 4 + 3, none⟩ = some (.int .i64 x.s) ∧ w'.cell? ⟨ba, oa + k * 4, none⟩ = some (.int .i64 y.r) ∧ w'.cell? ⟨ba, oa + k * 4 + 1, none⟩ = some (.int .i64 y.v) ∧ w'.cell? ⟨ba, oa + k * 4 + 2, none⟩ = some (.int .i64 y.i) ∧ w'.cell? ⟨ba, oa + k * 4 + 3, none⟩ = some (.int .i64 y.s)))
        (first | exact KS.out _ D1.out | exact KS.out _ (Below.refl _ _).drew)
        ((go_at_call 60; refine (C.out _).mono ?_; rintro e w1 ⟨rfl, b1⟩; have D1 : Hid (Below wr.heap.size wr w1) := (Below.refl _ _).drew.trans b1))
      rename_i hHeld
      have B2 : Hid (Below w.heap.size w w1) := B.out.trans (D1.out.mono sz)
      clear hHeld D1 KS C B b1
      cases bv with
      | true =>
        have A1 : Hid (RiseTo xs (k + 1)) := by
          have e := HJ.out
          have h2 := ha.out
          have hy := HY.out
          show RiseTo _ _
          rw [e] at h2 hy ⊢
          exact RiseTo.succ h2 HX.out hy (BV.out.mp (by simp))
        clear ha
        go_wp2
        exact ⟨⟨k + 1, by omega, by omega, by go_num, A1, B2⟩, by simp only [intOf]; omega⟩
      | false =>
        obtain rfl : b = false := b_false HB.out (fun hA => by have e := hA j x y (by have := HJ.out; omega) HX.out (by rw [← HJ.out]; exact HY.out); have := BV.out.mpr e; cases this)
        clear ha
        go_wp2
        go_ret
        exact ⟨rfl, B2.out⟩
    · obtain rfl : b = true := HB.out.mpr (fun i x y hi hx hy => ha.out i x y (by omega) hx hy)
      clear ha
      go_wp2
      go_ret
      exact ⟨rfl, B.out⟩


set_option maxRecDepth 100000 in
set_option maxHeartbeats 4000000 in
theorem implGrouts_any (v : Value) (xs : List Gt) (w : World) (h : RdS 4 encGt w v xs) (lz : xs.length ≤ 1048576) (b : Bool) (hb : b = true ↔ OkGs xs) :
    Calls Try.prog 29 #[v] w fun e w' => e = .returned (.bool b) ∧ Below w.heap.size w w' := by
  obtain ⟨b1, h1⟩ := bool_of (∀ c ∈ xs, OkGt c)
  obtain ⟨b2, h2⟩ := bool_of (RiseTo xs xs.length)
  have c1 := Lib.hid (fun w (hr : RdS 4 encGt w v xs) => everyGrout_any v xs w hr lz b1 h1)
  have c2 := Lib.hid (fun w (hr : RdS 4 encGt w v xs) => everyTwo_rise v xs w hr lz b2 h2)
  have H := Lib.hid h
  have HB : Hid (b = true ↔ xs.length ≤ 12 ∧ b1 = true ∧ b2 = true) := by show _ ↔ _; rw [h1, h2]; exact hb
  obtain ⟨a, cap, rfl, _⟩ := h
  obtain ⟨n, hn⟩ : ∃ n, n = xs.length := ⟨_, rfl⟩
  rw [← hn] at H lz c1 c2 HB
  rw [← hn]
  clear hn hb h1 h2
  by_cases g : n ≤ 12
  · have g60 : decide ((n : Int) ≤ 12) = true := decide_eq_true (by omega)
    have e : b = (b1 && b2) := by rw [Bool.eq_iff_iff, HB.out]; simp [g]
    subst e
    clear HB g
    go_enter Try.func29, Try.ntmps29
    go_wp2_with fail
    refine (c1.out _ H.out).mono ?_
    rintro e w1 ⟨rfl, k1⟩
    have B1 := Lib.hid k1
    clear k1 c1
    cases b1
    · go_wp2
      go_ret
      exact ⟨rfl, B1.out⟩
    · go_wp2_with fail
      refine (c2.out _ (H.out.later B1.out)).mono ?_
      rintro e w2 ⟨rfl, k2⟩
      have B2 : Hid (Below w.heap.size w w2) := B1.out.trans (k2.mono B1.out.size)
      clear k2 c2
      go_wp2
      go_ret
      exact ⟨by simp, B2.out⟩
  · have g60 : decide ((n : Int) ≤ 12) = false := decide_eq_false (by omega)
    obtain rfl : b = false := b_false HB.out (fun h => g h.1)
    clear HB
    have g61 : 12 < n := by omega
    clear g
    go_enter Try.func29, Try.ntmps29
    go_wp2
    go_ret
    exact ⟨rfl, Below.refl _ _⟩
end Go.Proofs.Ytonblcbdmblpbaa
