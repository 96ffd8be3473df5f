/- ValidGrouts, LossOf, SpareOf on both sides. -/
import Derived.Test.YtonblcbdmblpbaaGroutI
namespace Go.Proofs.Ytonblcbdmblpbaa
open Go.ChangeShapes Go.WideShapes Go.ChangeAt Go.RowKit
set_option linter.unusedVariables false
set_option linter.unusedSimpArgs false

theorem specGrouts_any (v : Value) (xs : List Gt) (w : World) (h : RdS 4 encGt w v xs) (lz : xs.length ≤ 1048576) (b : Bool) (hb : b = true ↔ OkGs xs) :
    Calls Try.prog 31 #[v] w fun e w' => e = .returned (.bool b) ∧ Below w.heap.size w w' := by
  have c := Lib.hid (fun w (h : RdS 4 encGt w v xs) => l07Grouts_any v xs w h lz b hb)
  have H := Lib.hid h
  obtain ⟨a, cap, rfl, _⟩ := h
  clear hb
  go_enter Try.func31, Try.ntmps31
  go_wp2_with fail
  refine (c.out _ H.out).mono ?_
  rintro e w' ⟨rfl, b⟩
  have B := Lib.hid b
  clear b
  go_wp2
  go_ret
  exact ⟨rfl, B.out⟩

theorem exValidGrouts (xs : List Gt) (lz : xs.length ≤ 1048576) : ∃ r : Bool,
    Hid (∀ (w : World) (v0 : Value), (fun _ => True) w → RdS 4 encGt w v0 xs → Calls Try.prog 31 #[v0] w fun e w' => e = .returned (.bool r) ∧ Below w.heap.size w w') ∧
    Hid (∀ (w : World) (v0 : Value), (fun _ => True) w → RdS 4 encGt w v0 xs → Calls Try.prog 29 #[v0] w fun e w' => e = .returned (.bool r) ∧ Below w.heap.size w w') := by
  obtain ⟨b, hb⟩ := bool_of (OkGs xs)
  exact ⟨b, fun w v _ h => specGrouts_any v xs w h lz b hb, fun w v _ h => implGrouts_any v xs w h lz b hb⟩

theorem okGs_one (g : Gt) : OkGs [g] ↔ OkGt g := by
  constructor
  · intro h; exact h.2.1 g (by simp)
  · intro h; exact ⟨by simp, by simpa using h, RiseTo.one _⟩

/-- What LossOf answers. -/
def LossRes (g : Gt) (n : Int) (b : Bool) : Prop := (OkGt g ∧ n = lossG g ∧ b = true) ∨ (¬ OkGt g ∧ n = 0 ∧ b = false)

set_option maxHeartbeats 1000000 in
theorem implLoss_any (g : Gt) (n : Int) (b : Bool) (h : LossRes g n b) (w : World) :
    Calls Try.prog 28 #[(.agg #[.int .i64 g.r, .int .i64 g.v, .int .i64 g.i, .int .i64 g.s])] w fun e w' => e = .returned (.tuple #[.int .i64 n, .bool b]) ∧ Below w.heap.size w w' := by
  rcases h with ⟨ok, rfl, rfl⟩ | ⟨no, rfl, rfl⟩
  · have C1 := Lib.hid (fun w => grIs_blw g true (by simpa using ok) w)
    have C2 := Lib.hid (fun w => loss_any g ok w)
    generalize lossG g = L at *
    clear ok
    go_enter Try.func28, Try.ntmps28
    go_wp2_with fail
    refine (C1.out _).mono ?_
    rintro e w1 ⟨rfl, b1⟩
    obtain ⟨⟨a0, a1, a2, a3⟩, -⟩ := boxGt_at ((b1.block w.heap.size (by simp)).trans (heap_alloc_new w _))
    have sz := b1.size
    simp only [World.size_alloc] at sz
    have B1 : Hid (Below w.heap.size w w1) := Below.trans (by go_grown) (b1.mono (by simp))
    clear b1
    go_wp2_with fail
    refine (C2.out _).mono ?_
    rintro e w2 ⟨rfl, b2⟩
    have B2 : Hid (Below w.heap.size w w2) := B1.out.trans (b2.mono (by omega))
    clear b2 a0 a1 a2 a3
    go_wp2
    go_ret2
    exact ⟨rfl, B2.out⟩
  · have C1 := Lib.hid (fun w => grIs_blw g false (by simpa using no) w)
    clear no
    go_enter Try.func28, Try.ntmps28
    go_wp2_with fail
    refine (C1.out _).mono ?_
    rintro e w1 ⟨rfl, b1⟩
    have B1 : Hid (Below w.heap.size w w1) := Below.trans (by go_grown) (b1.mono (by simp))
    clear b1
    go_wp2
    go_ret2
    exact ⟨rfl, B1.out⟩

theorem built_one (w : World) (g : Gt) (t : TypeId) (N : Nat) (hN : N = w.heap.size) : RdS 4 encGt (w.alloc (.cells #[.int .i64 g.r, .int .i64 g.v, .int .i64 g.i, .int .i64 g.s] t)) (.slice (some ⟨N, 0, none⟩) 1 1) [g] := by
  subst hN
  refine ⟨_, 1, rfl, .inr ⟨w.heap.size, 0, rfl, fun i x hx j u hu => ?_⟩⟩
  have hi : i = 0 := by have := (List.getElem?_eq_some_iff.1 hx).1; simp at this; omega
  subst hi
  obtain rfl : g = x := by simpa using hx
  have hj : j < 4 := (List.getElem?_eq_some_iff.1 hu).1
  rw [cell_of_row (w.alloc (.cells #[.int .i64 g.r, .int .i64 g.v, .int .i64 g.i, .int .i64 g.s] t)) w.heap.size _ _ t (0, 0) (heap_alloc_new w _)]
  rw [← hu]
  simp only [Nat.zero_mul, Nat.zero_add, encGt]
  rcases j with _ | _ | _ | _ | j <;> first | rfl | omega

set_option maxRecDepth 100000 in
set_option maxHeartbeats 2000000 in
theorem specLoss_any (g : Gt) (n : Int) (b : Bool) (h : LossRes g n b) (w : World) :
    Calls Try.prog 34 #[(.agg #[.int .i64 g.r, .int .i64 g.v, .int .i64 g.i, .int .i64 g.s])] w fun e w' => e = .returned (.tuple #[.int .i64 n, .bool b]) ∧ Below w.heap.size w w' := by
  have K := Lib.hid (fun w v k => l07Grouts_any v [g] w k (by simp) b (by
    rw [okGs_one]
    rcases h with ⟨ok, rfl, rfl⟩ | ⟨no, rfl, rfl⟩
    · simpa using ok
    · simpa using no))
  rcases h with ⟨ok, rfl, rfl⟩ | ⟨no, rfl, rfl⟩
  · have C2 := Lib.hid (fun w => (l07Set_any g ok w).mono fun e w' (h : _ ∧ _) => (⟨h.1, by rw [h.2]; exact (Below.refl _ _).alloc (Nat.le_refl _) _⟩ : e = Ending.returned (.int .i64 (setG g)) ∧ Below w.heap.size w w'))
    obtain ⟨-, s0, s1⟩ := setG_bd ok
    obtain ⟨Q, hQ⟩ : ∃ Q, setG g = Q := ⟨_, rfl⟩
    obtain ⟨L, hL⟩ : ∃ L, lossG g = L := ⟨_, rfl⟩
    have q1 : IntKind.i64.wrap (g.v - Q) = g.v - Q := IntWalk.i64_in _ (by have := ok.2.1; unfold Litres at this; omega)
    have C3 := Lib.hid (fun w => l00Max_any 0 (g.v - Q) L (by rw [← hL, ← hQ]; unfold lossG; rfl) w)
    rw [hL]
    rw [hQ] at C2
    clear ok hQ hL s0 s1
    go_enter Try.func34, Try.ntmps34
    go_wp2_with fail
    refine (K.out _ _ (built_one (w.alloc _) g _ _ (by simp))).mono ?_
    rintro e w1 ⟨rfl, b1⟩
    have n1 : Hid (w1.heap[w.heap.size]? = some (.cells #[.int .i64 g.r, .int .i64 g.v, .int .i64 g.i, .int .i64 g.s] 53 (0, 0))) := (b1.block w.heap.size (by simp; omega)).trans (heap_alloc2_old w _ _)
    have sz : w.heap.size + 2 ≤ w1.heap.size := by have := b1.size; simp only [World.size_alloc] at this; omega
    have B1 : Hid (Below w.heap.size w w1) := Below.trans (by go_grown) (b1.mono (by simp; omega))
    clear b1
    obtain ⟨⟨a0, a1, a2, a3⟩, -⟩ := boxGt_at n1.out
    have KS : Hid (∀ w', Below w1.heap.size w1 w' → (w'.cell? ⟨w.heap.size, 0, none⟩ = some (.int .i64 g.r) ∧ w'.cell? ⟨w.heap.size, 1, none⟩ = some (.int .i64 g.v) ∧ w'.cell? ⟨w.heap.size, 2, none⟩ = some (.int .i64 g.i) ∧ w'.cell? ⟨w.heap.size, 3, none⟩ = some (.int .i64 g.s))) := by
      intro w' b
      obtain ⟨⟨a0, a1, a2, a3⟩, -⟩ := boxGt_at ((b.block w.heap.size (by omega)).trans n1.out)
      exact ⟨a0, a1, a2, a3⟩
    clear n1 K
    go_wp2_with fail
    clear a0 a1 a2 a3
    go_region_held3 (fun w' => (w'.cell? ⟨w.heap.size, 0, none⟩ = some (.int .i64 g.r) ∧ w'.cell? ⟨w.heap.size, 1, none⟩ = some (.int .i64 g.v) ∧ w'.cell? ⟨w.heap.size, 2, none⟩ = some (.int .i64 g.i) ∧ w'.cell? ⟨w.heap.size, 3, none⟩ = some (.int .i64 g.s)))
      (first | exact KS.out _ B2.out | exact KS.out _ (Below.refl _ _).drew)
      (first
        | (go_at_call 64; refine (C2.out _).mono ?_; rintro e w2 ⟨rfl, b2⟩; have B2 : Hid (Below w1.heap.size w1 w2) := (Below.refl _ _).drew.trans b2)
        | (go_at_call 63; refine (C3.out _).mono ?_; rintro e w3 ⟨rfl, rfl⟩))
    go_wp2
    go_ret2
    exact ⟨rfl, B1.out.trans (B2.out.mono (by omega))⟩
  · go_enter Try.func34, Try.ntmps34
    go_wp2_with fail
    refine (K.out _ _ (built_one (w.alloc _) g _ _ (by simp))).mono ?_
    rintro e w1 ⟨rfl, b1⟩
    have B1 : Hid (Below w.heap.size w w1) := Below.trans (by go_grown) (b1.mono (by simp; omega))
    clear b1
    go_wp2
    go_ret2
    exact ⟨rfl, B1.out⟩

/-- What the first k elements have to spare. -/
def spareTo (xs : List Gt) : Nat → Int
  | 0 => 0
  | k + 1 => spareTo xs k + (match xs[k]? with | some g => spareG g | none => 0)
theorem spareTo_succ {xs : List Gt} {k : Nat} {g : Gt} (h : xs[k]? = some g) : spareTo xs (k + 1) = spareTo xs k + spareG g := by simp only [spareTo, h]
theorem spareG_bd {g : Gt} (h : OkGt g) : 0 ≤ spareG g ∧ spareG g ≤ 100000 := by
  obtain ⟨-, s0, s1⟩ := setG_bd h
  have := h.2.1; unfold Litres at this
  unfold spareG; split <;> omega
theorem spareTo_bd {xs : List Gt} (h : ∀ c ∈ xs, OkGt c) (k : Nat) : 0 ≤ spareTo xs k ∧ spareTo xs k ≤ 100000 * k := by
  induction k with
  | zero => simp [spareTo]
  | succ k ih =>
    simp only [spareTo]
    cases hx : xs[k]? with
    | none => simp only []; omega
    | some g => have := spareG_bd (h g (List.mem_of_getElem? hx)); simp only []; omega

/-- What SpareOf answers. -/
def SpareRes (xs : List Gt) (n : Int) (b : Bool) : Prop := (OkGs xs ∧ n = spareTo xs xs.length ∧ b = true) ∨ (¬ OkGs xs ∧ n = 0 ∧ b = false)

set_option maxRecDepth 100000 in
set_option maxHeartbeats 2000000 in
theorem implSpare_any (v : Value) (xs : List Gt) (w : World) (h : RdS 4 encGt w v xs) (lz : xs.length ≤ 1048576) (n : Int) (b : Bool) (hr : SpareRes xs n b) :
    Calls Try.prog 26 #[v] w fun e w' => e = .returned (.tuple #[.int .i64 n, .bool b]) ∧ Below w.heap.size w w' := by
  have H := Lib.hid h
  have C1 := Lib.hid (fun w (h : RdS 4 encGt w v xs) => implGrouts_any v xs w h lz b (by
    rcases hr with ⟨ok, rfl, rfl⟩ | ⟨no, rfl, rfl⟩
    · simpa using ok
    · simpa using no))
  obtain ⟨a, cap, rfl, _⟩ := h
  rcases hr with ⟨ok, rfl, rfl⟩ | ⟨no, rfl, rfl⟩
  · have OK := Lib.hid ok
    obtain ⟨m, hm⟩ : ∃ m, m = xs.length := ⟨_, rfl⟩
    have m12 : m ≤ 12 := by have := ok.1; omega
    rw [← hm] at H C1
    rw [← hm]
    obtain ⟨N, hN⟩ : ∃ N, spareTo xs m = N := ⟨_, rfl⟩
    rw [hN]
    have HNN := Lib.hid hN
    have HM := Lib.hid hm
    clear hm ok lz hN
    go_enter Try.func26, Try.ntmps26
    go_wp2_with fail
    refine (C1.out _ H.out).mono ?_
    rintro e w1 ⟨rfl, b1⟩
    have B1 := Lib.hid b1
    clear b1 C1
    go_wp2
    go_loopw [4, 12] (fun s i wr => ∃ k : Nat, k ≤ m ∧ i = .int .i64 k ∧ s = .int .i64 (spareTo xs k) ∧ Hid (Below w.heap.size w wr)) (fun _ i _ => m - (intOf i).toNat)
    case atStart => exact ⟨0, by omega, rfl, rfl, B1⟩
    case round =>
      obtain ⟨k, hk, rfl, rfl, B⟩ := hrel
      clear B1
      have hsz := B.out.size
      by_cases hlt : k < m
      · obtain ⟨c, hx⟩ : ∃ x, xs[k]? = some x := ⟨_, List.getElem?_eq_getElem (by have := HM.out; omega)⟩
        obtain ⟨ba, oa, rfl, e0, e1, e2, e3⟩ := (H.out.later B.out).at4g k c hx
        have okc := OK.out.2.1 c (List.mem_of_getElem? hx)
        have C := Lib.hid (fun w => spare_any c okc w)
        have bd := spareTo_bd OK.out.2.1 k
        have bg := spareG_bd okc
        have q := spareTo_succ hx
        obtain ⟨T, hT⟩ : ∃ T, T = spareTo xs k := ⟨_, rfl⟩
        obtain ⟨G, hG⟩ : ∃ G, G = spareG c := ⟨_, rfl⟩
        rw [← hT, ← hG] at q
        rw [← hT] at bd ⊢
        rw [← hG] at bg C
        have Q := Lib.hid q
        have q1 : IntKind.i64.wrap (T + G) = T + G := IntWalk.i64_in _ (by omega)
        clear hx okc q hT hG
        go_wp2_with fail
        refine (C.out _).mono ?_
        rintro e w2 ⟨rfl, b2⟩
        have B2 : Hid (Below w.heap.size w w2) := (B.out.alloc hsz _).trans (b2.mono (by simp; omega))
        clear b2 e0 e1 e2 e3
        go_wp2
        exact ⟨⟨k + 1, by omega, by go_num, by rw [Q.out], B2⟩, by simp only [intOf]; omega⟩
      · obtain rfl : k = m := by omega
        go_wp2
        go_ret2
        exact ⟨by rw [← HNN.out]; rfl, B.out⟩
  · generalize xs.length = m at *
    clear no
    go_enter Try.func26, Try.ntmps26
    go_wp2_with fail
    refine (C1.out _ H.out).mono ?_
    rintro e w1 ⟨rfl, b1⟩
    have B1 := Lib.hid b1
    clear b1 C1
    go_wp2
    go_ret2
    exact ⟨rfl, B1.out⟩

set_option maxRecDepth 100000 in
set_option maxHeartbeats 2000000 in
theorem specSpare_any (v : Value) (xs : List Gt) (w : World) (h : RdS 4 encGt w v xs) (lz : xs.length ≤ 1048576) (n : Int) (b : Bool) (hr : SpareRes xs n b) :
    Calls Try.prog 36 #[v] w fun e w' => e = .returned (.tuple #[.int .i64 n, .bool b]) ∧ Below w.heap.size w w' := by
  have H := Lib.hid h
  have C1 := Lib.hid (fun w (h : RdS 4 encGt w v xs) => l07Grouts_any v xs w h lz b (by
    rcases hr with ⟨ok, rfl, rfl⟩ | ⟨no, rfl, rfl⟩
    · simpa using ok
    · simpa using no))
  obtain ⟨a, cap, rfl, _⟩ := h
  rcases hr with ⟨ok, rfl, rfl⟩ | ⟨no, rfl, rfl⟩
  · have OK := Lib.hid ok
    obtain ⟨m, hm⟩ : ∃ m, m = xs.length := ⟨_, rfl⟩
    have m12 : m ≤ 12 := by have := ok.1; omega
    rw [← hm] at H C1
    rw [← hm]
    obtain ⟨N, hN⟩ : ∃ N, spareTo xs m = N := ⟨_, rfl⟩
    rw [hN]
    have HNN := Lib.hid hN
    have HM := Lib.hid hm
    clear hm ok lz hN
    go_enter Try.func36, Try.ntmps36
    go_wp2_with fail
    refine (C1.out _ H.out).mono ?_
    rintro e w1 ⟨rfl, b1⟩
    have B1 := Lib.hid b1
    clear b1 C1
    go_wp2
    go_loopw [4, 5] (fun s i wr => ∃ k : Nat, k ≤ m ∧ i = .int .i64 k ∧ s = .int .i64 (spareTo xs k) ∧ Hid (Below w.heap.size w wr)) (fun _ i _ => m - (intOf i).toNat)
    case atStart => exact ⟨0, by omega, rfl, rfl, B1⟩
    case round =>
      obtain ⟨k, hk, rfl, rfl, B⟩ := hrel
      clear B1
      have hsz := B.out.size
      by_cases hlt : k < m
      · obtain ⟨c, hx⟩ : ∃ x, xs[k]? = some x := ⟨_, List.getElem?_eq_getElem (by have := HM.out; omega)⟩
        obtain ⟨ba, oa, rfl, e0, e1, e2, e3⟩ := (H.out.later B.out).at4g k c hx
        have la : ba < wr.heap.size := World.block_lt_of_cell? wr _ e0
        have okc := OK.out.2.1 c (List.mem_of_getElem? hx)
        have C2 := Lib.hid (fun w => (l07Set_any c okc w).mono fun e w' (h : _ ∧ _) => (⟨h.1, by rw [h.2]; exact (Below.refl _ _).alloc (Nat.le_refl _) _⟩ : e = Ending.returned (.int .i64 (setG c)) ∧ Below w.heap.size w w'))
        obtain ⟨-, s0, s1⟩ := setG_bd okc
        have bd := spareTo_bd OK.out.2.1 k
        have bg := spareG_bd okc
        have q := spareTo_succ hx
        obtain ⟨S, hS⟩ : ∃ S, setG c = S := ⟨_, rfl⟩
        obtain ⟨T, hT⟩ : ∃ T, T = spareTo xs k := ⟨_, rfl⟩
        obtain ⟨G, hG⟩ : ∃ G, G = spareG c := ⟨_, rfl⟩
        have q2 : IntKind.i64.wrap (S - c.v) = S - c.v := IntWalk.i64_in _ (by have := okc.2.1; unfold Litres at this; omega)
        have C3 := Lib.hid (fun w => l00Max_any 0 (S - c.v) G (by rw [hG, ← hS]; unfold spareG; rfl) w)
        rw [← hT, ← hG] at q
        rw [← hT] at bd ⊢
        rw [← hG] at bg
        rw [hS] at C2
        have Q := Lib.hid q
        have q1 : IntKind.i64.wrap (T + G) = T + G := IntWalk.i64_in _ (by omega)
        have KS : Hid (∀ w', Below wr.heap.size wr w' → (w'.cell? ⟨ba, oa + k * 4, none⟩ = some (.int .i64 c.r) ∧ w'.cell? ⟨ba, oa + k * 4 + 1, none⟩ = some (.int .i64 c.v) ∧ w'.cell? ⟨ba, oa + k * 4 + 2, none⟩ = some (.int .i64 c.i) ∧ w'.cell? ⟨ba, oa + k * 4 + 3, none⟩ = some (.int .i64 c.s))) :=
          fun w' b => ⟨(b.cell (p := ⟨ba, oa + k * 4, none⟩) la).trans e0, (b.cell (p := ⟨ba, oa + k * 4 + 1, none⟩) la).trans e1, (b.cell (p := ⟨ba, oa + k * 4 + 2, none⟩) la).trans e2, (b.cell (p := ⟨ba, oa + k * 4 + 3, none⟩) la).trans e3⟩
        clear hx okc q hT hG e0 e1 e2 e3 la hS s0 s1
        go_wp2
        go_region_held3 (fun w' => (w'.cell? ⟨ba, oa + k * 4, none⟩ = some (.int .i64 c.r) ∧ w'.cell? ⟨ba, oa + k * 4 + 1, none⟩ = some (.int .i64 c.v) ∧ w'.cell? ⟨ba, oa + k * 4 + 2, none⟩ = some (.int .i64 c.i) ∧ w'.cell? ⟨ba, oa + k * 4 + 3, none⟩ = some (.int .i64 c.s)))
          (first | exact KS.out _ B2.out | exact KS.out _ (Below.refl _ _).drew)
          (first
            | (go_at_call 64; refine (C2.out _).mono ?_; rintro e w2 ⟨rfl, b2⟩; have B2 : Hid (Below wr.heap.size wr w2) := (Below.refl _ _).drew.trans b2)
            | (go_at_call 63; refine (C3.out _).mono ?_; rintro e w3 ⟨rfl, rfl⟩))
        rename_i hHeld
        have B3 : Hid (Below w.heap.size w w2) := B.out.trans (B2.out.mono hsz)
        clear hHeld B2 KS b2
        go_wp2
        exact ⟨⟨k + 1, by omega, by go_num, by rw [Q.out], B3⟩, by simp only [intOf]; omega⟩
      · obtain rfl : k = m := by omega
        go_wp2
        go_ret2
        exact ⟨by rw [← HNN.out]; rfl, B.out⟩
  · generalize xs.length = m at *
    clear no
    go_enter Try.func36, Try.ntmps36
    go_wp2_with fail
    refine (C1.out _ H.out).mono ?_
    rintro e w1 ⟨rfl, b1⟩
    have B1 := Lib.hid b1
    clear b1 C1
    go_wp2
    go_ret2
    exact ⟨rfl, B1.out⟩

theorem exLossOf (g : Gt) : ∃ (n : Int) (b : Bool),
    Hid (∀ (w : World), (fun _ => True) w → Calls Try.prog 34 #[(.agg #[.int .i64 g.r, .int .i64 g.v, .int .i64 g.i, .int .i64 g.s])] w fun e w' => e = .returned (.tuple #[.int .i64 n, .bool b]) ∧ Below w.heap.size w w') ∧
    Hid (∀ (w : World), (fun _ => True) w → Calls Try.prog 28 #[(.agg #[.int .i64 g.r, .int .i64 g.v, .int .i64 g.i, .int .i64 g.s])] w fun e w' => e = .returned (.tuple #[.int .i64 n, .bool b]) ∧ Below w.heap.size w w') := by
  obtain ⟨n, b, h⟩ : ∃ n b, LossRes g n b := by
    by_cases h : OkGt g
    · exact ⟨_, _, .inl ⟨h, rfl, rfl⟩⟩
    · exact ⟨_, _, .inr ⟨h, rfl, rfl⟩⟩
  exact ⟨n, b, fun w _ => specLoss_any g n b h w, fun w _ => implLoss_any g n b h w⟩

theorem exSpareOf (xs : List Gt) (lz : xs.length ≤ 1048576) : ∃ (n : Int) (b : Bool),
    Hid (∀ (w : World) (v0 : Value), (fun _ => True) w → RdS 4 encGt w v0 xs → Calls Try.prog 36 #[v0] w fun e w' => e = .returned (.tuple #[.int .i64 n, .bool b]) ∧ Below w.heap.size w w') ∧
    Hid (∀ (w : World) (v0 : Value), (fun _ => True) w → RdS 4 encGt w v0 xs → Calls Try.prog 26 #[v0] w fun e w' => e = .returned (.tuple #[.int .i64 n, .bool b]) ∧ Below w.heap.size w w') := by
  obtain ⟨n, b, h⟩ : ∃ n b, SpareRes xs n b := by
    by_cases h : OkGs xs
    · exact ⟨_, _, .inl ⟨h, rfl, rfl⟩⟩
    · exact ⟨_, _, .inr ⟨h, rfl, rfl⟩⟩
  exact ⟨n, b, fun w v _ k => specSpare_any v xs w k lz n b h, fun w v _ k => implSpare_any v xs w k lz n b h⟩
end Go.Proofs.Ytonblcbdmblpbaa
