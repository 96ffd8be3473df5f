/- Rows of units and needs; by how much units lift. (Written by tools/mklift.py.) -/
import Derived.Test.YtonblcbdmblpbacPart
import Derived.Test.YtonblcbdmblpbacAppI
import Derived.Test.YtonblcbdmblpbacConcatI
import Derived.Deep.RegionLaw
import Derived.Handy
namespace Go.Proofs.Ytonblcbdmblpbac
open Go.ChangeShapes Go.WideShapes Go.ChangeAt Go.RowKit
set_option linter.unusedVariables false
set_option linter.unusedSimpArgs false

theorem bool_iz (P : Prop) : ∃ b : Bool, b = true ↔ P := by
  by_cases h : P
  · exact ⟨true, by simp [h]⟩
  · exact ⟨false, by simp [h]⟩

def OkRow (hi : Int) (zs : List Int) : Prop := (1 ≤ zs.length ∧ zs.length ≤ 12) ∧ AllIn 0 hi zs

theorem isUnits_any (x : Int) (w : World) (b : Bool) (hb : b = true ↔ 0 ≤ x ∧ x ≤ 6) : Calls Try.prog 22 #[.int .i64 x] w fun e w' => e = .returned (.bool b) ∧ w = w' := by
  have C := Lib.hid (fun w => within_any x 0 6 b hb w)
  clear hb
  go_enter Try.func22, Try.ntmps22
  go_wp2_with fail
  refine (C.out _).mono ?_
  rintro e w' ⟨rfl, rfl⟩
  go_wp2
  go_ret
  exact ⟨rfl, rfl⟩

set_option maxHeartbeats 1000000 in
theorem every_isUnits (v : Value) (zs : List Int) (w : World) (h : RdI w v zs) (lz : zs.length ≤ 1099511627776) (b : Bool) (hb : b = true ↔ AllIn 0 6 zs) :
    Calls Try.prog 35 #[v, .func (Fn.func 22) #[] #[]] w fun e w' => e = .returned (.bool b) ∧ w = w' := by
  obtain ⟨a, cap, rfl, ra⟩ := h
  obtain ⟨n, hn⟩ : ∃ n, n = zs.length := ⟨_, rfl⟩
  rw [← hn] at lz
  rw [← hn]
  have RA := Lib.hid ra
  have HN := Lib.hid hn
  have HB := Lib.hid hb
  clear ra hn hb
  go_enter Try.func35, Try.ntmps35
  go_wp2
  go_loop [6, 9] (fun _ i => ∃ k : Nat, k ≤ n ∧ i = .int .i64 k ∧ Hid (AllIn 0 6 (zs.take k))) (fun _ i => n - (intOf i).toNat)
  case atStart => exact ⟨0, by omega, rfl, fun x hx => by simp at hx⟩
  case round =>
    obtain ⟨k, hk, rfl, ha⟩ := hrel
    by_cases hlt : k < n
    · obtain ⟨x, hx⟩ : ∃ x, zs[k]? = some x := ⟨_, List.getElem?_eq_getElem (by have := HN.out; omega)⟩
      obtain ⟨ba, oa, rfl, ca'⟩ := RA.out.resolve_left (by intro h; have := HN.out; rw [h] at this; simp at this; omega)
      have c1 := ca' k x hx
      have HX := Lib.hid hx
      clear ca' hx
      by_cases hv : 0 ≤ x ∧ x ≤ 6
      · go_wp2_with (go_at_call 22; refine (isUnits_any _ _ true (by simpa using hv)).mono ?_; rintro e w' ⟨rfl, rfl⟩)
        exact ⟨⟨k + 1, by omega, by go_num, ha.out.take_succ HX.out hv.1 hv.2⟩, by simp only [intOf]; omega⟩
      · obtain rfl : b = false := b_false HB.out (fun hA => hv (hA.at HX.out))
        go_wp2_with (go_at_call 22; refine (isUnits_any _ _ false (by simp; omega)).mono ?_; rintro e w' ⟨rfl, rfl⟩)
        go_ret
        exact ⟨rfl, rfl⟩
    · obtain rfl : k = n := by omega
      obtain rfl : b = true := HB.out.mpr (by have := ha.out; rwa [List.take_of_length_le (by have := HN.out; omega)] at this)
      go_wp2
      go_ret
      exact ⟨rfl, rfl⟩

theorem isNeed_all (x : Int) (w : World) (b : Bool) (hb : b = true ↔ 0 ≤ x ∧ x ≤ 12) : Calls Try.prog 24 #[.int .i64 x] w fun e w' => e = .returned (.bool b) ∧ w = w' := by
  have C := Lib.hid (fun w => within_any x 0 12 b hb w)
  clear hb
  go_enter Try.func24, Try.ntmps24
  go_wp2_with fail
  refine (C.out _).mono ?_
  rintro e w' ⟨rfl, rfl⟩
  go_wp2
  go_ret
  exact ⟨rfl, rfl⟩

set_option maxHeartbeats 1000000 in
theorem every_isNeed7 (v : Value) (zs : List Int) (w : World) (h : RdI w v zs) (lz : zs.length ≤ 1099511627776) (b : Bool) (hb : b = true ↔ AllIn 0 12 zs) :
    Calls Try.prog 35 #[v, .func (Fn.func 24) #[] #[]] w fun e w' => e = .returned (.bool b) ∧ w = w' := by
  obtain ⟨a, cap, rfl, ra⟩ := h
  obtain ⟨n, hn⟩ : ∃ n, n = zs.length := ⟨_, rfl⟩
  rw [← hn] at lz
  rw [← hn]
  have RA := Lib.hid ra
  have HN := Lib.hid hn
  have HB := Lib.hid hb
  clear ra hn hb
  go_enter Try.func35, Try.ntmps35
  go_wp2
  go_loop [6, 9] (fun _ i => ∃ k : Nat, k ≤ n ∧ i = .int .i64 k ∧ Hid (AllIn 0 12 (zs.take k))) (fun _ i => n - (intOf i).toNat)
  case atStart => exact ⟨0, by omega, rfl, fun x hx => by simp at hx⟩
  case round =>
    obtain ⟨k, hk, rfl, ha⟩ := hrel
    by_cases hlt : k < n
    · obtain ⟨x, hx⟩ : ∃ x, zs[k]? = some x := ⟨_, List.getElem?_eq_getElem (by have := HN.out; omega)⟩
      obtain ⟨ba, oa, rfl, ca'⟩ := RA.out.resolve_left (by intro h; have := HN.out; rw [h] at this; simp at this; omega)
      have c1 := ca' k x hx
      have HX := Lib.hid hx
      clear ca' hx
      by_cases hv : 0 ≤ x ∧ x ≤ 12
      · go_wp2_with (go_at_call 24; refine (isNeed_all _ _ true (by simpa using hv)).mono ?_; rintro e w' ⟨rfl, rfl⟩)
        exact ⟨⟨k + 1, by omega, by go_num, ha.out.take_succ HX.out hv.1 hv.2⟩, by simp only [intOf]; omega⟩
      · obtain rfl : b = false := b_false HB.out (fun hA => hv (hA.at HX.out))
        go_wp2_with (go_at_call 24; refine (isNeed_all _ _ false (by simp; omega)).mono ?_; rintro e w' ⟨rfl, rfl⟩)
        go_ret
        exact ⟨rfl, rfl⟩
    · obtain rfl : k = n := by omega
      obtain rfl : b = true := HB.out.mpr (by have := ha.out; rwa [List.take_of_length_le (by have := HN.out; omega)] at this)
      go_wp2
      go_ret
      exact ⟨rfl, rfl⟩

theorem withinN_any (n lo hi : Int) (b : Bool) (hb : b = true ↔ lo ≤ n ∧ n ≤ hi) (w : World) :
    Calls Try.prog 36 #[.int .i64 n, .int .i64 lo, .int .i64 hi] w fun e w' => e = .returned (.bool b) ∧ w = w' := by
  by_cases h1 : lo ≤ n
  · by_cases h2 : n ≤ hi
    · obtain rfl : b = true := hb.mpr ⟨h1, h2⟩
      clear hb
      go_enter Try.func36, Try.ntmps36
      go_wp2
      go_ret
      exact ⟨rfl, rfl⟩
    · obtain rfl : b = false := by cases b with | false => rfl | true => exact absurd (hb.mp rfl).2 h2
      clear hb
      go_enter Try.func36, Try.ntmps36
      go_wp2
      go_ret
      exact ⟨rfl, rfl⟩
  · obtain rfl : b = false := by cases b with | false => rfl | true => exact absurd (hb.mp rfl).1 h1
    clear hb
    go_enter Try.func36, Try.ntmps36
    go_wp2
    go_ret
    exact ⟨rfl, rfl⟩

theorem isRow_isUnits (v : Value) (zs : List Int) (w : World) (h : RdI w v zs) (lz : zs.length ≤ 1099511627776) (b : Bool) (hb : b = true ↔ OkRow 6 zs) :
    Calls Try.prog 21 #[v, .func (Fn.func 22) #[] #[]] w fun e w' => e = .returned (.bool b) ∧ w = w' := by
  obtain ⟨b1, h1⟩ := bool_iz ((1 : Int) ≤ (zs.length : Int) ∧ (zs.length : Int) ≤ 12)
  obtain ⟨b2, h2⟩ := bool_iz (AllIn 0 6 zs)
  have C1 := Lib.hid (fun w => withinN_any zs.length 1 12 b1 h1 w)
  have C2 := Lib.hid (every_isUnits v zs w h lz b2 h2)
  obtain rfl : b = (b1 && b2) := by
    rw [Bool.eq_iff_iff, hb, Bool.and_eq_true, h1, h2]; unfold OkRow
    constructor
    · rintro ⟨⟨a, b⟩, c⟩; exact ⟨⟨by omega, by omega⟩, c⟩
    · rintro ⟨⟨a, b⟩, c⟩; exact ⟨⟨by omega, by omega⟩, c⟩
  obtain ⟨a, cap, rfl, ra⟩ := h
  generalize zs.length = n at *
  clear hb h1 h2 ra lz
  go_enter Try.func21, Try.ntmps21
  go_wp2_with fail
  refine (C1.out _).mono ?_
  rintro e w1 ⟨rfl, rfl⟩
  cases b1
  · go_wp2
    go_ret
    exact ⟨rfl, rfl⟩
  · go_wp2_with fail
    refine C2.out.mono ?_
    rintro e w1 ⟨rfl, rfl⟩
    go_wp2
    go_ret
    exact ⟨by simp, rfl⟩

theorem isRow_isNeed (v : Value) (zs : List Int) (w : World) (h : RdI w v zs) (lz : zs.length ≤ 1099511627776) (b : Bool) (hb : b = true ↔ OkRow 12 zs) :
    Calls Try.prog 21 #[v, .func (Fn.func 24) #[] #[]] w fun e w' => e = .returned (.bool b) ∧ w = w' := by
  obtain ⟨b1, h1⟩ := bool_iz ((1 : Int) ≤ (zs.length : Int) ∧ (zs.length : Int) ≤ 12)
  obtain ⟨b2, h2⟩ := bool_iz (AllIn 0 12 zs)
  have C1 := Lib.hid (fun w => withinN_any zs.length 1 12 b1 h1 w)
  have C2 := Lib.hid (every_isNeed7 v zs w h lz b2 h2)
  obtain rfl : b = (b1 && b2) := by
    rw [Bool.eq_iff_iff, hb, Bool.and_eq_true, h1, h2]; unfold OkRow
    constructor
    · rintro ⟨⟨a, b⟩, c⟩; exact ⟨⟨by omega, by omega⟩, c⟩
    · rintro ⟨⟨a, b⟩, c⟩; exact ⟨⟨by omega, by omega⟩, c⟩
  obtain ⟨a, cap, rfl, ra⟩ := h
  generalize zs.length = n at *
  clear hb h1 h2 ra lz
  go_enter Try.func21, Try.ntmps21
  go_wp2_with fail
  refine (C1.out _).mono ?_
  rintro e w1 ⟨rfl, rfl⟩
  cases b1
  · go_wp2
    go_ret
    exact ⟨rfl, rfl⟩
  · go_wp2_with fail
    refine C2.out.mono ?_
    rintro e w1 ⟨rfl, rfl⟩
    go_wp2
    go_ret
    exact ⟨by simp, rfl⟩

set_option maxHeartbeats 1000000 in
theorem l07Row_any (v : Value) (zs : List Int) (hi : Int) (w : World) (h : RdI w v zs) (lz : zs.length ≤ 1099511627776) (b : Bool) (hb : b = true ↔ OkRow hi zs) :
    Calls Try.prog 19 #[v, .int .i64 hi] w fun e w' => e = .returned (.bool b) ∧ w = w' := by
  obtain ⟨a, cap, rfl, ra⟩ := h
  obtain ⟨n, hn⟩ : ∃ n, n = zs.length := ⟨_, rfl⟩
  rw [← hn] at lz
  rw [← hn]
  have RA := Lib.hid ra
  have HN := Lib.hid hn
  have HB := Lib.hid hb
  clear ra hn hb
  go_enter Try.func19, Try.ntmps19
  go_wp2
  go_loop [5] (fun i => ∃ k : Nat, k ≤ n ∧ i = .int .i64 k ∧ Hid (AllIn 0 hi (zs.take k))) (fun i => n - (intOf i).toNat)
  case atStart => exact ⟨0, by omega, rfl, fun x hx => by simp at hx⟩
  case round =>
    obtain ⟨k, hk, rfl, ha⟩ := hrel
    by_cases hlt : k < n
    · obtain ⟨x, hx⟩ : ∃ x, zs[k]? = some x := ⟨_, List.getElem?_eq_getElem (by have := HN.out; omega)⟩
      obtain ⟨ba, oa, rfl, ca'⟩ := RA.out.resolve_left (by intro h; have := HN.out; rw [h] at this; simp at this; omega)
      have c1 := ca' k x hx
      have HX := Lib.hid hx
      clear ca' hx
      by_cases hv : 0 ≤ x ∧ x ≤ hi
      · go_wp2_with fail
        refine (in_any x 0 hi true (by simpa using hv) _).mono ?_
        rintro e w' ⟨rfl, rfl⟩
        go_wp2
        exact ⟨⟨k + 1, by omega, by go_num, ha.out.take_succ HX.out hv.1 hv.2⟩, by simp only [intOf]; omega⟩
      · obtain rfl : b = false := b_false HB.out (fun hA => hv (hA.2.at HX.out))
        go_wp2_with fail
        refine (in_any x 0 hi false (by simp; omega) _).mono ?_
        rintro e w' ⟨rfl, rfl⟩
        go_wp2
        go_ret
        exact ⟨rfl, rfl⟩
    · obtain rfl : k = n := by omega
      have hA : AllIn 0 hi zs := by have := ha.out; rwa [List.take_of_length_le (by have := HN.out; omega)] at this
      by_cases g1 : 1 ≤ k
      · have d1 : decide ((1 : Int) ≤ (k : Int)) = true := decide_eq_true (by omega)
        have d1' : decide (1 ≤ k) = true := decide_eq_true g1
        by_cases g2 : k ≤ 12
        · have d2 : decide ((k : Int) ≤ 12) = true := decide_eq_true (by omega)
          obtain rfl : b = true := HB.out.mpr ⟨by have := HN.out; omega, hA⟩
          clear hA g1 g2
          go_wp2
          go_ret
          exact ⟨rfl, rfl⟩
        · have d2 : decide ((k : Int) ≤ 12) = false := decide_eq_false (by omega)
          obtain rfl : b = false := b_false HB.out (fun h => by have := h.1; have := HN.out; omega)
          clear hA g1 g2
          go_wp2
          go_ret
          exact ⟨rfl, rfl⟩
      · obtain rfl : b = false := b_false HB.out (fun h => by have := h.1; have := HN.out; omega)
        have k0 : k = 0 := by omega
        subst k0
        clear hA g1
        go_wp2
        go_ret
        exact ⟨rfl, rfl⟩

/-- A row with nothing beside it. -/
def rowL (us : List Int) : List Int := [0] ++ us ++ [0]
def liftAt (us : List Int) (i : Nat) : Int := (rowL us).getD i 0 + 2 * (rowL us).getD (i + 1) 0 + (rowL us).getD (i + 2) 0
def liftL (us : List Int) : List Int := (List.range us.length).map (liftAt us)
theorem liftL_len (us : List Int) : (liftL us).length = us.length := by simp [liftL]
theorem liftL_get {us : List Int} {i : Nat} (h : i < us.length) : (liftL us)[i]? = some (liftAt us i) := by simp [liftL, h]
theorem rowL_len (us : List Int) : (rowL us).length = us.length + 2 := by simp [rowL]
theorem rowL_own {us : List Int} {i : Nat} {x : Int} (h : us[i]? = some x) : (rowL us)[i + 1]? = some x := by
  have hi : i < us.length := (List.getElem?_eq_some_iff.1 h).1
  unfold rowL
  rw [List.append_assoc, List.singleton_append, List.getElem?_cons_succ, List.getElem?_append_left hi, h]
theorem rowL_zero (us : List Int) : (rowL us)[0]? = some 0 := by simp [rowL]
theorem rowL_last (us : List Int) : (rowL us)[us.length + 1]? = some 0 := by
  unfold rowL
  rw [List.append_assoc, List.singleton_append, List.getElem?_cons_succ, List.getElem?_append_right (by omega), Nat.sub_self]; rfl
theorem rowL_all {us : List Int} {hi : Int} (h0 : 0 ≤ hi) (h : AllIn 0 hi us) : AllIn 0 hi (rowL us) := by
  intro x hx
  simp only [rowL, List.mem_append, List.mem_singleton] at hx
  rcases hx with (rfl | hx) | rfl
  · omega
  · exact h x hx
  · omega

theorem bx3_0 (w : World) (o p q : Obj) : (((w.alloc o).alloc p).alloc q).heap[w.heap.size]? = some o := (Below.heap_alloc _ _ _ (by simp; omega)).trans ((Below.heap_alloc _ _ _ (by simp)).trans (heap_alloc_new w o))
theorem bx3_1 (w : World) (o p q : Obj) : (((w.alloc o).alloc p).alloc q).heap[w.heap.size + 1]? = some p := (Below.heap_alloc _ _ _ (by simp)).trans (by have := heap_alloc_new (w.alloc o) p; rwa [World.size_alloc] at this)
theorem bx3_2 (w : World) (o p q : Obj) : (((w.alloc o).alloc p).alloc q).heap[w.heap.size + 1 + 1]? = some q := by have := heap_alloc_new ((w.alloc o).alloc p) q; rwa [World.size_alloc, World.size_alloc] at this

set_option maxRecDepth 100000 in
set_option maxHeartbeats 4000000 in
theorem lifts_any (v : Value) (us : List Int) (w : World) (h : RdI w v us) (ok : OkRow 6 us) :
    Calls Try.prog 23 #[v] w fun e w' => ∃ u, e = .returned u ∧ OwnI w' w.heap.size u (liftL us) ∧ Below w.heap.size w w' := by
  obtain ⟨i0, hi, hz0, hz1, hz2⟩ := info_parts info_i64
  have HV := Lib.hid h
  obtain ⟨a, cap, rfl, -⟩ := h
  obtain ⟨n, hn⟩ : ∃ n, n = us.length := ⟨_, rfl⟩
  have n1 : 1 ≤ n := by have := ok.1; omega
  have n12 : n ≤ 12 := by have := ok.1; omega
  rw [← hn] at HV
  rw [← hn]
  have HN := Lib.hid hn
  have OK := Lib.hid (rowL_all (by omega) ok.2)
  have RL : Hid ((rowL us).length = n + 2) := by show _ = _; rw [rowL_len, hn]
  have LN : Hid ((liftL us).length = n) := by show _ = _; rw [liftL_len, hn]
  have CC := Lib.hid (fun w' (hb : Below w.heap.size w w') (b : Nat) (c0 c1 : Nat) (hs : w.heap.size ≤ w'.heap.size)
    (x0 : w'.cell? ⟨b, 0, none⟩ = some (.slice (some ⟨c0, 0, none⟩) 1 1)) (x1 : w'.cell? ⟨b, 1, none⟩ = some (.slice a n cap)) (x2 : w'.cell? ⟨b, 2, none⟩ = some (.slice (some ⟨c1, 0, none⟩) 1 1))
    (y0 : w'.cell? ⟨c0, 0, none⟩ = some (.int .i64 0)) (y1 : w'.cell? ⟨c1, 0, none⟩ = some (.int .i64 0)) => (concat_any b 3 3 [[0], us, [0]] w' rfl (by omega) (by omega) (by
      intro k p hk
      match k, hk with
      | 0, hk =>
        obtain rfl : [0] = p := by simpa using hk
        exact ⟨by simp, _, x0, _, 1, rfl, .inr ⟨c0, 0, rfl, fun i x hx => by
          obtain rfl : i = 0 := by have := (List.getElem?_eq_some_iff.1 hx).1; simp at this; omega
          obtain rfl : 0 = x := by simpa using hx
          exact y0⟩⟩
      | 1, hk =>
        obtain rfl : us = p := by simpa using hk
        exact ⟨by rw [← HN.out]; exact n1, _, x1, HV.out.later hb⟩
      | 2, hk =>
        obtain rfl : [0] = p := by simpa using hk
        exact ⟨by simp, _, x2, _, 1, rfl, .inr ⟨c1, 0, rfl, fun i x hx => by
          obtain rfl : i = 0 := by have := (List.getElem?_eq_some_iff.1 hx).1; simp at this; omega
          obtain rfl : 0 = x := by simpa using hx
          exact y1⟩⟩
      | k + 3, hk => simp at hk) (by simp; have := HN.out; omega)).mono fun e w2 (h : ∃ _, _) => (by
        obtain ⟨v, h1, h2, h3⟩ := h
        refine ⟨v, h1, ?_, h3⟩
        have e : [[0], us, [0]].flatten = rowL us := by simp [rowL]
        rwa [e] at h2 : ∃ v, e = Ending.returned v ∧ OwnI w2 w'.heap.size v (rowL us) ∧ Below w'.heap.size w' w2))
  clear hn ok
  go_enter Try.func23, Try.ntmps23
  go_wp2_with fail
  refine (CC.out _ (by go_grown) (w.heap.size + 1 + 1) w.heap.size (w.heap.size + 1) (by simp; omega) (cell_of_row _ _ 0 _ _ _ (bx3_2 w _ _ _)) (cell_of_row _ _ 1 _ _ _ (bx3_2 w _ _ _)) (cell_of_row _ _ 2 _ _ _ (bx3_2 w _ _ _)) (cell_of_row _ _ 0 _ _ _ (bx3_0 w _ _ _)) (cell_of_row _ _ 0 _ _ _ (bx3_1 w _ _ _))).mono ?_
  rintro e w1 ⟨v, rfl, o1, b1⟩
  have B1 : Hid (Below w.heap.size w w1) := Below.trans (by go_grown) (b1.mono (by simp; omega))
  have z1 : w.heap.size ≤ w1.heap.size := B1.out.size
  obtain ⟨-, hx | ⟨g, c, cur, rfl, -⟩⟩ := id o1
  · exact absurd hx.2 (by have := RL.out; omega)
  obtain ⟨m, hm⟩ : ∃ m, m = n + 2 := ⟨_, rfl⟩
  rw [RL.out, ← hm] at o1 ⊢
  have HM := Lib.hid hm
  clear hm
  have O1 := Lib.hid o1
  have lg := (o1.lt g rfl).2
  clear o1 b1 CC HV
  go_wp2_with (first | (at_make; refine wpList_make_full _ rfl _ _ _ rfl w1.heap.size 2 i0 (.int .i64 0) 1 Try.underlying22 hi hz0 hz1 .i64 .i64 _ _ n rfl rfl rfl rfl ?b2 ?b3 (Nat.le_refl _) ?_) | go_in)
  case b2 => rw [hz2]; omega
  case b3 => unfold maxLen; omega
  intro w2 hown hg
  rw [toList_madeCells_one] at hown
  have O2 : Hid (OwnI w2 w1.heap.size (.slice (some ⟨w1.heap.size, 0, none⟩) n n) (part (liftL us) n 0)) := part_made hown
  have B2 : Hid (Below w1.heap.size w1 w2) := (Below.refl _ _).grown hg (Nat.le_refl _) (fun k h => by cases h)
  clear hown hg
  go_wp2
  go_loopw [16] (fun i wr => ∃ k : Nat, k ≤ n ∧ i = .int .i64 k ∧ Hid (OwnI wr w1.heap.size (.slice (some ⟨w1.heap.size, 0, none⟩) n n) (part (liftL us) n k)) ∧ Hid (Below w1.heap.size w1 wr)) (fun i _ => n - (intOf i).toNat)
  case atStart => exact ⟨0, by omega, rfl, O2, B2⟩
  case round =>
    obtain ⟨k, hk, rfl, ho, hbl⟩ := hrel
    clear O2 B2
    by_cases hlt : k < n
    · obtain ⟨x, hx⟩ : ∃ x, (rowL us)[k]? = some x := ⟨_, List.getElem?_eq_getElem (by have := RL.out; omega)⟩
      obtain ⟨y, hy⟩ : ∃ x, (rowL us)[k + 1]? = some x := ⟨_, List.getElem?_eq_getElem (by have := RL.out; omega)⟩
      obtain ⟨z, hz⟩ : ∃ x, (rowL us)[k + 2]? = some x := ⟨_, List.getElem?_eq_getElem (by have := RL.out; omega)⟩
      have OR := O1.out.below hbl.out (fun j e => by cases e; exact lg)
      have cA : ∀ i q, (rowL us)[i]? = some q → wr.cell? ⟨g, i, none⟩ = some (.int .i64 q) := by
        intro i q hq
        obtain ⟨a', c', e, h1 | ⟨b, off, e2, h1⟩⟩ := OR.rd
        · rw [h1] at hq; simp at hq
        · simp only [Value.slice.injEq] at e
          rw [e2] at e
          simp only [Option.some.injEq, Addr.mk.injEq, and_true] at e
          obtain ⟨⟨rfl, rfl⟩, -, -⟩ := e
          have := h1 i q hq
          rwa [Nat.zero_add] at this
      have cx := cA k x hx
      have cy := cA (k + 1) y hy
      have cz := cA (k + 2) z hz
      obtain ⟨x0, x1⟩ := OK.out.at hx
      obtain ⟨y0, y1⟩ := OK.out.at hy
      obtain ⟨z0, z1'⟩ := OK.out.at hz
      have LG : Hid ((liftL us)[k]? = some (x + 2 * y + z)) := by
        show _ = _
        rw [liftL_get (by have := HN.out; omega)]
        simp only [liftAt, getD_of hx, getD_of hy, getD_of hz]
      obtain ⟨c2, fz⟩ := part_cell LN.out hlt ho.out
      have s1 := Lib.hid (part_store LN.out LG.out ho.out)
      have s2 : Hid (Below w1.heap.size w1 (wr.setCell ⟨w1.heap.size, k, none⟩ (.int .i64 (x + 2 * y + z))).drew) := (hbl.out.setCell (Nat.le_refl _) _).drew
      have k0 : k < m := by have := HM.out; omega
      obtain ⟨p, hp⟩ : ∃ p, p = k + 1 := ⟨_, rfl⟩
      obtain ⟨r, hr⟩ : ∃ r, r = k + 2 := ⟨_, rfl⟩
      have k1 : p < m := by have := HM.out; omega
      have k2 : r < m := by have := HM.out; omega
      have q4 : IntKind.i64.wrap ((k : Int) + 1) = (p : Int) := by rw [IntWalk.i64_in _ (by omega)]; omega
      have q5 : IntKind.i64.wrap ((k : Int) + 2) = (r : Int) := by rw [IntWalk.i64_in _ (by omega)]; omega
      rw [← hp] at cy
      rw [← hr] at cz
      have HPk := Lib.hid hp
      clear hp hr
      have q1 : IntKind.i64.wrap (2 * y) = 2 * y := IntWalk.i64_in _ (by omega)
      have q2 : IntKind.i64.wrap (x + 2 * y) = x + 2 * y := IntWalk.i64_in _ (by omega)
      have q3 : IntKind.i64.wrap (x + 2 * y + z) = x + 2 * y + z := IntWalk.i64_in _ (by omega)
      clear hx hy hz OR cA ho hbl LG
      go_wp2
      go_region_law (fail)
      all_goals
        go_wp2
        exact ⟨⟨k + 1, by omega, by rw [HPk.out], s1, s2⟩, by have := HPk.out; simp only [intOf]; omega⟩
    · obtain rfl : k = n := by omega
      have HO : Hid (OwnI wr w1.heap.size (.slice (some ⟨w1.heap.size, 0, none⟩) k k) (liftL us)) := by have := ho.out; rwa [part_all LN.out] at this
      clear ho
      go_wp2
      go_ret
      exact ⟨_, rfl, HO.out.mono z1, B1.out.trans (hbl.out.mono z1)⟩
end Go.Proofs.Ytonblcbdmblpbac
