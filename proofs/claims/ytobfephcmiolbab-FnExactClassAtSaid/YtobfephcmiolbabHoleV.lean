/- The program's check of a ground. -/
import Derived.Test.YtobfephcmiolbabHoleM
import Derived.Deep.RegionHeld3
namespace Go.Proofs.Ytobfephcmiolbab
open Go.ChangeShapes Go.WideShapes Go.ChangeAt Go.RowKit
set_option linter.unusedVariables false
set_option linter.unusedSimpArgs false

theorem isDensity_is8 (x : Int) (w : World) (b : Bool) (hb : b = true ↔ 1 ≤ x ∧ x ≤ 3000) : Calls Try.prog 54 #[.int .i64 x] w fun e w' => e = .returned (.bool b) ∧ w = w' := by
  have C := Lib.hid (fun w => within_any x 1 3000 b hb w)
  clear hb
  go_enter Try.func54, Try.ntmps54
  go_wp2_with fail
  refine (C.out _).mono ?_
  rintro e w' ⟨rfl, rfl⟩
  go_wp2
  go_ret
  exact ⟨rfl, rfl⟩

set_option maxHeartbeats 1000000 in
theorem every_isDensity (v : Value) (zs : List Int) (w : World) (h : RdI w v zs) (lz : zs.length ≤ 1099511627776) (b : Bool) (hb : b = true ↔ AllIn 1 3000 zs) :
    Calls Try.prog 53 #[v, .func (Fn.func 54) #[] #[]] w fun e w' => e = .returned (.bool b) ∧ w = w' := by
  obtain ⟨a, cap, rfl, ra⟩ := h
  obtain ⟨n, hn⟩ : ∃ n, n = zs.length := ⟨_, rfl⟩
  rw [← hn] at lz
  rw [← hn]
  have RA := Lib.hid ra
  have HN := Lib.hid hn
  have HB := Lib.hid hb
  clear ra hn hb
  go_enter Try.func53, Try.ntmps53
  go_wp2
  go_loop [6, 9] (fun _ i => ∃ k : Nat, k ≤ n ∧ i = .int .i64 k ∧ Hid (AllIn 1 3000 (zs.take k))) (fun _ i => n - (intOf i).toNat)
  case atStart => exact ⟨0, by omega, rfl, fun x hx => by simp at hx⟩
  case round =>
    obtain ⟨k, hk, rfl, ha⟩ := hrel
    by_cases hlt : k < n
    · obtain ⟨x, hx⟩ : ∃ x, zs[k]? = some x := ⟨_, List.getElem?_eq_getElem (by have := HN.out; omega)⟩
      obtain ⟨ba, oa, rfl, ca'⟩ := RA.out.resolve_left (by intro h; have := HN.out; rw [h] at this; simp at this; omega)
      have c1 := ca' k x hx
      have HX := Lib.hid hx
      clear ca' hx
      by_cases hv : 1 ≤ x ∧ x ≤ 3000
      · go_wp2_with (go_at_call 54; refine (isDensity_is8 _ _ true (by simpa using hv)).mono ?_; rintro e w' ⟨rfl, rfl⟩)
        exact ⟨⟨k + 1, by omega, by go_num, ha.out.take_succ HX.out hv.1 hv.2⟩, by simp only [intOf]; omega⟩
      · obtain rfl : b = false := b_false HB.out (fun hA => hv (hA.at HX.out))
        go_wp2_with (go_at_call 54; refine (isDensity_is8 _ _ false (by simp; omega)).mono ?_; rintro e w' ⟨rfl, rfl⟩)
        go_ret
        exact ⟨rfl, rfl⟩
    · obtain rfl : k = n := by omega
      obtain rfl : b = true := HB.out.mpr (by have := ha.out; rwa [List.take_of_length_le (by have := HN.out; omega)] at this)
      go_wp2
      go_ret
      exact ⟨rfl, rfl⟩

theorem isOffset_is8 (x : Int) (w : World) (b : Bool) (hb : b = true ↔ (-100000) ≤ x ∧ x ≤ 100000) : Calls Try.prog 93 #[.int .i64 x] w fun e w' => e = .returned (.bool b) ∧ w = w' := by
  have C := Lib.hid (fun w => within_any x (-100000) 100000 b hb w)
  clear hb
  go_enter Try.func93, Try.ntmps93
  go_wp2_with fail
  refine (C.out _).mono ?_
  rintro e w' ⟨rfl, rfl⟩
  go_wp2
  go_ret
  exact ⟨rfl, rfl⟩

set_option maxHeartbeats 1000000 in
theorem every_isOffset (v : Value) (zs : List Int) (w : World) (h : RdI w v zs) (lz : zs.length ≤ 1099511627776) (b : Bool) (hb : b = true ↔ AllIn (-100000) 100000 zs) :
    Calls Try.prog 53 #[v, .func (Fn.func 93) #[] #[]] w fun e w' => e = .returned (.bool b) ∧ w = w' := by
  obtain ⟨a, cap, rfl, ra⟩ := h
  obtain ⟨n, hn⟩ : ∃ n, n = zs.length := ⟨_, rfl⟩
  rw [← hn] at lz
  rw [← hn]
  have RA := Lib.hid ra
  have HN := Lib.hid hn
  have HB := Lib.hid hb
  clear ra hn hb
  go_enter Try.func53, Try.ntmps53
  go_wp2
  go_loop [6, 9] (fun _ i => ∃ k : Nat, k ≤ n ∧ i = .int .i64 k ∧ Hid (AllIn (-100000) 100000 (zs.take k))) (fun _ i => n - (intOf i).toNat)
  case atStart => exact ⟨0, by omega, rfl, fun x hx => by simp at hx⟩
  case round =>
    obtain ⟨k, hk, rfl, ha⟩ := hrel
    by_cases hlt : k < n
    · obtain ⟨x, hx⟩ : ∃ x, zs[k]? = some x := ⟨_, List.getElem?_eq_getElem (by have := HN.out; omega)⟩
      obtain ⟨ba, oa, rfl, ca'⟩ := RA.out.resolve_left (by intro h; have := HN.out; rw [h] at this; simp at this; omega)
      have c1 := ca' k x hx
      have HX := Lib.hid hx
      clear ca' hx
      by_cases hv : (-100000) ≤ x ∧ x ≤ 100000
      · go_wp2_with (go_at_call 93; refine (isOffset_is8 _ _ true (by simpa using hv)).mono ?_; rintro e w' ⟨rfl, rfl⟩)
        exact ⟨⟨k + 1, by omega, by go_num, ha.out.take_succ HX.out hv.1 hv.2⟩, by simp only [intOf]; omega⟩
      · obtain rfl : b = false := b_false HB.out (fun hA => hv (hA.at HX.out))
        go_wp2_with (go_at_call 93; refine (isOffset_is8 _ _ false (by simp; omega)).mono ?_; rintro e w' ⟨rfl, rfl⟩)
        go_ret
        exact ⟨rfl, rfl⟩
    · obtain rfl : k = n := by omega
      obtain rfl : b = true := HB.out.mpr (by have := ha.out; rwa [List.take_of_length_le (by have := HN.out; omega)] at this)
      go_wp2
      go_ret
      exact ⟨rfl, rfl⟩

theorem isRingNumber_is8 (x : Int) (w : World) (b : Bool) (hb : b = true ↔ 0 ≤ x ∧ x ≤ 60) : Calls Try.prog 63 #[.int .i64 x] w fun e w' => e = .returned (.bool b) ∧ w = w' := by
  have C := Lib.hid (fun w => within_any x 0 60 b hb w)
  clear hb
  go_enter Try.func63, Try.ntmps63
  go_wp2_with fail
  refine (C.out _).mono ?_
  rintro e w' ⟨rfl, rfl⟩
  go_wp2
  go_ret
  exact ⟨rfl, rfl⟩



theorem ok_boolG (P : Prop) : ∃ b : Bool, b = true ↔ P := by
  by_cases h : P
  · exact ⟨true, by simp [h]⟩
  · exact ⟨false, by simp [h]⟩

theorem withinInt_any (n lo hi : Int) (b : Bool) (hb : b = true ↔ lo ≤ n ∧ n ≤ hi) (w : World) :
    Calls Try.prog 52 #[.int .i64 n, .int .i64 lo, .int .i64 hi] w fun e w' => e = .returned (.bool b) ∧ w = w' := by
  by_cases h1 : lo ≤ n
  · by_cases h2 : n ≤ hi
    · obtain rfl : b = true := hb.mpr ⟨h1, h2⟩
      clear hb
      go_enter Try.func52, Try.ntmps52
      go_wp2
      go_ret
      exact ⟨rfl, rfl⟩
    · obtain rfl : b = false := b_false hb (fun h => h2 h.2)
      clear hb
      go_enter Try.func52, Try.ntmps52
      go_wp2
      go_ret
      exact ⟨rfl, rfl⟩
  · obtain rfl : b = false := b_false hb (fun h => h1 h.1)
    clear hb
    go_enter Try.func52, Try.ntmps52
    go_wp2
    go_ret
    exact ⟨rfl, rfl⟩

theorem down1_any (x y : Int) (b : Bool) (hb : b = decide (y ≤ x)) (w : World) : Calls Try.prog 95 #[.int .i64 x, .int .i64 y] w fun e w' => e = .returned (.bool b) ∧ w = w' := by
  have HB := Lib.hid hb
  clear hb
  go_enter Try.func95, Try.ntmps95
  go_wp2
  go_ret
  exact ⟨by simp [HB.out], rfl⟩

set_option maxHeartbeats 2000000 in
theorem everyTwo_down (v : Value) (zs : List Int) (w : World) (h : RdI w v zs) (lz : zs.length ≤ 1099511627776) (b : Bool) (hb : b = true ↔ Down zs) :
    Calls Try.prog 94 #[v, .func (Fn.func 95) #[] #[]] w fun e w' => e = .returned (.bool b) ∧ Below w.heap.size w w' := by
  obtain ⟨a, cap, rfl, ra⟩ := h
  obtain ⟨n, hn⟩ : ∃ n, n = zs.length := ⟨_, rfl⟩
  rw [← hn] at lz
  rw [← hn]
  have RA := Lib.hid ra
  have HN := Lib.hid hn
  have HB := Lib.hid hb
  clear ra hn hb
  go_enter Try.func94, Try.ntmps94
  go_wp2
  go_loopw [5] (fun i wr => ∃ k : Nat, 1 ≤ k ∧ k ≤ n + 1 ∧ i = .int .i64 k ∧ Hid (∀ (i : Nat) x y, i + 1 < k → zs[i]? = some x → zs[i + 1]? = some y → y ≤ x) ∧ Hid (∃ q, wr = w.drewN q)) (fun i _ => n + 1 - (intOf i).toNat)
  case atStart => exact ⟨1, by omega, by omega, rfl, fun i x y h => by omega, ⟨0, rfl⟩⟩
  case round =>
    obtain ⟨k, k1, hk, rfl, ha, hw⟩ := hrel
    obtain ⟨q, rfl⟩ := hw.out
    by_cases hlt : k < n
    · obtain ⟨j, hj⟩ : ∃ j, k = j + 1 := ⟨k - 1, by omega⟩
      obtain ⟨x, hx⟩ : ∃ x, zs[j]? = some x := ⟨_, List.getElem?_eq_getElem (by have := HN.out; omega)⟩
      obtain ⟨y, hy⟩ : ∃ y, zs[k]? = some y := ⟨_, List.getElem?_eq_getElem (by have := HN.out; omega)⟩
      obtain ⟨ba, oa, rfl, ca'⟩ := RA.out.resolve_left (by intro h; have := HN.out; rw [h] at this; simp at this; omega)
      have c0 := ca' j x hx
      have c1 := ca' k y hy
      have HX := Lib.hid hx
      have HY := Lib.hid hy
      have HJ := Lib.hid hj
      have q1 : IntKind.i64.wrap ((k : Int) - 1) = (j : Int) := by rw [IntWalk.i64_in _ (by omega)]; omega
      have jn : j < n := by omega
      clear ca' hx hy hj
      by_cases hv : y ≤ x
      · have C := Lib.hid (fun w => down1_any x y true (by simpa using hv) w)
        have A1 : Hid (∀ (i : Nat) x y, i + 1 < k + 1 → zs[i]? = some x → zs[i + 1]? = some y → y ≤ x) := fun i x' y' hi hx' hy' => by
          by_cases e : i = j
          · subst e
            rw [HX.out] at hx'
            rw [← HJ.out, HY.out] at hy'
            rw [← Option.some.inj hx', ← Option.some.inj hy']; exact hv
          · exact ha.out i x' y' (by have := HJ.out; omega) hx' hy'
        clear ha hv
        go_wp2
        go_quiet ((go_at_call 95; exact (C.out _).mono fun _ _ h => ⟨h.1, ⟨_, h.2.symm⟩⟩))
        go_wp2
        exact ⟨⟨k + 1, by omega, by omega, by go_num, A1, ⟨_, rfl⟩⟩, by simp only [intOf]; omega⟩
      · have C := Lib.hid (fun w => down1_any x y false (by simpa using hv) w)
        obtain rfl : b = false := b_false HB.out (fun hA => hv (hA j x y HX.out (by rw [← HJ.out]; exact HY.out)))
        clear ha hv
        go_wp2
        go_quiet ((go_at_call 95; exact (C.out _).mono fun _ _ h => ⟨h.1, ⟨_, h.2.symm⟩⟩))
        go_wp2
        go_ret
        exact ⟨rfl, ⟨rfl, rfl, rfl, Nat.le_refl _, fun _ _ => rfl⟩⟩
    · obtain rfl : b = true := HB.out.mpr (fun i x y hx hy => ha.out i x y (by have := (List.getElem?_eq_some_iff.1 hy).1; have := HN.out; omega) hx hy)
      clear ha
      go_wp2
      go_ret
      exact ⟨rfl, ⟨rfl, rfl, rfl, Nat.le_refl _, fun _ _ => rfl⟩⟩

theorem isBefore_any (r s : Int) (a c : Option Addr) (n m p q : Nat) (b : Bool) (hb : b = decide (r < s)) (w : World) :
    Calls Try.prog 56 #[.agg #[.int .i64 r, .slice a n p], .agg #[.int .i64 s, .slice c m q]] w fun e w' => e = .returned (.bool b) ∧ Below w.heap.size w w' := by
  have HB := Lib.hid hb
  clear hb
  go_enter Try.func56, Try.ntmps56
  go_wp2
  go_ret
  exact ⟨by simp [HB.out], by go_grown⟩

set_option maxRecDepth 100000 in
set_option maxHeartbeats 4000000 in
theorem everyTwo_rise (v : Value) (xs : List Hu) (w : World) (h : RdH w v xs) (lz : xs.length ≤ 1048576) (b : Bool) (hb : b = true ↔ Rise xs) :
    Calls Try.prog 55 #[v, .func (Fn.func 56) #[] #[]] w fun e w' => e = .returned (.bool b) ∧ Below w.heap.size w w' := by
  have H := Lib.hid h
  obtain ⟨a, cap, rfl, -⟩ := id h.rows
  obtain ⟨n, hn⟩ : ∃ n, n = xs.length := ⟨_, rfl⟩
  rw [← hn] at lz H
  rw [← hn]
  have HN := Lib.hid hn
  have HB := Lib.hid hb
  clear h hn hb
  go_enter Try.func55, Try.ntmps55
  go_wp2
  go_loopw [5] (fun i wr => ∃ k : Nat, 1 ≤ k ∧ k ≤ n + 1 ∧ i = .int .i64 k ∧ Hid (∀ (i : Nat) x y, i + 1 < k → xs[i]? = some x → xs[i + 1]? = some y → x.r < y.r) ∧ Hid (Below w.heap.size w wr)) (fun i _ => n + 1 - (intOf i).toNat)
  case atStart => exact ⟨1, by omega, by omega, rfl, fun i x y h => by omega, Below.refl _ _⟩
  case round =>
    obtain ⟨k, k1, hk, rfl, ha, B⟩ := hrel
    have sz := B.out.size
    by_cases hlt : k < n
    · obtain ⟨j, hj⟩ : ∃ j, k = j + 1 := ⟨k - 1, by omega⟩
      obtain ⟨x, hx⟩ : ∃ x, xs[j]? = some x := ⟨_, List.getElem?_eq_getElem (by have := HN.out; omega)⟩
      obtain ⟨y, hy⟩ : ∃ y, xs[k]? = some y := ⟨_, List.getElem?_eq_getElem (by have := HN.out; omega)⟩
      obtain ⟨ba, oa, rfl, a0, a1, -, la⟩ := (H.out.later B.out).at hx
      obtain ⟨bb, ob, eb, b0, b1, -, lb⟩ := (H.out.later B.out).at hy
      simp only [Option.some.injEq, Addr.mk.injEq, and_true] at eb
      obtain ⟨rfl, rfl⟩ := eb
      have HX := Lib.hid hx
      have HY := Lib.hid hy
      have HJ := Lib.hid hj
      have q1 : IntKind.i64.wrap ((k : Int) - 1) = (j : Int) := by rw [IntWalk.i64_in _ (by omega)]; omega
      have jn : j < n := by omega
      obtain ⟨bv, hbv⟩ : ∃ bv : Bool, bv = decide (x.r < y.r) := ⟨_, rfl⟩
      have C := Lib.hid (fun w => isBefore_any x.r y.r x.a y.a x.t.length y.t.length x.c y.c bv hbv w)
      obtain ⟨nx, hnx⟩ : ∃ nx, nx = x.t.length := ⟨_, rfl⟩
      obtain ⟨ny, hny⟩ : ∃ ny, ny = y.t.length := ⟨_, rfl⟩
      rw [← hnx, ← hny] at C
      rw [← hnx] at a1
      rw [← hny] at b1
      have BV := Lib.hid hbv
      have KS : Hid (∀ w', Below wr.heap.size wr w' → (w'.cell? ⟨ba, oa + j * 2, none⟩ = some (.int .i64 x.r) ∧ w'.cell? ⟨ba, oa + j * 2 + 1, none⟩ = some (.slice x.a nx x.c) ∧ w'.cell? ⟨ba, oa + k * 2, none⟩ = some (.int .i64 y.r) ∧ w'.cell? ⟨ba, oa + k * 2 + 1, none⟩ = some (.slice y.a ny y.c))) :=
        fun w' b => ⟨(b.cell (p := ⟨ba, oa + j * 2, none⟩) la).trans a0, (b.cell (p := ⟨ba, oa + j * 2 + 1, none⟩) la).trans a1, (b.cell (p := ⟨ba, oa + k * 2, none⟩) lb).trans b0, (b.cell (p := ⟨ba, oa + k * 2 + 1, none⟩) lb).trans b1⟩
      clear hx hy hj hbv hnx hny a0 a1 b0 b1 la lb
      go_wp2
      go_region_held3 (fun w' => (w'.cell? ⟨ba, oa + j * 2, none⟩ = some (.int .i64 x.r) ∧ w'.cell? ⟨ba, oa + j * 2 + 1, none⟩ = some (.slice x.a nx x.c) ∧ w'.cell? ⟨ba, oa + k * 2, none⟩ = some (.int .i64 y.r) ∧ w'.cell? ⟨ba, oa + k * 2 + 1, none⟩ = some (.slice y.a ny y.c)))
        (first | exact KS.out _ D1.out | exact KS.out _ (Below.refl _ _).drew)
        ((go_at_call 56; refine (C.out _).mono ?_; rintro e w1 ⟨rfl, b1⟩; have D1 : Hid (Below wr.heap.size wr w1) := (Below.refl _ _).drew.trans b1))
      rename_i hHeld
      have B2 : Hid (Below w.heap.size w w1) := B.out.trans (D1.out.mono sz)
      clear hHeld D1 KS C B b1
      cases bv with
      | true =>
        have A1 : Hid (∀ (i : Nat) x y, i + 1 < k + 1 → xs[i]? = some x → xs[i + 1]? = some y → x.r < y.r) := fun i x' y' hi hx' hy' => by
          by_cases e : i = j
          · subst e
            rw [HX.out] at hx'
            rw [← HJ.out, HY.out] at hy'
            rw [← Option.some.inj hx', ← Option.some.inj hy']
            have := BV.out
            simpa using this.symm
          · exact ha.out i x' y' (by have := HJ.out; omega) hx' hy'
        clear ha
        go_wp2
        exact ⟨⟨k + 1, by omega, by omega, by go_num, A1, B2⟩, by simp only [intOf]; omega⟩
      | false =>
        obtain rfl : b = false := b_false HB.out (fun hA => by have e := hA j x y HX.out (by rw [← HJ.out]; exact HY.out); have := BV.out; simp at this; omega)
        clear ha
        go_wp2
        go_ret
        exact ⟨rfl, B2.out⟩
    · obtain rfl : b = true := HB.out.mpr (fun i x y hx hy => ha.out i x y (by have := (List.getElem?_eq_some_iff.1 hy).1; have := HN.out; omega) hx hy)
      clear ha
      go_wp2
      go_ret
      exact ⟨rfl, B.out⟩

set_option maxHeartbeats 2000000 in
theorem isValid_any (x : Hu) (n : Nat) (ln : n ≤ 1048576) (lt : x.t.length ≤ 1048576) (w : World) (h : RdI w (.slice x.a x.t.length x.c) x.t) (b : Bool) (hb : b = true ↔ OkH n x) :
    Calls Try.prog 59 #[.agg #[.int .i64 x.r, .slice x.a x.t.length x.c], .int .i64 n] w fun e w' => e = .returned (.bool b) ∧ Below w.heap.size w w' := by
  obtain ⟨b1, h1⟩ : ∃ b : Bool, b = true ↔ 0 ≤ x.r ∧ x.r ≤ 60 := ok_boolG _
  obtain ⟨b3, h3⟩ : ∃ b : Bool, b = true ↔ AllIn (-100000) 100000 x.t := ok_boolG _
  obtain ⟨b4, h4⟩ : ∃ b : Bool, b = true ↔ Down x.t := ok_boolG _
  have C1 := Lib.hid (fun w => isRingNumber_is8 x.r w b1 h1)
  have C3 := Lib.hid (fun w h => every_isOffset (.slice x.a x.t.length x.c) x.t w h (by omega) b3 h3)
  have C4 := Lib.hid (fun w h => everyTwo_down (.slice x.a x.t.length x.c) x.t w h (by omega) b4 h4)
  have H := Lib.hid h
  have hb' : b = true ↔ (b1 = true ∧ x.t.length = n ∧ b3 = true ∧ b4 = true) := by rw [h1, h3, h4, hb]; unfold OkH; constructor; rintro ⟨a, b, c⟩; exact ⟨⟨a, b⟩, c⟩; rintro ⟨⟨a, b⟩, c⟩; exact ⟨a, b, c⟩
  have HB := Lib.hid hb'
  obtain ⟨m, hm⟩ : ∃ m, m = x.t.length := ⟨_, rfl⟩
  rw [← hm] at H C3 C4 HB lt
  rw [← hm]
  clear h hb hb' h1 h3 h4 hm
  cases b1 with
  | false =>
    obtain rfl : b = false := b_false HB.out (fun h => by have := h.1; simp at this)
    go_enter Try.func59, Try.ntmps59
    go_wp2_with fail
    refine (C1.out _).mono ?_
    rintro e w' ⟨rfl, rfl⟩
    go_wp2
    go_ret
    exact ⟨rfl, by go_grown⟩
  | true =>
    by_cases hl : (m : Int) = n
    · have d1 : ((m : Int) == n) = true := by simpa using hl
      cases b3 with
      | false =>
        obtain rfl : b = false := b_false HB.out (fun h => by have := h.2.2.1; simp at this)
        clear hl
        go_enter Try.func59, Try.ntmps59
        go_wp2_with fail
        refine (C1.out _).mono ?_
        rintro e w' ⟨rfl, rfl⟩
        go_wp2_with fail
        refine (C3.out _ (H.out.later (by go_grown))).mono ?_
        rintro e w' ⟨rfl, rfl⟩
        go_wp2
        go_ret
        exact ⟨rfl, by go_grown⟩
      | true =>
        cases b4 with
        | false =>
          obtain rfl : b = false := b_false HB.out (fun h => by have := h.2.2.2; simp at this)
          clear hl
          go_enter Try.func59, Try.ntmps59
          go_wp2_with fail
          refine (C1.out _).mono ?_
          rintro e w' ⟨rfl, rfl⟩
          go_wp2_with fail
          refine (C3.out _ (H.out.later (by go_grown))).mono ?_
          rintro e w' ⟨rfl, rfl⟩
          go_wp2_with fail
          refine (C4.out _ (H.out.later (by go_grown))).mono ?_
          rintro e w4 ⟨rfl, b4⟩
          have B4 : Hid (Below w.heap.size w w4) := Below.trans (by go_grown) (b4.mono (by simp))
          clear b4
          go_wp2
          go_ret
          exact ⟨rfl, B4.out⟩
        | true =>
          obtain rfl : b = true := HB.out.mpr ⟨rfl, by omega, rfl, rfl⟩
          clear hl
          go_enter Try.func59, Try.ntmps59
          go_wp2_with fail
          refine (C1.out _).mono ?_
          rintro e w' ⟨rfl, rfl⟩
          go_wp2_with fail
          refine (C3.out _ (H.out.later (by go_grown))).mono ?_
          rintro e w' ⟨rfl, rfl⟩
          go_wp2_with fail
          refine (C4.out _ (H.out.later (by go_grown))).mono ?_
          rintro e w4 ⟨rfl, b4⟩
          have B4 : Hid (Below w.heap.size w w4) := Below.trans (by go_grown) (b4.mono (by simp))
          clear b4
          go_wp2
          go_ret
          exact ⟨rfl, B4.out⟩
    · have d1 : ((m : Int) == n) = false := by simpa using hl
      obtain rfl : b = false := b_false HB.out (fun h => hl (by have := h.2.1; omega))
      clear hl
      go_enter Try.func59, Try.ntmps59
      go_wp2_with fail
      refine (C1.out _).mono ?_
      rintro e w' ⟨rfl, rfl⟩
      go_wp2
      go_ret
      exact ⟨rfl, by go_grown⟩

set_option maxHeartbeats 2000000 in
theorem valid1_any (L n : Nat) (ln : n ≤ 1048576) (x : Hu) (lt : x.t.length ≤ 1048576) (w : World) (hL : w.cell? ⟨L, 0, none⟩ = some (.int .i64 n)) (h : RdI w (.slice x.a x.t.length x.c) x.t) (b : Bool) (hb : b = true ↔ OkH n x) :
    Calls Try.prog 58 #[.agg #[.int .i64 x.r, .slice x.a x.t.length x.c], .pointer (some ⟨L, 0, none⟩)] w fun e w' => e = .returned (.bool b) ∧ Below w.heap.size w w' := by
  have C := Lib.hid (fun w h => isValid_any x n ln lt w h b hb)
  have H := Lib.hid h
  have lL := World.block_lt_of_cell? w _ hL
  have lL' : ¬ L = w.heap.size := by have : L < w.heap.size := lL; omega
  obtain ⟨m, hm⟩ : ∃ m, m = x.t.length := ⟨_, rfl⟩
  rw [← hm] at C H
  rw [← hm]
  have KL : (w.alloc (.cells #[.int .i64 x.r, .slice x.a m x.c] 48)).cell? ⟨L, 0, none⟩ = some (.int .i64 n) := ((show Below w.heap.size w (w.alloc (.cells #[.int .i64 x.r, .slice x.a m x.c] 48)) by go_grown).cell (p := ⟨L, 0, none⟩) lL).trans hL
  clear h hb hm lt lL lL' hL
  go_enter Try.func58, Try.ntmps58
  go_wp2_with fail
  refine (C.out _ (H.out.later (by go_grown))).mono ?_
  rintro e w1 ⟨rfl, b1⟩
  have B1 : Hid (Below w.heap.size w w1) := Below.trans (by go_grown) (b1.mono (by simp))
  clear b1
  go_wp2
  go_ret
  exact ⟨rfl, B1.out⟩

set_option maxRecDepth 100000 in
set_option maxHeartbeats 4000000 in
theorem every_valid (L n : Nat) (ln : n ≤ 1048576) (v : Value) (xs : List Hu) (w : World) (hL : w.cell? ⟨L, 0, none⟩ = some (.int .i64 n)) (h : RdH w v xs) (lz : xs.length ≤ 1048576) (lt : ∀ x ∈ xs, x.t.length ≤ 1048576) (b : Bool) (hb : b = true ↔ ∀ x ∈ xs, OkH n x) :
    Calls Try.prog 57 #[v, .func (Fn.func 58) #[] #[.pointer (some ⟨L, 0, none⟩)]] w fun e w' => e = .returned (.bool b) ∧ Below w.heap.size w w' := by
  have H := Lib.hid h
  have lL : L < w.heap.size := World.block_lt_of_cell? w _ hL
  obtain ⟨a, cap, rfl, -⟩ := id h.rows
  obtain ⟨m, hm⟩ : ∃ n, n = xs.length := ⟨_, rfl⟩
  rw [← hm] at lz H
  rw [← hm]
  have HM := Lib.hid hm
  have HB := Lib.hid hb
  have LT := Lib.hid lt
  have HL := Lib.hid hL
  clear h hm hb lt hL
  go_enter Try.func57, Try.ntmps57
  go_wp2
  go_loopw [9] (fun i wr => ∃ k : Nat, k ≤ m ∧ i = .int .i64 k ∧ Hid (∀ (i : Nat) x, i < k → xs[i]? = some x → OkH n x) ∧ Hid (Below w.heap.size w wr)) (fun i _ => m - (intOf i).toNat)
  case atStart => exact ⟨0, by omega, rfl, fun i x h => by omega, Below.refl _ _⟩
  case round =>
    obtain ⟨k, hk, rfl, ha, B⟩ := hrel
    have sz := B.out.size
    by_cases hlt : k < m
    · obtain ⟨x, hx⟩ : ∃ x, xs[k]? = some x := ⟨_, List.getElem?_eq_getElem (by have := HM.out; omega)⟩
      obtain ⟨ba, oa, rfl, a0, a1, rt, la⟩ := (H.out.later B.out).at hx
      have tl := LT.out x (List.mem_of_getElem? hx)
      obtain ⟨bv, hbv⟩ : ∃ bv : Bool, bv = true ↔ OkH n x := ok_boolG _
      have C := Lib.hid (fun w hL h => valid1_any L n ln x tl w hL h bv hbv)
      have HX := Lib.hid hx
      have BV := Lib.hid hbv
      have RT := Lib.hid rt
      obtain ⟨nx, hnx⟩ : ∃ nx, nx = x.t.length := ⟨_, rfl⟩
      rw [← hnx] at C RT a1
      have nb : ¬ ba = wr.heap.size := by omega
      clear hx hbv rt hnx tl
      go_wp2_with fail
      refine (C.out _ (((Below.trans B.out (by go_grown : Below w.heap.size wr _)).cell (p := ⟨L, 0, none⟩) lL).trans HL.out) (RT.out.later (by go_grown))).mono ?_
      rintro e w1 ⟨rfl, b1⟩
      have B2 : Hid (Below w.heap.size w w1) := B.out.trans (Below.trans (by go_grown) (b1.mono (by simp; omega)))
      clear b1 B C RT a0 a1
      cases bv with
      | true =>
        have A1 : Hid (∀ (i : Nat) x, i < k + 1 → xs[i]? = some x → OkH n x) := fun i x' hi hx' => by
          by_cases e : i = k
          · subst e
            rw [HX.out] at hx'
            rw [← Option.some.inj hx']; exact BV.out.mp rfl
          · exact ha.out i x' (by omega) hx'
        clear ha
        go_wp2
        exact ⟨⟨k + 1, by omega, by go_num, A1, B2⟩, by simp only [intOf]; omega⟩
      | false =>
        obtain rfl : b = false := b_false HB.out (fun hA => by have := BV.out.mpr (hA x (List.mem_of_getElem? HX.out)); simp at this)
        clear ha
        go_wp2
        go_ret
        exact ⟨rfl, B2.out⟩
    · obtain rfl : b = true := HB.out.mpr (fun x hx => by
        obtain ⟨i, hi, rfl⟩ := List.mem_iff_getElem.1 hx
        exact ha.out i _ (by have := HM.out; omega) (List.getElem?_eq_getElem hi))
      clear ha
      go_wp2
      go_ret
      exact ⟨rfl, B.out⟩

set_option maxRecDepth 100000 in
set_option maxHeartbeats 4000000 in
theorem implValid_any (g : Gu) (w : World) (h : RdG w g) (lt : g.tot ≤ 1048576) (b : Bool) (hb : b = true ↔ OkG g) :
    Calls Try.prog 14 #[.agg #[.slice g.da g.d.length g.dc, .slice g.ha g.xs.length g.hc]] w fun e w' => e = .returned (.bool b) ∧ Below w.heap.size w w' := by
  obtain ⟨b1, h1⟩ : ∃ b : Bool, b = true ↔ (1 : Int) ≤ g.d.length ∧ (g.d.length : Int) ≤ 4 := ok_boolG _
  obtain ⟨b2, h2⟩ : ∃ b : Bool, b = true ↔ AllIn 1 3000 g.d := ok_boolG _
  obtain ⟨b3, h3⟩ : ∃ b : Bool, b = true ↔ (1 : Int) ≤ g.xs.length ∧ (g.xs.length : Int) ≤ 6 := ok_boolG _
  obtain ⟨b4, h4⟩ : ∃ b : Bool, b = true ↔ Rise g.xs := ok_boolG _
  obtain ⟨b5, h5⟩ : ∃ b : Bool, b = true ↔ ∀ x ∈ g.xs, OkH g.d.length x := ok_boolG _
  have tl : g.d.length ≤ 1048576 ∧ g.xs.length ≤ 1048576 ∧ ∀ x ∈ g.xs, x.t.length ≤ 1048576 := ⟨by unfold Gu.tot at lt; omega, by unfold Gu.tot at lt; omega, fun x hx => by have := sumT_mem hx; unfold Gu.tot at lt; omega⟩
  have C1 := Lib.hid (fun w => withinInt_any (g.d.length : Int) 1 4 b1 h1 w)
  have C2 := Lib.hid (fun w h => every_isDensity (.slice g.da g.d.length g.dc) g.d w h (by omega) b2 h2)
  have C3 := Lib.hid (fun w => withinInt_any (g.xs.length : Int) 1 6 b3 h3 w)
  have C4 := Lib.hid (fun w h => everyTwo_rise (.slice g.ha g.xs.length g.hc) g.xs w h tl.2.1 b4 h4)
  have C5 := Lib.hid (fun L w hL h => every_valid L g.d.length tl.1 (.slice g.ha g.xs.length g.hc) g.xs w hL h tl.2.1 tl.2.2 b5 h5)
  have hb' : b = true ↔ (b1 = true ∧ b2 = true ∧ b3 = true ∧ b4 = true ∧ b5 = true) := by
    rw [h1, h2, h3, h4, h5, hb]
    constructor
    · rintro ⟨a, b, c, d, e, f, k⟩; exact ⟨⟨by omega, by omega⟩, c, ⟨by omega, by omega⟩, k, f⟩
    · rintro ⟨⟨a, b⟩, c, ⟨d, e⟩, k, f⟩; exact ⟨by omega, by omega, c, by omega, by omega, f, k⟩
  have HB := Lib.hid hb'
  have RD := Lib.hid h.dens
  have RH := Lib.hid h.holes
  unfold Gu.dv at RD
  unfold Gu.hv at RH
  obtain ⟨n, hn⟩ : ∃ n, n = g.d.length := ⟨_, rfl⟩
  obtain ⟨m, hm⟩ : ∃ n, n = g.xs.length := ⟨_, rfl⟩
  rw [← hn] at C1 C2 C5 RD
  rw [← hm] at C3 C4 C5 RH
  rw [← hn, ← hm]
  have M0 := Lib.hid (cell_of_row ((w.alloc (.cells #[.slice g.da n g.dc, .slice g.ha m g.hc] 30)).alloc (.cells #[.int .i64 n] 3)) w.heap.size 0 _ 30 (0, 0) (box2_0 w _ _))
  have M1 := Lib.hid (cell_of_row ((w.alloc (.cells #[.slice g.da n g.dc, .slice g.ha m g.hc] 30)).alloc (.cells #[.int .i64 n] 3)) w.heap.size 1 _ 30 (0, 0) (box2_0 w _ _))
  have M2 := Lib.hid (cell_of_row ((w.alloc (.cells #[.slice g.da n g.dc, .slice g.ha m g.hc] 30)).alloc (.cells #[.int .i64 n] 3)) (w.heap.size + 1) 0 _ 3 (0, 0) (box2_1 w _ _))
  clear h lt hb hb' h1 h2 h3 h4 h5 hn hm tl
  cases b1 with
  | false =>
    obtain rfl : b = false := b_false HB.out (fun h => by have := h.1; simp at this)
    go_enter Try.func14, Try.ntmps14
    go_wp2_with fail
    refine (C1.out _).mono ?_
    rintro e w' ⟨rfl, rfl⟩
    go_wp2
    go_ret
    exact ⟨rfl, by go_grown⟩
  | true =>
    cases b2 with
    | false =>
      obtain rfl : b = false := b_false HB.out (fun h => by have := h.2.1; simp at this)
      go_enter Try.func14, Try.ntmps14
      go_wp2_with fail
      refine (C1.out _).mono ?_
      rintro e w' ⟨rfl, rfl⟩
      go_wp2_with fail
      refine (C2.out _ (RD.out.later (by go_grown))).mono ?_
      rintro e w' ⟨rfl, rfl⟩
      go_wp2
      go_ret
      exact ⟨rfl, by go_grown⟩
    | true =>
      cases b3 with
      | false =>
        obtain rfl : b = false := b_false HB.out (fun h => by have := h.2.2.1; simp at this)
        go_enter Try.func14, Try.ntmps14
        go_wp2_with fail
        refine (C1.out _).mono ?_
        rintro e w' ⟨rfl, rfl⟩
        go_wp2_with fail
        refine (C2.out _ (RD.out.later (by go_grown))).mono ?_
        rintro e w' ⟨rfl, rfl⟩
        go_wp2_with fail
        refine (C3.out _).mono ?_
        rintro e w' ⟨rfl, rfl⟩
        go_wp2
        go_ret
        exact ⟨rfl, by go_grown⟩
      | true =>
        cases b4 with
        | false =>
          obtain rfl : b = false := b_false HB.out (fun h => by have := h.2.2.2.1; simp at this)
          go_enter Try.func14, Try.ntmps14
          go_wp2_with fail
          refine (C1.out _).mono ?_
          rintro e w' ⟨rfl, rfl⟩
          go_wp2_with fail
          refine (C2.out _ (RD.out.later (by go_grown))).mono ?_
          rintro e w' ⟨rfl, rfl⟩
          go_wp2_with fail
          refine (C3.out _).mono ?_
          rintro e w' ⟨rfl, rfl⟩
          go_wp2_with fail
          refine (C4.out _ (RH.out.later (by go_grown))).mono ?_
          rintro e w4 ⟨rfl, b4⟩
          have B4 : Hid (Below w.heap.size w w4) := Below.trans (by go_grown) (b4.mono (by simp; omega))
          have K0 := (b4.cell (p := ⟨w.heap.size, 0, none⟩) (by simp; omega)).trans M0.out
          have K1 := (b4.cell (p := ⟨w.heap.size, 1, none⟩) (by simp; omega)).trans M1.out
          have K2 := (b4.cell (p := ⟨w.heap.size + 1, 0, none⟩) (by simp)).trans M2.out
          have z4 := B4.out.size
          clear b4
          go_wp2
          go_ret
          exact ⟨rfl, B4.out⟩
        | true =>
          cases b5 with
          | false =>
            obtain rfl : b = false := b_false HB.out (fun h => by have := h.2.2.2.2; simp at this)
            go_enter Try.func14, Try.ntmps14
            go_wp2_with fail
            refine (C1.out _).mono ?_
            rintro e w' ⟨rfl, rfl⟩
            go_wp2_with fail
            refine (C2.out _ (RD.out.later (by go_grown))).mono ?_
            rintro e w' ⟨rfl, rfl⟩
            go_wp2_with fail
            refine (C3.out _).mono ?_
            rintro e w' ⟨rfl, rfl⟩
            go_wp2_with fail
            refine (C4.out _ (RH.out.later (by go_grown))).mono ?_
            rintro e w4 ⟨rfl, b4⟩
            have B4 : Hid (Below w.heap.size w w4) := Below.trans (by go_grown) (b4.mono (by simp; omega))
            have K0 := (b4.cell (p := ⟨w.heap.size, 0, none⟩) (by simp; omega)).trans M0.out
            have K1 := (b4.cell (p := ⟨w.heap.size, 1, none⟩) (by simp; omega)).trans M1.out
            have K2 := (b4.cell (p := ⟨w.heap.size + 1, 0, none⟩) (by simp)).trans M2.out
            have z4 := B4.out.size
            clear b4
            go_wp2_with fail
            refine (C5.out _ _ K2 (RH.out.later B4.out)).mono ?_
            rintro e w5 ⟨rfl, b5⟩
            have B5 : Hid (Below w.heap.size w w5) := B4.out.trans (b5.mono z4)
            clear b5
            go_wp2
            go_ret
            exact ⟨rfl, B5.out⟩
          | true =>
            obtain rfl : b = true := HB.out.mpr ⟨rfl, rfl, rfl, rfl, rfl⟩
            go_enter Try.func14, Try.ntmps14
            go_wp2_with fail
            refine (C1.out _).mono ?_
            rintro e w' ⟨rfl, rfl⟩
            go_wp2_with fail
            refine (C2.out _ (RD.out.later (by go_grown))).mono ?_
            rintro e w' ⟨rfl, rfl⟩
            go_wp2_with fail
            refine (C3.out _).mono ?_
            rintro e w' ⟨rfl, rfl⟩
            go_wp2_with fail
            refine (C4.out _ (RH.out.later (by go_grown))).mono ?_
            rintro e w4 ⟨rfl, b4⟩
            have B4 : Hid (Below w.heap.size w w4) := Below.trans (by go_grown) (b4.mono (by simp; omega))
            have K0 := (b4.cell (p := ⟨w.heap.size, 0, none⟩) (by simp; omega)).trans M0.out
            have K1 := (b4.cell (p := ⟨w.heap.size, 1, none⟩) (by simp; omega)).trans M1.out
            have K2 := (b4.cell (p := ⟨w.heap.size + 1, 0, none⟩) (by simp)).trans M2.out
            have z4 := B4.out.size
            clear b4
            go_wp2_with fail
            refine (C5.out _ _ K2 (RH.out.later B4.out)).mono ?_
            rintro e w5 ⟨rfl, b5⟩
            have B5 : Hid (Below w.heap.size w w5) := B4.out.trans (b5.mono z4)
            clear b5
            go_wp2
            go_ret
            exact ⟨rfl, B5.out⟩
end Go.Proofs.Ytobfephcmiolbab
