/- The checks of balances and bounds; rows that are filled number by number. -/
import Derived.Test.YtobfephcmiolbaaMuckM
import Derived.Test.YtobfephcmiolbaaWithin
namespace Go.Proofs.Ytobfephcmiolbaa
open Go.ChangeShapes Go.WideShapes Go.ChangeAt Go.RowKit
set_option linter.unusedVariables false
set_option linter.unusedSimpArgs false

/-- A row of n numbers, the first k of which are those of zs; the other ones are 0. -/
def part (zs : List Int) (n k : Nat) : List Int := zs.take k ++ List.replicate (n - k) 0

theorem part_zero (zs : List Int) (n : Nat) : part zs n 0 = List.replicate n 0 := by simp [part]
theorem part_all {zs : List Int} {n : Nat} (h : zs.length = n) : part zs n n = zs := by simp [part, ← h]
theorem part_len {zs : List Int} {n k : Nat} (h : zs.length = n) (hk : k ≤ n) : (part zs n k).length = n := by simp [part]; omega
theorem part_get {zs : List Int} {n k : Nat} (h : zs.length = n) (hk : k < n) : (part zs n k)[k]? = some 0 := by
  have e0 : (zs.take k).length = k := by rw [List.length_take]; omega
  unfold part
  rw [List.getElem?_append_right (by omega), e0, Nat.sub_self, List.getElem?_replicate, if_pos (by omega)]
theorem part_set {zs : List Int} {n k : Nat} {x : Int} (h : zs.length = n) (hx : zs[k]? = some x) : (part zs n k).set k x = part zs n (k + 1) := by
  have hk : k < n := by have := (List.getElem?_eq_some_iff.1 hx).1; omega
  have e0 : (zs.take k).length = k := by rw [List.length_take]; omega
  unfold part
  rw [List.set_append_right _ _ (by omega), e0, Nat.sub_self, show n - k = (n - (k + 1)) + 1 by omega, List.replicate_succ, List.set_cons_zero, List.take_add_one, hx]
  simp

theorem part_cell {zs : List Int} {n k cap g B : Nat} {w : World} (h : zs.length = n) (hk : k < n) (o : OwnI w B (.slice (some ⟨g, 0, none⟩) n cap) (part zs n k)) :
    w.cell? ⟨g, k, none⟩ = some (.int .i64 0) ∧ w.frozen? ⟨g, k, none⟩ = false := by
  have own := o
  unfold OwnI at own
  rw [part_len h (by omega)] at own
  have c := own.cellAt k (by omega)
  rw [List.getElem?_map, part_get h hk] at c
  exact ⟨c, own.frozenAt k⟩

theorem part_store {zs : List Int} {n k cap g B : Nat} {w : World} {x : Int} (h : zs.length = n) (hx : zs[k]? = some x) (o : OwnI w B (.slice (some ⟨g, 0, none⟩) n cap) (part zs n k)) :
    OwnI (w.setCell ⟨g, k, none⟩ (.int .i64 x)) B (.slice (some ⟨g, 0, none⟩) n cap) (part zs n (k + 1)) := by
  have hk : k < n := by have := (List.getElem?_eq_some_iff.1 hx).1; omega
  have := o.stored (part_len h (by omega)).symm k x (by rw [part_len h (by omega)]; exact hk)
  rwa [part_set h hx] at this

/-- A row that was just made, of n numbers. -/
theorem part_made {zs : List Int} {n cap g B : Nat} {w : World} (hown : w.ownsRow B 2 1 (.slice (some ⟨g, 0, none⟩) n cap) n (List.replicate n (.int .i64 0))) : OwnI w B (.slice (some ⟨g, 0, none⟩) n cap) (part zs n 0) := by
  rw [part_zero]
  unfold OwnI
  rw [List.length_replicate, List.map_replicate]
  exact hown

/-- How far each ring exceeds its allowance. -/
def exL (zs : List Int) (al : Int) : List Int := zs.map fun x => x - al
theorem exL_len (zs : List Int) (al : Int) : (exL zs al).length = zs.length := by simp [exL]
theorem exL_get {zs : List Int} {al : Int} {k : Nat} {x : Int} (hx : zs[k]? = some x) : (exL zs al)[k]? = some (x - al) := by simp [exL, hx]

theorem isDifference_any (x : Int) (w : World) (b : Bool) (hb : b = true ↔ (-1000000) ≤ x ∧ x ≤ 1000000) : Calls Try.prog 61 #[.int .i64 x] w fun e w' => e = .returned (.bool b) ∧ w = w' := by
  have C := Lib.hid (fun w => within_any x (-1000000) 1000000 b hb w)
  clear hb
  go_enter Try.func61, Try.ntmps61
  go_wp2_with fail
  refine (C.out _).mono ?_
  rintro e w' ⟨rfl, rfl⟩
  go_wp2
  go_ret
  exact ⟨rfl, rfl⟩

set_option maxHeartbeats 1000000 in
theorem every_isDifference (v : Value) (zs : List Int) (w : World) (h : RdI w v zs) (lz : zs.length ≤ 1099511627776) (b : Bool) (hb : b = true ↔ AllIn (-1000000) 1000000 zs) :
    Calls Try.prog 52 #[v, .func (Fn.func 61) #[] #[]] w fun e w' => e = .returned (.bool b) ∧ w = w' := by
  obtain ⟨a, cap, rfl, ra⟩ := h
  obtain ⟨n, hn⟩ : ∃ n, n = zs.length := ⟨_, rfl⟩
  rw [← hn] at lz
  rw [← hn]
  have RA := Lib.hid ra
  have HN := Lib.hid hn
  have HB := Lib.hid hb
  clear ra hn hb
  go_enter Try.func52, Try.ntmps52
  go_wp2
  go_loop [6, 9] (fun _ i => ∃ k : Nat, k ≤ n ∧ i = .int .i64 k ∧ Hid (AllIn (-1000000) 1000000 (zs.take k))) (fun _ i => n - (intOf i).toNat)
  case atStart => exact ⟨0, by omega, rfl, fun x hx => by simp at hx⟩
  case round =>
    obtain ⟨k, hk, rfl, ha⟩ := hrel
    by_cases hlt : k < n
    · obtain ⟨x, hx⟩ : ∃ x, zs[k]? = some x := ⟨_, List.getElem?_eq_getElem (by have := HN.out; omega)⟩
      obtain ⟨ba, oa, rfl, ca'⟩ := RA.out.resolve_left (by intro h; have := HN.out; rw [h] at this; simp at this; omega)
      have c1 := ca' k x hx
      have HX := Lib.hid hx
      clear ca' hx
      by_cases hv : (-1000000) ≤ x ∧ x ≤ 1000000
      · go_wp2_with (go_at_call 61; refine (isDifference_any _ _ true (by simpa using hv)).mono ?_; rintro e w' ⟨rfl, rfl⟩)
        exact ⟨⟨k + 1, by omega, by go_num, ha.out.take_succ HX.out hv.1 hv.2⟩, by simp only [intOf]; omega⟩
      · obtain rfl : b = false := b_false HB.out (fun hA => hv (hA.at HX.out))
        go_wp2_with (go_at_call 61; refine (isDifference_any _ _ false (by simp; omega)).mono ?_; rintro e w' ⟨rfl, rfl⟩)
        go_ret
        exact ⟨rfl, rfl⟩
    · obtain rfl : k = n := by omega
      obtain rfl : b = true := HB.out.mpr (by have := ha.out; rwa [List.take_of_length_le (by have := HN.out; omega)] at this)
      go_wp2
      go_ret
      exact ⟨rfl, rfl⟩

theorem isWeight_any (x : Int) (w : World) (b : Bool) (hb : b = true ↔ 0 ≤ x ∧ x ≤ 1000000) : Calls Try.prog 46 #[.int .i64 x] w fun e w' => e = .returned (.bool b) ∧ w = w' := by
  have C := Lib.hid (fun w => within_any x 0 1000000 b hb w)
  clear hb
  go_enter Try.func46, Try.ntmps46
  go_wp2_with fail
  refine (C.out _).mono ?_
  rintro e w' ⟨rfl, rfl⟩
  go_wp2
  go_ret
  exact ⟨rfl, rfl⟩

set_option maxHeartbeats 1000000 in
theorem every_isWeight (v : Value) (zs : List Int) (w : World) (h : RdI w v zs) (lz : zs.length ≤ 1099511627776) (b : Bool) (hb : b = true ↔ AllIn 0 1000000 zs) :
    Calls Try.prog 52 #[v, .func (Fn.func 46) #[] #[]] w fun e w' => e = .returned (.bool b) ∧ w = w' := by
  obtain ⟨a, cap, rfl, ra⟩ := h
  obtain ⟨n, hn⟩ : ∃ n, n = zs.length := ⟨_, rfl⟩
  rw [← hn] at lz
  rw [← hn]
  have RA := Lib.hid ra
  have HN := Lib.hid hn
  have HB := Lib.hid hb
  clear ra hn hb
  go_enter Try.func52, Try.ntmps52
  go_wp2
  go_loop [6, 9] (fun _ i => ∃ k : Nat, k ≤ n ∧ i = .int .i64 k ∧ Hid (AllIn 0 1000000 (zs.take k))) (fun _ i => n - (intOf i).toNat)
  case atStart => exact ⟨0, by omega, rfl, fun x hx => by simp at hx⟩
  case round =>
    obtain ⟨k, hk, rfl, ha⟩ := hrel
    by_cases hlt : k < n
    · obtain ⟨x, hx⟩ : ∃ x, zs[k]? = some x := ⟨_, List.getElem?_eq_getElem (by have := HN.out; omega)⟩
      obtain ⟨ba, oa, rfl, ca'⟩ := RA.out.resolve_left (by intro h; have := HN.out; rw [h] at this; simp at this; omega)
      have c1 := ca' k x hx
      have HX := Lib.hid hx
      clear ca' hx
      by_cases hv : 0 ≤ x ∧ x ≤ 1000000
      · go_wp2_with (go_at_call 46; refine (isWeight_any _ _ true (by simpa using hv)).mono ?_; rintro e w' ⟨rfl, rfl⟩)
        exact ⟨⟨k + 1, by omega, by go_num, ha.out.take_succ HX.out hv.1 hv.2⟩, by simp only [intOf]; omega⟩
      · obtain rfl : b = false := b_false HB.out (fun hA => hv (hA.at HX.out))
        go_wp2_with (go_at_call 46; refine (isWeight_any _ _ false (by simp; omega)).mono ?_; rintro e w' ⟨rfl, rfl⟩)
        go_ret
        exact ⟨rfl, rfl⟩
    · obtain rfl : k = n := by omega
      obtain rfl : b = true := HB.out.mpr (by have := ha.out; rwa [List.take_of_length_le (by have := HN.out; omega)] at this)
      go_wp2
      go_ret
      exact ⟨rfl, rfl⟩

theorem isBalance_any (v : Value) (zs : List Int) (w : World) (h : RdI w v zs) (lz : zs.length ≤ 1099511627776) (b : Bool) (hb : b = true ↔ Bal zs) :
    Calls Try.prog 47 #[v] w fun e w' => e = .returned (.bool b) ∧ w = w' := by
  have H := Lib.hid h
  obtain ⟨a, cap, rfl, ra⟩ := h
  obtain ⟨n, hn⟩ : ∃ n, n = zs.length := ⟨_, rfl⟩
  have HB := Lib.hid hb
  have LZ := Lib.hid lz
  have HN := Lib.hid hn
  rw [← hn] at lz
  rw [← hn] at H
  rw [← hn]
  clear hb ra hn
  by_cases hl : (n : Int) ≤ 60
  · go_enter Try.func47, Try.ntmps47
    go_wp2_with (go_at_call 52; refine (every_isDifference _ zs _ H.out LZ.out b (by rw [HB.out]; unfold Bal; rw [← HN.out]; constructor; exact fun h => h.2; exact fun h => ⟨by omega, h⟩)).mono ?_; rintro e w' ⟨rfl, rfl⟩)
    go_ret
    exact ⟨rfl, rfl⟩
  · obtain rfl : b = false := b_false HB.out (fun h => by have := h.1; have := HN.out; omega)
    have h3 : decide ((n : Int) ≤ 60) = false := by simpa using hl
    clear hl
    go_enter Try.func47, Try.ntmps47
    go_wp2
    go_ret
    exact ⟨rfl, rfl⟩

set_option maxHeartbeats 1000000 in
theorem l06Within_any (v : Value) (zs : List Int) (lo hi : Int) (w : World) (h : RdI w v zs) (lz : zs.length ≤ 1099511627776) (b : Bool) (hb : b = true ↔ zs.length ≤ 60 ∧ AllIn lo hi zs) :
    Calls Try.prog 51 #[v, .int .i64 lo, .int .i64 hi] w fun e w' => e = .returned (.bool b) ∧ w = w' := by
  obtain ⟨a, cap, rfl, ra⟩ := h
  obtain ⟨n, hn⟩ : ∃ n, n = zs.length := ⟨_, rfl⟩
  rw [← hn] at lz hb
  rw [← hn]
  have RA := Lib.hid ra
  have HN := Lib.hid hn
  have HB := Lib.hid hb
  clear ra hn hb
  go_enter Try.func51, Try.ntmps51
  go_wp2
  go_loop [7] (fun i => ∃ k : Nat, k ≤ n ∧ i = .int .i64 k ∧ Hid (AllIn lo hi (zs.take k))) (fun i => n - (intOf i).toNat)
  case atStart => exact ⟨0, by omega, rfl, fun x hx => by simp at hx⟩
  case round =>
    obtain ⟨k, hk, rfl, ha⟩ := hrel
    by_cases hlt : k < n
    · obtain ⟨x, hx⟩ : ∃ x, zs[k]? = some x := ⟨_, List.getElem?_eq_getElem (by have := HN.out; omega)⟩
      obtain ⟨ba, oa, rfl, ca'⟩ := RA.out.resolve_left (by intro h; have := HN.out; rw [h] at this; simp at this; omega)
      have c1 := ca' k x hx
      have HX := Lib.hid hx
      clear ca' hx
      by_cases hv : lo ≤ x ∧ x ≤ hi
      · go_wp2_with fail
        refine (in_any x lo hi true (by simpa using hv) _).mono ?_
        rintro e w' ⟨rfl, rfl⟩
        go_wp2
        exact ⟨⟨k + 1, by omega, by go_num, ha.out.take_succ HX.out hv.1 hv.2⟩, by simp only [intOf]; omega⟩
      · obtain rfl : b = false := b_false HB.out (fun hA => hv (hA.2.at HX.out))
        go_wp2_with fail
        refine (in_any x lo hi false (by simp; omega) _).mono ?_
        rintro e w' ⟨rfl, rfl⟩
        go_wp2
        go_ret
        exact ⟨rfl, rfl⟩
    · obtain rfl : k = n := by omega
      have hA : AllIn lo hi zs := by have := ha.out; rwa [List.take_of_length_le (by have := HN.out; omega)] at this
      by_cases hl : (k : Int) ≤ 60
      · obtain rfl : b = true := HB.out.mpr ⟨by omega, hA⟩
        clear hA
        go_wp2
        go_ret
        exact ⟨rfl, rfl⟩
      · obtain rfl : b = false := b_false HB.out (fun h => by have := h.1; omega)
        have h3 : decide ((k : Int) ≤ 60) = false := by simpa using hl
        clear hl hA
        go_wp2
        go_ret
        exact ⟨rfl, rfl⟩

theorem l06Balance_any (v : Value) (zs : List Int) (w : World) (h : RdI w v zs) (lz : zs.length ≤ 1099511627776) (b : Bool) (hb : b = true ↔ Bal zs) :
    Calls Try.prog 53 #[v] w fun e w' => e = .returned (.bool b) ∧ w = w' := by
  have C := Lib.hid (l06Within_any v zs (-1000000) 1000000 w h lz b hb)
  obtain ⟨a, cap, rfl, ra⟩ := h
  clear ra hb
  go_enter Try.func53, Try.ntmps53
  go_wp2_with fail
  refine C.out.mono ?_
  rintro e w' ⟨rfl, rfl⟩
  go_wp2
  go_ret
  exact ⟨rfl, rfl⟩

theorem l06Bound_any (n : Int) (w : World) (b : Bool) (hb : b = true ↔ Bnd n) :
    Calls Try.prog 54 #[.int .i64 n] w fun e w' => e = .returned (.bool b) ∧ w = w' := by
  have C := Lib.hid (fun w => in_any n 0 1000000 b hb w)
  clear hb
  go_enter Try.func54, Try.ntmps54
  go_wp2_with fail
  refine (C.out _).mono ?_
  rintro e w' ⟨rfl, rfl⟩
  go_wp2
  go_ret
  exact ⟨rfl, rfl⟩
end Go.Proofs.Ytobfephcmiolbaa
