/- LiftsOf and IsLifted on both sides. (Written by tools/mklift.py.) -/
import Derived.Test.YtonblcbdmblpbacLiftM
namespace Go.Proofs.Ytonblcbdmblpbac
open Go.ChangeShapes Go.WideShapes Go.ChangeAt Go.RowKit
set_option linter.unusedVariables false
set_option linter.unusedSimpArgs false

theorem liftAt_eq {us : List Int} {k : Nat} {x : Int} (hx : us[k]? = some x) (p q : Int) (hp : (k = 0 ∧ p = 0) ∨ ∃ j, k = j + 1 ∧ us[j]? = some p) (hq : (k + 1 = us.length ∧ q = 0) ∨ us[k + 1]? = some q) : liftAt us k = 2 * x + p + q := by
  have a1 := getD_of (rowL_own hx)
  have a0 : (rowL us).getD k 0 = p := by
    rcases hp with ⟨rfl, rfl⟩ | ⟨j, rfl, h⟩
    · exact getD_of (rowL_zero us)
    · exact getD_of (rowL_own h)
  have a2 : (rowL us).getD (k + 2) 0 = q := by
    rcases hq with ⟨h, rfl⟩ | h
    · have := rowL_last us
      rw [← h] at this
      exact getD_of this
    · exact getD_of (rowL_own h)
  unfold liftAt
  rw [a0, a1, a2]; omega

set_option maxRecDepth 100000 in
set_option maxHeartbeats 8000000 in
theorem l07Lifts_any (v : Value) (us : List Int) (w : World) (h : RdI w v us) (ok : OkRow 6 us) :
    Calls Try.prog 20 #[v] w fun e w' => ∃ u, e = .returned u ∧ OwnI w' w.heap.size u (liftL us) ∧ Below w.heap.size w w' := by
  obtain ⟨i0, hi, hz0, hz1, hz2⟩ := info_parts info_i64
  obtain ⟨a, cap, rfl, ra⟩ := h
  obtain ⟨n, hn⟩ : ∃ n, n = us.length := ⟨_, rfl⟩
  have n12 : n ≤ 12 := by have := ok.1; omega
  rw [← hn]
  have HN := Lib.hid hn
  have OK := Lib.hid ok.2
  have RA := Lib.hid ra
  obtain ⟨L, hL⟩ : ∃ L, liftL us = L := ⟨_, rfl⟩
  have HL := Lib.hid hL
  have LN : Hid (L.length = n) := by show _ = _; rw [← hL, liftL_len, hn]
  rw [hL]
  have O0 := Lib.hid (own_built w w.heap.size L rfl)
  have B0 : Hid (Below w.heap.size w (w.alloc (.cells #[] 2))) := (Below.refl _ _).alloc (Nat.le_refl _) _
  clear hn ok ra hL
  go_enter Try.func20, Try.ntmps20
  go_wp2
  go_loopw [3, 4, 5] (fun ov iv _ wr => ∃ (k c1 : Nat) (ad : Option Addr), k ≤ n ∧ iv = .int .i64 k ∧ ov = .slice ad k c1 ∧ Hid (OwnI wr w.heap.size (.slice ad k c1) (L.take k)) ∧ Hid (Below w.heap.size w wr)) (fun _ iv _ _ => n - (intOf iv).toNat)
  case atStart => exact ⟨0, 0, _, by omega, rfl, rfl, O0, B0⟩
  case round =>
    obtain ⟨k, c1, ad, hk, rfl, rfl, ho, hbl⟩ := hrel
    clear O0 B0
    by_cases hlt : k < n
    · obtain ⟨x, hx⟩ : ∃ x, us[k]? = some x := ⟨_, List.getElem?_eq_getElem (by have := HN.out; omega)⟩
      obtain ⟨ba, oa, rfl, ca'⟩ := RA.out.resolve_left (by intro h; have := HN.out; rw [h] at this; simp at this; omega)
      have hbA : ba < w.heap.size := World.block_lt_of_cell? w _ (ca' k x hx)
      have e1 := (hbl.out.cell (p := ⟨ba, oa + k, none⟩) hbA).trans (ca' k x hx)
      obtain ⟨x0, x1⟩ := OK.out.at hx
      have q0 : IntKind.i64.wrap (2 * x) = 2 * x := IntWalk.i64_in _ (by omega)
      have own := Lib.hid (own_take LN.out hk ho.out)
      have hsz := hbl.out.size
      have lgz := own.out.lt
      have CA := Lib.hid (fun i q (hq : us[i]? = some q) => (hbl.out.cell (p := ⟨ba, oa + i, none⟩) hbA).trans (ca' i q hq))
      have HX := Lib.hid hx
      clear hx ca' ho

      by_cases k0 : k = 0
      · have d0 : ¬ (k > 0) := by omega
        have K0 := Lib.hid k0
        clear k0
        by_cases g2 : k + 1 < n
        · obtain ⟨z, hz⟩ : ∃ x, us[k + 1]? = some x := ⟨_, List.getElem?_eq_getElem (by have := HN.out; omega)⟩
          obtain ⟨r, hr⟩ : ∃ r, r = k + 1 := ⟨_, rfl⟩
          have cz := CA.out (k + 1) z hz
          obtain ⟨z0, z1⟩ := OK.out.at hz
          have LT : Hid (L[k]? = some (2 * x + z)) := by show _ = _; rw [← HL.out, liftL_get (by have := HN.out; omega), liftAt_eq HX.out 0 z (.inl ⟨K0.out, rfl⟩) (.inr hz)]; simp
          rw [← hr] at cz
          have q3 : IntKind.i64.wrap ((k : Int) + 1) = (r : Int) := by rw [IntWalk.i64_in _ (by omega)]; omega
          have r1 : r < n := by omega
          have r9 : (k : Int) + 1 < (n : Int) := by omega
          have q4 : IntKind.i64.wrap (2 * x + z) = 2 * x + z := IntWalk.i64_in _ (by omega)
          have HR := Lib.hid hr
          clear hz hr HX CA
          go_wp2_with (at_builtin; refine wpList_append_lies _ rfl _ _ _ rfl w.heap.size 2 i0 _ 1 8 Try.underlying22 hi hz0 hz1 hz2 rfl (by omega) _ _ _ rfl (own.out.alloc _) ⟨wr.heap.size, 0, none⟩ 1 1 [.int .i64 (2 * x + z)] rfl rfl (World.news_of_block (cs := #[.int .i64 (2 * x + z)]) (t := 2) (fr := (0, 0)) (heap_alloc_new wr _)) (by simp [Value.oneCell']) (by omega) (by unfold maxLen; omega) (by omega) (by simp only [World.size_alloc]; omega) _ rfl ?_)
          intro gg cap1 w5 hown1 hgrow hat hlt'
          have O5 := Lib.hid (own_next LT.out hown1)
          have B5 : Hid (Below w.heap.size w w5) := hbl.out.grown (grownBy_trans (World.grownBy_alloc wr _ _) hgrow) (by omega) (fun j e => (lgz j e).1)
          clear hown1 hgrow hat hlt' own lgz hbl
          go_wp2
          exact ⟨⟨k + 1, cap1, _, by omega, by rw [HR.out], rfl, O5, B5⟩, by have := HR.out; simp only [intOf]; omega⟩
        · have LT : Hid (L[k]? = some (2 * x)) := by show _ = _; rw [← HL.out, liftL_get (by have := HN.out; omega), liftAt_eq HX.out 0 0 (.inl ⟨K0.out, rfl⟩) (.inl ⟨by have := HN.out; omega, rfl⟩)]; simp
          have r1 : ¬ (k : Int) + 1 < (n : Int) := by omega
          clear HX CA
          go_wp2_with (at_builtin; refine wpList_append_lies _ rfl _ _ _ rfl w.heap.size 2 i0 _ 1 8 Try.underlying22 hi hz0 hz1 hz2 rfl (by omega) _ _ _ rfl (own.out.alloc _) ⟨wr.heap.size, 0, none⟩ 1 1 [.int .i64 (2 * x)] rfl rfl (World.news_of_block (cs := #[.int .i64 (2 * x)]) (t := 2) (fr := (0, 0)) (heap_alloc_new wr _)) (by simp [Value.oneCell']) (by omega) (by unfold maxLen; omega) (by omega) (by simp only [World.size_alloc]; omega) _ rfl ?_)
          intro gg cap1 w5 hown1 hgrow hat hlt'
          have O5 := Lib.hid (own_next LT.out hown1)
          have B5 : Hid (Below w.heap.size w w5) := hbl.out.grown (grownBy_trans (World.grownBy_alloc wr _ _) hgrow) (by omega) (fun j e => (lgz j e).1)
          clear hown1 hgrow hat hlt' own lgz hbl
          go_wp2
          exact ⟨⟨k + 1, cap1, _, by omega, by go_num, rfl, O5, B5⟩, by simp only [intOf]; omega⟩
      · obtain ⟨j, hj⟩ : ∃ j, k = j + 1 := ⟨k - 1, by omega⟩
        have d0 : k > 0 := by omega
        obtain ⟨y, hy⟩ : ∃ x, us[j]? = some x := ⟨_, List.getElem?_eq_getElem (by have := HN.out; omega)⟩
        have cy := CA.out j y hy
        obtain ⟨y0, y1⟩ := OK.out.at hy
        have HY := Lib.hid hy
        have HJ := Lib.hid hj
        have q1 : IntKind.i64.wrap ((k : Int) - 1) = (j : Int) := by rw [IntWalk.i64_in _ (by omega)]; omega
        have jn : j < n := by omega
        have q2 : IntKind.i64.wrap (2 * x + y) = 2 * x + y := IntWalk.i64_in _ (by omega)
        clear hy hj k0
        by_cases g2 : k + 1 < n
        · obtain ⟨z, hz⟩ : ∃ x, us[k + 1]? = some x := ⟨_, List.getElem?_eq_getElem (by have := HN.out; omega)⟩
          obtain ⟨r, hr⟩ : ∃ r, r = k + 1 := ⟨_, rfl⟩
          have cz := CA.out (k + 1) z hz
          obtain ⟨z0, z1⟩ := OK.out.at hz
          have LT : Hid (L[k]? = some (2 * x + y + z)) := by show _ = _; rw [← HL.out, liftL_get (by have := HN.out; omega), liftAt_eq HX.out y z (.inr ⟨j, HJ.out, HY.out⟩) (.inr hz)]
          rw [← hr] at cz
          have q3 : IntKind.i64.wrap ((k : Int) + 1) = (r : Int) := by rw [IntWalk.i64_in _ (by omega)]; omega
          have r1 : r < n := by omega
          have r9 : (k : Int) + 1 < (n : Int) := by omega
          have q4 : IntKind.i64.wrap (2 * x + y + z) = 2 * x + y + z := IntWalk.i64_in _ (by omega)
          have HR := Lib.hid hr
          clear hz hr HX CA
          go_wp2_with (at_builtin; refine wpList_append_lies _ rfl _ _ _ rfl w.heap.size 2 i0 _ 1 8 Try.underlying22 hi hz0 hz1 hz2 rfl (by omega) _ _ _ rfl (own.out.alloc _) ⟨wr.heap.size, 0, none⟩ 1 1 [.int .i64 (2 * x + y + z)] rfl rfl (World.news_of_block (cs := #[.int .i64 (2 * x + y + z)]) (t := 2) (fr := (0, 0)) (heap_alloc_new wr _)) (by simp [Value.oneCell']) (by omega) (by unfold maxLen; omega) (by omega) (by simp only [World.size_alloc]; omega) _ rfl ?_)
          intro gg cap1 w5 hown1 hgrow hat hlt'
          have O5 := Lib.hid (own_next LT.out hown1)
          have B5 : Hid (Below w.heap.size w w5) := hbl.out.grown (grownBy_trans (World.grownBy_alloc wr _ _) hgrow) (by omega) (fun j e => (lgz j e).1)
          clear hown1 hgrow hat hlt' own lgz hbl
          go_wp2
          exact ⟨⟨k + 1, cap1, _, by omega, by rw [HR.out], rfl, O5, B5⟩, by have := HR.out; simp only [intOf]; omega⟩
        · have LT : Hid (L[k]? = some (2 * x + y)) := by show _ = _; rw [← HL.out, liftL_get (by have := HN.out; omega), liftAt_eq HX.out y 0 (.inr ⟨j, HJ.out, HY.out⟩) (.inl ⟨by have := HN.out; omega, rfl⟩)]; simp
          have r1 : ¬ (k : Int) + 1 < (n : Int) := by omega
          clear HX CA
          go_wp2_with (at_builtin; refine wpList_append_lies _ rfl _ _ _ rfl w.heap.size 2 i0 _ 1 8 Try.underlying22 hi hz0 hz1 hz2 rfl (by omega) _ _ _ rfl (own.out.alloc _) ⟨wr.heap.size, 0, none⟩ 1 1 [.int .i64 (2 * x + y)] rfl rfl (World.news_of_block (cs := #[.int .i64 (2 * x + y)]) (t := 2) (fr := (0, 0)) (heap_alloc_new wr _)) (by simp [Value.oneCell']) (by omega) (by unfold maxLen; omega) (by omega) (by simp only [World.size_alloc]; omega) _ rfl ?_)
          intro gg cap1 w5 hown1 hgrow hat hlt'
          have O5 := Lib.hid (own_next LT.out hown1)
          have B5 : Hid (Below w.heap.size w w5) := hbl.out.grown (grownBy_trans (World.grownBy_alloc wr _ _) hgrow) (by omega) (fun j e => (lgz j e).1)
          clear hown1 hgrow hat hlt' own lgz hbl
          go_wp2
          exact ⟨⟨k + 1, cap1, _, by omega, by go_num, rfl, O5, B5⟩, by simp only [intOf]; omega⟩
    · obtain rfl : k = n := by omega
      have HO := Lib.hid (own_all LN.out ho.out)
      clear ho
      go_wp2
      go_ret
      exact ⟨_, rfl, HO.out, hbl.out⟩

theorem specLifts_yes (v : Value) (zs : List Int) (w : World) (h : RdI w v zs) (lz : zs.length ≤ 1099511627776) (ok : OkRow 6 zs) :
    Calls Try.prog 7 #[v] w fun e w' => ∃ u, e = .returned (.tuple #[u, .bool true]) ∧ OwnI w' w.heap.size u (liftL zs) ∧ Below w.heap.size w w' := by
  have C1 := Lib.hid (l07Row_any v zs 6 w h lz true (by simpa using ok))
  have C2 := Lib.hid (l07Lifts_any v zs w h ok)
  obtain ⟨a, cap, rfl, ra⟩ := h
  generalize zs.length = n at *
  clear ra ok lz
  go_enter Try.func7, Try.ntmps7
  go_wp2_with fail
  refine C1.out.mono ?_
  rintro e w1 ⟨rfl, rfl⟩
  go_wp2_with fail
  refine C2.out.mono ?_
  rintro e w1 ⟨u, rfl, o1, b1⟩
  have O1 := Lib.hid o1
  have B1 := Lib.hid b1
  clear o1 b1 C1 C2
  go_wp2
  go_ret2
  exact ⟨_, rfl, O1.out, B1.out⟩

theorem specLifts_no (v : Value) (zs : List Int) (w : World) (h : RdI w v zs) (lz : zs.length ≤ 1099511627776) (ok : ¬ OkRow 6 zs) :
    Calls Try.prog 7 #[v] w fun e w' => e = .returned (.tuple #[.slice none 0 0, .bool false]) ∧ w = w' := by
  have C1 := Lib.hid (l07Row_any v zs 6 w h lz false (by simpa using ok))
  obtain ⟨a, cap, rfl, ra⟩ := h
  generalize zs.length = n at *
  clear ra ok lz
  go_enter Try.func7, Try.ntmps7
  go_wp2_with fail
  refine C1.out.mono ?_
  rintro e w1 ⟨rfl, rfl⟩
  go_wp2
  go_ret2
  exact ⟨rfl, rfl⟩

theorem implLifts_yes (v : Value) (zs : List Int) (w : World) (h : RdI w v zs) (lz : zs.length ≤ 1099511627776) (ok : OkRow 6 zs) :
    Calls Try.prog 9 #[v] w fun e w' => ∃ u, e = .returned (.tuple #[u, .bool true]) ∧ OwnI w' w.heap.size u (liftL zs) ∧ Below w.heap.size w w' := by
  have C1 := Lib.hid (isRow_isUnits v zs w h lz true (by simpa using ok))
  have C2 := Lib.hid (lifts_any v zs w h ok)
  obtain ⟨a, cap, rfl, ra⟩ := h
  generalize zs.length = n at *
  clear ra ok lz
  go_enter Try.func9, Try.ntmps9
  go_wp2_with fail
  refine C1.out.mono ?_
  rintro e w1 ⟨rfl, rfl⟩
  go_wp2_with fail
  refine C2.out.mono ?_
  rintro e w1 ⟨u, rfl, o1, b1⟩
  have O1 := Lib.hid o1
  have B1 := Lib.hid b1
  clear o1 b1 C1 C2
  go_wp2
  go_ret2
  exact ⟨_, rfl, O1.out, B1.out⟩

theorem implLifts_no (v : Value) (zs : List Int) (w : World) (h : RdI w v zs) (lz : zs.length ≤ 1099511627776) (ok : ¬ OkRow 6 zs) :
    Calls Try.prog 9 #[v] w fun e w' => e = .returned (.tuple #[.slice none 0 0, .bool false]) ∧ w = w' := by
  have C1 := Lib.hid (isRow_isUnits v zs w h lz false (by simpa using ok))
  obtain ⟨a, cap, rfl, ra⟩ := h
  generalize zs.length = n at *
  clear ra ok lz
  go_enter Try.func9, Try.ntmps9
  go_wp2_with fail
  refine C1.out.mono ?_
  rintro e w1 ⟨rfl, rfl⟩
  go_wp2
  go_ret2
  exact ⟨rfl, rfl⟩

theorem exLiftsOf (zs : List Int) (lz : zs.length ≤ 1048576) : ∃ (ys : List Int) (r : Bool) (_ : ys.length ≤ 1048576),
    Hid (∀ (w : World) (v : Value), (fun _ => True) w → RdI w v zs → Calls Try.prog 7 #[v] w fun e w' => ∃ u, e = .returned (.tuple #[u, .bool r]) ∧ OwnI w' w.heap.size u ys ∧ Below w.heap.size w w') ∧
    Hid (∀ (w : World) (v : Value), (fun _ => True) w → RdI w v zs → Calls Try.prog 9 #[v] w fun e w' => ∃ u, e = .returned (.tuple #[u, .bool r]) ∧ OwnI w' w.heap.size u ys ∧ Below w.heap.size w w') := by
  by_cases hb : OkRow 6 zs
  · exact ⟨liftL zs, true, by rw [liftL_len]; exact lz, fun w v _ h => specLifts_yes v zs w h (by omega) hb, fun w v _ h => implLifts_yes v zs w h (by omega) hb⟩
  · exact ⟨[], false, by simp, fun w v _ h => (specLifts_no v zs w h (by omega) hb).mono fun e w' ⟨he, hw⟩ => ⟨_, he, hw ▸ World.ownsRow_nil _ _ _ _, hw ▸ Below.refl _ _⟩,
      fun w v _ h => (implLifts_no v zs w h (by omega) hb).mono fun e w' ⟨he, hw⟩ => ⟨_, he, hw ▸ World.ownsRow_nil _ _ _ _, hw ▸ Below.refl _ _⟩⟩
end Go.Proofs.Ytonblcbdmblpbac
