/- Cumulative sums and balances on the specification's side. -/
import Derived.Test.YtobfephcmiolbaaMuckS
namespace Go.Proofs.Ytobfephcmiolbaa
open Go.ChangeShapes Go.WideShapes Go.ChangeAt Go.RowKit
set_option linter.unusedVariables false
set_option linter.unusedSimpArgs false

theorem ok_bool' (P : Prop) : ∃ b : Bool, b = true ↔ P := by
  by_cases h : P
  · exact ⟨true, by simp [h]⟩
  · exact ⟨false, by simp [h]⟩

theorem max0_any (x : Int) (w : World) : Calls Try.prog 64 #[.int .i64 0, .int .i64 x] w fun e w' => e = .returned (.int .i64 (if x < 0 then 0 else x)) ∧ w = w' := by
  by_cases h : x < 0
  · rw [if_pos h]
    go_enter Try.func64, Try.ntmps64
    go_wp2
    go_ret
    exact ⟨rfl, rfl⟩
  · rw [if_neg h]
    go_enter Try.func64, Try.ntmps64
    go_wp2
    go_ret
    exact ⟨rfl, rfl⟩

set_option maxRecDepth 100000 in
set_option maxHeartbeats 4000000 in
theorem l06Sums_any (v : Value) (zs : List Int) (al : Int) (w : World) (h : RdI w v zs) (hb : Bal zs) (ha : Bnd al) :
    Calls Try.prog 55 #[v, .int .i64 al] w fun e w' => ∃ u, e = .returned u ∧ OwnI w' w.heap.size u (sumsTo zs al zs.length) ∧ Below w.heap.size w w' := by
  obtain ⟨i0, hi, hz0, hz1, hz2⟩ := info_parts info_i64
  obtain ⟨a, cap, rfl, ra⟩ := h
  obtain ⟨n, hn⟩ : ∃ n, n = zs.length := ⟨_, rfl⟩
  have ln : n ≤ 60 := by have := hb.1; omega
  obtain ⟨a0, a1⟩ := ha
  have HB := Lib.hid hb.2
  have RA := Lib.hid ra
  have HN := Lib.hid hn
  rw [← hn]
  have O0 : Hid (OwnI (w.alloc (.cells #[] 2)) w.heap.size (.slice (some ⟨w.heap.size, 0, none⟩) 0 0) (sumsTo zs al 0)) := World.ownsRow_lit (e := 2) (size := 1) w #[] 0 (Nat.le_refl _) (by decide) rfl
  have B0 : Hid (Below w.heap.size w (w.alloc (.cells #[] 2))) := (Below.refl _ _).alloc (Nat.le_refl _) _
  clear ra hn hb
  go_enter Try.func55, Try.ntmps55
  go_wp2
  go_loopw [5, 6, 7] (fun ov sv iv wr => ∃ (k c1 : Nat) (ad : Option Addr), k ≤ n ∧ iv = .int .i64 k ∧ sv = .int .i64 (sumAt zs al k) ∧ ov = .slice ad k c1 ∧ Hid (OwnI wr w.heap.size (.slice ad k c1) (sumsTo zs al k)) ∧ Hid (Below w.heap.size w wr)) (fun _ _ iv _ => n - (intOf iv).toNat)
  case atStart => exact ⟨0, 0, _, by omega, rfl, rfl, rfl, O0, B0⟩
  case round =>
    obtain ⟨k, c1, ad, hk, rfl, rfl, rfl, ho, hbl⟩ := hrel
    clear O0 B0
    by_cases hlt : k < n
    · obtain ⟨x, hx⟩ : ∃ x, zs[k]? = some x := ⟨_, List.getElem?_eq_getElem (by have := HN.out; omega)⟩
      obtain ⟨x0, x1⟩ := HB.out.at hx
      obtain ⟨ba, oa, rfl, ca'⟩ := RA.out.resolve_left (by intro h; have := HN.out; rw [h] at this; simp at this; omega)
      have hbA : ba < w.heap.size := World.block_lt_of_cell? w _ (ca' k x hx)
      have e1 := (hbl.out.cell (p := ⟨ba, oa + k, none⟩) hbA).trans (ca' k x hx)
      have S := sumAt_succ (al := al) hx
      have s0 := sumAt_nonneg zs al k
      have sl := sumAt_le HB.out a0 k (by have := HN.out; omega)
      have SS := Lib.hid (sumsTo_succ zs al k)
      have SL := Lib.hid (sumsTo_len zs al k)
      obtain ⟨s, hs⟩ : ∃ s, s = sumAt zs al k := ⟨_, rfl⟩
      obtain ⟨t, ht⟩ : ∃ t, t = sumAt zs al (k + 1) := ⟨_, rfl⟩
      rw [← hs] at S s0 sl ⊢
      rw [← ht] at S SS
      have HT := Lib.hid ht
      have TS := Lib.hid S
      have q1 : IntKind.i64.wrap (s + x) = s + x := IntWalk.i64_in _ (by omega)
      have q2 : IntKind.i64.wrap (s + x - al) = s + x - al := IntWalk.i64_in _ (by omega)
      have own : Hid (wr.ownsRow w.heap.size 2 1 (.slice ad k c1) k ((sumsTo zs al k).map (Value.int .i64))) := by
        have e := ho.out
        unfold OwnI at e
        rw [SL.out] at e
        exact e
      have hsz := hbl.out.size
      have lgz := own.out.lt
      clear hx ho ca' hs ht S
      go_wp2_with fail
      refine (max0_any _ _).mono ?_
      rintro e w' ⟨rfl, rfl⟩
      rw [← TS.out]
      go_wp2_with (at_builtin; refine wpList_append_lies _ rfl _ _ _ rfl w.heap.size 2 i0 _ 1 8 Try.underlying25 hi hz0 hz1 hz2 rfl (by omega) _ _ _ rfl (own.out.alloc _) ⟨wr.heap.size, 0, none⟩ 1 1 [.int .i64 t] rfl rfl (World.news_of_block (cs := #[.int .i64 t]) (t := 2) (fr := (0, 0)) (heap_alloc_new wr _)) (by simp [Value.oneCell']) (by omega) (by unfold maxLen; omega) (by omega) (by simp only [World.size_alloc]; omega) _ rfl ?_)
      intro gg cap1 w5 hown1 hgrow hat hlt'
      have O5 : Hid (OwnI w5 w.heap.size (.slice (some ⟨gg, 0, none⟩) (k + 1) cap1) (sumsTo zs al (k + 1))) := by
        show OwnI _ _ _ _
        unfold OwnI
        rw [SS.out, List.length_append, SL.out, List.map_append]
        exact hown1
      have B5 : Hid (Below w.heap.size w w5) := hbl.out.grown (grownBy_trans' (World.grownBy_alloc wr _ _) hgrow) (by omega) (fun j e => (lgz j e).1)
      clear hown1 hgrow hat hlt' own lgz hbl
      go_wp2
      exact ⟨⟨k + 1, cap1, _, by omega, by go_num, by rw [← HT.out], rfl, O5, B5⟩, by simp only [intOf]; omega⟩
    · obtain rfl : k = n := by omega
      go_wp2
      go_ret
      exact ⟨_, rfl, ho.out, hbl.out⟩

theorem specSums_yes (v : Value) (zs : List Int) (al : Int) (w : World) (h : RdI w v zs) (hb : Bal zs) (ha : Bnd al) :
    Calls Try.prog 33 #[v, .int .i64 al] w fun e w' => ∃ u, e = .returned (.tuple #[u, .bool true]) ∧ OwnI w' w.heap.size u (sumsTo zs al zs.length) ∧ Below w.heap.size w w' := by
  have C1 := Lib.hid (fun w h => l06Balance_any v zs w h (by have := hb.1; omega) true (by simpa using hb))
  have C2 := Lib.hid (fun w => l06Bound_any al w true (by simpa using ha))
  have C3 := Lib.hid (fun w h => l06Sums_any v zs al w h hb ha)
  have H := Lib.hid h
  clear h hb ha
  obtain ⟨a, cap, rfl, ra⟩ := id H.out
  generalize zs.length = n at *
  clear ra
  go_enter Try.func33, Try.ntmps33
  go_wp2_with fail
  refine (C1.out _ H.out).mono ?_
  rintro e w' ⟨rfl, rfl⟩
  go_wp2_with fail
  refine (C2.out _).mono ?_
  rintro e w' ⟨rfl, rfl⟩
  go_wp2_with fail
  refine (C3.out _ H.out).mono ?_
  rintro e w1 ⟨u, rfl, o1, b1⟩
  have O1 := Lib.hid o1
  have B1 := Lib.hid b1
  clear o1 b1
  go_wp2
  go_ret2
  exact ⟨_, rfl, O1.out, B1.out⟩

theorem specSums_no (v : Value) (zs : List Int) (al : Int) (w : World) (h : RdI w v zs) (lz : zs.length ≤ 1099511627776) (hb : ¬ (Bal zs ∧ Bnd al)) :
    Calls Try.prog 33 #[v, .int .i64 al] w fun e w' => e = .returned (.tuple #[.slice none 0 0, .bool false]) ∧ w = w' := by
  have H := Lib.hid h
  obtain ⟨a, cap, rfl, ra⟩ := h
  by_cases h1 : Bal zs
  · have h2 : ¬ Bnd al := fun h => hb ⟨h1, h⟩
    have C1 := Lib.hid (fun w h => l06Balance_any (.slice a zs.length cap) zs w h (by omega) true (by simpa using h1))
    have C2 := Lib.hid (fun w => l06Bound_any al w false (by simpa using h2))
    generalize zs.length = n at *
    clear hb h1 h2 ra lz
    go_enter Try.func33, Try.ntmps33
    go_wp2_with fail
    refine (C1.out _ H.out).mono ?_
    rintro e w' ⟨rfl, rfl⟩
    go_wp2_with fail
    refine (C2.out _).mono ?_
    rintro e w' ⟨rfl, rfl⟩
    go_wp2
    go_ret2
    exact ⟨rfl, rfl⟩
  · have C1 := Lib.hid (fun w h => l06Balance_any (.slice a zs.length cap) zs w h (by omega) false (by simpa using h1))
    generalize zs.length = n at *
    clear hb h1 ra lz
    go_enter Try.func33, Try.ntmps33
    go_wp2_with fail
    refine (C1.out _ H.out).mono ?_
    rintro e w' ⟨rfl, rfl⟩
    go_wp2
    go_ret2
    exact ⟨rfl, rfl⟩

theorem sums_no (v : Value) (zs : List Int) (al : Int) (w : World) (h : RdI w v zs) (lz : zs.length ≤ 1099511627776) (hb : ¬ (Bal zs ∧ Bnd al)) :
    Calls Try.prog 22 #[v, .int .i64 al] w fun e w' => e = .returned (.tuple #[.slice none 0 0, .bool false]) ∧ w = w' := by
  have C1 := Lib.hid (excesses_no v zs al w h lz hb)
  obtain ⟨a, cap, rfl, ra⟩ := h
  generalize zs.length = n at *
  clear hb ra lz
  go_enter Try.func22, Try.ntmps22
  go_wp2_with fail
  refine C1.out.mono ?_
  rintro e w' ⟨rfl, rfl⟩
  go_wp2
  go_ret2
  exact ⟨rfl, rfl⟩

theorem exSumsOf (zs : List Int) (al : Int) (lz : zs.length ≤ 1048576) : ∃ (ys : List Int) (r : Bool) (_ : ys.length ≤ 1048576),
    Hid (∀ (w : World) (v : Value), (fun _ => True) w → RdI w v zs → Calls Try.prog 33 #[v, .int .i64 al] w fun e w' => ∃ u, e = .returned (.tuple #[u, .bool r]) ∧ OwnI w' w.heap.size u ys ∧ Below w.heap.size w w') ∧
    Hid (∀ (w : World) (v : Value), (fun _ => True) w → RdI w v zs → Calls Try.prog 22 #[v, .int .i64 al] w fun e w' => ∃ u, e = .returned (.tuple #[u, .bool r]) ∧ OwnI w' w.heap.size u ys ∧ Below w.heap.size w w') := by
  by_cases hb : Bal zs ∧ Bnd al
  · exact ⟨sumsTo zs al zs.length, true, by rw [sumsTo_len]; exact lz, fun w v _ h => specSums_yes v zs al w h hb.1 hb.2, fun w v _ h => sums_yes v zs al w h hb.1 hb.2⟩
  · exact ⟨[], false, by simp, fun w v _ h => (specSums_no v zs al w h (by omega) hb).mono fun e w' ⟨he, hw⟩ => ⟨_, he, hw ▸ World.ownsRow_nil _ _ _ _, hw ▸ Below.refl _ _⟩,
      fun w v _ h => (sums_no v zs al w h (by omega) hb).mono fun e w' ⟨he, hw⟩ => ⟨_, he, hw ▸ World.ownsRow_nil _ _ _ _, hw ▸ Below.refl _ _⟩⟩
end Go.Proofs.Ytobfephcmiolbaa
