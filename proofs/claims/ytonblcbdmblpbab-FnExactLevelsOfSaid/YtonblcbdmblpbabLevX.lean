/- LevelsOf on both sides. (Written by tools/mklev.py.) -/
import Derived.Test.YtonblcbdmblpbabSettM
import Derived.Test.YtonblcbdmblpbabAppI
namespace Go.Proofs.Ytonblcbdmblpbab
open Go.ChangeShapes Go.WideShapes Go.ChangeAt Go.RowKit
set_option linter.unusedVariables false
set_option linter.unusedSimpArgs false

def levOf (wt st x : Int) : Int := if st ≤ x then 2 else if wt ≤ x then 1 else 0
def levL (zs : List Int) (wt st : Int) : List Int := zs.map (levOf wt st)
theorem levL_len (zs : List Int) (wt st : Int) : (levL zs wt st).length = zs.length := by simp [levL]
theorem levL_get {zs : List Int} {wt st : Int} {k : Nat} {x : Int} (hx : zs[k]? = some x) : (levL zs wt st)[k]? = some (levOf wt st x) := by simp [levL, hx]
def LevV (zs : List Int) (wt st : Int) : Prop := OkSe zs ∧ (1 ≤ st ∧ st ≤ 2000000) ∧ (1 ≤ wt ∧ wt ≤ st)

theorem isDepth_any (n : Int) (b : Bool) (hb : b = true ↔ 1 ≤ n ∧ n ≤ 2000000) (w : World) :
    Calls Try.prog 65 #[.int .i64 n] w fun e w' => e = .returned (.bool b) ∧ w = w' := by
  have HB := Lib.hid hb
  clear hb
  go_enter Try.func65, Try.ntmps65
  go_wp2_with fail
  refine (within_any n 1 2000000 b HB.out w).mono ?_
  rintro e w' ⟨rfl, rfl⟩
  go_wp2
  go_ret
  exact ⟨rfl, rfl⟩

set_option maxRecDepth 100000 in
set_option maxHeartbeats 4000000 in
theorem specLevels_no (v : Value) (zs : List Int) (wt st : Int) (w : World) (h : RdI w v zs) (lz : zs.length ≤ 1099511627776) (hv : ¬ LevV zs wt st) :
    Calls Try.prog 34 #[v, .int .i64 wt, .int .i64 st] w fun e w' => e = .returned (.tuple #[.slice none 0 0, .bool false]) ∧ w = w' := by
  obtain ⟨b1, h1⟩ := bool_is (OkSe zs)
  obtain ⟨b2, h2⟩ := bool_is (1 ≤ st ∧ st ≤ 2000000)
  obtain ⟨b3, h3⟩ := bool_is (1 ≤ wt ∧ wt ≤ st)
  have C1 := Lib.hid (l07Settled_any v zs w h lz b1 h1)
  have C2 := Lib.hid (fun w => in_any st 1 2000000 b2 h2 w)
  have C3 := Lib.hid (fun w => in_any wt 1 st b3 h3 w)
  have HV : Hid (¬ (b1 = true ∧ b2 = true ∧ b3 = true)) := by show ¬ _; rw [h1, h2, h3]; exact hv
  obtain ⟨a, cap, rfl, ra⟩ := h
  generalize zs.length = n at *
  clear hv h1 h2 h3 ra lz
  go_enter Try.func34, Try.ntmps34
  go_wp2_with fail
  refine (C1.out).mono ?_
  rintro e w1 ⟨rfl, rfl⟩
  cases b1 with
  | false =>
    go_wp2
    go_ret2
    exact ⟨rfl, rfl⟩
  | true =>
    go_wp2_with fail
    refine (C2.out _).mono ?_
    rintro e w1 ⟨rfl, rfl⟩
    cases b2 with
    | false =>
      go_wp2
      go_ret2
      exact ⟨rfl, rfl⟩
    | true =>
      go_wp2_with fail
      refine (C3.out _).mono ?_
      rintro e w1 ⟨rfl, rfl⟩
      cases b3 with
      | false =>
        go_wp2
        go_ret2
        exact ⟨rfl, rfl⟩
      | true =>
        exact absurd (by simp) HV.out
set_option maxRecDepth 100000 in
set_option maxHeartbeats 4000000 in
theorem implLevels_no (v : Value) (zs : List Int) (wt st : Int) (w : World) (h : RdI w v zs) (lz : zs.length ≤ 1099511627776) (hv : ¬ LevV zs wt st) :
    Calls Try.prog 35 #[v, .int .i64 wt, .int .i64 st] w fun e w' => e = .returned (.tuple #[.slice none 0 0, .bool false]) ∧ w = w' := by
  obtain ⟨b1, h1⟩ := bool_is (OkSe zs)
  obtain ⟨b2, h2⟩ := bool_is (1 ≤ wt ∧ wt ≤ 2000000)
  obtain ⟨b3, h3⟩ := bool_is (1 ≤ st ∧ st ≤ 2000000)
  have C1 := Lib.hid (isSettled_any v zs w h lz b1 h1)
  have C2 := Lib.hid (fun w => isDepth_any wt b2 h2 w)
  have C3 := Lib.hid (fun w => isDepth_any st b3 h3 w)
  have HV : Hid (b1 = true → b2 = true → b3 = true → st < wt) := fun e1 e2 e3 => by
    have a1 := h1.mp e1
    have a2 := h2.mp e2
    have a3 := h3.mp e3
    refine Int.not_le.mp fun g => hv ⟨a1, a3, a2.1, g⟩
  obtain ⟨a, cap, rfl, ra⟩ := h
  generalize zs.length = n at *
  clear hv h1 h2 h3 ra lz
  go_enter Try.func35, Try.ntmps35
  go_wp2_with fail
  refine (C1.out).mono ?_
  rintro e w1 ⟨rfl, rfl⟩
  cases b1 with
  | false =>
    go_wp2
    go_ret2
    exact ⟨rfl, rfl⟩
  | true =>
    go_wp2_with fail
    refine (C2.out _).mono ?_
    rintro e w1 ⟨rfl, rfl⟩
    cases b2 with
    | false =>
      go_wp2
      go_ret2
      exact ⟨rfl, rfl⟩
    | true =>
      go_wp2_with fail
      refine (C3.out _).mono ?_
      rintro e w1 ⟨rfl, rfl⟩
      cases b3 with
      | false =>
        go_wp2
        go_ret2
        exact ⟨rfl, rfl⟩
      | true =>
        have g : st < wt := by have := HV.out; simpa using this
        clear HV
        go_wp2
        go_ret2
        exact ⟨rfl, rfl⟩
set_option maxRecDepth 100000 in
set_option maxHeartbeats 4000000 in
theorem implLevels_yes (v : Value) (zs : List Int) (wt st : Int) (w : World) (h : RdI w v zs) (lz : zs.length ≤ 1099511627776) (hv : LevV zs wt st) :
    Calls Try.prog 35 #[v, .int .i64 wt, .int .i64 st] w fun e w' => ∃ u, e = .returned (.tuple #[u, .bool true]) ∧ OwnI w' w.heap.size u (levL zs wt st) ∧ Below w.heap.size w w' := by
  obtain ⟨i0, hi, hz0, hz1, hz2⟩ := info_parts info_i64
  obtain ⟨ok, ⟨s0, s1⟩, t0, t1⟩ := hv
  have C1 := Lib.hid (isSettled_any v zs w h lz true (by simpa using ok))
  have C2 := Lib.hid (fun w => isDepth_any wt true (by simp; omega) w)
  have C3 := Lib.hid (fun w => isDepth_any st true (by simp; omega) w)
  obtain ⟨a, cap, rfl, ra⟩ := h
  have OK := Lib.hid ok
  have e24 := ok.1
  obtain ⟨L, hL⟩ : ∃ L, levL zs wt st = L := ⟨_, rfl⟩
  have HL := Lib.hid hL
  have LN : Hid (L.length = 24) := by show _ = _; rw [← hL, levL_len]; exact e24
  rw [e24] at C1 ⊢
  rw [hL]
  have RA := Lib.hid ra
  clear ra ok lz e24 hL
  go_enter Try.func35, Try.ntmps35
  go_wp2_with fail
  refine C1.out.mono ?_
  rintro e w1 ⟨rfl, rfl⟩
  go_wp2_with fail
  refine (C2.out _).mono ?_
  rintro e w1 ⟨rfl, rfl⟩
  go_wp2_with fail
  refine (C3.out _).mono ?_
  rintro e w1 ⟨rfl, rfl⟩
  go_wp2_with (first | (at_make; refine wpList_make_full _ rfl _ _ _ rfl w.heap.size 2 i0 (.int .i64 0) 1 Try.underlying39 hi hz0 hz1 .i64 .i64 _ _ 24 rfl rfl rfl rfl ?b2 ?b3 (Nat.le_refl _) ?_) | go_in)
  case b2 => rw [hz2]; omega
  case b3 => unfold maxLen; omega
  intro w1 hown hg
  rw [toList_madeCells_one] at hown
  have O1 : Hid (OwnI w1 w.heap.size (.slice (some ⟨w.heap.size, 0, none⟩) 24 24) (part L 24 0)) := part_made hown
  have B1 : Hid (Below w.heap.size w w1) := (Below.refl _ _).grown hg (Nat.le_refl _) (fun k h => by cases h)
  clear hown hg C1 C2 C3
  go_wp2
  go_loopw [32] (fun i wr => ∃ k : Nat, k ≤ 24 ∧ i = .int .i64 k ∧ Hid (OwnI wr w.heap.size (.slice (some ⟨w.heap.size, 0, none⟩) 24 24) (part L 24 k)) ∧ Hid (Below w.heap.size w wr)) (fun i _ => 24 - (intOf i).toNat)
  case atStart => exact ⟨0, by omega, rfl, O1, B1⟩
  case round =>
    obtain ⟨k, hk, rfl, ho, hbl⟩ := hrel
    clear O1 B1
    by_cases hlt : k < 24
    · obtain ⟨x, hx⟩ : ∃ x, zs[k]? = some x := ⟨_, List.getElem?_eq_getElem (by have := OK.out.1; omega)⟩
      obtain ⟨ba, oa, rfl, ca'⟩ := RA.out.resolve_left (by intro h; have := OK.out.1; rw [h] at this; simp at this)
      have hbA : ba < w.heap.size := World.block_lt_of_cell? w _ (ca' k x hx)
      have c1 := (hbl.out.cell (p := ⟨ba, oa + k, none⟩) hbA).trans (ca' k x hx)
      obtain ⟨c2, f1⟩ := part_cell LN.out hlt ho.out
      have LG : Hid (L[k]? = some (levOf wt st x)) := by show _ = _; rw [← HL.out]; exact levL_get hx
      clear hx ca' 
      by_cases g1 : st ≤ x
      · have g2 : wt ≤ x := by omega
        have s1 := Lib.hid (part_store (x := 2) LN.out (by rw [LG.out]; exact congrArg some (by unfold levOf; rw [if_pos g1])) ho.out)
        have s2 : Hid (Below w.heap.size w (wr.setCell ⟨w.heap.size, k, none⟩ (.int .i64 2))) := hbl.out.setCell (Nat.le_refl _) _
        clear ho hbl LG
        go_wp2
        exact ⟨⟨k + 1, by omega, by go_num, s1, s2⟩, by simp only [intOf]; omega⟩
      · by_cases g2 : wt ≤ x
        · have s1 := Lib.hid (part_store (x := 1) LN.out (by rw [LG.out]; exact congrArg some (by unfold levOf; rw [if_neg g1, if_pos g2])) ho.out)
          have s2 : Hid (Below w.heap.size w (wr.setCell ⟨w.heap.size, k, none⟩ (.int .i64 1))) := hbl.out.setCell (Nat.le_refl _) _
          clear ho hbl LG
          go_wp2
          exact ⟨⟨k + 1, by omega, by go_num, s1, s2⟩, by simp only [intOf]; omega⟩
        · have s1 := Lib.hid (part_store (x := 0) LN.out (by rw [LG.out]; exact congrArg some (by unfold levOf; rw [if_neg g1, if_neg g2])) ho.out)
          have s2 : Hid (Below w.heap.size w (wr.setCell ⟨w.heap.size, k, none⟩ (.int .i64 0))) := hbl.out.setCell (Nat.le_refl _) _
          clear ho hbl LG
          go_wp2
          exact ⟨⟨k + 1, by omega, by go_num, s1, s2⟩, by simp only [intOf]; omega⟩
    · obtain rfl : k = 24 := by omega
      have HO : Hid (OwnI wr w.heap.size (.slice (some ⟨w.heap.size, 0, none⟩) 24 24) L) := by have := ho.out; rwa [part_all LN.out] at this
      clear ho
      go_wp2
      go_ret2
      exact ⟨_, rfl, HO.out, hbl.out⟩
set_option maxRecDepth 100000 in
set_option maxHeartbeats 4000000 in
theorem specLevels_yes (v : Value) (zs : List Int) (wt st : Int) (w : World) (h : RdI w v zs) (lz : zs.length ≤ 1099511627776) (hv : LevV zs wt st) :
    Calls Try.prog 34 #[v, .int .i64 wt, .int .i64 st] w fun e w' => ∃ u, e = .returned (.tuple #[u, .bool true]) ∧ OwnI w' w.heap.size u (levL zs wt st) ∧ Below w.heap.size w w' := by
  obtain ⟨i0, hi, hz0, hz1, hz2⟩ := info_parts info_i64
  obtain ⟨ok, ⟨s0, s1⟩, t0, t1⟩ := hv
  have C1 := Lib.hid (l07Settled_any v zs w h lz true (by simpa using ok))
  have C2 := Lib.hid (fun w => in_any st 1 2000000 true (by simp; omega) w)
  have C3 := Lib.hid (fun w => in_any wt 1 st true (by simp; omega) w)
  obtain ⟨a, cap, rfl, ra⟩ := h
  have OK := Lib.hid ok
  have e24 := ok.1
  obtain ⟨L, hL⟩ : ∃ L, levL zs wt st = L := ⟨_, rfl⟩
  have HL := Lib.hid hL
  have LN : Hid (L.length = 24) := by show _ = _; rw [← hL, levL_len]; exact e24
  have O0 := Lib.hid (own_built w w.heap.size L rfl)
  have B0 : Hid (Below w.heap.size w (w.alloc (.cells #[] 2))) := (Below.refl _ _).alloc (Nat.le_refl _) _
  rw [e24] at C1 ⊢
  rw [hL]
  have RA := Lib.hid ra
  clear ra ok lz e24 hL
  go_enter Try.func34, Try.ntmps34
  go_wp2_with fail
  refine C1.out.mono ?_
  rintro e w1 ⟨rfl, rfl⟩
  go_wp2_with fail
  refine (C2.out _).mono ?_
  rintro e w1 ⟨rfl, rfl⟩
  go_wp2_with fail
  refine (C3.out _).mono ?_
  rintro e w1 ⟨rfl, rfl⟩
  go_wp2
  go_loopw [8, 9] (fun ov iv wr => ∃ (k c1 : Nat) (ad : Option Addr), k ≤ 24 ∧ iv = .int .i64 k ∧ ov = .slice ad k c1 ∧ Hid (OwnI wr w.heap.size (.slice ad k c1) (L.take k)) ∧ Hid (Below w.heap.size w wr)) (fun _ iv _ => 24 - (intOf iv).toNat)
  case atStart => exact ⟨0, 0, _, by omega, rfl, rfl, O0, B0⟩
  case round =>
    obtain ⟨k, c1, ad, hk, rfl, rfl, ho, hbl⟩ := hrel
    clear O0 B0
    by_cases hlt : k < 24
    · obtain ⟨x, hx⟩ : ∃ x, zs[k]? = some x := ⟨_, List.getElem?_eq_getElem (by have := OK.out.1; omega)⟩
      obtain ⟨ba, oa, rfl, ca'⟩ := RA.out.resolve_left (by intro h; have := OK.out.1; rw [h] at this; simp at this)
      have hbA : ba < w.heap.size := World.block_lt_of_cell? w _ (ca' k x hx)
      have e1 := (hbl.out.cell (p := ⟨ba, oa + k, none⟩) hbA).trans (ca' k x hx)
      have LG : Hid (L[k]? = some (levOf wt st x)) := by show _ = _; rw [← HL.out]; exact levL_get hx
      have own := Lib.hid (own_take LN.out hk ho.out)
      have hsz := hbl.out.size
      have lgz := own.out.lt
      clear hx ca' ho
      by_cases g1 : st ≤ x
      · have g2 : wt ≤ x := by omega
        have LT : Hid (L[k]? = some 2) := by show _ = _; rw [LG.out]; exact congrArg some (by unfold levOf; rw [if_pos g1])
        clear LG
        go_wp2_with (at_builtin; refine wpList_append_lies _ rfl _ _ _ rfl w.heap.size 2 i0 _ 1 8 Try.underlying39 hi hz0 hz1 hz2 rfl (by omega) _ _ _ rfl (own.out.alloc _) ⟨wr.heap.size, 0, none⟩ 1 1 [.int .i64 2] rfl rfl (World.news_of_block (cs := #[.int .i64 2]) (t := 2) (fr := (0, 0)) (heap_alloc_new wr _)) (by simp [Value.oneCell']) (by omega) (by unfold maxLen; omega) (by omega) (by simp only [World.size_alloc]; omega) _ rfl ?_)
        intro gg cap1 w5 hown1 hgrow hat hlt'
        have O5 := Lib.hid (own_next LT.out hown1)
        have B5 : Hid (Below w.heap.size w w5) := hbl.out.grown (grownBy_trans (World.grownBy_alloc wr _ _) hgrow) (by omega) (fun j e => (lgz j e).1)
        clear hown1 hgrow hat hlt' own lgz hbl
        go_wp2
        exact ⟨⟨k + 1, cap1, _, by omega, by go_num, rfl, O5, B5⟩, by simp only [intOf]; omega⟩
      · by_cases g2 : wt ≤ x
        · have LT : Hid (L[k]? = some 1) := by show _ = _; rw [LG.out]; exact congrArg some (by unfold levOf; rw [if_neg g1, if_pos g2])
          clear LG
          go_wp2_with (at_builtin; refine wpList_append_lies _ rfl _ _ _ rfl w.heap.size 2 i0 _ 1 8 Try.underlying39 hi hz0 hz1 hz2 rfl (by omega) _ _ _ rfl (own.out.alloc _) ⟨wr.heap.size, 0, none⟩ 1 1 [.int .i64 1] rfl rfl (World.news_of_block (cs := #[.int .i64 1]) (t := 2) (fr := (0, 0)) (heap_alloc_new wr _)) (by simp [Value.oneCell']) (by omega) (by unfold maxLen; omega) (by omega) (by simp only [World.size_alloc]; omega) _ rfl ?_)
          intro gg cap1 w5 hown1 hgrow hat hlt'
          have O5 := Lib.hid (own_next LT.out hown1)
          have B5 : Hid (Below w.heap.size w w5) := hbl.out.grown (grownBy_trans (World.grownBy_alloc wr _ _) hgrow) (by omega) (fun j e => (lgz j e).1)
          clear hown1 hgrow hat hlt' own lgz hbl
          go_wp2
          exact ⟨⟨k + 1, cap1, _, by omega, by go_num, rfl, O5, B5⟩, by simp only [intOf]; omega⟩
        · have LT : Hid (L[k]? = some 0) := by show _ = _; rw [LG.out]; exact congrArg some (by unfold levOf; rw [if_neg g1, if_neg g2])
          clear LG
          go_wp2_with (at_builtin; refine wpList_append_lies _ rfl _ _ _ rfl w.heap.size 2 i0 _ 1 8 Try.underlying39 hi hz0 hz1 hz2 rfl (by omega) _ _ _ rfl (own.out.alloc _) ⟨wr.heap.size, 0, none⟩ 1 1 [.int .i64 0] rfl rfl (World.news_of_block (cs := #[.int .i64 0]) (t := 2) (fr := (0, 0)) (heap_alloc_new wr _)) (by simp [Value.oneCell']) (by omega) (by unfold maxLen; omega) (by omega) (by simp only [World.size_alloc]; omega) _ rfl ?_)
          intro gg cap1 w5 hown1 hgrow hat hlt'
          have O5 := Lib.hid (own_next LT.out hown1)
          have B5 : Hid (Below w.heap.size w w5) := hbl.out.grown (grownBy_trans (World.grownBy_alloc wr _ _) hgrow) (by omega) (fun j e => (lgz j e).1)
          clear hown1 hgrow hat hlt' own lgz hbl
          go_wp2
          exact ⟨⟨k + 1, cap1, _, by omega, by go_num, rfl, O5, B5⟩, by simp only [intOf]; omega⟩
    · obtain rfl : k = 24 := by omega
      have HO := Lib.hid (own_all LN.out ho.out)
      clear ho
      go_wp2
      go_ret2
      exact ⟨_, rfl, HO.out, hbl.out⟩

theorem exLevelsOf (zs : List Int) (wt st : Int) (lz : zs.length ≤ 1048576) : ∃ (ys : List Int) (r : Bool) (_ : ys.length ≤ 1048576),
    Hid (∀ (w : World) (v : Value), (fun _ => True) w → RdI w v zs → Calls Try.prog 34 #[v, .int .i64 wt, .int .i64 st] w fun e w' => ∃ u, e = .returned (.tuple #[u, .bool r]) ∧ OwnI w' w.heap.size u ys ∧ Below w.heap.size w w') ∧
    Hid (∀ (w : World) (v : Value), (fun _ => True) w → RdI w v zs → Calls Try.prog 35 #[v, .int .i64 wt, .int .i64 st] w fun e w' => ∃ u, e = .returned (.tuple #[u, .bool r]) ∧ OwnI w' w.heap.size u ys ∧ Below w.heap.size w w') := by
  by_cases hb : LevV zs wt st
  · exact ⟨levL zs wt st, true, by rw [levL_len]; exact lz, fun w v _ h => specLevels_yes v zs wt st w h (by omega) hb, fun w v _ h => implLevels_yes v zs wt st w h (by omega) hb⟩
  · exact ⟨[], false, by simp, fun w v _ h => (specLevels_no v zs wt st w h (by omega) hb).mono fun e w' ⟨he, hw⟩ => ⟨_, he, hw ▸ World.ownsRow_nil _ _ _ _, hw ▸ Below.refl _ _⟩,
      fun w v _ h => (implLevels_no v zs wt st w h (by omega) hb).mono fun e w' ⟨he, hw⟩ => ⟨_, he, hw ▸ World.ownsRow_nil _ _ _ _, hw ▸ Below.refl _ _⟩⟩
end Go.Proofs.Ytonblcbdmblpbab
