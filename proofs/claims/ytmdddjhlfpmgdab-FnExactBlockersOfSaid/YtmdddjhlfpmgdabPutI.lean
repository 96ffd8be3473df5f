/- The specification's helper that puts a number in. -/
import Derived.Test.YtmdddjhlfpmgdabPutM
import Derived.Deep.AppendLies
namespace Go.Proofs.Ytmdddjhlfpmgdab
open Go.ChangeShapes Go.WideShapes Go.ChangeAt Go.RowKit
set_option linter.unusedVariables false
set_option linter.unusedSimpArgs false

set_option maxRecDepth 100000 in
set_option maxHeartbeats 16000000 in
theorem l00Put_any (v : Value) (zs : List Int) (x : Int) (w : World) (h : RdI w v zs) (lz : zs.length ≤ 1000) :
    Calls Try.prog 71 #[v, .int .i64 x] w fun e w' => ∃ u, e = .returned u ∧ OwnI w' w.heap.size u (putL zs x) ∧ Below w.heap.size w w' := by
  obtain ⟨i0, hi, hz0, hz1, hz2⟩ := info_parts info_i64
  obtain ⟨a, cap, rfl, ra⟩ := h
  obtain ⟨n, hn⟩ : ∃ n, n = zs.length := ⟨_, rfl⟩
  rw [← hn] at lz
  rw [← hn]
  have RA := Lib.hid ra
  have HN := Lib.hid hn
  have O0 := Lib.hid (own_built w w.heap.size [] rfl)
  have B0 : Hid (Below w.heap.size w (w.alloc (.cells #[] 2))) := by show Below _ _ _; go_grown
  have P0 : Hid (Puts zs x 0 false []) := by show _ ++ _ = _; simp
  clear ra hn
  go_enter Try.func71, Try.ntmps71
  go_wp2
  go_loopw [5, 6, 7] (fun ov dv iv wr => ∃ (i m c1 : Nat) (ad : Option Addr) (d : Bool) (ys : List Int), i ≤ n ∧ m ≤ 2 * i ∧ iv = .int .i64 i ∧ dv = .bool d ∧ ov = .slice ad m c1 ∧ Hid (m = ys.length) ∧ Hid (Puts zs x i d ys) ∧ Hid (OwnI wr w.heap.size (.slice ad m c1) ys) ∧ Hid (Below w.heap.size w wr)) (fun _ _ iv _ => n - (intOf iv).toNat)
  case atStart => exact ⟨0, 0, _, _, false, [], by omega, by omega, rfl, rfl, rfl, rfl, P0.out, O0.out, B0.out⟩
  case round =>
    obtain ⟨i, m, c1, ad, d, ys, hi', mi, rfl, rfl, rfl, hm, hp, ho, B⟩ := hrel
    clear O0 B0 P0
    have hsz := B.out.size
    by_cases hlt : i < n
    · obtain ⟨y, hy⟩ : ∃ y, zs[i]? = some y := ⟨_, List.getElem?_eq_getElem (by have := HN.out; omega)⟩
      obtain ⟨ba, oa, rfl, ca⟩ := RA.out.resolve_left (by intro h; have := HN.out; rw [h] at this; simp at this; omega)
      have la := block_lt_of_cell (ca i y hy)
      have e1 : wr.cell? ⟨ba, oa + i, none⟩ = some (.int .i64 y) := (B.out.cell (p := ⟨ba, oa + i, none⟩) la).trans (ca i y hy)
      have HY := Lib.hid hy
      have own := Lib.hid (own_len hm.out ho.out)
      have lgz := own.out.lt
      clear ca hy ho
      cases d with
      | true =>
        have P1 := Lib.hid (hp.out.keep HY.out)
        clear hp
        go_wp2_with (at_builtin; refine wpList_append_lies _ rfl _ _ _ rfl w.heap.size 2 i0 _ 1 8 Try.underlying31 hi hz0 hz1 hz2 rfl (by omega) _ _ _ rfl (own.out.alloc _) ⟨wr.heap.size, 0, none⟩ 1 1 [.int .i64 y] rfl rfl (World.news_of_block (cs := #[.int .i64 y]) (t := 2) (fr := (0, 0)) (heap_alloc_new wr _)) (by simp [Value.oneCell']) (by omega) (by unfold maxLen; omega) (by omega) (by simp only [World.size_alloc]; omega) _ rfl ?_)
        intro gg cap1 w5 hown1 hgrow hat hlt'
        have gb := grownBy_trans' (World.grownBy_alloc wr _ _) hgrow
        have B5 : Hid (Below w.heap.size w w5) := B.out.grown gb (by omega) (fun j e => (lgz j e).1)
        have O5 := Lib.hid (own_of hm.out hown1)
        have M5 : Hid (m + 1 = (ys ++ [y]).length) := by show _ = _; rw [List.length_append, ← hm.out]; rfl
        clear hown1 hgrow hat hlt' own lgz gb B e1 hm
        go_wp2
        exact ⟨⟨i + 1, m + 1, cap1, _, _, _, by omega, by omega, by go_num, rfl, rfl, M5, P1, O5, B5⟩, by simp only [intOf]; omega⟩
      | false =>
        by_cases hl : y < x
        · have P1 := Lib.hid (hp.out.less HY.out hl)
          have d1 : decide (x ≤ y) = false := decide_eq_false (by omega)
          clear hp
          go_wp2_with (at_builtin; refine wpList_append_lies _ rfl _ _ _ rfl w.heap.size 2 i0 _ 1 8 Try.underlying31 hi hz0 hz1 hz2 rfl (by omega) _ _ _ rfl (own.out.alloc _) ⟨wr.heap.size, 0, none⟩ 1 1 [.int .i64 y] rfl rfl (World.news_of_block (cs := #[.int .i64 y]) (t := 2) (fr := (0, 0)) (heap_alloc_new wr _)) (by simp [Value.oneCell']) (by omega) (by unfold maxLen; omega) (by omega) (by simp only [World.size_alloc]; omega) _ rfl ?_)
          intro gg cap1 w5 hown1 hgrow hat hlt'
          have gb := grownBy_trans' (World.grownBy_alloc wr _ _) hgrow
          have B5 : Hid (Below w.heap.size w w5) := B.out.grown gb (by omega) (fun j e => (lgz j e).1)
          have O5 := Lib.hid (own_of hm.out hown1)
          have M5 : Hid (m + 1 = (ys ++ [y]).length) := by show _ = _; rw [List.length_append, ← hm.out]; rfl
          clear hown1 hgrow hat hlt' own lgz gb B e1 hm
          go_wp2
          exact ⟨⟨i + 1, m + 1, cap1, _, _, _, by omega, by omega, by go_num, rfl, rfl, M5, P1, O5, B5⟩, by simp only [intOf]; omega⟩
        by_cases hq : y = x
        · have P1 := Lib.hid (hp.out.same HY.out hq)
          subst hq
          clear hp
          go_wp2_with (at_builtin; refine wpList_append_lies _ rfl _ _ _ rfl w.heap.size 2 i0 _ 1 8 Try.underlying31 hi hz0 hz1 hz2 rfl (by omega) _ _ _ rfl (own.out.alloc _) ⟨wr.heap.size, 0, none⟩ 1 1 [.int .i64 y] rfl rfl (World.news_of_block (cs := #[.int .i64 y]) (t := 2) (fr := (0, 0)) (heap_alloc_new wr _)) (by simp [Value.oneCell']) (by omega) (by unfold maxLen; omega) (by omega) (by simp only [World.size_alloc]; omega) _ rfl ?_)
          intro gg cap1 w5 hown1 hgrow hat hlt'
          have gb := grownBy_trans' (World.grownBy_alloc wr _ _) hgrow
          have B5 : Hid (Below w.heap.size w w5) := B.out.grown gb (by omega) (fun j e => (lgz j e).1)
          have O5 := Lib.hid (own_of hm.out hown1)
          have M5 : Hid (m + 1 = (ys ++ [y]).length) := by show _ = _; rw [List.length_append, ← hm.out]; rfl
          clear hown1 hgrow hat hlt' own lgz gb B e1 hm
          go_wp2
          exact ⟨⟨i + 1, m + 1, cap1, _, _, _, by omega, by omega, by go_num, rfl, rfl, M5, P1, O5, B5⟩, by simp only [intOf]; omega⟩
        · have g1 : x < y := by omega
          have g2 : x ≤ y := by omega
          have P1 := Lib.hid (hp.out.more HY.out g1)
          clear hp hl hq
          go_wp2_with (at_builtin; refine wpList_append_lies _ rfl _ _ _ rfl w.heap.size 2 i0 _ 1 8 Try.underlying31 hi hz0 hz1 hz2 rfl (by omega) _ _ _ rfl (own.out.alloc _) ⟨wr.heap.size, 0, none⟩ 1 1 [.int .i64 x] rfl rfl (World.news_of_block (cs := #[.int .i64 x]) (t := 2) (fr := (0, 0)) (heap_alloc_new wr _)) (by simp [Value.oneCell']) (by omega) (by unfold maxLen; omega) (by omega) (by simp only [World.size_alloc]; omega) _ rfl ?_)
          intro gg cap1 w5 hown1 hgrow hat hlt'
          have gb := grownBy_trans' (World.grownBy_alloc wr _ _) hgrow
          have B5 : Hid (Below w.heap.size w w5) := B.out.grown gb (by omega) (fun j e => (lgz j e).1)
          have O5 := Lib.hid (own_of hm.out hown1)
          have M5 : Hid (m + 1 = (ys ++ [x]).length) := by show _ = _; rw [List.length_append, ← hm.out]; rfl
          have own5 := Lib.hid (own_len M5.out O5.out)
          have lg5 := own5.out.lt
          have s5 := B5.out.size
          have e5 : w5.cell? ⟨ba, oa + i, none⟩ = some (.int .i64 y) := by
            have := gb.size
            exact (((Below.refl w.heap.size wr).grown gb (by have := B.out.size; omega) (fun j e => (lgz j e).1)).cell (p := ⟨ba, oa + i, none⟩) la).trans e1
          clear hown1 hgrow hat hlt' own lgz gb B e1 hm O5
          go_wp2_with (at_builtin; refine wpList_append_lies _ rfl _ _ _ rfl w.heap.size 2 i0 _ 1 8 Try.underlying31 hi hz0 hz1 hz2 rfl (by omega) _ _ _ rfl (own5.out.alloc _) ⟨w5.heap.size, 0, none⟩ 1 1 [.int .i64 y] rfl rfl (World.news_of_block (cs := #[.int .i64 y]) (t := 2) (fr := (0, 0)) (heap_alloc_new w5 _)) (by simp [Value.oneCell']) (by omega) (by unfold maxLen; omega) (by omega) (by simp only [World.size_alloc]; omega) _ rfl ?_)
          intro gg6 cap6 w6 hown1 hgrow hat hlt'
          have gb := grownBy_trans' (World.grownBy_alloc w5 _ _) hgrow
          have B6 : Hid (Below w.heap.size w w6) := B5.out.grown gb (by omega) (fun j e => (lg5 j e).1)
          have O6 : Hid (OwnI w6 w.heap.size (.slice (some ⟨gg6, 0, none⟩) (m + 1 + 1) cap6) ((ys ++ [x]) ++ [y])) := own_of M5.out (by simpa using hown1)
          have M6 : Hid (m + 1 + 1 = ((ys ++ [x]) ++ [y]).length) := by show _ = _; rw [List.length_append, ← M5.out]; rfl
          clear hown1 hgrow hat hlt' own5 lg5 gb B5 e5 M5
          go_wp2
          exact ⟨⟨i + 1, m + 1 + 1, cap6, _, _, _, by omega, by omega, by go_num, rfl, rfl, M6, P1, O6, B6⟩, by simp only [intOf]; omega⟩
    · obtain rfl : i = n := by omega
      cases d with
      | true =>
        have e : ys = putL zs x := Puts.done (by have := hp.out; rwa [HN.out] at this)
        have O1 : Hid (OwnI wr w.heap.size (.slice ad m c1) (putL zs x)) := by have := ho.out; rwa [e] at this
        clear ho hp e
        go_wp2
        go_ret
        exact ⟨_, rfl, O1.out, B.out⟩
      | false =>
        have e : ys ++ [x] = putL zs x := Puts.last (by have := hp.out; rwa [HN.out] at this)
        have EE := Lib.hid e
        have own := Lib.hid (own_len hm.out ho.out)
        have lgz := own.out.lt
        clear ho hp e
        go_wp2_with (at_builtin; refine wpList_append_lies _ rfl _ _ _ rfl w.heap.size 2 i0 _ 1 8 Try.underlying31 hi hz0 hz1 hz2 rfl (by omega) _ _ _ rfl (own.out.alloc _) ⟨wr.heap.size, 0, none⟩ 1 1 [.int .i64 x] rfl rfl (World.news_of_block (cs := #[.int .i64 x]) (t := 2) (fr := (0, 0)) (heap_alloc_new wr _)) (by simp [Value.oneCell']) (by omega) (by unfold maxLen; omega) (by omega) (by simp only [World.size_alloc]; omega) _ rfl ?_)
        intro gg cap1 w5 hown1 hgrow hat hlt'
        have gb := grownBy_trans' (World.grownBy_alloc wr _ _) hgrow
        have B5 : Hid (Below w.heap.size w w5) := B.out.grown gb (by have := B.out.size; omega) (fun j e => (lgz j e).1)
        have O5 : Hid (OwnI w5 w.heap.size (.slice (some ⟨gg, 0, none⟩) (m + 1) cap1) (putL zs x)) := by show OwnI _ _ _ _; rw [← EE.out]; exact own_of hm.out hown1
        clear hown1 hgrow hat hlt' own lgz gb B hm
        go_wp2
        go_ret
        exact ⟨_, rfl, O5.out, B5.out⟩
end Go.Proofs.Ytmdddjhlfpmgdab
