/- The specification's joints of rings. -/
import Derived.Test.YtgockhlainnnnacDoorHas
import Derived.Test.YtgockhlainnnnacDoorTubes
import Derived.Test.YtgockhlainnnnacDoorAppends
import Derived.Deep.RegionHeld3
import Derived.StillTailTactics
import Derived.WalkSpells
namespace Go.Proofs.YtgockhlainnnnacDoor
open Go.ChangeShapes Go.WideShapes Go.ChangeAt Go.RowKit
set_option linter.unusedVariables false
set_option linter.unusedSimpArgs false

theorem RdI.grown {w w' : World} {v : Value} {zs : List Int} {row : Option Nat} (h : RdI w v zs) (hg : w.grownBy w' row) (hne : ∀ b, v.ownBlock = some b → row ≠ some b) : RdI w' v zs := by
  obtain ⟨a, cap, rfl, h | ⟨b, off, rfl, h⟩⟩ := h
  · exact ⟨a, cap, rfl, .inl h⟩
  · refine ⟨_, cap, rfl, .inr ⟨b, off, rfl, fun i x hx => ?_⟩⟩
    have c := h i x hx
    have hb := block_lt_of_cell c
    exact (World.cell?_of_block (w := w) (a := ⟨b, off + i, none⟩) (hg.block b hb (fun e => hne b rfl e.symm))).trans c

/-- What is still to come of a list into which n is put: behind n, or with it. -/
def restJ (n : Int) (done : Bool) (xs : List Int) : List Int := if done then xs else putL n xs

theorem restL_step (n x : Int) (xs : List Int) (k : Nat) (hx : xs[k]? = some x) (out : List Int) (done : Bool) :
    out ++ restJ n done (xs.drop k) = (out ++ (if done = false ∧ n < x then [n] else []) ++ [x]) ++ restJ n (done || decide (n ≤ x)) (xs.drop (k + 1)) := by
  have e : xs.drop k = x :: xs.drop (k + 1) := by
    obtain ⟨hk, rfl⟩ := List.getElem?_eq_some_iff.1 hx
    exact List.drop_eq_getElem_cons hk
  rw [e]
  cases done with
  | true => simp [restJ]
  | false =>
    by_cases h1 : n ≤ x
    · by_cases h2 : n < x
      · simp [restJ, putL, h1, h2]
      · simp [restJ, putL, h1, h2]
    · have h2 : ¬ n < x := by omega
      simp [restJ, putL, h1, h2]

theorem info_i64' : (Tryd.prog.info? 2).map (fun i => (i.zero, i.size, i.bytes)) = some (some (.int .i64 0), 1, 8) := by kernel_rfl

set_option maxRecDepth 100000 in
set_option maxHeartbeats 4000000 in
theorem l00Put_any (v : Value) (xs : List Int) (n : Int) (w : World) (h : RdI w v xs) (lx : xs.length ≤ 1048576) :
    Calls Tryd.prog 71 #[v, .int .i64 n] w fun e w' => ∃ v', e = .returned v' ∧ OwnI w' w.heap.size v' (putL n xs) ∧ Below w.heap.size w w' := by
  obtain ⟨i0, hi, hz0, hz1, hz2⟩ := info_parts info_i64'
  have H := Lib.hid h
  obtain ⟨a, cap, rfl, _⟩ := h
  obtain ⟨N, hN⟩ : ∃ N, N = xs.length := ⟨_, rfl⟩
  rw [← hN] at H lx
  rw [← hN]
  have HN := Lib.hid hN
  clear hN
  go_enter Tryd.func71, Tryd.ntmps71
  go_wp2
  have O0 : Hid (OwnI (w.alloc (.cells #[] 2)) w.heap.size (.slice (some ⟨w.heap.size, 0, none⟩) 0 0) []) :=
    World.ownsRow_lit (e := 2) (size := 1) w #[] 0 (Nat.le_refl _) (by decide) rfl
  have B0 : Hid (Below w.heap.size w (w.alloc (.cells #[] 2))) := (Below.refl _ _).alloc (Nat.le_refl _) _
  go_loopw [5, 6, 7] (fun ov dv iv wr => ∃ (k g m c1 : Nat) (d : Bool) (ys : List Int), k ≤ N ∧ iv = .int .i64 k ∧ dv = .bool d ∧ ov = .slice (some ⟨g, 0, none⟩) m c1 ∧ Hid (m = ys.length) ∧ m ≤ k + 1 ∧ Hid (d = false → m ≤ k) ∧ Hid (OwnI wr w.heap.size (.slice (some ⟨g, 0, none⟩) m c1) ys) ∧ Hid (ys ++ restJ n d (xs.drop k) = putL n xs) ∧ Hid (Below w.heap.size w wr)) (fun _ _ iv _ => N - (intOf iv).toNat)
  case atStart => exact ⟨0, w.heap.size, 0, 0, false, [], by omega, rfl, rfl, rfl, rfl, by omega, fun _ => Nat.le_refl _, O0, by show _ = _; simp [restJ], B0⟩
  case round =>
    obtain ⟨k, g, m, c1, d, ys, hk, rfl, rfl, rfl, hm, hm2, hmd, ho, hrest, B⟩ := hrel
    clear O0 B0
    have hsz := B.out.size
    by_cases hlt : k < N
    · obtain ⟨x, hx⟩ : ∃ x, xs[k]? = some x := ⟨_, List.getElem?_eq_getElem (by have := HN.out; omega)⟩
      obtain ⟨ba, oa, rfl, e0⟩ := (H.out.later B.out).at1 k x hx
      have hst := restL_step n x xs k hx ys d
      have own := ho.out
      unfold OwnI at own
      rw [← hm.out] at own
      have OWN := Lib.hid own
      have HX := Lib.hid hx
      have HST := Lib.hid hst
      clear hx hst own
      cases d with
      | true =>
        go_wp2_with (at_builtin; refine wpList_append_lies _ rfl _ _ _ rfl w.heap.size 2 i0 _ 1 8 Tryd.underlying23 hi hz0 hz1 hz2 rfl (by omega) _ _ _ rfl (OWN.out.alloc _) ⟨wr.heap.size, 0, none⟩ 1 1 [.int .i64 x] rfl rfl (World.news_of_block (cs := #[.int .i64 x]) (t := 2) (fr := (0, 0)) (heap_alloc_new wr _)) (by simp [Value.oneCell']) (by omega) (by unfold maxLen; omega) (by omega) (by simp; omega) _ rfl ?_)
        intro gg cap1 w5 hown1 hgrow hat hlt'
        have O5 : Hid (OwnI w5 w.heap.size (.slice (some ⟨gg, 0, none⟩) (m + 1) cap1) (ys ++ [x])) := by
          show OwnI _ _ _ _
          unfold OwnI
          rw [List.length_append, ← hm.out, List.map_append]
          exact hown1
        have B5 : Hid (Below w.heap.size w w5) := B.out.grown (grownBy_trans' (World.grownBy_alloc wr _ _) hgrow) hsz (fun j e => by cases e; exact (OWN.out.lt g rfl).1)
        have R5 : Hid ((ys ++ [x]) ++ restJ n true (xs.drop (k + 1)) = putL n xs) := by
          have e := hrest.out
          rw [HST.out] at e
          show _ = _
          rw [← e]
          simp
        have M5 : Hid (m + 1 = (ys ++ [x]).length) := by show _ = _; rw [List.length_append, ← hm.out]; rfl
        clear hown1 hgrow hat hlt' ho hrest B e0 hm
        go_wp2
        exact ⟨⟨k + 1, gg, m + 1, cap1, true, ys ++ [x], by omega, by go_num, rfl, rfl, M5, by omega, fun e => (by cases e), O5, R5, B5⟩, by simp only [intOf]; omega⟩
      | false =>
        have hmk : m ≤ k := hmd.out rfl
        by_cases h1 : n ≤ x
        · by_cases h2 : n < x
          · have hm3 : m + 1 + 1 ≤ k + 1 + 1 := by omega
            go_wp2_with (at_builtin; refine wpList_append_lies _ rfl _ _ _ rfl w.heap.size 2 i0 _ 1 8 Tryd.underlying23 hi hz0 hz1 hz2 rfl (by omega) _ _ _ rfl (OWN.out.alloc _) ⟨wr.heap.size, 0, none⟩ 1 1 [.int .i64 n] rfl rfl (World.news_of_block (cs := #[.int .i64 n]) (t := 2) (fr := (0, 0)) (heap_alloc_new wr _)) (by simp [Value.oneCell']) (by omega) (by unfold maxLen; omega) (by omega) (by simp; omega) _ rfl ?_)
            intro gg cap1 w5 hown1 hgrow hat hlt'
            have B5 : Hid (Below w.heap.size w w5) := B.out.grown (grownBy_trans' (World.grownBy_alloc wr _ _) hgrow) hsz (fun j e => by cases e; exact (OWN.out.lt g rfl).1)
            have hsz5 := B5.out.size
            obtain ⟨ba', oa', hba, e5⟩ := (H.out.later B5.out).at1 k x HX.out
            simp only [Option.some.injEq, Addr.mk.injEq, and_true] at hba
            obtain ⟨rfl, rfl⟩ := hba
            have OWN5 := Lib.hid hown1
            clear hown1 hgrow hat hlt' e0
            go_wp2_with (at_builtin; refine wpList_append_lies _ rfl _ _ _ rfl w.heap.size 2 i0 _ 1 8 Tryd.underlying23 hi hz0 hz1 hz2 rfl (by omega) _ _ _ rfl (OWN5.out.alloc _) ⟨w5.heap.size, 0, none⟩ 1 1 [.int .i64 x] rfl rfl (World.news_of_block (cs := #[.int .i64 x]) (t := 2) (fr := (0, 0)) (heap_alloc_new w5 _)) (by simp [Value.oneCell']) (by omega) (by unfold maxLen; omega) (by omega) (by simp; omega) _ rfl ?_)
            intro gg2 cap2 w6 hown1 hgrow hat hlt'
            have O6 : Hid (OwnI w6 w.heap.size (.slice (some ⟨gg2, 0, none⟩) (m + 1 + 1) cap2) (ys ++ [n] ++ [x])) := by
              show OwnI _ _ _ _
              unfold OwnI
              have hl : ys.length = m := hm.out.symm
              simp only [List.length_append, List.map_append, List.map_cons, List.map_nil, List.length_cons, List.length_nil, hl]
              simpa using hown1
            have B6 : Hid (Below w.heap.size w w6) := B5.out.grown (grownBy_trans' (World.grownBy_alloc w5 _ _) hgrow) hsz5 (fun j e => by cases e; exact (OWN5.out.lt gg rfl).1)
            have R6 : Hid ((ys ++ [n] ++ [x]) ++ restJ n true (xs.drop (k + 1)) = putL n xs) := by
              have e := hrest.out
              rw [HST.out] at e
              show _ = _
              rw [← e]
              simp [h1, h2]
            have M6 : Hid (m + 1 + 1 = (ys ++ [n] ++ [x]).length) := by show _ = _; rw [List.length_append, List.length_append, ← hm.out]; rfl
            clear hown1 hgrow hat hlt' ho hrest B B5 e5 hm h1 h2
            go_wp2
            exact ⟨⟨k + 1, gg2, m + 1 + 1, cap2, true, ys ++ [n] ++ [x], by omega, by go_num, rfl, rfl, M6, hm3, fun e => (by cases e), O6, R6, B6⟩, by simp only [intOf]; omega⟩
          · 
            go_wp2_with (at_builtin; refine wpList_append_lies _ rfl _ _ _ rfl w.heap.size 2 i0 _ 1 8 Tryd.underlying23 hi hz0 hz1 hz2 rfl (by omega) _ _ _ rfl (OWN.out.alloc _) ⟨wr.heap.size, 0, none⟩ 1 1 [.int .i64 x] rfl rfl (World.news_of_block (cs := #[.int .i64 x]) (t := 2) (fr := (0, 0)) (heap_alloc_new wr _)) (by simp [Value.oneCell']) (by omega) (by unfold maxLen; omega) (by omega) (by simp; omega) _ rfl ?_)
            intro gg cap1 w5 hown1 hgrow hat hlt'
            have O5 : Hid (OwnI w5 w.heap.size (.slice (some ⟨gg, 0, none⟩) (m + 1) cap1) (ys ++ [x])) := by
              show OwnI _ _ _ _
              unfold OwnI
              rw [List.length_append, ← hm.out, List.map_append]
              exact hown1
            have B5 : Hid (Below w.heap.size w w5) := B.out.grown (grownBy_trans' (World.grownBy_alloc wr _ _) hgrow) hsz (fun j e => by cases e; exact (OWN.out.lt g rfl).1)
            have R5 : Hid ((ys ++ [x]) ++ restJ n true (xs.drop (k + 1)) = putL n xs) := by
              have e := hrest.out
              rw [HST.out] at e
              show _ = _
              rw [← e]
              simp [h1, h2]
            have M5 : Hid (m + 1 = (ys ++ [x]).length) := by show _ = _; rw [List.length_append, ← hm.out]; rfl
            clear hown1 hgrow hat hlt' ho hrest B e0 hm h1 h2
            go_wp2
            exact ⟨⟨k + 1, gg, m + 1, cap1, true, ys ++ [x], by omega, by go_num, rfl, rfl, M5, by omega, fun e => (by cases e), O5, R5, B5⟩, by simp only [intOf]; omega⟩
        · 
          go_wp2_with (at_builtin; refine wpList_append_lies _ rfl _ _ _ rfl w.heap.size 2 i0 _ 1 8 Tryd.underlying23 hi hz0 hz1 hz2 rfl (by omega) _ _ _ rfl (OWN.out.alloc _) ⟨wr.heap.size, 0, none⟩ 1 1 [.int .i64 x] rfl rfl (World.news_of_block (cs := #[.int .i64 x]) (t := 2) (fr := (0, 0)) (heap_alloc_new wr _)) (by simp [Value.oneCell']) (by omega) (by unfold maxLen; omega) (by omega) (by simp; omega) _ rfl ?_)
          intro gg cap1 w5 hown1 hgrow hat hlt'
          have O5 : Hid (OwnI w5 w.heap.size (.slice (some ⟨gg, 0, none⟩) (m + 1) cap1) (ys ++ [x])) := by
            show OwnI _ _ _ _
            unfold OwnI
            rw [List.length_append, ← hm.out, List.map_append]
            exact hown1
          have B5 : Hid (Below w.heap.size w w5) := B.out.grown (grownBy_trans' (World.grownBy_alloc wr _ _) hgrow) hsz (fun j e => by cases e; exact (OWN.out.lt g rfl).1)
          have R5 : Hid ((ys ++ [x]) ++ restJ n false (xs.drop (k + 1)) = putL n xs) := by
            have e := hrest.out
            rw [HST.out] at e
            show _ = _
            rw [← e]
            simp [show ¬ n ≤ x by omega, show ¬ n < x by omega]
          have M5 : Hid (m + 1 = (ys ++ [x]).length) := by show _ = _; rw [List.length_append, ← hm.out]; rfl
          clear hown1 hgrow hat hlt' ho hrest B e0 hm h1
          go_wp2
          exact ⟨⟨k + 1, gg, m + 1, cap1, false, ys ++ [x], by omega, by go_num, rfl, rfl, M5, by omega, fun _ => (by omega), O5, R5, B5⟩, by simp only [intOf]; omega⟩
    · obtain rfl : k = N := by omega
      have own := ho.out
      unfold OwnI at own
      rw [← hm.out] at own
      have OWN := Lib.hid own
      clear own
      cases d with
      | true =>
        have O5 : Hid (OwnI wr w.heap.size (.slice (some ⟨g, 0, none⟩) m c1) (putL n xs)) := by
          have e := hrest.out
          rw [List.drop_of_length_le (by have := HN.out; omega)] at e
          show OwnI _ _ _ _
          rw [← e]
          simpa [restJ] using ho.out
        clear ho hrest hm
        go_wp2
        go_ret
        exact ⟨_, rfl, O5.out, B.out⟩
      | false =>
        have hr' : Hid (ys ++ [n] = putL n xs) := by
          have e := hrest.out
          rw [List.drop_of_length_le (by have := HN.out; omega)] at e
          show _ = _
          simpa [restJ, putL] using e
        clear hrest
        go_wp2_with (at_builtin; refine wpList_append_lies _ rfl _ _ _ rfl w.heap.size 2 i0 _ 1 8 Tryd.underlying23 hi hz0 hz1 hz2 rfl (by omega) _ _ _ rfl (OWN.out.alloc _) ⟨wr.heap.size, 0, none⟩ 1 1 [.int .i64 n] rfl rfl (World.news_of_block (cs := #[.int .i64 n]) (t := 2) (fr := (0, 0)) (heap_alloc_new wr _)) (by simp [Value.oneCell']) (by omega) (by unfold maxLen; omega) (by omega) (by simp; omega) _ rfl ?_)
        intro gg cap1 w5 hown1 hgrow hat hlt'
        have O5 : Hid (OwnI w5 w.heap.size (.slice (some ⟨gg, 0, none⟩) (m + 1) cap1) (putL n xs)) := by
          show OwnI _ _ _ _
          rw [← hr'.out]
          unfold OwnI
          rw [List.length_append, ← hm.out, List.map_append]
          exact hown1
        have B5 : Hid (Below w.heap.size w w5) := B.out.grown (grownBy_trans' (World.grownBy_alloc wr _ _) hgrow) hsz (fun j e => by cases e; exact (OWN.out.lt g rfl).1)
        clear hown1 hgrow hat hlt' ho B hm
        go_wp2
        go_ret
        exact ⟨_, rfl, O5.out, B5.out⟩

theorem six_get (k : Nat) (hk : k < 6) : ∃ s : Int, sixSteps[k]? = some s ∧ 0 ≤ s ∧ s ≤ 13 := by
  obtain rfl | rfl | rfl | rfl | rfl | rfl : k = 0 ∨ k = 1 ∨ k = 2 ∨ k = 3 ∨ k = 4 ∨ k = 5 := by omega
  all_goals exact ⟨_, rfl, by decide, by decide⟩

def sixCells : Array Value := #[.int .i64 0, .int .i64 1, .int .i64 4, .int .i64 7, .int .i64 10, .int .i64 13]
theorem six_cell (k : Nat) (s : Int) (h : sixSteps[k]? = some s) : sixCells[k]? = some (.int .i64 s) := by
  have : sixCells.toList = sixSteps.map (Value.int .i64) := rfl
  rw [← Array.getElem?_toList, this, List.getElem?_map, h]
  rfl

set_option maxRecDepth 100000 in
set_option maxHeartbeats 4000000 in
theorem l03Joints_any (a : Int) (ha : 0 ≤ a ∧ a ≤ 15) (w : World) :
    Calls Tryd.prog 42 #[.int .i64 a] w fun e w' => ∃ v', e = .returned v' ∧ OwnI w' w.heap.size v' (jointsL a) ∧ Below w.heap.size w w' := by
  have a0 : 0 ≤ a := ha.1
  have a1 : a ≤ 15 := ha.2
  clear ha
  go_enter Tryd.func42, Tryd.ntmps42
  go_wp2
  have O0 : Hid (OwnI ((w.alloc (.cells #[] 2)).alloc (.cells #[.int .i64 0, .int .i64 1, .int .i64 4, .int .i64 7, .int .i64 10, .int .i64 13] 2)) w.heap.size (.slice (some ⟨w.heap.size, 0, none⟩) 0 0) []) := by
    have e : OwnI (w.alloc (.cells #[] 2)) w.heap.size (.slice (some ⟨w.heap.size, 0, none⟩) 0 0) [] := World.ownsRow_lit (e := 2) (size := 1) w #[] 0 (Nat.le_refl _) (by decide) rfl
    exact World.ownsRow.alloc e _
  have C0 : Hid (((w.alloc (.cells #[] 2)).alloc (.cells #[.int .i64 0, .int .i64 1, .int .i64 4, .int .i64 7, .int .i64 10, .int .i64 13] 2)).heap[w.heap.size + 1]? = some (.cells sixCells 2 (0, 0))) := heap_alloc2_new w _ _
  have B0 : Hid (Below w.heap.size w ((w.alloc (.cells #[] 2)).alloc (.cells #[.int .i64 0, .int .i64 1, .int .i64 4, .int .i64 7, .int .i64 10, .int .i64 13] 2))) := by show Below _ _ _; go_grown
  have z0 : w.heap.size + 1 < ((w.alloc (.cells #[] 2)).alloc (.cells #[.int .i64 0, .int .i64 1, .int .i64 4, .int .i64 7, .int .i64 10, .int .i64 13] 2)).heap.size := by simp
  go_loopw [3, 5] (fun ov iv wr => ∃ k : Nat, k ≤ 6 ∧ iv = .int .i64 k ∧ Hid (OwnI wr w.heap.size ov (putAll a (sixSteps.take k))) ∧ Hid (wr.heap[w.heap.size + 1]? = some (.cells sixCells 2 (0, 0))) ∧ Hid (Below w.heap.size w wr) ∧ w.heap.size + 1 < wr.heap.size) (fun _ iv _ => 6 - (intOf iv).toNat)
  case atStart => exact ⟨0, by omega, rfl, O0, C0, B0, z0⟩
  case round =>
    obtain ⟨k, hk, rfl, ho, hc, B, hz⟩ := hrel
    clear O0 C0 B0 z0
    by_cases hlt : k < 6
    · obtain ⟨s, hs, s0, s1⟩ := six_get k hlt
      have e0 : wr.cell? ⟨w.heap.size + 1, k, none⟩ = some (.int .i64 s) := by
        exact (cell_of_row wr (w.heap.size + 1) k sixCells _ _ hc.out).trans (six_cell k s hs)
      have q1 : IntKind.i64.wrap (a + s) = a + s := IntWalk.i64_in _ (by omega)
      have q2 : IntKind.i64.wrap ((a + s).tmod 16) = (a + s).tmod 16 := IntWalk.i64_in _ (by have := tmod_bd (a + s) 16 (by omega); omega)
      have ln : (putAll a (sixSteps.take k)).length ≤ 1048576 := by have := putAll_length a (sixSteps.take k); rw [List.length_take] at this; omega
      have HS := Lib.hid hs
      have LN := Lib.hid ln
      have i1 : (k : Int) < 6 := by omega
      clear hs ln
      go_wp2_with fail
      refine (l00Put_any _ _ _ _ ho.out.rd LN.out).mono ?_
      rintro e w2 ⟨v2, rfl, o2, b2⟩
      have O2 : Hid (OwnI w2 w.heap.size v2 (putAll a (sixSteps.take (k + 1)))) := by
        rw [show Hid (OwnI w2 w.heap.size v2 (putAll a (sixSteps.take (k + 1)))) = OwnI w2 w.heap.size v2 (putAll a (sixSteps.take (k + 1))) from rfl, putAll_succ a _ k s HS.out, Int.tmod_eq_emod_of_nonneg (show 0 ≤ a + s by omega)]
        exact o2.mono (show w.heap.size ≤ wr.heap.size by omega)
      have C2 := Lib.hid ((b2.block (w.heap.size + 1) hz).trans hc.out)
      have B2 : Hid (Below w.heap.size w w2) := B.out.trans (b2.mono B.out.size)
      have z2 : w.heap.size + 1 < w2.heap.size := Nat.lt_of_lt_of_le hz b2.size
      clear o2 b2 ho hc B e0 q1 q2
      go_wp2
      exact ⟨⟨k + 1, by omega, by go_num, O2, C2, B2, z2⟩, by simp only [intOf]; omega⟩
    · obtain rfl : k = 6 := by omega
      clear hlt
      go_wp2
      go_ret
      exact ⟨_, rfl, ho.out, B.out⟩

theorem five_get (k : Nat) (hk : k < 5) : ∃ s : Int, fiveSteps[k]? = some s ∧ 0 ≤ s ∧ s ≤ 14 := by
  obtain rfl | rfl | rfl | rfl | rfl : k = 0 ∨ k = 1 ∨ k = 2 ∨ k = 3 ∨ k = 4 := by omega
  all_goals exact ⟨_, rfl, by decide, by decide⟩

def fiveCells : Array Value := #[.int .i64 2, .int .i64 5, .int .i64 8, .int .i64 11, .int .i64 14]
theorem five_cell (k : Nat) (s : Int) (h : fiveSteps[k]? = some s) : fiveCells[k]? = some (.int .i64 s) := by
  have : fiveCells.toList = fiveSteps.map (Value.int .i64) := rfl
  rw [← Array.getElem?_toList, this, List.getElem?_map, h]
  rfl

set_option maxRecDepth 100000 in
set_option maxHeartbeats 4000000 in
theorem l03Next_any (a : Int) (ha : 0 ≤ a ∧ a ≤ 15) (w : World) :
    Calls Tryd.prog 48 #[.int .i64 a] w fun e w' => ∃ v', e = .returned v' ∧ OwnI w' w.heap.size v' (nextL a) ∧ Below w.heap.size w w' := by
  have a0 : 0 ≤ a := ha.1
  have a1 : a ≤ 15 := ha.2
  clear ha
  go_enter Tryd.func48, Tryd.ntmps48
  go_wp2
  have O0 : Hid (OwnI ((w.alloc (.cells #[] 2)).alloc (.cells #[.int .i64 2, .int .i64 5, .int .i64 8, .int .i64 11, .int .i64 14] 2)) w.heap.size (.slice (some ⟨w.heap.size, 0, none⟩) 0 0) []) := by
    have e : OwnI (w.alloc (.cells #[] 2)) w.heap.size (.slice (some ⟨w.heap.size, 0, none⟩) 0 0) [] := World.ownsRow_lit (e := 2) (size := 1) w #[] 0 (Nat.le_refl _) (by decide) rfl
    exact World.ownsRow.alloc e _
  have C0 : Hid (((w.alloc (.cells #[] 2)).alloc (.cells #[.int .i64 2, .int .i64 5, .int .i64 8, .int .i64 11, .int .i64 14] 2)).heap[w.heap.size + 1]? = some (.cells fiveCells 2 (0, 0))) := heap_alloc2_new w _ _
  have B0 : Hid (Below w.heap.size w ((w.alloc (.cells #[] 2)).alloc (.cells #[.int .i64 2, .int .i64 5, .int .i64 8, .int .i64 11, .int .i64 14] 2))) := by show Below _ _ _; go_grown
  have z0 : w.heap.size + 1 < ((w.alloc (.cells #[] 2)).alloc (.cells #[.int .i64 2, .int .i64 5, .int .i64 8, .int .i64 11, .int .i64 14] 2)).heap.size := by simp
  go_loopw [3, 5] (fun ov iv wr => ∃ k : Nat, k ≤ 5 ∧ iv = .int .i64 k ∧ Hid (OwnI wr w.heap.size ov (putAll a (fiveSteps.take k))) ∧ Hid (wr.heap[w.heap.size + 1]? = some (.cells fiveCells 2 (0, 0))) ∧ Hid (Below w.heap.size w wr) ∧ w.heap.size + 1 < wr.heap.size) (fun _ iv _ => 5 - (intOf iv).toNat)
  case atStart => exact ⟨0, by omega, rfl, O0, C0, B0, z0⟩
  case round =>
    obtain ⟨k, hk, rfl, ho, hc, B, hz⟩ := hrel
    clear O0 C0 B0 z0
    by_cases hlt : k < 5
    · obtain ⟨s, hs, s0, s1⟩ := five_get k hlt
      have e0 : wr.cell? ⟨w.heap.size + 1, k, none⟩ = some (.int .i64 s) := by
        exact (cell_of_row wr (w.heap.size + 1) k fiveCells _ _ hc.out).trans (five_cell k s hs)
      have q1 : IntKind.i64.wrap (a + s) = a + s := IntWalk.i64_in _ (by omega)
      have q2 : IntKind.i64.wrap ((a + s).tmod 16) = (a + s).tmod 16 := IntWalk.i64_in _ (by have := tmod_bd (a + s) 16 (by omega); omega)
      have ln : (putAll a (fiveSteps.take k)).length ≤ 1048576 := by have := putAll_length a (fiveSteps.take k); rw [List.length_take] at this; omega
      have HS := Lib.hid hs
      have LN := Lib.hid ln
      have i1 : (k : Int) < 5 := by omega
      clear hs ln
      go_wp2_with fail
      refine (l00Put_any _ _ _ _ ho.out.rd LN.out).mono ?_
      rintro e w2 ⟨v2, rfl, o2, b2⟩
      have O2 : Hid (OwnI w2 w.heap.size v2 (putAll a (fiveSteps.take (k + 1)))) := by
        rw [show Hid (OwnI w2 w.heap.size v2 (putAll a (fiveSteps.take (k + 1)))) = OwnI w2 w.heap.size v2 (putAll a (fiveSteps.take (k + 1))) from rfl, putAll_succ a _ k s HS.out, Int.tmod_eq_emod_of_nonneg (show 0 ≤ a + s by omega)]
        exact o2.mono (show w.heap.size ≤ wr.heap.size by omega)
      have C2 := Lib.hid ((b2.block (w.heap.size + 1) hz).trans hc.out)
      have B2 : Hid (Below w.heap.size w w2) := B.out.trans (b2.mono B.out.size)
      have z2 : w.heap.size + 1 < w2.heap.size := Nat.lt_of_lt_of_le hz b2.size
      clear o2 b2 ho hc B e0 q1 q2
      go_wp2
      exact ⟨⟨k + 1, by omega, by go_num, O2, C2, B2, z2⟩, by simp only [intOf]; omega⟩
    · obtain rfl : k = 5 := by omega
      clear hlt
      go_wp2
      go_ret
      exact ⟨_, rfl, ho.out, B.out⟩


set_option maxRecDepth 100000 in
set_option maxHeartbeats 4000000 in
theorem l03Meet_any (a b : Int) (ha : 0 ≤ a ∧ a ≤ 15) (hb : 0 ≤ b ∧ b ≤ 15) (w : World) :
    Calls Tryd.prog 46 #[.int .i64 a, .int .i64 b] w fun e w' => ∃ v', e = .returned v' ∧ OwnI w' w.heap.size v' (meetL a b) ∧ Below w.heap.size w w' := by
  obtain ⟨i0, hi, hz0, hz1, hz2⟩ := info_parts info_i64'
  have c1 := Lib.hid (fun w => l03Joints_any a ha w)
  have c2 := Lib.hid (fun w => l03Joints_any b hb w)
  have la : (jointsL a).length ≤ 6 := putAll_length a sixSteps
  have lb : (jointsL b).length ≤ 6 := putAll_length b sixSteps
  obtain ⟨X, hX⟩ : ∃ X, X = jointsL a := ⟨_, rfl⟩
  obtain ⟨Y, hY⟩ : ∃ Y, Y = jointsL b := ⟨_, rfl⟩
  have hM : meetL a b = X.filter fun x => decide (x ∈ Y) := by rw [hX, hY]; rfl
  rw [hM]
  rw [← hX] at c1 la
  rw [← hY] at c2 lb
  have LB := Lib.hid lb
  clear hX hY hM ha hb lb
  go_enter Tryd.func46, Tryd.ntmps46
  go_wp2_with fail
  refine (c1.out _).mono ?_
  rintro e w1 ⟨v1, rfl, o1, b1⟩
  have z1 := b1.size
  simp only [World.size_alloc] at z1
  have O0 : OwnI w1 w.heap.size (.slice (some ⟨w.heap.size, 0, none⟩) 0 0) [] := by
    have e : OwnI (w.alloc (.cells #[] 2)) w.heap.size (.slice (some ⟨w.heap.size, 0, none⟩) 0 0) [] := World.ownsRow_lit (e := 2) (size := 1) w #[] 0 (Nat.le_refl _) (by decide) rfl
    exact e.below b1 (fun k hk => (e.lt k hk).2)
  have B1 : Hid (Below w.heap.size w w1) := Below.trans (by go_grown) (b1.mono (by simp only [World.size_alloc]; omega))
  have OX := Lib.hid o1
  have O1 := Lib.hid O0
  clear b1 o1 O0
  go_wp2_with fail
  refine (c2.out _).mono ?_
  rintro e w2 ⟨v2, rfl, o2, b2⟩
  have z2 := b2.size
  have RX : Hid (RdI w2 v1 X) := (OX.out.below b2 (fun k hk => (OX.out.lt k hk).2)).rd
  have O2 : Hid (OwnI w2 w.heap.size (.slice (some ⟨w.heap.size, 0, none⟩) 0 0) []) := O1.out.below b2 (fun k hk => (O1.out.lt k hk).2)
  have RY : Hid (RdI w2 v2 Y) := o2.rd
  have LX : Hid (∀ k, v1.ownBlock = some k → k < w2.heap.size ∧ w.heap.size + 1 ≤ k) := fun k hk => by have := OX.out.lt k hk; simp only [World.size_alloc] at this; omega
  have LY : Hid (∀ k, v2.ownBlock = some k → k < w2.heap.size ∧ w.heap.size + 1 ≤ k) := fun k hk => by have := o2.lt k hk; omega
  have B2 : Hid (Below w.heap.size w w2) := B1.out.trans (b2.mono (by omega))
  obtain ⟨N, hN⟩ : ∃ N, N = X.length := ⟨_, rfl⟩
  rw [← hN] at la
  obtain ⟨ax, cx, rfl, hx0⟩ := RX.out
  rw [← hN] at RX LX
  rw [← hN]
  have HN := Lib.hid hN
  clear b2 o2 OX O1 B1 c1 c2 hx0 hN
  go_wp2
  go_loopw [5, 8] (fun ov iv wr => ∃ (k g m c1 : Nat) (ys : List Int), k ≤ N ∧ iv = .int .i64 k ∧ ov = .slice (some ⟨g, 0, none⟩) m c1 ∧ Hid (m = ys.length) ∧ m ≤ k ∧ Hid (ys = (X.take k).filter fun x => decide (x ∈ Y)) ∧ Hid (OwnI wr w.heap.size (.slice (some ⟨g, 0, none⟩) m c1) ys) ∧ Hid (RdI wr (.slice ax N cx) X) ∧ Hid (RdI wr v2 Y) ∧ Hid (Below w.heap.size w wr) ∧ (g = w.heap.size ∨ w2.heap.size ≤ g) ∧ w2.heap.size ≤ wr.heap.size) (fun _ iv _ => N - (intOf iv).toNat)
  case atStart => exact ⟨0, w.heap.size, 0, 0, [], by omega, rfl, rfl, rfl, by omega, by show _ = _; simp, O2, RX, RY, B2, .inl rfl, by omega⟩
  case round =>
    obtain ⟨k, g, m, c1, ys, hk, rfl, rfl, hm, hm2, hys, ho, rx, ry, B, hg, hz⟩ := hrel
    clear O2 RX RY B2
    have hsz := B.out.size
    by_cases hlt : k < N
    · obtain ⟨x, hx⟩ : ∃ x, X[k]? = some x := ⟨_, List.getElem?_eq_getElem (by have := HN.out; omega)⟩
      obtain ⟨ba, oa, rfl, e0⟩ := rx.out.at1 k x hx
      have own := ho.out
      unfold OwnI at own
      rw [← hm.out] at own
      have OWN := Lib.hid own
      clear own
      by_cases hin : x ∈ Y
      · have HH := Lib.hid (fun w (r : RdI w v2 Y) => l00Has_any v2 Y x w r (by have := LB.out; omega) true ⟨fun _ => hin, fun _ => rfl⟩)
        have Y5 : Hid (ys ++ [x] = (X.take (k + 1)).filter fun x => decide (x ∈ Y)) := by
          show _ = _
          rw [List.take_add_one, hx, List.filter_append, ← hys.out]
          simp [hin]
        clear hx hin
        go_wp2_with fail
        refine (HH.out _ ry.out).mono ?_
        rintro e w4 ⟨rfl, hw4⟩
        subst hw4
        go_wp2_with (at_builtin; refine wpList_append_lies _ rfl _ _ _ rfl w.heap.size 2 i0 _ 1 8 Tryd.underlying23 hi hz0 hz1 hz2 rfl (by omega) _ _ _ rfl (OWN.out.alloc _) ⟨w4.heap.size, 0, none⟩ 1 1 [.int .i64 x] rfl rfl (World.news_of_block (cs := #[.int .i64 x]) (t := 2) (fr := (0, 0)) (heap_alloc_new w4 _)) (by simp [Value.oneCell']) (by omega) (by unfold maxLen; omega) (by omega) (by simp; omega) _ rfl ?_)
        intro gg cap1 w5 hown1 hgrow hat hlt'
        have O5 : Hid (OwnI w5 w.heap.size (.slice (some ⟨gg, 0, none⟩) (m + 1) cap1) (ys ++ [x])) := by
          show OwnI _ _ _ _
          unfold OwnI
          rw [List.length_append, ← hm.out, List.map_append]
          exact hown1
        have gb : w4.grownBy w5 (some g) := grownBy_trans' (World.grownBy_alloc w4 _ _) hgrow
        have B5 : Hid (Below w.heap.size w w5) := B.out.grown gb hsz (fun j e => by cases e; exact (OWN.out.lt g rfl).1)
        have rx5 : Hid (RdI w5 (.slice (some ⟨ba, oa, none⟩) N cx) X) := rx.out.grown gb (fun b e => by intro e2; have e1 := LX.out b e; cases e2; omega)
        have ry5 : Hid (RdI w5 v2 Y) := ry.out.grown gb (fun b e => by intro e2; have e1 := LY.out b e; cases e2; omega)
        have z5 : w2.heap.size ≤ w5.heap.size := Nat.le_trans hz gb.size
        have hgg : gg = w.heap.size ∨ w2.heap.size ≤ gg := by
          rcases hat with h | h
          · have h' : g = gg := Option.some.inj h
            omega
          · right
            first | omega | (simp at h; omega)
        have M5 : Hid (m + 1 = (ys ++ [x]).length) := by show _ = _; rw [List.length_append, ← hm.out]; rfl
        clear hown1 hgrow hat hlt' ho B e0 hm hys rx ry gb
        go_wp2
        exact ⟨⟨k + 1, gg, m + 1, cap1, ys ++ [x], by omega, by go_num, rfl, M5, by omega, Y5, O5, rx5, ry5, B5, hgg, z5⟩, by simp only [intOf]; omega⟩
      · have HH := Lib.hid (fun w (r : RdI w v2 Y) => l00Has_any v2 Y x w r (by have := LB.out; omega) false ⟨fun h => (by cases h), fun h => absurd h hin⟩)
        have Y5 : Hid (ys = (X.take (k + 1)).filter fun x => decide (x ∈ Y)) := by
          show _ = _
          rw [List.take_add_one, hx, List.filter_append, ← hys.out]
          simp [hin]
        clear hx hin
        go_wp2_with fail
        refine (HH.out _ ry.out).mono ?_
        rintro e w4 ⟨rfl, hw4⟩
        subst hw4
        clear e0
        go_wp2
        exact ⟨⟨k + 1, g, m, c1, ys, by omega, by go_num, rfl, hm, by omega, Y5, ho, rx, ry, B, hg, hz⟩, by simp only [intOf]; omega⟩
    · obtain rfl : k = N := by omega
      have O5 : Hid (OwnI wr w.heap.size (.slice (some ⟨g, 0, none⟩) m c1) (X.filter fun x => decide (x ∈ Y))) := by
        have e := ho.out
        rw [hys.out, List.take_of_length_le (by have := HN.out; omega)] at e
        exact e
      clear ho hys
      go_wp2
      go_ret
      exact ⟨_, rfl, O5.out, B.out⟩
end Go.Proofs.YtgockhlainnnnacDoor
