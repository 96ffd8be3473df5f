/- StretchesAt on both sides. (Written by tools/mkstr.py.) -/
import Derived.Test.YthhnnkgfnhggbabStrI
import Derived.Test.YthhnnkgfnhggbabLevX
namespace Go.Proofs.Ythhnnkgfnhggbab
open Go.ChangeShapes Go.WideShapes Go.ChangeAt Go.RowKit
set_option linter.unusedVariables false
set_option linter.unusedSimpArgs false

def StrV (zs : List Int) (L : Int) : Prop := OkSe zs ∧ 1 ≤ L ∧ L ≤ 2000000

set_option maxRecDepth 100000 in
set_option maxHeartbeats 4000000 in
theorem implStr_no (v : Value) (zs : List Int) (L : Int) (w : World) (h : RdI w v zs) (lz : zs.length ≤ 1099511627776) (hv : ¬ StrV zs L) :
    Calls Try.prog 6 #[v, .int .i64 L] w fun e w' => e = .returned (.tuple #[.slice none 0 0, .bool false]) ∧ Below w.heap.size w w' := by
  obtain ⟨b1, h1⟩ := bool_is (OkSe zs)
  obtain ⟨b2, h2⟩ := bool_is (1 ≤ L ∧ L ≤ 2000000)
  have H := Lib.hid h
  have C1 := Lib.hid (fun w h => isSettled_any v zs w h lz b1 h1)
  have C2 := Lib.hid (fun w => isDepth_any L b2 h2 w)
  have HV : Hid (b1 = true → b2 = true → False) := fun e1 e2 => hv ⟨h1.mp e1, h2.mp e2⟩
  obtain ⟨a, cap, rfl, ra⟩ := h
  clear hv h1 h2 ra
  go_enter Try.func6, Try.ntmps6
  go_wp2_with fail
  refine (C1.out _ (H.out.later (by go_grown))).mono ?_
  rintro e w1 ⟨rfl, rfl⟩
  clear H
  cases b1 with
  | false =>
    go_wp2
    go_ret2
    exact ⟨rfl, by go_grown⟩
  | true =>
    go_wp2_with fail
    refine (C2.out _).mono ?_
    rintro e w1 ⟨rfl, rfl⟩
    cases b2 with
    | false =>
      go_wp2
      go_ret2
      exact ⟨rfl, by go_grown⟩
    | true => exact absurd HV.out (by simp [Hid])

set_option maxRecDepth 100000 in
set_option maxHeartbeats 4000000 in
theorem implStr_yes (v : Value) (zs : List Int) (L : Int) (w : World) (h : RdI w v zs) (lz : zs.length ≤ 1099511627776) (hv : StrV zs L) :
    Calls Try.prog 6 #[v, .int .i64 L] w fun e w' => ∃ v' xs, e = .returned (.tuple #[v', .bool true]) ∧ OwnSS w' w.heap.size w'.heap.size v' xs ∧ xs.map Sl.t = strF zs L 24 ∧ Below w.heap.size w w' := by
  obtain ⟨h1, h2, h3⟩ := hv
  have H := Lib.hid h
  have C1 := Lib.hid (fun w h => isSettled_any v zs w h lz true (by simpa using h1))
  have C2 := Lib.hid (fun w => isDepth_any L true (by simp; omega) w)
  have hl := h1.1
  have C3 := Lib.hid (fun bx w h hc => stretchesOf_any v zs L bx w h (by omega) (by omega) (by omega) hc)
  rw [hl] at C3
  obtain ⟨a, cap, rfl, ra⟩ := h
  rw [hl] at H C1 C3 ⊢
  clear h1 h2 h3 ra hl lz
  go_enter Try.func6, Try.ntmps6
  go_wp2_with fail
  refine (C1.out _ (H.out.later (by go_grown))).mono ?_
  rintro e w1 ⟨rfl, rfl⟩
  go_wp2_with fail
  refine (C2.out _).mono ?_
  rintro e w1 ⟨rfl, rfl⟩
  go_wp2_with fail
  refine (C3.out _ _ (H.out.later (by go_grown)) (by simp [go_sem])).mono ?_
  rintro e w2 ⟨v', xs, rfl, o2, mx, b2⟩
  have B2 : Hid (Below w.heap.size w w2) := Below.trans (by go_grown) (b2.mono (by simp))
  have O2 : Hid (OwnSS w2 w.heap.size w2.heap.size v' xs) := o2.wide (by simp)
  have MX := Lib.hid mx
  clear H C1 C2 C3 o2 mx b2
  go_wp2
  go_ret2
  exact ⟨v', xs, rfl, O2.out, MX.out, B2.out⟩
set_option maxRecDepth 100000 in
set_option maxHeartbeats 4000000 in
theorem specStr_no (v : Value) (zs : List Int) (L : Int) (w : World) (h : RdI w v zs) (lz : zs.length ≤ 1099511627776) (hv : ¬ StrV zs L) :
    Calls Try.prog 4 #[v, .int .i64 L] w fun e w' => e = .returned (.tuple #[.slice none 0 0, .bool false]) ∧ Below w.heap.size w w' := by
  obtain ⟨b1, h1⟩ := bool_is (OkSe zs)
  obtain ⟨b2, h2⟩ := bool_is (1 ≤ L ∧ L ≤ 2000000)
  have H := Lib.hid h
  have C1 := Lib.hid (fun w h => l07Settled_any v zs w h lz b1 h1)
  have C2 := Lib.hid (fun w => in_any L 1 2000000 b2 h2 w)
  have HV : Hid (b1 = true → b2 = true → False) := fun e1 e2 => hv ⟨h1.mp e1, h2.mp e2⟩
  obtain ⟨a, cap, rfl, ra⟩ := h
  clear hv h1 h2 ra
  go_enter Try.func4, Try.ntmps4
  go_wp2_with fail
  refine (C1.out _ (H.out.later (by go_grown))).mono ?_
  rintro e w1 ⟨rfl, rfl⟩
  clear H
  cases b1 with
  | false =>
    go_wp2
    go_ret2
    exact ⟨rfl, by go_grown⟩
  | true =>
    go_wp2_with fail
    refine (C2.out _).mono ?_
    rintro e w1 ⟨rfl, rfl⟩
    cases b2 with
    | false =>
      go_wp2
      go_ret2
      exact ⟨rfl, by go_grown⟩
    | true => exact absurd HV.out (by simp [Hid])

set_option maxRecDepth 100000 in
set_option maxHeartbeats 8000000 in
theorem specStr_yes (v : Value) (zs : List Int) (L : Int) (w : World) (h : RdI w v zs) (lz : zs.length ≤ 1099511627776) (hv : StrV zs L) :
    Calls Try.prog 4 #[v, .int .i64 L] w fun e w' => ∃ v' xs, e = .returned (.tuple #[v', .bool true]) ∧ OwnSS w' w.heap.size w'.heap.size v' xs ∧ xs.map Sl.t = strF zs L 24 ∧ Below w.heap.size w w' := by
  obtain ⟨j0, hj, hy0, hy1, hy2⟩ := info_parts info_SS
  obtain ⟨h1, h2, h3⟩ := hv
  have C1 := Lib.hid (l07Settled_any v zs w h lz true (by simpa using h1))
  have C2 := Lib.hid (fun w => in_any L 1 2000000 true (by simp; omega) w)
  have hl := h1.1
  have HL : Hid (zs.length = 24) := hl
  have O0 := Lib.hid (OwnSS.built w w.heap.size (Nat.le_refl _))
  have B0 : Hid (Below w.heap.size w (w.alloc (.cells #[] 22))) := (Below.refl _ _).alloc (Nat.le_refl _) _
  obtain ⟨a, cap, rfl, ra⟩ := h
  have RA := Lib.hid ra
  rw [hl] at C1 ⊢
  clear h1 h2 h3 ra hl lz
  go_enter Try.func4, Try.ntmps4
  go_wp2_with fail
  refine C1.out.mono ?_
  rintro e w1 ⟨rfl, rfl⟩
  go_wp2_with fail
  refine (C2.out _).mono ?_
  rintro e w1 ⟨rfl, rfl⟩
  clear C1 C2
  go_wp2
  go_loopw [6, 7] (fun sv iv wr => ∃ (k m c2 C : Nat) (ad : Option Addr) (xs : List Sl), k ≤ 24 ∧ iv = .int .i64 k ∧ sv = .slice ad m c2 ∧ m ≤ 24 ∧ Hid (m = xs.length) ∧ Hid (xs.map Sl.t = strF zs L k) ∧ Hid (OwnSS wr w.heap.size C (.slice ad m c2) xs) ∧ Hid (Below w.heap.size w wr)) (fun _ iv _ => 24 - (intOf iv).toNat)
  case atStart => exact ⟨0, 0, 0, _, _, [], by omega, rfl, rfl, by omega, rfl, rfl, O0, B0⟩
  case round =>
    obtain ⟨k, m, c2, C, ad, xs, hk, rfl, rfl, hm, ml, mx, ho, hbl⟩ := hrel
    clear O0 B0
    have hsz := hbl.out.size
    by_cases hlt : k < 24
    · obtain ⟨x, hx⟩ : ∃ x, zs[k]? = some x := ⟨_, List.getElem?_eq_getElem (by have := HL.out; omega)⟩
      have gx : zs.getD k 0 = x := by rw [List.getD_eq_getElem?_getD, hx]; rfl
      obtain ⟨ba, oa, rfl, ca'⟩ := RA.out.resolve_left (by intro h; have := HL.out; rw [h] at this; simp at this)
      have la : ba < w.heap.size := World.block_lt_of_cell? w _ (ca' k x hx)
      have e1 := (hbl.out.cell (p := ⟨ba, oa + k, none⟩) la).trans (ca' k x hx)
      have olt := ho.out.rows.lt
      have mb : m ≤ k := strF_len ml.out mx.out
      by_cases g : L ≤ x
      · have ng : ¬ x < L := by omega
        cases hs : (strS zs L k).2 with
        | none =>
          have OW : Hid (wr.ownsRow w.heap.size 22 1 (.slice ad m c2) m (xs.flatMap encSl)) := by
            have := ho.out.rows
            unfold OwnS at this
            rw [← ml.out] at this
            exact this
          rcases Nat.eq_zero_or_pos k with k0 | k1
          · subst k0
            have SN : Hid (strF zs L (0 + 1) = strF zs L 0 ++ [[(0 : Int), (0 : Int)]]) := strF_new (by rw [gx]; exact g) hs
            have e0 : wr.cell? ⟨ba, oa, none⟩ = some (.int .i64 x) := e1
            clear e1
            clear hx gx ca' la hs
            go_wp2_with (at_builtin; refine wpList_append_lies _ rfl _ _ _ rfl w.heap.size 22 j0 _ 1 24 Try.underlying23 hj hy0 hy1 hy2 rfl (by omega) _ _ _ rfl ((OW.out.alloc _).alloc _) ⟨wr.heap.size + 1, 0, none⟩ 1 1 [.slice (some ⟨wr.heap.size, 0, none⟩) 2 2] rfl rfl (World.news_of_block (cs := #[.slice (some ⟨wr.heap.size, 0, none⟩) 2 2]) (t := 22) (fr := (0, 0)) (by have := heap_alloc_new (wr.alloc (.cells #[.int .i64 (0 : Int), .int .i64 (0 : Int)] 2)) (.cells #[.slice (some ⟨wr.heap.size, 0, none⟩) 2 2] 22); simpa only [World.size_alloc] using this)) (by simp [Value.oneCell']) (by omega) (by unfold maxLen; omega) (by omega) (by simp only [World.size_alloc]; omega) _ rfl ?_)
            intro g6 cap6 w6 hown1 hgrow hat hlt'
            have O6 : Hid (OwnSS w6 w.heap.size w6.heap.size (.slice (some ⟨g6, 0, none⟩) (m + 1) cap6) (xs ++ [(⟨some ⟨wr.heap.size, 0, none⟩, 2, [(0 : Int), (0 : Int)]⟩ : Sl)])) := ho.out.pushed hsz hown1 ml.out hgrow
            have g3 : wr.grownBy w6 (Value.slice ad m c2).ownBlock := grownBy_trans (World.grownBy_alloc wr _ _) (grownBy_trans (World.grownBy_alloc _ _ _) hgrow)
            have B6 : Hid (Below w.heap.size w w6) := hbl.out.grown g3 (by omega) (fun j e => (olt j e).1)
            have L6 : Hid (m + 1 = (xs ++ [(⟨some ⟨wr.heap.size, 0, none⟩, 2, [(0 : Int), (0 : Int)]⟩ : Sl)]).length) := by show _ = _; rw [List.length_append, ml.out]; rfl
            have MX : Hid ((xs ++ [(⟨some ⟨wr.heap.size, 0, none⟩, 2, [(0 : Int), (0 : Int)]⟩ : Sl)]).map Sl.t = strF zs L (0 + 1)) := by show _ = _; rw [List.map_append, SN.out, mx.out]; rfl
            clear hown1 hgrow hat hlt' g3 olt OW ho hbl ml
            go_wp2
            exact ⟨⟨0 + 1, m + 1, cap6, _, _, _, by omega, by go_num, rfl, by omega, L6, MX, O6, B6⟩, by simp only [intOf]; omega⟩
          · obtain ⟨j, rfl⟩ : ∃ j, k = j + 1 := ⟨k - 1, by omega⟩
            have SN : Hid (strF zs L (j + 1 + 1) = strF zs L (j + 1) ++ [[(j : Int) + 1, (j : Int) + 1]]) := strF_new (by rw [gx]; exact g) hs
            obtain ⟨y, hy⟩ : ∃ y, zs[j]? = some y := ⟨_, List.getElem?_eq_getElem (by have := HL.out; omega)⟩
            have gy : zs.getD j 0 = y := by rw [List.getD_eq_getElem?_getD, hy]; rfl
            have e2 := (hbl.out.cell (p := ⟨ba, oa + j, none⟩) la).trans (ca' j y hy)
            have nL : ¬ L ≤ y := by
              have := strS_open zs L j
              rw [hs, gy] at this
              intro c
              rw [decide_eq_true c] at this
              simp at this
            have q1 : IntKind.i64.wrap ((j : Int) + 1 - 1) = (j : Int) := by rw [show (j : Int) + 1 - 1 = j by omega]; exact IntWalk.i64_in _ (by omega)
            have q2 : (0 : Int) < (j : Int) + 1 := by omega
            have dL : decide (L ≤ y) = false := decide_eq_false nL
            clear hx gx ca' la hs hy gy
            go_wp2_with (at_builtin; refine wpList_append_lies _ rfl _ _ _ rfl w.heap.size 22 j0 _ 1 24 Try.underlying23 hj hy0 hy1 hy2 rfl (by omega) _ _ _ rfl ((OW.out.alloc _).alloc _) ⟨wr.heap.size + 1, 0, none⟩ 1 1 [.slice (some ⟨wr.heap.size, 0, none⟩) 2 2] rfl rfl (World.news_of_block (cs := #[.slice (some ⟨wr.heap.size, 0, none⟩) 2 2]) (t := 22) (fr := (0, 0)) (by have := heap_alloc_new (wr.alloc (.cells #[.int .i64 ((j : Int) + 1), .int .i64 ((j : Int) + 1)] 2)) (.cells #[.slice (some ⟨wr.heap.size, 0, none⟩) 2 2] 22); simpa only [World.size_alloc] using this)) (by simp [Value.oneCell']) (by omega) (by unfold maxLen; omega) (by omega) (by simp only [World.size_alloc]; omega) _ rfl ?_)
            intro g6 cap6 w6 hown1 hgrow hat hlt'
            have O6 : Hid (OwnSS w6 w.heap.size w6.heap.size (.slice (some ⟨g6, 0, none⟩) (m + 1) cap6) (xs ++ [(⟨some ⟨wr.heap.size, 0, none⟩, 2, [((j : Int) + 1), ((j : Int) + 1)]⟩ : Sl)])) := ho.out.pushed hsz hown1 ml.out hgrow
            have g3 : wr.grownBy w6 (Value.slice ad m c2).ownBlock := grownBy_trans (World.grownBy_alloc wr _ _) (grownBy_trans (World.grownBy_alloc _ _ _) hgrow)
            have B6 : Hid (Below w.heap.size w w6) := hbl.out.grown g3 (by omega) (fun j e => (olt j e).1)
            have L6 : Hid (m + 1 = (xs ++ [(⟨some ⟨wr.heap.size, 0, none⟩, 2, [((j : Int) + 1), ((j : Int) + 1)]⟩ : Sl)]).length) := by show _ = _; rw [List.length_append, ml.out]; rfl
            have MX : Hid ((xs ++ [(⟨some ⟨wr.heap.size, 0, none⟩, 2, [((j : Int) + 1), ((j : Int) + 1)]⟩ : Sl)]).map Sl.t = strF zs L (j + 1 + 1)) := by show _ = _; rw [List.map_append, SN.out, mx.out]; rfl
            clear hown1 hgrow hat hlt' g3 olt OW ho hbl ml
            go_wp2
            exact ⟨⟨j + 1 + 1, m + 1, cap6, _, _, _, by omega, by go_num, rfl, by omega, L6, MX, O6, B6⟩, by simp only [intOf]; omega⟩
        | some f =>
          obtain ⟨j, rfl⟩ : ∃ j, k = j + 1 := ⟨k - 1, by have := strS_le _ _ _ _ hs; omega⟩
          obtain ⟨y, hy⟩ : ∃ y, zs[j]? = some y := ⟨_, List.getElem?_eq_getElem (by have := HL.out; omega)⟩
          have gy : zs.getD j 0 = y := by rw [List.getD_eq_getElem?_getD, hy]; rfl
          have e2 := (hbl.out.cell (p := ⟨ba, oa + j, none⟩) la).trans (ca' j y hy)
          have nL : L ≤ y := by
            have := strS_open zs L j
            rw [hs, gy] at this
            simpa using this
          have q1 : IntKind.i64.wrap ((j : Int) + 1 - 1) = (j : Int) := by rw [show (j : Int) + 1 - 1 = j by omega]; exact IntWalk.i64_in _ (by omega)
          have q2 : (0 : Int) < (j : Int) + 1 := by omega
          have dL : decide (L ≤ y) = true := decide_eq_true nL
          obtain ⟨f1, f2⟩ := strF_on (L := L) (k := j + 1) (f := f) (zs := zs) (by rw [gx]; exact g) hs
          have mx' := mx.out
          rw [f1] at mx'
          obtain ⟨ys, z, rfl, hys, hzt⟩ := map_snoc mx'
          obtain ⟨mm, rfl⟩ : ∃ mm, m = mm + 1 := ⟨m - 1, by have := ml.out; rw [List.length_append] at this; simp at this; omega⟩
          have yl : mm = ys.length := by have := ml.out; rw [List.length_append] at this; simp at this; omega
          have zx : (ys ++ [z])[mm]? = some z := by rw [yl, List.getElem?_append_right (Nat.le_refl _), Nat.sub_self]; rfl
          have o1 := ho.out.tops z (List.mem_of_getElem? zx)
          have zl : z.t.length = 2 := by rw [hzt]; rfl
          obtain ⟨h1, ch, eu, hb1, hb2⟩ := o1.formed zl (by omega)
          have eu' : z.a = some ⟨h1, 0, none⟩ ∧ z.c = ch := by
            have := eu
            unfold Sl.u at this
            rw [zl] at this
            simp only [Value.slice.injEq] at this
            exact ⟨this.1, this.2.2⟩
          rcases ho.out.rows.forms with ⟨e0, h0⟩ | ⟨g0, cap0, e0⟩
          · simp at h0
          rw [← ml.out] at e0
          simp only [Value.slice.injEq, true_and] at e0
          obtain ⟨rfl, rfl⟩ := e0
          have r1 : wr.cell? ⟨g0, mm, none⟩ = some (.slice (some ⟨h1, 0, none⟩) 2 ch) := by
            have := ho.out.rows.cellAt encSl_len ml.out mm z zx 0 _ rfl
            rw [Nat.mul_one, Nat.add_zero, zl, eu'.1, eu'.2] at this
            exact this
          rw [eu, hzt] at o1
          have r2 : wr.cell? ⟨h1, 1, none⟩ = some (.int .i64 ((j : Int) + 1 - 1)) := o1.rd.cellAt (i := 1) rfl
          have fz : wr.frozen? ⟨h1, 1, none⟩ = false := ownI_frozen rfl o1 1
          have st : OwnI (wr.setCell ⟨h1, 1, none⟩ (.int .i64 ((j : Int) + 1))) w.heap.size (.slice (some ⟨h1, 0, none⟩) 2 ch) [(f : Int), (j : Int) + 1] := OwnI.stored (n := 2) (zs := [(f : Int), (j : Int) + 1 - 1]) rfl o1 1 ((j : Int) + 1) (by simp)
          have K := ho.out.changedAt (w2 := wr.setCell ⟨h1, 1, none⟩ (.int .i64 ((j : Int) + 1))) (ts := [(f : Int), (j : Int) + 1]) (by rw [zl]; rfl) zx (by rw [eu]; exact st) (by rw [eu]; exact grownBy_setCell wr ⟨h1, 1, none⟩ _)
          have O6 := Lib.hid K.1
          have L6 : Hid (mm + 1 = ((ys ++ [z]).set mm ⟨z.a, z.c, [(f : Int), (j : Int) + 1]⟩).length) := by show _ = _; rw [List.length_set]; exact ml.out
          have MX : Hid (((ys ++ [z]).set mm ⟨z.a, z.c, [(f : Int), (j : Int) + 1]⟩).map Sl.t = strF zs L (j + 1 + 1)) := by
            show _ = _
            rw [f2, List.set_append_right _ _ (by omega), yl, Nat.sub_self, List.set_cons_zero, List.map_append, hys]
            rfl
          have B6 : Hid (Below w.heap.size w (wr.setCell ⟨h1, 1, none⟩ (.int .i64 ((j : Int) + 1)))) := hbl.out.setCell (p := ⟨h1, 1, none⟩) hb1 _
          have q3 : IntKind.i64.wrap ((mm : Int) + 1 - 1) = (mm : Int) := by rw [show (mm : Int) + 1 - 1 = mm by omega]; exact IntWalk.i64_in _ (by omega)
          have q4 : (mm : Int) < (mm : Int) + 1 := by omega
          clear hx gx ca' la hs hy gy f1 f2 mx' mx hys hzt yl zx o1 zl eu eu' st K ho hbl olt ml hb1 hb2
          go_wp2
          exact ⟨⟨j + 1 + 1, mm + 1, c2, C, _, _, by omega, by go_num, rfl, by omega, L6, MX, O6, B6⟩, by simp only [intOf]; omega⟩
      · have ng : x < L := by omega
        have MX : Hid (xs.map Sl.t = strF zs L (k + 1)) := by show _ = _; rw [strF_below (by rw [gx]; exact g)]; exact mx.out
        clear hx gx ca' la mx olt g
        go_wp2
        exact ⟨⟨k + 1, m, c2, C, ad, xs, by omega, by go_num, rfl, hm, ml, MX, ho, hbl⟩, by simp only [intOf]; omega⟩
    · obtain rfl : k = 24 := by omega
      have O7 : Hid (OwnSS wr w.heap.size wr.heap.size (.slice ad m c2) xs) := ho.out.wide (Nat.le_refl _)
      clear ho ml
      go_wp2
      go_ret2
      exact ⟨_, xs, rfl, O7.out, mx.out, hbl.out⟩
end Go.Proofs.Ythhnnkgfnhggbab
