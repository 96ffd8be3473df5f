/- A depot as a yard: the program's side. (Written by tools/mkdepy.py.) -/
import Derived.Test.YthfmmlpbflfpaacYardO
import Derived.Test.YthfmmlpbflfpaacDepI
namespace Go.Proofs.Ythfmmlpbflfpaac
open Go.ChangeShapes Go.WideShapes Go.ChangeAt Go.RowKit
set_option linter.unusedVariables false
set_option linter.unusedSimpArgs false

theorem slice4p (w : World) (b o : Nat) (k : Nat) (z : Int) (hz : z = (k : Int)) (hk : k ≤ 4) : (Instr.sliceAt 53 (.pointer (some ⟨b, o, none⟩)) none (some (.int .i64 z)) none).run Try.prog w = .ok (.slice (some ⟨b, o, none⟩) k 4) w := by
  obtain ⟨i0, hi, hs⟩ : ∃ i0, Try.prog.info? 52 = some i0 ∧ i0.size = 5 := by
    have := infos_Pl
    cases h : Try.prog.info? 52 with
    | none => rw [h] at this; simp at this
    | some i => rw [h] at this; simp at this; exact ⟨i, rfl, this⟩
  have e1 : Try.prog.arrayLen 53 = 4 := by kernel_rfl
  have e2 : Try.prog.elem 53 = 52 := by kernel_rfl
  have e3 : Try.prog.underlying 53 = some (.array (Try.prog.arrayLen 53) (Try.prog.elem 53)) := by rw [e1, e2]; kernel_rfl
  subst hz
  rw [run_sliceAt_array_h w _ ⟨b, o, none⟩ e3 .i64 (k : Int) (by omega) (by rw [e1]; omega), e1, e2]
  simp [sizeOf, typeInfo, hi, hs, Result.andThen, slicedAt, Int.toNat_natCast, Go.WideShapes.add_plain]

set_option maxRecDepth 100000 in
set_option maxHeartbeats 16000000 in
theorem dYard_any (h : Int) (n : Nat) (q : Nat → Pl) (t : Nat → List Int) (ok : ∀ i, i < 4 → PileOk (q i) (t i)) (n4 : n ≤ 4) (w : World) :
    Calls Try.prog 29 #[.agg #[.int .i64 h, .int .i64 (n : Int), .int .i64 (q 0).a, .int .i64 (q 0).b, .int .i64 (q 0).c, .int .i64 (q 0).d, .int .i64 (q 0).n, .int .i64 (q 1).a, .int .i64 (q 1).b, .int .i64 (q 1).c, .int .i64 (q 1).d, .int .i64 (q 1).n, .int .i64 (q 2).a, .int .i64 (q 2).b, .int .i64 (q 2).c, .int .i64 (q 2).d, .int .i64 (q 2).n, .int .i64 (q 3).a, .int .i64 (q 3).b, .int .i64 (q 3).c, .int .i64 (q 3).d, .int .i64 (q 3).n]] w fun e w' => ∃ u : Yd, u.h = h ∧ u.x.map Sl.t = (List.range n).map t ∧ e = .returned (.agg #[.int .i64 u.h, .slice u.xa n u.xc]) ∧ OwnYd w' w.heap.size w'.heap.size n u ∧ Below w.heap.size w w' := by
  obtain ⟨j0, hj, hy0, hy1, hy2⟩ := info_parts info_SSy
  have C1 := Lib.hid (fun i (hi : i < 4) w => (show Calls Try.prog 45 #[.agg #[.int .i64 (q i).a, .int .i64 (q i).b, .int .i64 (q i).c, .int .i64 (q i).d, .int .i64 (q i).n]] w fun e w' => ∃ u, e = .returned u ∧ OwnI w' (w.heap.size + 1) u (t i) ∧ Below w.heap.size w w' by rw [(ok i hi).n]; exact list_any (q i).a (q i).b (q i).c (q i).d (t i).length (t i) rfl (ok i hi).l4 (ok i hi).i4 w))
  have T4 := Lib.hid (fun i (hi : i < 4) => (ok i hi).l4)
  have S1 := fun w b o => slice4p w b o n n rfl n4
  clear ok
  go_enter Try.func29, Try.ntmps29
  go_upto_region 2 with (fail)
  have NW := Lib.hid (box3_0 w (.cells #[.int .i64 h, .int .i64 (n : Int), .int .i64 (q 0).a, .int .i64 (q 0).b, .int .i64 (q 0).c, .int .i64 (q 0).d, .int .i64 (q 0).n, .int .i64 (q 1).a, .int .i64 (q 1).b, .int .i64 (q 1).c, .int .i64 (q 1).d, .int .i64 (q 1).n, .int .i64 (q 2).a, .int .i64 (q 2).b, .int .i64 (q 2).c, .int .i64 (q 2).d, .int .i64 (q 2).n, .int .i64 (q 3).a, .int .i64 (q 3).b, .int .i64 (q 3).c, .int .i64 (q 3).d, .int .i64 (q 3).n] 55) (.cells #[.int .i64 0, .slice none 0 0] 26) (.cells #[.int .i64 h, .slice none 0 0] 26))
  have N0 := Lib.hid (box3_1 w (.cells #[.int .i64 h, .int .i64 (n : Int), .int .i64 (q 0).a, .int .i64 (q 0).b, .int .i64 (q 0).c, .int .i64 (q 0).d, .int .i64 (q 0).n, .int .i64 (q 1).a, .int .i64 (q 1).b, .int .i64 (q 1).c, .int .i64 (q 1).d, .int .i64 (q 1).n, .int .i64 (q 2).a, .int .i64 (q 2).b, .int .i64 (q 2).c, .int .i64 (q 2).d, .int .i64 (q 2).n, .int .i64 (q 3).a, .int .i64 (q 3).b, .int .i64 (q 3).c, .int .i64 (q 3).d, .int .i64 (q 3).n] 55) (.cells #[.int .i64 0, .slice none 0 0] 26) (.cells #[.int .i64 h, .slice none 0 0] 26))
  have N1 := Lib.hid (box3_2 w (.cells #[.int .i64 h, .int .i64 (n : Int), .int .i64 (q 0).a, .int .i64 (q 0).b, .int .i64 (q 0).c, .int .i64 (q 0).d, .int .i64 (q 0).n, .int .i64 (q 1).a, .int .i64 (q 1).b, .int .i64 (q 1).c, .int .i64 (q 1).d, .int .i64 (q 1).n, .int .i64 (q 2).a, .int .i64 (q 2).b, .int .i64 (q 2).c, .int .i64 (q 2).d, .int .i64 (q 2).n, .int .i64 (q 3).a, .int .i64 (q 3).b, .int .i64 (q 3).c, .int .i64 (q 3).d, .int .i64 (q 3).n] 55) (.cells #[.int .i64 0, .slice none 0 0] 26) (.cells #[.int .i64 h, .slice none 0 0] 26))
  have B0 : Hid (Below w.heap.size w (((w.alloc (.cells #[.int .i64 h, .int .i64 (n : Int), .int .i64 (q 0).a, .int .i64 (q 0).b, .int .i64 (q 0).c, .int .i64 (q 0).d, .int .i64 (q 0).n, .int .i64 (q 1).a, .int .i64 (q 1).b, .int .i64 (q 1).c, .int .i64 (q 1).d, .int .i64 (q 1).n, .int .i64 (q 2).a, .int .i64 (q 2).b, .int .i64 (q 2).c, .int .i64 (q 2).d, .int .i64 (q 2).n, .int .i64 (q 3).a, .int .i64 (q 3).b, .int .i64 (q 3).c, .int .i64 (q 3).d, .int .i64 (q 3).n] 55)).alloc (.cells #[.int .i64 0, .slice none 0 0] 26)).alloc (.cells #[.int .i64 h, .slice none 0 0] 26))) := by show Below _ _ _; go_grown
  have z0 : w.heap.size + 3 ≤ (((w.alloc (.cells #[.int .i64 h, .int .i64 (n : Int), .int .i64 (q 0).a, .int .i64 (q 0).b, .int .i64 (q 0).c, .int .i64 (q 0).d, .int .i64 (q 0).n, .int .i64 (q 1).a, .int .i64 (q 1).b, .int .i64 (q 1).c, .int .i64 (q 1).d, .int .i64 (q 1).n, .int .i64 (q 2).a, .int .i64 (q 2).b, .int .i64 (q 2).c, .int .i64 (q 2).d, .int .i64 (q 2).n, .int .i64 (q 3).a, .int .i64 (q 3).b, .int .i64 (q 3).c, .int .i64 (q 3).d, .int .i64 (q 3).n] 55)).alloc (.cells #[.int .i64 0, .slice none 0 0] 26)).alloc (.cells #[.int .i64 h, .slice none 0 0] 26)).heap.size := by simp
  generalize ((w.alloc (.cells #[.int .i64 h, .int .i64 (n : Int), .int .i64 (q 0).a, .int .i64 (q 0).b, .int .i64 (q 0).c, .int .i64 (q 0).d, .int .i64 (q 0).n, .int .i64 (q 1).a, .int .i64 (q 1).b, .int .i64 (q 1).c, .int .i64 (q 1).d, .int .i64 (q 1).n, .int .i64 (q 2).a, .int .i64 (q 2).b, .int .i64 (q 2).c, .int .i64 (q 2).d, .int .i64 (q 2).n, .int .i64 (q 3).a, .int .i64 (q 3).b, .int .i64 (q 3).c, .int .i64 (q 3).d, .int .i64 (q 3).n] 55)).alloc (.cells #[.int .i64 0, .slice none 0 0] 26)).alloc (.cells #[.int .i64 h, .slice none 0 0] 26) = W at *
  have kn : W.cell? ⟨w.heap.size, 1, none⟩ = some (.int .i64 (n : Int)) := cell_of_row W w.heap.size 1 _ _ _ NW.out
  have O0 := Lib.hid (OwnSS.none W (w.heap.size + 3) W.heap.size (Nat.le_refl _))
  go_wp2
  go_loopw [14] (fun iv wr => ∃ (i c1 : Nat) (ad : Option Addr) (xs : List Sl), i ≤ n ∧ iv = .int .i64 i ∧ Hid (xs.map Sl.t = (List.range i).map t) ∧ Hid (i = xs.length) ∧ Hid (OwnSS wr (w.heap.size + 3) wr.heap.size (.slice ad i c1) xs) ∧ Hid (wr.heap[w.heap.size]? = some (.cells #[.int .i64 h, .int .i64 (n : Int), .int .i64 (q 0).a, .int .i64 (q 0).b, .int .i64 (q 0).c, .int .i64 (q 0).d, .int .i64 (q 0).n, .int .i64 (q 1).a, .int .i64 (q 1).b, .int .i64 (q 1).c, .int .i64 (q 1).d, .int .i64 (q 1).n, .int .i64 (q 2).a, .int .i64 (q 2).b, .int .i64 (q 2).c, .int .i64 (q 2).d, .int .i64 (q 2).n, .int .i64 (q 3).a, .int .i64 (q 3).b, .int .i64 (q 3).c, .int .i64 (q 3).d, .int .i64 (q 3).n] 55 (0, 0))) ∧ Hid (wr.heap[w.heap.size + 1]? = some (.cells #[.int .i64 0, .slice none 0 0] 26 (0, 0))) ∧ Hid (wr.heap[w.heap.size + 2]? = some (.cells #[.int .i64 h, .slice ad i c1] 26 (0, 0))) ∧ Hid (Below w.heap.size w wr) ∧ w.heap.size + 3 ≤ wr.heap.size) (fun iv _ => n - (intOf iv).toNat)
  case atStart => exact ⟨0, 0, none, [], by omega, rfl, rfl, rfl, O0.out, NW.out, N0.out, N1.out, B0.out, z0⟩
  case round =>
    obtain ⟨i, c1, ad, xs, hi', rfl, hx', hm, ho, MW, M0, M1, B, zr⟩ := hrel
    clear O0 NW N0 N1 B0 z0 kn
    by_cases hlt : i < n
    · rcases (show i = 0 ∨ i = 1 ∨ i = 2 ∨ i = 3 by omega) with rfl | rfl | rfl | rfl

      · have C := Lib.hid (C1.out 0 (by omega))
        have l4 := T4.out 0 (by omega)
        have y0 := cell_of_row wr w.heap.size 2 _ _ _ MW.out
        have y1 := cell_of_row wr w.heap.size 3 _ _ _ MW.out
        have y2 := cell_of_row wr w.heap.size 4 _ _ _ MW.out
        have y3 := cell_of_row wr w.heap.size 5 _ _ _ MW.out
        have y4 := cell_of_row wr w.heap.size 6 _ _ _ MW.out
        go_upto_region 5 with (fail)
        have NP : Hid ((wr.alloc (.cells #[.int .i64 (q 0).a, .int .i64 (q 0).b, .int .i64 (q 0).c, .int .i64 (q 0).d, .int .i64 (q 0).n] 52)).heap[wr.heap.size]? = some (.cells #[.int .i64 (q 0).a, .int .i64 (q 0).b, .int .i64 (q 0).c, .int .i64 (q 0).d, .int .i64 (q 0).n] 52 (0, 0))) := heap_alloc_new _ _
        have bp : Below wr.heap.size wr (wr.alloc (.cells #[.int .i64 (q 0).a, .int .i64 (q 0).b, .int .i64 (q 0).c, .int .i64 (q 0).d, .int .i64 (q 0).n] 52)) := by go_grown
        have zp : wr.heap.size + 1 ≤ (wr.alloc (.cells #[.int .i64 (q 0).a, .int .i64 (q 0).b, .int .i64 (q 0).c, .int .i64 (q 0).d, .int .i64 (q 0).n] 52)).heap.size := by simp
        generalize wr.alloc (.cells #[.int .i64 (q 0).a, .int .i64 (q 0).b, .int .i64 (q 0).c, .int .i64 (q 0).d, .int .i64 (q 0).n] 52) = wp at *
        have HO := Lib.hid (ho.out.later bp)
        have W1 := Lib.hid ((bp.block _ (by omega)).trans MW.out)
        have Y0 := Lib.hid ((bp.block _ (by omega)).trans M0.out)
        have Y1 := Lib.hid ((bp.block _ (by omega)).trans M1.out)
        have BP : Hid (Below w.heap.size w wp) := B.out.trans (bp.mono (by omega))
        obtain ⟨pp, hpp⟩ : ∃ pp, pp = wr.heap.size := ⟨_, rfl⟩
        have X2 : Hid ((List.range (0 + 1)).map t = (List.range 0).map t ++ [t 0]) := by show _ = _; rw [List.range_succ, List.map_append]; rfl
        obtain ⟨p, hp⟩ : ∃ p, p = (t 0).length := ⟨_, rfl⟩
        rw [← hp] at l4
        have HP := Lib.hid hp
        obtain ⟨⟨d0, d1⟩, ⟨f0, f1⟩, -⟩ := boxedYd_at Y1.out
        obtain ⟨⟨s0, s1, s2, s3, s4⟩, -, -⟩ := boxPl_at (q := q 0) NP.out
        have KS : Hid (∀ w', Below wp.heap.size wp w' → w'.cell? ⟨w.heap.size + 2, 1, none⟩ = some (.slice ad 0 c1) ∧ w'.frozen? ⟨w.heap.size + 2, 1, none⟩ = false) := fun w' b => by
          obtain ⟨⟨u0, u1⟩, ⟨v0, v1⟩, -⟩ := boxedYd_at ((b.block (w.heap.size + 2) (by omega)).trans Y1.out)
          exact ⟨u1, v1⟩
        clear hp hpp d0 f0 f1 y0 y1 y2 y3 y4 MW M0 M1 B ho bp NP T4 C1
        go_region_law (first
          | (go_simp; go_at_call 45; refine (C.out _).mono ?_; rintro e w5 ⟨u5, rfl, o5, b5⟩; have D5 : Hid (Below wp.heap.size wp w5) := (Below.refl _ _).drew.trans b5; obtain ⟨a5, c5, hu5⟩ := o5.fitS; rw [← HP.out] at hu5; subst hu5; have O5 := Lib.hid o5; have SS5 := Lib.hid (HO.out.later D5.out); have own5 := Lib.hid (ownSS_len hm.out SS5.out); have lg5 := own5.out.lt; have s5 := D5.out.size; obtain ⟨m1, -⟩ := KS.out _ D5.out; obtain ⟨m2, -⟩ := KS.out _ (D5.out.alloc (by omega) (.cells #[.slice a5 p c5] 44)); have q1 : w.heap.size + 2 < w5.heap.size := (by omega); have q2 : ¬ w.heap.size + 2 = w5.heap.size := (by omega); clear b5 o5)
          | (refine step_append_lies _ (by rfl) _ _ _ (by rfl) (w.heap.size + 3) 44 j0 _ 1 24 Try.underlying22 hj hy0 hy1 hy2 rfl (by omega) _ _ _ (by rfl) (own5.out.alloc _) ⟨w5.heap.size, 0, none⟩ 1 1 [.slice a5 p c5] (by rfl) (by rfl) (World.news_of_block (cs := #[.slice a5 p c5]) (t := 44) (fr := (0, 0)) (heap_alloc_new w5 _)) (by simp [Value.oneCell']) (by omega) (by unfold maxLen; omega) (by omega) (by simp; omega) (w5.heap.size + 1) (by simp) ?_; intro gg cap1 w6 hown1 hgrow hat hlt'; have gb := grownBy_trans' (World.grownBy_alloc w5 _ _) hgrow; have M6 : Hid (w6.heap[w.heap.size + 2]? = some (.cells #[.int .i64 h, .slice ad 0 c1] 26 (0, 0))) := (gb.block _ (by omega) (fun e => by have := (lg5 _ e.symm).1; omega)).trans ((D5.out.block _ (by omega)).trans Y1.out); obtain ⟨⟨g0, g1⟩, ⟨h0, h1⟩, -⟩ := boxedYd_at M6.out))
        all_goals
          have hown2 : w6.ownsRow (w.heap.size + 3) 44 1 (.slice (some ⟨gg, 0, none⟩) (0 + 1) cap1) (0 + 1) (xs.flatMap encSl ++ encSl ⟨a5, c5, t 0⟩) := by
            show w6.ownsRow _ _ _ _ _ (_ ++ [.slice a5 (t 0).length c5])
            rw [← HP.out]
            exact hown1
          have O6 : OwnSS w6 (w.heap.size + 3) w6.heap.size (.slice (some ⟨gg, 0, none⟩) (0 + 1) cap1) (xs ++ [⟨a5, c5, t 0⟩]) := SS5.out.pushRow (by omega) (by show OwnI _ _ (.slice a5 (t 0).length c5) _; rw [← HP.out]; exact O5.out.mono (by simp only [World.size_drew]; omega)) (fun k hk => by have h9 : (Value.slice a5 p c5).ownBlock = some k := (by rw [HP.out]; exact hk); have := (O5.out.lt k h9).1; simp only [World.size_drew] at this; omega) hown2 hm.out hgrow
          have e7 : (w6.setCell ⟨w.heap.size + 2, 1, none⟩ (.slice (some ⟨gg, 0, none⟩) (0 + 1) cap1)).heap.size = w6.heap.size := by simp
          have s6 := gb.size
          have O7 : Hid (OwnSS (w6.setCell ⟨w.heap.size + 2, 1, none⟩ (.slice (some ⟨gg, 0, none⟩) (0 + 1) cap1)) (w.heap.size + 3) (w6.setCell ⟨w.heap.size + 2, 1, none⟩ (.slice (some ⟨gg, 0, none⟩) (0 + 1) cap1)).heap.size (.slice (some ⟨gg, 0, none⟩) (0 + 1) cap1) (xs ++ [⟨a5, c5, t 0⟩])) := by
            show OwnSS _ _ _ _ _
            rw [e7]
            exact O6.of_blocks (by omega) fun k h1 h2 => Below.heap_setCell _ _ _ _ (by show k ≠ w.heap.size + 2; omega)
          have oth : ∀ j, j < w.heap.size + 2 → (w6.setCell ⟨w.heap.size + 2, 1, none⟩ (.slice (some ⟨gg, 0, none⟩) (0 + 1) cap1)).heap[j]? = wp.heap[j]? := fun j hj => by
            rw [Below.heap_setCell _ _ _ _ (by show j ≠ w.heap.size + 2; omega)]
            exact (gb.block _ (by omega) (fun e => by have := (lg5 _ e.symm).1; omega)).trans (D5.out.block _ (by omega))
          have M7 : Hid ((w6.setCell ⟨w.heap.size + 2, 1, none⟩ (.slice (some ⟨gg, 0, none⟩) (0 + 1) cap1)).heap[w.heap.size + 2]? = some (.cells #[.int .i64 h, .slice (some ⟨gg, 0, none⟩) (0 + 1) cap1] 26 (0, 0))) := putYd_1 _ M6.out
          have L7 := Lib.hid ((oth (w.heap.size + 1) (by omega)).trans Y0.out)
          have W7 := Lib.hid ((oth w.heap.size (by omega)).trans W1.out)
          have B7 : Hid (Below w.heap.size w (w6.setCell ⟨w.heap.size + 2, 1, none⟩ (.slice (some ⟨gg, 0, none⟩) (0 + 1) cap1))) := ((BP.out.trans (D5.out.mono (by omega))).grown gb (by omega) (fun j e => by have := (lg5 j e).1; omega)).setCell (p := ⟨w.heap.size + 2, 1, none⟩) (by show w.heap.size ≤ w.heap.size + 2; omega) _
          have M1' : Hid (0 + 1 = (xs ++ [(⟨a5, c5, t 0⟩ : Sl)]).length) := by show _ = _; rw [List.length_append, ← hm.out]; rfl
          have X7 : Hid ((xs ++ [(⟨a5, c5, t 0⟩ : Sl)]).map Sl.t = (List.range (0 + 1)).map t) := by show _ = _; rw [X2.out, List.map_append, hx'.out]; rfl
          have z7 : w.heap.size + 3 ≤ (w6.setCell ⟨w.heap.size + 2, 1, none⟩ (.slice (some ⟨gg, 0, none⟩) (0 + 1) cap1)).heap.size := by omega
          clear hown1 hown2 hgrow hat hlt' O6 e7 gb M6 lg5 own5 O5 SS5 D5 HO Y0 Y1 W1 BP KS C X2 hx' hm g0 g1 h0 h1 d1 s0 s1 s2 s3 s4 oth
          generalize w6.setCell ⟨w.heap.size + 2, 1, none⟩ (.slice (some ⟨gg, 0, none⟩) (0 + 1) cap1) = w7 at *
          go_wp2
          exact ⟨⟨0 + 1, cap1, _, _, by omega, by first | rfl | go_num, X7, M1', O7, W7, L7, M7, B7, z7⟩, by simp only [intOf]; omega⟩

      · have C := Lib.hid (C1.out 1 (by omega))
        have l4 := T4.out 1 (by omega)
        have y0 := cell_of_row wr w.heap.size 7 _ _ _ MW.out
        have y1 := cell_of_row wr w.heap.size 8 _ _ _ MW.out
        have y2 := cell_of_row wr w.heap.size 9 _ _ _ MW.out
        have y3 := cell_of_row wr w.heap.size 10 _ _ _ MW.out
        have y4 := cell_of_row wr w.heap.size 11 _ _ _ MW.out
        go_upto_region 5 with (fail)
        have NP : Hid ((wr.alloc (.cells #[.int .i64 (q 1).a, .int .i64 (q 1).b, .int .i64 (q 1).c, .int .i64 (q 1).d, .int .i64 (q 1).n] 52)).heap[wr.heap.size]? = some (.cells #[.int .i64 (q 1).a, .int .i64 (q 1).b, .int .i64 (q 1).c, .int .i64 (q 1).d, .int .i64 (q 1).n] 52 (0, 0))) := heap_alloc_new _ _
        have bp : Below wr.heap.size wr (wr.alloc (.cells #[.int .i64 (q 1).a, .int .i64 (q 1).b, .int .i64 (q 1).c, .int .i64 (q 1).d, .int .i64 (q 1).n] 52)) := by go_grown
        have zp : wr.heap.size + 1 ≤ (wr.alloc (.cells #[.int .i64 (q 1).a, .int .i64 (q 1).b, .int .i64 (q 1).c, .int .i64 (q 1).d, .int .i64 (q 1).n] 52)).heap.size := by simp
        generalize wr.alloc (.cells #[.int .i64 (q 1).a, .int .i64 (q 1).b, .int .i64 (q 1).c, .int .i64 (q 1).d, .int .i64 (q 1).n] 52) = wp at *
        have HO := Lib.hid (ho.out.later bp)
        have W1 := Lib.hid ((bp.block _ (by omega)).trans MW.out)
        have Y0 := Lib.hid ((bp.block _ (by omega)).trans M0.out)
        have Y1 := Lib.hid ((bp.block _ (by omega)).trans M1.out)
        have BP : Hid (Below w.heap.size w wp) := B.out.trans (bp.mono (by omega))
        obtain ⟨pp, hpp⟩ : ∃ pp, pp = wr.heap.size := ⟨_, rfl⟩
        have X2 : Hid ((List.range (1 + 1)).map t = (List.range 1).map t ++ [t 1]) := by show _ = _; rw [List.range_succ, List.map_append]; rfl
        obtain ⟨p, hp⟩ : ∃ p, p = (t 1).length := ⟨_, rfl⟩
        rw [← hp] at l4
        have HP := Lib.hid hp
        obtain ⟨⟨d0, d1⟩, ⟨f0, f1⟩, -⟩ := boxedYd_at Y1.out
        obtain ⟨⟨s0, s1, s2, s3, s4⟩, -, -⟩ := boxPl_at (q := q 1) NP.out
        have KS : Hid (∀ w', Below wp.heap.size wp w' → w'.cell? ⟨w.heap.size + 2, 1, none⟩ = some (.slice ad 1 c1) ∧ w'.frozen? ⟨w.heap.size + 2, 1, none⟩ = false) := fun w' b => by
          obtain ⟨⟨u0, u1⟩, ⟨v0, v1⟩, -⟩ := boxedYd_at ((b.block (w.heap.size + 2) (by omega)).trans Y1.out)
          exact ⟨u1, v1⟩
        clear hp hpp d0 f0 f1 y0 y1 y2 y3 y4 MW M0 M1 B ho bp NP T4 C1
        go_region_law (first
          | (go_simp; go_at_call 45; refine (C.out _).mono ?_; rintro e w5 ⟨u5, rfl, o5, b5⟩; have D5 : Hid (Below wp.heap.size wp w5) := (Below.refl _ _).drew.trans b5; obtain ⟨a5, c5, hu5⟩ := o5.fitS; rw [← HP.out] at hu5; subst hu5; have O5 := Lib.hid o5; have SS5 := Lib.hid (HO.out.later D5.out); have own5 := Lib.hid (ownSS_len hm.out SS5.out); have lg5 := own5.out.lt; have s5 := D5.out.size; obtain ⟨m1, -⟩ := KS.out _ D5.out; obtain ⟨m2, -⟩ := KS.out _ (D5.out.alloc (by omega) (.cells #[.slice a5 p c5] 44)); have q1 : w.heap.size + 2 < w5.heap.size := (by omega); have q2 : ¬ w.heap.size + 2 = w5.heap.size := (by omega); clear b5 o5)
          | (refine step_append_lies _ (by rfl) _ _ _ (by rfl) (w.heap.size + 3) 44 j0 _ 1 24 Try.underlying22 hj hy0 hy1 hy2 rfl (by omega) _ _ _ (by rfl) (own5.out.alloc _) ⟨w5.heap.size, 0, none⟩ 1 1 [.slice a5 p c5] (by rfl) (by rfl) (World.news_of_block (cs := #[.slice a5 p c5]) (t := 44) (fr := (0, 0)) (heap_alloc_new w5 _)) (by simp [Value.oneCell']) (by omega) (by unfold maxLen; omega) (by omega) (by simp; omega) (w5.heap.size + 1) (by simp) ?_; intro gg cap1 w6 hown1 hgrow hat hlt'; have gb := grownBy_trans' (World.grownBy_alloc w5 _ _) hgrow; have M6 : Hid (w6.heap[w.heap.size + 2]? = some (.cells #[.int .i64 h, .slice ad 1 c1] 26 (0, 0))) := (gb.block _ (by omega) (fun e => by have := (lg5 _ e.symm).1; omega)).trans ((D5.out.block _ (by omega)).trans Y1.out); obtain ⟨⟨g0, g1⟩, ⟨h0, h1⟩, -⟩ := boxedYd_at M6.out))
        all_goals
          have hown2 : w6.ownsRow (w.heap.size + 3) 44 1 (.slice (some ⟨gg, 0, none⟩) (1 + 1) cap1) (1 + 1) (xs.flatMap encSl ++ encSl ⟨a5, c5, t 1⟩) := by
            show w6.ownsRow _ _ _ _ _ (_ ++ [.slice a5 (t 1).length c5])
            rw [← HP.out]
            exact hown1
          have O6 : OwnSS w6 (w.heap.size + 3) w6.heap.size (.slice (some ⟨gg, 0, none⟩) (1 + 1) cap1) (xs ++ [⟨a5, c5, t 1⟩]) := SS5.out.pushRow (by omega) (by show OwnI _ _ (.slice a5 (t 1).length c5) _; rw [← HP.out]; exact O5.out.mono (by simp only [World.size_drew]; omega)) (fun k hk => by have h9 : (Value.slice a5 p c5).ownBlock = some k := (by rw [HP.out]; exact hk); have := (O5.out.lt k h9).1; simp only [World.size_drew] at this; omega) hown2 hm.out hgrow
          have e7 : (w6.setCell ⟨w.heap.size + 2, 1, none⟩ (.slice (some ⟨gg, 0, none⟩) (1 + 1) cap1)).heap.size = w6.heap.size := by simp
          have s6 := gb.size
          have O7 : Hid (OwnSS (w6.setCell ⟨w.heap.size + 2, 1, none⟩ (.slice (some ⟨gg, 0, none⟩) (1 + 1) cap1)) (w.heap.size + 3) (w6.setCell ⟨w.heap.size + 2, 1, none⟩ (.slice (some ⟨gg, 0, none⟩) (1 + 1) cap1)).heap.size (.slice (some ⟨gg, 0, none⟩) (1 + 1) cap1) (xs ++ [⟨a5, c5, t 1⟩])) := by
            show OwnSS _ _ _ _ _
            rw [e7]
            exact O6.of_blocks (by omega) fun k h1 h2 => Below.heap_setCell _ _ _ _ (by show k ≠ w.heap.size + 2; omega)
          have oth : ∀ j, j < w.heap.size + 2 → (w6.setCell ⟨w.heap.size + 2, 1, none⟩ (.slice (some ⟨gg, 0, none⟩) (1 + 1) cap1)).heap[j]? = wp.heap[j]? := fun j hj => by
            rw [Below.heap_setCell _ _ _ _ (by show j ≠ w.heap.size + 2; omega)]
            exact (gb.block _ (by omega) (fun e => by have := (lg5 _ e.symm).1; omega)).trans (D5.out.block _ (by omega))
          have M7 : Hid ((w6.setCell ⟨w.heap.size + 2, 1, none⟩ (.slice (some ⟨gg, 0, none⟩) (1 + 1) cap1)).heap[w.heap.size + 2]? = some (.cells #[.int .i64 h, .slice (some ⟨gg, 0, none⟩) (1 + 1) cap1] 26 (0, 0))) := putYd_1 _ M6.out
          have L7 := Lib.hid ((oth (w.heap.size + 1) (by omega)).trans Y0.out)
          have W7 := Lib.hid ((oth w.heap.size (by omega)).trans W1.out)
          have B7 : Hid (Below w.heap.size w (w6.setCell ⟨w.heap.size + 2, 1, none⟩ (.slice (some ⟨gg, 0, none⟩) (1 + 1) cap1))) := ((BP.out.trans (D5.out.mono (by omega))).grown gb (by omega) (fun j e => by have := (lg5 j e).1; omega)).setCell (p := ⟨w.heap.size + 2, 1, none⟩) (by show w.heap.size ≤ w.heap.size + 2; omega) _
          have M1' : Hid (1 + 1 = (xs ++ [(⟨a5, c5, t 1⟩ : Sl)]).length) := by show _ = _; rw [List.length_append, ← hm.out]; rfl
          have X7 : Hid ((xs ++ [(⟨a5, c5, t 1⟩ : Sl)]).map Sl.t = (List.range (1 + 1)).map t) := by show _ = _; rw [X2.out, List.map_append, hx'.out]; rfl
          have z7 : w.heap.size + 3 ≤ (w6.setCell ⟨w.heap.size + 2, 1, none⟩ (.slice (some ⟨gg, 0, none⟩) (1 + 1) cap1)).heap.size := by omega
          clear hown1 hown2 hgrow hat hlt' O6 e7 gb M6 lg5 own5 O5 SS5 D5 HO Y0 Y1 W1 BP KS C X2 hx' hm g0 g1 h0 h1 d1 s0 s1 s2 s3 s4 oth
          generalize w6.setCell ⟨w.heap.size + 2, 1, none⟩ (.slice (some ⟨gg, 0, none⟩) (1 + 1) cap1) = w7 at *
          go_wp2
          exact ⟨⟨1 + 1, cap1, _, _, by omega, by first | rfl | go_num, X7, M1', O7, W7, L7, M7, B7, z7⟩, by simp only [intOf]; omega⟩

      · have C := Lib.hid (C1.out 2 (by omega))
        have l4 := T4.out 2 (by omega)
        have y0 := cell_of_row wr w.heap.size 12 _ _ _ MW.out
        have y1 := cell_of_row wr w.heap.size 13 _ _ _ MW.out
        have y2 := cell_of_row wr w.heap.size 14 _ _ _ MW.out
        have y3 := cell_of_row wr w.heap.size 15 _ _ _ MW.out
        have y4 := cell_of_row wr w.heap.size 16 _ _ _ MW.out
        go_upto_region 5 with (fail)
        have NP : Hid ((wr.alloc (.cells #[.int .i64 (q 2).a, .int .i64 (q 2).b, .int .i64 (q 2).c, .int .i64 (q 2).d, .int .i64 (q 2).n] 52)).heap[wr.heap.size]? = some (.cells #[.int .i64 (q 2).a, .int .i64 (q 2).b, .int .i64 (q 2).c, .int .i64 (q 2).d, .int .i64 (q 2).n] 52 (0, 0))) := heap_alloc_new _ _
        have bp : Below wr.heap.size wr (wr.alloc (.cells #[.int .i64 (q 2).a, .int .i64 (q 2).b, .int .i64 (q 2).c, .int .i64 (q 2).d, .int .i64 (q 2).n] 52)) := by go_grown
        have zp : wr.heap.size + 1 ≤ (wr.alloc (.cells #[.int .i64 (q 2).a, .int .i64 (q 2).b, .int .i64 (q 2).c, .int .i64 (q 2).d, .int .i64 (q 2).n] 52)).heap.size := by simp
        generalize wr.alloc (.cells #[.int .i64 (q 2).a, .int .i64 (q 2).b, .int .i64 (q 2).c, .int .i64 (q 2).d, .int .i64 (q 2).n] 52) = wp at *
        have HO := Lib.hid (ho.out.later bp)
        have W1 := Lib.hid ((bp.block _ (by omega)).trans MW.out)
        have Y0 := Lib.hid ((bp.block _ (by omega)).trans M0.out)
        have Y1 := Lib.hid ((bp.block _ (by omega)).trans M1.out)
        have BP : Hid (Below w.heap.size w wp) := B.out.trans (bp.mono (by omega))
        obtain ⟨pp, hpp⟩ : ∃ pp, pp = wr.heap.size := ⟨_, rfl⟩
        have X2 : Hid ((List.range (2 + 1)).map t = (List.range 2).map t ++ [t 2]) := by show _ = _; rw [List.range_succ, List.map_append]; rfl
        obtain ⟨p, hp⟩ : ∃ p, p = (t 2).length := ⟨_, rfl⟩
        rw [← hp] at l4
        have HP := Lib.hid hp
        obtain ⟨⟨d0, d1⟩, ⟨f0, f1⟩, -⟩ := boxedYd_at Y1.out
        obtain ⟨⟨s0, s1, s2, s3, s4⟩, -, -⟩ := boxPl_at (q := q 2) NP.out
        have KS : Hid (∀ w', Below wp.heap.size wp w' → w'.cell? ⟨w.heap.size + 2, 1, none⟩ = some (.slice ad 2 c1) ∧ w'.frozen? ⟨w.heap.size + 2, 1, none⟩ = false) := fun w' b => by
          obtain ⟨⟨u0, u1⟩, ⟨v0, v1⟩, -⟩ := boxedYd_at ((b.block (w.heap.size + 2) (by omega)).trans Y1.out)
          exact ⟨u1, v1⟩
        clear hp hpp d0 f0 f1 y0 y1 y2 y3 y4 MW M0 M1 B ho bp NP T4 C1
        go_region_law (first
          | (go_simp; go_at_call 45; refine (C.out _).mono ?_; rintro e w5 ⟨u5, rfl, o5, b5⟩; have D5 : Hid (Below wp.heap.size wp w5) := (Below.refl _ _).drew.trans b5; obtain ⟨a5, c5, hu5⟩ := o5.fitS; rw [← HP.out] at hu5; subst hu5; have O5 := Lib.hid o5; have SS5 := Lib.hid (HO.out.later D5.out); have own5 := Lib.hid (ownSS_len hm.out SS5.out); have lg5 := own5.out.lt; have s5 := D5.out.size; obtain ⟨m1, -⟩ := KS.out _ D5.out; obtain ⟨m2, -⟩ := KS.out _ (D5.out.alloc (by omega) (.cells #[.slice a5 p c5] 44)); have q1 : w.heap.size + 2 < w5.heap.size := (by omega); have q2 : ¬ w.heap.size + 2 = w5.heap.size := (by omega); clear b5 o5)
          | (refine step_append_lies _ (by rfl) _ _ _ (by rfl) (w.heap.size + 3) 44 j0 _ 1 24 Try.underlying22 hj hy0 hy1 hy2 rfl (by omega) _ _ _ (by rfl) (own5.out.alloc _) ⟨w5.heap.size, 0, none⟩ 1 1 [.slice a5 p c5] (by rfl) (by rfl) (World.news_of_block (cs := #[.slice a5 p c5]) (t := 44) (fr := (0, 0)) (heap_alloc_new w5 _)) (by simp [Value.oneCell']) (by omega) (by unfold maxLen; omega) (by omega) (by simp; omega) (w5.heap.size + 1) (by simp) ?_; intro gg cap1 w6 hown1 hgrow hat hlt'; have gb := grownBy_trans' (World.grownBy_alloc w5 _ _) hgrow; have M6 : Hid (w6.heap[w.heap.size + 2]? = some (.cells #[.int .i64 h, .slice ad 2 c1] 26 (0, 0))) := (gb.block _ (by omega) (fun e => by have := (lg5 _ e.symm).1; omega)).trans ((D5.out.block _ (by omega)).trans Y1.out); obtain ⟨⟨g0, g1⟩, ⟨h0, h1⟩, -⟩ := boxedYd_at M6.out))
        all_goals
          have hown2 : w6.ownsRow (w.heap.size + 3) 44 1 (.slice (some ⟨gg, 0, none⟩) (2 + 1) cap1) (2 + 1) (xs.flatMap encSl ++ encSl ⟨a5, c5, t 2⟩) := by
            show w6.ownsRow _ _ _ _ _ (_ ++ [.slice a5 (t 2).length c5])
            rw [← HP.out]
            exact hown1
          have O6 : OwnSS w6 (w.heap.size + 3) w6.heap.size (.slice (some ⟨gg, 0, none⟩) (2 + 1) cap1) (xs ++ [⟨a5, c5, t 2⟩]) := SS5.out.pushRow (by omega) (by show OwnI _ _ (.slice a5 (t 2).length c5) _; rw [← HP.out]; exact O5.out.mono (by simp only [World.size_drew]; omega)) (fun k hk => by have h9 : (Value.slice a5 p c5).ownBlock = some k := (by rw [HP.out]; exact hk); have := (O5.out.lt k h9).1; simp only [World.size_drew] at this; omega) hown2 hm.out hgrow
          have e7 : (w6.setCell ⟨w.heap.size + 2, 1, none⟩ (.slice (some ⟨gg, 0, none⟩) (2 + 1) cap1)).heap.size = w6.heap.size := by simp
          have s6 := gb.size
          have O7 : Hid (OwnSS (w6.setCell ⟨w.heap.size + 2, 1, none⟩ (.slice (some ⟨gg, 0, none⟩) (2 + 1) cap1)) (w.heap.size + 3) (w6.setCell ⟨w.heap.size + 2, 1, none⟩ (.slice (some ⟨gg, 0, none⟩) (2 + 1) cap1)).heap.size (.slice (some ⟨gg, 0, none⟩) (2 + 1) cap1) (xs ++ [⟨a5, c5, t 2⟩])) := by
            show OwnSS _ _ _ _ _
            rw [e7]
            exact O6.of_blocks (by omega) fun k h1 h2 => Below.heap_setCell _ _ _ _ (by show k ≠ w.heap.size + 2; omega)
          have oth : ∀ j, j < w.heap.size + 2 → (w6.setCell ⟨w.heap.size + 2, 1, none⟩ (.slice (some ⟨gg, 0, none⟩) (2 + 1) cap1)).heap[j]? = wp.heap[j]? := fun j hj => by
            rw [Below.heap_setCell _ _ _ _ (by show j ≠ w.heap.size + 2; omega)]
            exact (gb.block _ (by omega) (fun e => by have := (lg5 _ e.symm).1; omega)).trans (D5.out.block _ (by omega))
          have M7 : Hid ((w6.setCell ⟨w.heap.size + 2, 1, none⟩ (.slice (some ⟨gg, 0, none⟩) (2 + 1) cap1)).heap[w.heap.size + 2]? = some (.cells #[.int .i64 h, .slice (some ⟨gg, 0, none⟩) (2 + 1) cap1] 26 (0, 0))) := putYd_1 _ M6.out
          have L7 := Lib.hid ((oth (w.heap.size + 1) (by omega)).trans Y0.out)
          have W7 := Lib.hid ((oth w.heap.size (by omega)).trans W1.out)
          have B7 : Hid (Below w.heap.size w (w6.setCell ⟨w.heap.size + 2, 1, none⟩ (.slice (some ⟨gg, 0, none⟩) (2 + 1) cap1))) := ((BP.out.trans (D5.out.mono (by omega))).grown gb (by omega) (fun j e => by have := (lg5 j e).1; omega)).setCell (p := ⟨w.heap.size + 2, 1, none⟩) (by show w.heap.size ≤ w.heap.size + 2; omega) _
          have M1' : Hid (2 + 1 = (xs ++ [(⟨a5, c5, t 2⟩ : Sl)]).length) := by show _ = _; rw [List.length_append, ← hm.out]; rfl
          have X7 : Hid ((xs ++ [(⟨a5, c5, t 2⟩ : Sl)]).map Sl.t = (List.range (2 + 1)).map t) := by show _ = _; rw [X2.out, List.map_append, hx'.out]; rfl
          have z7 : w.heap.size + 3 ≤ (w6.setCell ⟨w.heap.size + 2, 1, none⟩ (.slice (some ⟨gg, 0, none⟩) (2 + 1) cap1)).heap.size := by omega
          clear hown1 hown2 hgrow hat hlt' O6 e7 gb M6 lg5 own5 O5 SS5 D5 HO Y0 Y1 W1 BP KS C X2 hx' hm g0 g1 h0 h1 d1 s0 s1 s2 s3 s4 oth
          generalize w6.setCell ⟨w.heap.size + 2, 1, none⟩ (.slice (some ⟨gg, 0, none⟩) (2 + 1) cap1) = w7 at *
          go_wp2
          exact ⟨⟨2 + 1, cap1, _, _, by omega, by first | rfl | go_num, X7, M1', O7, W7, L7, M7, B7, z7⟩, by simp only [intOf]; omega⟩

      · have C := Lib.hid (C1.out 3 (by omega))
        have l4 := T4.out 3 (by omega)
        have y0 := cell_of_row wr w.heap.size 17 _ _ _ MW.out
        have y1 := cell_of_row wr w.heap.size 18 _ _ _ MW.out
        have y2 := cell_of_row wr w.heap.size 19 _ _ _ MW.out
        have y3 := cell_of_row wr w.heap.size 20 _ _ _ MW.out
        have y4 := cell_of_row wr w.heap.size 21 _ _ _ MW.out
        go_upto_region 5 with (fail)
        have NP : Hid ((wr.alloc (.cells #[.int .i64 (q 3).a, .int .i64 (q 3).b, .int .i64 (q 3).c, .int .i64 (q 3).d, .int .i64 (q 3).n] 52)).heap[wr.heap.size]? = some (.cells #[.int .i64 (q 3).a, .int .i64 (q 3).b, .int .i64 (q 3).c, .int .i64 (q 3).d, .int .i64 (q 3).n] 52 (0, 0))) := heap_alloc_new _ _
        have bp : Below wr.heap.size wr (wr.alloc (.cells #[.int .i64 (q 3).a, .int .i64 (q 3).b, .int .i64 (q 3).c, .int .i64 (q 3).d, .int .i64 (q 3).n] 52)) := by go_grown
        have zp : wr.heap.size + 1 ≤ (wr.alloc (.cells #[.int .i64 (q 3).a, .int .i64 (q 3).b, .int .i64 (q 3).c, .int .i64 (q 3).d, .int .i64 (q 3).n] 52)).heap.size := by simp
        generalize wr.alloc (.cells #[.int .i64 (q 3).a, .int .i64 (q 3).b, .int .i64 (q 3).c, .int .i64 (q 3).d, .int .i64 (q 3).n] 52) = wp at *
        have HO := Lib.hid (ho.out.later bp)
        have W1 := Lib.hid ((bp.block _ (by omega)).trans MW.out)
        have Y0 := Lib.hid ((bp.block _ (by omega)).trans M0.out)
        have Y1 := Lib.hid ((bp.block _ (by omega)).trans M1.out)
        have BP : Hid (Below w.heap.size w wp) := B.out.trans (bp.mono (by omega))
        obtain ⟨pp, hpp⟩ : ∃ pp, pp = wr.heap.size := ⟨_, rfl⟩
        have X2 : Hid ((List.range (3 + 1)).map t = (List.range 3).map t ++ [t 3]) := by show _ = _; rw [List.range_succ, List.map_append]; rfl
        obtain ⟨p, hp⟩ : ∃ p, p = (t 3).length := ⟨_, rfl⟩
        rw [← hp] at l4
        have HP := Lib.hid hp
        obtain ⟨⟨d0, d1⟩, ⟨f0, f1⟩, -⟩ := boxedYd_at Y1.out
        obtain ⟨⟨s0, s1, s2, s3, s4⟩, -, -⟩ := boxPl_at (q := q 3) NP.out
        have KS : Hid (∀ w', Below wp.heap.size wp w' → w'.cell? ⟨w.heap.size + 2, 1, none⟩ = some (.slice ad 3 c1) ∧ w'.frozen? ⟨w.heap.size + 2, 1, none⟩ = false) := fun w' b => by
          obtain ⟨⟨u0, u1⟩, ⟨v0, v1⟩, -⟩ := boxedYd_at ((b.block (w.heap.size + 2) (by omega)).trans Y1.out)
          exact ⟨u1, v1⟩
        clear hp hpp d0 f0 f1 y0 y1 y2 y3 y4 MW M0 M1 B ho bp NP T4 C1
        go_region_law (first
          | (go_simp; go_at_call 45; refine (C.out _).mono ?_; rintro e w5 ⟨u5, rfl, o5, b5⟩; have D5 : Hid (Below wp.heap.size wp w5) := (Below.refl _ _).drew.trans b5; obtain ⟨a5, c5, hu5⟩ := o5.fitS; rw [← HP.out] at hu5; subst hu5; have O5 := Lib.hid o5; have SS5 := Lib.hid (HO.out.later D5.out); have own5 := Lib.hid (ownSS_len hm.out SS5.out); have lg5 := own5.out.lt; have s5 := D5.out.size; obtain ⟨m1, -⟩ := KS.out _ D5.out; obtain ⟨m2, -⟩ := KS.out _ (D5.out.alloc (by omega) (.cells #[.slice a5 p c5] 44)); have q1 : w.heap.size + 2 < w5.heap.size := (by omega); have q2 : ¬ w.heap.size + 2 = w5.heap.size := (by omega); clear b5 o5)
          | (refine step_append_lies _ (by rfl) _ _ _ (by rfl) (w.heap.size + 3) 44 j0 _ 1 24 Try.underlying22 hj hy0 hy1 hy2 rfl (by omega) _ _ _ (by rfl) (own5.out.alloc _) ⟨w5.heap.size, 0, none⟩ 1 1 [.slice a5 p c5] (by rfl) (by rfl) (World.news_of_block (cs := #[.slice a5 p c5]) (t := 44) (fr := (0, 0)) (heap_alloc_new w5 _)) (by simp [Value.oneCell']) (by omega) (by unfold maxLen; omega) (by omega) (by simp; omega) (w5.heap.size + 1) (by simp) ?_; intro gg cap1 w6 hown1 hgrow hat hlt'; have gb := grownBy_trans' (World.grownBy_alloc w5 _ _) hgrow; have M6 : Hid (w6.heap[w.heap.size + 2]? = some (.cells #[.int .i64 h, .slice ad 3 c1] 26 (0, 0))) := (gb.block _ (by omega) (fun e => by have := (lg5 _ e.symm).1; omega)).trans ((D5.out.block _ (by omega)).trans Y1.out); obtain ⟨⟨g0, g1⟩, ⟨h0, h1⟩, -⟩ := boxedYd_at M6.out))
        all_goals
          have hown2 : w6.ownsRow (w.heap.size + 3) 44 1 (.slice (some ⟨gg, 0, none⟩) (3 + 1) cap1) (3 + 1) (xs.flatMap encSl ++ encSl ⟨a5, c5, t 3⟩) := by
            show w6.ownsRow _ _ _ _ _ (_ ++ [.slice a5 (t 3).length c5])
            rw [← HP.out]
            exact hown1
          have O6 : OwnSS w6 (w.heap.size + 3) w6.heap.size (.slice (some ⟨gg, 0, none⟩) (3 + 1) cap1) (xs ++ [⟨a5, c5, t 3⟩]) := SS5.out.pushRow (by omega) (by show OwnI _ _ (.slice a5 (t 3).length c5) _; rw [← HP.out]; exact O5.out.mono (by simp only [World.size_drew]; omega)) (fun k hk => by have h9 : (Value.slice a5 p c5).ownBlock = some k := (by rw [HP.out]; exact hk); have := (O5.out.lt k h9).1; simp only [World.size_drew] at this; omega) hown2 hm.out hgrow
          have e7 : (w6.setCell ⟨w.heap.size + 2, 1, none⟩ (.slice (some ⟨gg, 0, none⟩) (3 + 1) cap1)).heap.size = w6.heap.size := by simp
          have s6 := gb.size
          have O7 : Hid (OwnSS (w6.setCell ⟨w.heap.size + 2, 1, none⟩ (.slice (some ⟨gg, 0, none⟩) (3 + 1) cap1)) (w.heap.size + 3) (w6.setCell ⟨w.heap.size + 2, 1, none⟩ (.slice (some ⟨gg, 0, none⟩) (3 + 1) cap1)).heap.size (.slice (some ⟨gg, 0, none⟩) (3 + 1) cap1) (xs ++ [⟨a5, c5, t 3⟩])) := by
            show OwnSS _ _ _ _ _
            rw [e7]
            exact O6.of_blocks (by omega) fun k h1 h2 => Below.heap_setCell _ _ _ _ (by show k ≠ w.heap.size + 2; omega)
          have oth : ∀ j, j < w.heap.size + 2 → (w6.setCell ⟨w.heap.size + 2, 1, none⟩ (.slice (some ⟨gg, 0, none⟩) (3 + 1) cap1)).heap[j]? = wp.heap[j]? := fun j hj => by
            rw [Below.heap_setCell _ _ _ _ (by show j ≠ w.heap.size + 2; omega)]
            exact (gb.block _ (by omega) (fun e => by have := (lg5 _ e.symm).1; omega)).trans (D5.out.block _ (by omega))
          have M7 : Hid ((w6.setCell ⟨w.heap.size + 2, 1, none⟩ (.slice (some ⟨gg, 0, none⟩) (3 + 1) cap1)).heap[w.heap.size + 2]? = some (.cells #[.int .i64 h, .slice (some ⟨gg, 0, none⟩) (3 + 1) cap1] 26 (0, 0))) := putYd_1 _ M6.out
          have L7 := Lib.hid ((oth (w.heap.size + 1) (by omega)).trans Y0.out)
          have W7 := Lib.hid ((oth w.heap.size (by omega)).trans W1.out)
          have B7 : Hid (Below w.heap.size w (w6.setCell ⟨w.heap.size + 2, 1, none⟩ (.slice (some ⟨gg, 0, none⟩) (3 + 1) cap1))) := ((BP.out.trans (D5.out.mono (by omega))).grown gb (by omega) (fun j e => by have := (lg5 j e).1; omega)).setCell (p := ⟨w.heap.size + 2, 1, none⟩) (by show w.heap.size ≤ w.heap.size + 2; omega) _
          have M1' : Hid (3 + 1 = (xs ++ [(⟨a5, c5, t 3⟩ : Sl)]).length) := by show _ = _; rw [List.length_append, ← hm.out]; rfl
          have X7 : Hid ((xs ++ [(⟨a5, c5, t 3⟩ : Sl)]).map Sl.t = (List.range (3 + 1)).map t) := by show _ = _; rw [X2.out, List.map_append, hx'.out]; rfl
          have z7 : w.heap.size + 3 ≤ (w6.setCell ⟨w.heap.size + 2, 1, none⟩ (.slice (some ⟨gg, 0, none⟩) (3 + 1) cap1)).heap.size := by omega
          clear hown1 hown2 hgrow hat hlt' O6 e7 gb M6 lg5 own5 O5 SS5 D5 HO Y0 Y1 W1 BP KS C X2 hx' hm g0 g1 h0 h1 d1 s0 s1 s2 s3 s4 oth
          generalize w6.setCell ⟨w.heap.size + 2, 1, none⟩ (.slice (some ⟨gg, 0, none⟩) (3 + 1) cap1) = w7 at *
          go_wp2
          exact ⟨⟨3 + 1, cap1, _, _, by omega, by first | rfl | go_num, X7, M1', O7, W7, L7, M7, B7, z7⟩, by simp only [intOf]; omega⟩

    · obtain rfl : i = n := by omega
      obtain ⟨⟨d0, d1⟩, -, -⟩ := boxedYd_at M1.out
      obtain ⟨⟨d2, d3⟩, ⟨f0, f1⟩, lR⟩ := boxedYd_at M0.out
      obtain ⟨F, hu⟩ := und_yard
      have NE : Hid (((wr.setCell ⟨w.heap.size + 1, 0, none⟩ (.int .i64 h)).setCell ⟨w.heap.size + 1, 1, none⟩ (.slice ad i c1)).heap[w.heap.size + 1]? = some (.cells #[.int .i64 h, .slice ad i c1] 26 (0, 0))) := putYd_1 _ (putYd_0 _ M0.out)
      have BE : Hid (Below w.heap.size w ((wr.setCell ⟨w.heap.size + 1, 0, none⟩ (.int .i64 h)).setCell ⟨w.heap.size + 1, 1, none⟩ (.slice ad i c1))) := (B.out.setCell (p := ⟨w.heap.size + 1, 0, none⟩) (by show w.heap.size ≤ w.heap.size + 1; omega) _).setCell (p := ⟨w.heap.size + 1, 1, none⟩) (by show w.heap.size ≤ w.heap.size + 1; omega) _
      have OE : Hid (OwnSS ((wr.setCell ⟨w.heap.size + 1, 0, none⟩ (.int .i64 h)).setCell ⟨w.heap.size + 1, 1, none⟩ (.slice ad i c1)) w.heap.size ((wr.setCell ⟨w.heap.size + 1, 0, none⟩ (.int .i64 h)).setCell ⟨w.heap.size + 1, 1, none⟩ (.slice ad i c1)).heap.size (.slice ad i c1) xs) := by
        show OwnSS _ _ _ _ _
        have e : ((wr.setCell ⟨w.heap.size + 1, 0, none⟩ (.int .i64 h)).setCell ⟨w.heap.size + 1, 1, none⟩ (.slice ad i c1)).heap.size = wr.heap.size := by simp
        rw [e]
        refine OwnSS.moveB (ho.out.of_blocks (by omega) fun k h1 h2 => ?_) (show w.heap.size ≤ w.heap.size + 3 by omega)
        rw [Below.heap_setCell _ _ _ _ (by show k ≠ w.heap.size + 1; omega), Below.heap_setCell _ _ _ _ (by show k ≠ w.heap.size + 1; omega)]
      clear ho M0 M1 B MW
      go_wp2
      refine bodyPost_ret (results_cell_row Try.results29 _ _ (w.heap.size + 1) 26 #[.int .i64 h, .slice ad i c1] (0, 0) (.struct F) rfl NE.out hu rfl infoY_yard) rfl ?_
      exact ⟨⟨h, ad, c1, xs⟩, rfl, hx'.out, rfl, ⟨OE.out⟩, BE.out⟩
end Go.Proofs.Ythfmmlpbflfpaac
