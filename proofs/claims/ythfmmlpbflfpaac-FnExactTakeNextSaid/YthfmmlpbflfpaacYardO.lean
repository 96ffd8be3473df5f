/- A copy of a yard: the specification's helper. -/
import Derived.Test.YthfmmlpbflfpaacPushS
import Derived.Test.YthfmmlpbflfpaacCloneE
import Derived.Test.YthfmmlpbflfpaacYardM
import Derived.Deep.RegionLaw
namespace Go.Proofs.Ythfmmlpbflfpaac
open Go.ChangeShapes Go.WideShapes Go.ChangeAt Go.RowKit
set_option linter.unusedVariables false
set_option linter.unusedSimpArgs false

theorem info_SSy : (Try.prog.info? 44).map (fun i => (i.zero, i.size, i.bytes)) = some (some (.slice none 0 0), 1, 24) := by kernel_rfl

def isStructY : TypeDesc → Bool
  | .struct _ => true
  | _ => false
theorem und_yard : ∃ F, Try.prog.underlying 26 = some (.struct F) := by
  have h : (Try.prog.underlying 26).map isStructY = some true := by kernel_rfl
  cases e : Try.prog.underlying 26 with
  | none => rw [e] at h; simp at h
  | some d =>
    rw [e] at h
    cases d <;> first | exact ⟨_, rfl⟩ | (simp [isStructY] at h)
theorem infoY_yard : (Try.prog.info? 26).map (fun i => i.size) = some 2 := by kernel_rfl

set_option maxRecDepth 100000 in
set_option maxHeartbeats 16000000 in
theorem l09Own_any (G : Nat) (ty : TypeId) (g : Yd) (n0 : Nat) (w : World) (hG : w.heap[G]? = some (.cells #[.int .i64 g.h, .slice g.xa n0 g.xc] ty (0, 0))) (hr : RdYd w n0 g) (ok : OkYd g) :
    Calls Try.prog 13 #[.pointer (some ⟨G, 0, none⟩)] w fun e w' => ∃ u : Yd, u.same g ∧ e = .returned (.agg #[.int .i64 u.h, .slice u.xa n0 u.xc]) ∧ OwnYd w' w.heap.size w'.heap.size n0 u ∧ Below w.heap.size w w' := by
  obtain ⟨j0, hj, hy0, hy1, hy2⟩ := info_parts info_SSy
  have E0 := Lib.hid hr.len
  obtain ⟨⟨k0, k1⟩, -, lG⟩ := boxedYd_at hG
  have n4 : n0 ≤ 4 := by have := ok.n0; have := hr.len; omega
  have HG := Lib.hid hG
  have H := Lib.hid hr.r0
  have OK := Lib.hid ok
  obtain ⟨x0, hx0⟩ : ∃ x0, g.x[0]? = some x0 := ⟨_, List.getElem?_eq_getElem (by have := ok.n0; omega)⟩
  obtain ⟨ba, oa, EA, -, -, -⟩ := H.out.at hx0
  rw [EA] at k1 HG
  clear hG hr ok hx0 x0
  go_enter Try.func13, Try.ntmps13
  go_upto_region 2 with (fail)
  have N0 : Hid (((w.alloc (.cells #[.int .i64 0, .slice none 0 0] 26)).alloc (.cells #[.int .i64 g.h, .slice none 0 0] 26)).heap[w.heap.size]? = some (.cells #[.int .i64 0, .slice none 0 0] 26 (0, 0))) := box2_0 w _ _
  have N1 : Hid (((w.alloc (.cells #[.int .i64 0, .slice none 0 0] 26)).alloc (.cells #[.int .i64 g.h, .slice none 0 0] 26)).heap[w.heap.size + 1]? = some (.cells #[.int .i64 g.h, .slice none 0 0] 26 (0, 0))) := box2_1 w _ _
  have B0 : Hid (Below w.heap.size w ((w.alloc (.cells #[.int .i64 0, .slice none 0 0] 26)).alloc (.cells #[.int .i64 g.h, .slice none 0 0] 26))) := by show Below _ _ _; go_grown
  have z0 : w.heap.size + 2 ≤ ((w.alloc (.cells #[.int .i64 0, .slice none 0 0] 26)).alloc (.cells #[.int .i64 g.h, .slice none 0 0] 26)).heap.size := by simp
  generalize (w.alloc (.cells #[.int .i64 0, .slice none 0 0] 26)).alloc (.cells #[.int .i64 g.h, .slice none 0 0] 26) = W at *
  have O0 := Lib.hid (OwnSS.none W (w.heap.size + 2) W.heap.size (Nat.le_refl _))
  go_wp2
  go_loopw [4] (fun iv wr => ∃ (i c1 : Nat) (ad : Option Addr) (xs : List Sl), i ≤ n0 ∧ iv = .int .i64 i ∧ Hid (xs.map Sl.t = (g.x.map Sl.t).take i) ∧ Hid (i = xs.length) ∧ Hid (OwnSS wr (w.heap.size + 2) wr.heap.size (.slice ad i c1) xs) ∧ Hid (wr.heap[w.heap.size]? = some (.cells #[.int .i64 0, .slice none 0 0] 26 (0, 0))) ∧ Hid (wr.heap[w.heap.size + 1]? = some (.cells #[.int .i64 g.h, .slice ad i c1] 26 (0, 0))) ∧ Hid (Below w.heap.size w wr) ∧ w.heap.size + 2 ≤ wr.heap.size) (fun iv _ => n0 - (intOf iv).toNat)
  case atStart => exact ⟨0, 0, none, [], by omega, rfl, rfl, rfl, O0.out, N0.out, N1.out, B0.out, z0⟩
  case round =>
    obtain ⟨i, c1, ad, xs, hi', rfl, hx', hm, ho, M0, M1, B, zr⟩ := hrel
    clear O0 N0 N1 B0 z0 k0 k1
    obtain ⟨⟨k0, k1⟩, -, -⟩ := boxedYd_at ((B.out.block G lG).trans HG.out)
    by_cases hlt : i < n0
    · obtain ⟨x, hx⟩ : ∃ x, g.x[i]? = some x := ⟨_, List.getElem?_eq_getElem (by have := E0.out; omega)⟩
      obtain ⟨ba', oa', ea, e1, rt, la⟩ := (H.out.later B.out).at hx
      rw [EA] at ea
      simp only [Option.some.injEq, Addr.mk.injEq, and_true] at ea
      obtain ⟨rfl, rfl⟩ := ea
      have lt4 : x.t.length ≤ 4 := by have := OK.out.t0 x (List.mem_of_getElem? hx); have := OK.out.h0; omega
      have C := Lib.hid (fun w h => l00Own_any (.slice x.a x.t.length x.c) x.t w h (by omega))
      have X2 : Hid ((g.x.map Sl.t).take (i + 1) = (g.x.map Sl.t).take i ++ [x.t]) := by show _ = _; rw [List.take_add_one, List.getElem?_map, hx]; rfl
      obtain ⟨p, hp⟩ : ∃ p, p = x.t.length := ⟨_, rfl⟩
      rw [← hp] at C e1 rt lt4
      have HP := Lib.hid hp
      have RT := Lib.hid rt
      obtain ⟨⟨d0, d1⟩, ⟨f0, f1⟩, -⟩ := boxedYd_at M1.out
      have KS : Hid (∀ w', Below wr.heap.size wr w' → w'.cell? ⟨w.heap.size + 1, 1, none⟩ = some (.slice ad i c1) ∧ w'.frozen? ⟨w.heap.size + 1, 1, none⟩ = false) := fun w' b => by
        obtain ⟨⟨u0, u1⟩, ⟨v0, v1⟩, -⟩ := boxedYd_at ((b.block (w.heap.size + 1) (by omega)).trans M1.out)
        exact ⟨u1, v1⟩
      clear hx hp rt d0 f0 f1
      go_wp2_with fail
      go_region_law (first
        | (go_simp; go_at_call 24; refine (C.out _ (RT.out.later (Below.refl _ _).drew)).mono ?_; rintro e w5 ⟨u5, rfl, o5, b5⟩; have D5 : Hid (Below wr.heap.size wr w5) := (Below.refl _ _).drew.trans b5; obtain ⟨a5, c5, hu5⟩ := o5.fitS; rw [← HP.out] at hu5; subst hu5; have O5 := Lib.hid o5; have SS5 := Lib.hid (ho.out.later D5.out); have own5 := Lib.hid (ownSS_len hm.out SS5.out); have lg5 := own5.out.lt; have s5 := D5.out.size; obtain ⟨m1, -⟩ := KS.out _ D5.out; obtain ⟨m2, -⟩ := KS.out _ (D5.out.alloc (by omega) (.cells #[.slice a5 p c5] 44)); have q1 : w.heap.size + 1 < w5.heap.size := (by omega); have q2 : ¬ w.heap.size + 1 = w5.heap.size := (by omega); clear b5 o5)
        | (refine step_append_lies _ (by rfl) _ _ _ (by rfl) (w.heap.size + 2) 44 j0 _ 1 24 Try.underlying22 hj hy0 hy1 hy2 rfl (by omega) _ _ _ (by rfl) (own5.out.alloc _) ⟨w5.heap.size, 0, none⟩ 1 1 [.slice a5 p c5] (by rfl) (by rfl) (World.news_of_block (cs := #[.slice a5 p c5]) (t := 44) (fr := (0, 0)) (heap_alloc_new w5 _)) (by simp [Value.oneCell']) (by omega) (by unfold maxLen; omega) (by omega) (by simp; omega) (w5.heap.size + 1) (by simp) ?_; intro gg cap1 w6 hown1 hgrow hat hlt'; have gb := grownBy_trans' (World.grownBy_alloc w5 _ _) hgrow; have M6 : Hid (w6.heap[w.heap.size + 1]? = some (.cells #[.int .i64 g.h, .slice ad i c1] 26 (0, 0))) := (gb.block _ (by omega) (fun e => by have := (lg5 _ e.symm).1; omega)).trans ((D5.out.block _ (by omega)).trans M1.out); obtain ⟨⟨g0, g1⟩, ⟨h0, h1⟩, -⟩ := boxedYd_at M6.out))
      all_goals
        have hown2 : w6.ownsRow (w.heap.size + 2) 44 1 (.slice (some ⟨gg, 0, none⟩) (i + 1) cap1) (i + 1) (xs.flatMap encSl ++ encSl ⟨a5, c5, x.t⟩) := by
          show w6.ownsRow _ _ _ _ _ (_ ++ [.slice a5 x.t.length c5])
          rw [← HP.out]
          exact hown1
        have O6 : OwnSS w6 (w.heap.size + 2) w6.heap.size (.slice (some ⟨gg, 0, none⟩) (i + 1) cap1) (xs ++ [⟨a5, c5, x.t⟩]) := SS5.out.pushRow (by omega) (by show OwnI _ _ (.slice a5 x.t.length c5) _; rw [← HP.out]; exact O5.out.mono (by simp only [World.size_drew]; omega)) (fun k hk => by have h9 : (Value.slice a5 p c5).ownBlock = some k := (by rw [HP.out]; exact hk); have := (O5.out.lt k h9).1; simp only [World.size_drew] at this; exact this) hown2 hm.out hgrow
        have e7 : (w6.setCell ⟨w.heap.size + 1, 1, none⟩ (.slice (some ⟨gg, 0, none⟩) (i + 1) cap1)).heap.size = w6.heap.size := by simp
        have s6 := gb.size
        have O7 : Hid (OwnSS (w6.setCell ⟨w.heap.size + 1, 1, none⟩ (.slice (some ⟨gg, 0, none⟩) (i + 1) cap1)) (w.heap.size + 2) (w6.setCell ⟨w.heap.size + 1, 1, none⟩ (.slice (some ⟨gg, 0, none⟩) (i + 1) cap1)).heap.size (.slice (some ⟨gg, 0, none⟩) (i + 1) cap1) (xs ++ [⟨a5, c5, x.t⟩])) := by
          show OwnSS _ _ _ _ _
          rw [e7]
          exact O6.of_blocks (by omega) fun k h1 h2 => Below.heap_setCell _ _ _ _ (by show k ≠ w.heap.size + 1; omega)
        have M7 : Hid ((w6.setCell ⟨w.heap.size + 1, 1, none⟩ (.slice (some ⟨gg, 0, none⟩) (i + 1) cap1)).heap[w.heap.size + 1]? = some (.cells #[.int .i64 g.h, .slice (some ⟨gg, 0, none⟩) (i + 1) cap1] 26 (0, 0))) := putYd_1 _ M6.out
        have L7 : Hid ((w6.setCell ⟨w.heap.size + 1, 1, none⟩ (.slice (some ⟨gg, 0, none⟩) (i + 1) cap1)).heap[w.heap.size]? = some (.cells #[.int .i64 0, .slice none 0 0] 26 (0, 0))) := by
          show _ = _
          rw [Below.heap_setCell _ _ _ _ (by show w.heap.size ≠ w.heap.size + 1; omega)]
          exact (gb.block _ (by omega) (fun e => by have := (lg5 _ e.symm).1; omega)).trans ((D5.out.block _ (by omega)).trans M0.out)
        have B7 : Hid (Below w.heap.size w (w6.setCell ⟨w.heap.size + 1, 1, none⟩ (.slice (some ⟨gg, 0, none⟩) (i + 1) cap1))) := ((B.out.trans (D5.out.mono (by omega))).grown gb (by omega) (fun j e => by have := (lg5 j e).1; omega)).setCell (p := ⟨w.heap.size + 1, 1, none⟩) (by show w.heap.size ≤ w.heap.size + 1; omega) _
        have M1' : Hid (i + 1 = (xs ++ [(⟨a5, c5, x.t⟩ : Sl)]).length) := by show _ = _; rw [List.length_append, ← hm.out]; rfl
        have X7 : Hid ((xs ++ [(⟨a5, c5, x.t⟩ : Sl)]).map Sl.t = (g.x.map Sl.t).take (i + 1)) := by show _ = _; rw [X2.out, List.map_append, hx'.out]; rfl
        have z7 : w.heap.size + 2 ≤ (w6.setCell ⟨w.heap.size + 1, 1, none⟩ (.slice (some ⟨gg, 0, none⟩) (i + 1) cap1)).heap.size := by omega
        clear hown1 hown2 hgrow hat hlt' O6 e7 gb M6 lg5 own5 O5 SS5 D5 ho M0 M1 B KS RT C X2 hx' hm g0 g1 h0 h1 d1 k0 k1 e1
        generalize w6.setCell ⟨w.heap.size + 1, 1, none⟩ (.slice (some ⟨gg, 0, none⟩) (i + 1) cap1) = w7 at *
        go_wp2
        exact ⟨⟨i + 1, cap1, _, _, by omega, by go_num, X7, M1', O7, L7, M7, B7, z7⟩, by simp only [intOf]; omega⟩
    · obtain rfl : i = n0 := by omega
      obtain ⟨⟨d0, d1⟩, -, -⟩ := boxedYd_at M1.out
      obtain ⟨⟨d2, d3⟩, ⟨f0, f1⟩, lR⟩ := boxedYd_at M0.out
      obtain ⟨F, hu⟩ := und_yard
      have NE : Hid (((wr.setCell ⟨w.heap.size, 0, none⟩ (.int .i64 g.h)).setCell ⟨w.heap.size, 1, none⟩ (.slice ad i c1)).heap[w.heap.size]? = some (.cells #[.int .i64 g.h, .slice ad i c1] 26 (0, 0))) := putYd_1 _ (putYd_0 _ M0.out)
      have BE : Hid (Below w.heap.size w ((wr.setCell ⟨w.heap.size, 0, none⟩ (.int .i64 g.h)).setCell ⟨w.heap.size, 1, none⟩ (.slice ad i c1))) := (B.out.setCell (p := ⟨w.heap.size, 0, none⟩) (Nat.le_refl _) _).setCell (p := ⟨w.heap.size, 1, none⟩) (Nat.le_refl _) _
      have OE : Hid (OwnSS ((wr.setCell ⟨w.heap.size, 0, none⟩ (.int .i64 g.h)).setCell ⟨w.heap.size, 1, none⟩ (.slice ad i c1)) w.heap.size ((wr.setCell ⟨w.heap.size, 0, none⟩ (.int .i64 g.h)).setCell ⟨w.heap.size, 1, none⟩ (.slice ad i c1)).heap.size (.slice ad i c1) xs) := by
        show OwnSS _ _ _ _ _
        have e : ((wr.setCell ⟨w.heap.size, 0, none⟩ (.int .i64 g.h)).setCell ⟨w.heap.size, 1, none⟩ (.slice ad i c1)).heap.size = wr.heap.size := by simp
        rw [e]
        refine OwnSS.moveB (ho.out.of_blocks (by omega) fun k h1 h2 => ?_) (show w.heap.size ≤ w.heap.size + 2 by omega)
        rw [Below.heap_setCell _ _ _ _ (by show k ≠ w.heap.size; omega), Below.heap_setCell _ _ _ _ (by show k ≠ w.heap.size; omega)]
      have SM : Hid ((⟨g.h, ad, c1, xs⟩ : Yd).same g) := ⟨rfl, by show xs.map Sl.t = _; rw [hx'.out, List.take_of_length_le (by rw [List.length_map, ← E0.out]; omega)]⟩
      clear ho M0 M1 B hx'
      go_wp2
      refine bodyPost_ret (results_cell_row Try.results13 _ _ w.heap.size 26 #[.int .i64 g.h, .slice ad i c1] (0, 0) (.struct F) rfl NE.out hu rfl infoY_yard) rfl ?_
      exact ⟨⟨g.h, ad, c1, xs⟩, SM.out, rfl, ⟨OE.out⟩, BE.out⟩
end Go.Proofs.Ythfmmlpbflfpaac
