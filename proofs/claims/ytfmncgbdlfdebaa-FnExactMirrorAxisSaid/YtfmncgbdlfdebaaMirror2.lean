/- MirrorAxis on both sides. -/
import Derived.Test.YtfmncgbdlfdebaaMirror
import Derived.Deep.AppendLies
namespace Go.Proofs.Ytfmncgbdlfdebaa
open Go.ChangeShapes Go.WideShapes Go.ChangeAt Go.RowKit
set_option linter.unusedVariables false
set_option linter.unusedSimpArgs false

set_option maxRecDepth 100000 in
set_option maxHeartbeats 4000000 in
theorem implMirror_no (q : Ps) (v : Value) (cs : List Cv) (w : World) (hc : RdS 3 encCv w v cs) (lz : cs.length ≤ 1048576) (h : ¬ OkA q cs) (r : Ps) (hr : r = ⟨0, 0, 0, 0⟩) :
    Calls Try.prog 50 #[(.agg #[.int .i64 q.s, .int .i64 q.h, .int .i64 q.y, .int .i64 q.p, v])] w fun e w' => ∃ v', e = .returned (.tuple #[(.agg #[.int .i64 r.s, .int .i64 r.h, .int .i64 r.y, .int .i64 r.p, v']), .bool false]) ∧ OwnS 84 3 encCv w' w.heap.size v' [] ∧ Below w.heap.size w w' := by
  have HC := Lib.hid hc
  obtain ⟨a, cap, rfl, _⟩ := hc
  have c1 := Lib.hid (fun w (hr : RdS 3 encCv w (.slice a cs.length cap) cs) => implValidAxis_any q _ cs w hr lz false ⟨fun e => (by cases e), fun e => absurd e h⟩)
  subst hr
  clear h lz
  go_enter Try.func50, Try.ntmps50
  go_wp2_with fail
  refine (c1.out _ (HC.out.later (by go_grown))).mono ?_
  rintro e w1 ⟨rfl, b1⟩
  have r1 := (b1.block (w.heap.size + 1) (by simp only [World.size_alloc]; omega)).trans (heap_alloc2_new w _ _)
  have B1 : Hid (Below w.heap.size w w1) := Below.trans (by go_grown) (b1.mono (by simp only [World.size_alloc]; omega))
  obtain ⟨⟨g0, g1, g2, g3, g4⟩, l6⟩ := boxA_at (q := zPs') r1
  have f0 := frozen_of_row w1 (w.heap.size + 1) 0 _ _ r1
  have f1 := frozen_of_row w1 (w.heap.size + 1) 1 _ _ r1
  have f2 := frozen_of_row w1 (w.heap.size + 1) 2 _ _ r1
  have f3 := frozen_of_row w1 (w.heap.size + 1) 3 _ _ r1
  have f4 := frozen_of_row w1 (w.heap.size + 1) 4 _ _ r1
  clear b1 c1 r1
  go_wp2
  refine bodyPost_ret (v := .tuple #[.agg #[.int .i64 0, .int .i64 0, .int .i64 0, .int .i64 0, .slice none 0 0], .bool false]) (by simp [results, Try.results50, go_sem, g0, g1, g2, g3, g4]; try rfl) rfl ⟨_, rfl, OwnS.nil _ _, ?_⟩
  have b := B1.out
  go_grown

set_option maxRecDepth 100000 in
set_option maxHeartbeats 4000000 in
theorem specMirror_no (q : Ps) (v : Value) (cs : List Cv) (w : World) (hc : RdS 3 encCv w v cs) (lz : cs.length ≤ 1048576) (h : ¬ OkA q cs) (r : Ps) (hr : r = ⟨0, 0, 0, 0⟩) :
    Calls Try.prog 49 #[(.agg #[.int .i64 q.s, .int .i64 q.h, .int .i64 q.y, .int .i64 q.p, v])] w fun e w' => ∃ v', e = .returned (.tuple #[(.agg #[.int .i64 r.s, .int .i64 r.h, .int .i64 r.y, .int .i64 r.p, v']), .bool false]) ∧ OwnS 84 3 encCv w' w.heap.size v' [] ∧ Below w.heap.size w w' := by
  have HC := Lib.hid hc
  obtain ⟨a, cap, rfl, _⟩ := hc
  subst hr
  go_enter Try.func49, Try.ntmps49
  go_wp2_with fail
  refine (l02Is_any w.heap.size 39 q a cap cs _ (heap_alloc2_old w _ _) (HC.out.later (by go_grown)) lz false ⟨fun e => (by cases e), fun e => absurd e h⟩).mono ?_
  rintro e w1 ⟨rfl, b1⟩
  have r1 := (b1.block (w.heap.size + 1) (by simp only [World.size_alloc]; omega)).trans (heap_alloc2_new w _ _)
  have B1 : Hid (Below w.heap.size w w1) := Below.trans (by go_grown) (b1.mono (by simp only [World.size_alloc]; omega))
  obtain ⟨⟨g0, g1, g2, g3, g4⟩, l6⟩ := boxA_at (q := zPs') r1
  have f0 := frozen_of_row w1 (w.heap.size + 1) 0 _ _ r1
  have f1 := frozen_of_row w1 (w.heap.size + 1) 1 _ _ r1
  have f2 := frozen_of_row w1 (w.heap.size + 1) 2 _ _ r1
  have f3 := frozen_of_row w1 (w.heap.size + 1) 3 _ _ r1
  have f4 := frozen_of_row w1 (w.heap.size + 1) 4 _ _ r1
  clear b1 r1 h
  go_wp2
  refine bodyPost_ret (v := .tuple #[.agg #[.int .i64 0, .int .i64 0, .int .i64 0, .int .i64 0, .slice none 0 0], .bool false]) (by simp [results, Try.results49, go_sem, g0, g1, g2, g3, g4]; try rfl) rfl ⟨_, rfl, OwnS.nil _ _, ?_⟩
  have b := B1.out
  go_grown

set_option maxRecDepth 100000 in
set_option maxHeartbeats 4000000 in
theorem specMirror_yes (q : Ps) (v : Value) (cs : List Cv) (w : World) (hc : RdS 3 encCv w v cs) (lz : cs.length ≤ 1048576) (h : OkA q cs) (r : Ps) (hr : r = mirP q) :
    Calls Try.prog 49 #[(.agg #[.int .i64 q.s, .int .i64 q.h, .int .i64 q.y, .int .i64 q.p, v])] w fun e w' => ∃ v', e = .returned (.tuple #[(.agg #[.int .i64 r.s, .int .i64 r.h, .int .i64 r.y, .int .i64 r.p, v']), .bool true]) ∧ OwnS 84 3 encCv w' w.heap.size v' (cs.map mirC) ∧ Below w.heap.size w w' := by
  obtain ⟨i0, hi, hz0, hz1, hz2⟩ := info_parts info_Cv
  have HC := Lib.hid hc
  obtain ⟨a, cap, rfl, _⟩ := hc
  have H := Lib.hid h
  have HP := Lib.hid h.parts
  subst hr
  obtain ⟨⟨_, _⟩, _, ⟨_, _⟩, _⟩ := id h.1
  have q1 : IntKind.i64.wrap (-q.s) = -q.s := IntWalk.i64_in _ (by omega)
  have q2 : IntKind.i64.wrap (-q.y) = -q.y := IntWalk.i64_in _ (by omega)
  clear h
  go_enter Try.func49, Try.ntmps49
  go_wp2_with fail
  refine (l02Is_any w.heap.size 39 q a cap cs _ (heap_alloc2_old w _ _) (HC.out.later (by go_grown)) lz true ⟨fun _ => H.out, fun _ => rfl⟩).mono ?_
  rintro e w1 ⟨rfl, b1⟩
  have n1 := (b1.block w.heap.size (by simp only [World.size_alloc]; omega)).trans (heap_alloc2_old w _ _)
  have r1 := (b1.block (w.heap.size + 1) (by simp only [World.size_alloc]; omega)).trans (heap_alloc2_new w _ _)
  have B1 : Hid (Below w.heap.size w w1) := Below.trans (by go_grown) (b1.mono (by simp only [World.size_alloc]; omega))
  have z1 := b1.size
  simp only [World.size_alloc] at z1
  obtain ⟨⟨a0, a1, a2, a3, a4⟩, l1⟩ := boxA_at n1
  have y1 : ¬ w.heap.size = w1.heap.size := by omega
  have l1' : w.heap.size < w1.heap.size + 1 := by omega
  have y2 : ¬ w.heap.size = w1.heap.size + 1 := by omega
  have N1 := Lib.hid n1
  have R1 := Lib.hid r1
  clear b1 n1 r1 lz
  go_wp2
  have O0 : Hid (OwnS 84 3 encCv ((w1.alloc (.cells #[] 84)).alloc (.cells #[.int .i64 (-q.s), .int .i64 q.h, .int .i64 (-q.y), .int .i64 q.p, .slice (some ⟨w1.heap.size, 0, none⟩) 0 0] 39)) w1.heap.size (.slice (some ⟨w1.heap.size, 0, none⟩) 0 0) ((cs.take 0).map mirC)) := by
    have e : OwnS 84 3 encCv (w1.alloc (.cells #[] 84)) w1.heap.size (.slice (some ⟨w1.heap.size, 0, none⟩) 0 0) ((cs.take 0).map mirC) := World.ownsRow_lit (e := 84) (size := 3) w1 #[] 0 (Nat.le_refl _) (by decide) rfl
    exact e.alloc _
  have X0 : Hid (((w1.alloc (.cells #[] 84)).alloc (.cells #[.int .i64 (-q.s), .int .i64 q.h, .int .i64 (-q.y), .int .i64 q.p, .slice (some ⟨w1.heap.size, 0, none⟩) 0 0] 39)).heap[w1.heap.size + 1]? = some (.cells #[.int .i64 (-q.s), .int .i64 q.h, .int .i64 (-q.y), .int .i64 q.p, .slice (some ⟨w1.heap.size, 0, none⟩) 0 0] 39 (0, 0))) := heap_alloc2_new w1 _ _
  have B0 : Hid (Below w1.heap.size w1 ((w1.alloc (.cells #[] 84)).alloc (.cells #[.int .i64 (-q.s), .int .i64 q.h, .int .i64 (-q.y), .int .i64 q.p, .slice (some ⟨w1.heap.size, 0, none⟩) 0 0] 39))) := by show Below _ _ _; go_grown
  have zz : w1.heap.size + 1 < ((w1.alloc (.cells #[] 84)).alloc (.cells #[.int .i64 (-q.s), .int .i64 q.h, .int .i64 (-q.y), .int .i64 q.p, .slice (some ⟨w1.heap.size, 0, none⟩) 0 0] 39)).heap.size := by simp
  clear a0 a1 a2 a3 a4
  go_loopw [5] (fun iv wr => ∃ (k g c1 : Nat), k ≤ cs.length ∧ iv = .int .i64 k ∧ Hid (OwnS 84 3 encCv wr w1.heap.size (.slice (some ⟨g, 0, none⟩) k c1) ((cs.take k).map mirC)) ∧ Hid (wr.heap[w1.heap.size + 1]? = some (.cells #[.int .i64 (-q.s), .int .i64 q.h, .int .i64 (-q.y), .int .i64 q.p, .slice (some ⟨g, 0, none⟩) k c1] 39 (0, 0))) ∧ Hid (Below w1.heap.size w1 wr) ∧ ¬ g = w1.heap.size + 1 ∧ w1.heap.size + 1 < wr.heap.size) (fun iv _ => cs.length - (intOf iv).toNat)
  case atStart => exact ⟨0, w1.heap.size, 0, by omega, rfl, O0, X0, B0, by omega, zz⟩
  case round =>
    obtain ⟨k, g, c1, hk, rfl, ho, X, B, ng, lz⟩ := hrel
    clear O0 X0 B0 zz
    have hsz := B.out.size
    have na := (B.out.block w.heap.size (by omega)).trans N1.out
    obtain ⟨⟨a0, a1, a2, a3, a4⟩, la⟩ := boxA_at na
    have x4 : wr.cell? ⟨w1.heap.size + 1, 4, none⟩ = some (.slice (some ⟨g, 0, none⟩) k c1) := cell_of_row wr _ 4 _ _ _ X.out
    have f4 := frozen_of_row wr (w1.heap.size + 1) 4 _ _ X.out
    clear na
    by_cases hlt : k < cs.length
    · obtain ⟨c, hx⟩ : ∃ x, cs[k]? = some x := ⟨_, List.getElem?_eq_getElem hlt⟩
      obtain ⟨ba, oa, rfl, e0, e1, e2⟩ := (HC.out.later (B1.out.trans (B.out.mono (by omega)))).at3 k c hx
      have hct := (HP.out.2.2.1 c (List.mem_of_getElem? hx)).2.1
      have q3 : IntKind.i64.wrap (-c.b) = -c.b := IntWalk.i64_in _ (by obtain ⟨_, _⟩ := hct; omega)
      have lb := block_lt_of_cell e0
      have HX := Lib.hid hx
      have k8 : k < 8 := by have := HP.out.2.1; omega
      have own : Hid (wr.ownsRow w1.heap.size 84 3 (.slice (some ⟨g, 0, none⟩) k c1) k (((cs.take k).map mirC).flatMap encCv)) := by
        have e := ho.out
        unfold OwnS at e
        rw [List.length_map, List.length_take, Nat.min_eq_left (by omega)] at e
        exact e
      have lg := own.out.lt
      clear hx hct
      go_wp2_with (at_builtin; refine wpList_append_lies _ rfl _ _ _ rfl w1.heap.size 84 i0 _ 3 24 Try.underlying37 hi hz0 hz1 hz2 rfl (by omega) _ _ _ rfl ((own.out.alloc _).alloc _) ⟨wr.heap.size + 1, 0, none⟩ 1 1 [.int .i64 c.r, .int .i64 (-c.b), .int .i64 c.s] rfl rfl (World.news_of_block (cs := #[.int .i64 c.r, .int .i64 (-c.b), .int .i64 c.s]) (t := 84) (fr := (0, 0)) (heap_alloc2_new wr _ _)) (by simp [Value.oneCell']) (by omega) (by unfold maxLen; omega) (by omega) (by simp; omega) _ rfl ?_)
      intro gg cap1 w5 hown1 hgrow hat hlt'
      have gb : wr.grownBy w5 (some g) := grownBy_trans' (World.grownBy_alloc wr _ _) (grownBy_trans' (World.grownBy_alloc _ _ _) hgrow)
      have x5 := (gb.block (w1.heap.size + 1) lz (fun e => ng (Option.some.inj e).symm)).trans X.out
      have B5 : Hid (Below w1.heap.size w1 w5) := B.out.grown gb hsz (fun j e => by cases e; exact (lg g rfl).1)
      have z5 := gb.size
      have ngg : ¬ gg = w1.heap.size + 1 := by
        rcases hat with h | h
        · first | omega | (have h' : g = gg := Option.some.inj h; omega)
        · first | omega | (simp at h; omega) | (rw [World.size_alloc, World.size_alloc] at h; omega)
      have O5 : Hid (OwnS 84 3 encCv w5 w1.heap.size (.slice (some ⟨gg, 0, none⟩) (k + 1) cap1) ((cs.take (k + 1)).map mirC)) := by
        show OwnS _ _ _ _ _ _ _
        unfold OwnS
        rw [List.length_map, List.length_take, Nat.min_eq_left (by omega), List.take_add_one, HX.out, Option.toList_some, List.map_append, List.flatMap_append, List.map_take]
        exact hown1
      have t4 : w5.cell? ⟨w1.heap.size + 1, 4, none⟩ = some (.slice (some ⟨g, 0, none⟩) k c1) := cell_of_row w5 _ 4 _ _ _ x5
      have h4 := frozen_of_row w5 (w1.heap.size + 1) 4 _ _ x5
      have X6 : Hid ((w5.setCell ⟨w1.heap.size + 1, 4, none⟩ (.slice (some ⟨gg, 0, none⟩) (k + 1) cap1)).heap[w1.heap.size + 1]? = some (.cells #[.int .i64 (-q.s), .int .i64 q.h, .int .i64 (-q.y), .int .i64 q.p, .slice (some ⟨gg, 0, none⟩) (k + 1) cap1] 39 (0, 0))) := heap_setCell_same w5 _ 4 _ _ _ x5
      have O6 : Hid (OwnS 84 3 encCv (w5.setCell ⟨w1.heap.size + 1, 4, none⟩ (.slice (some ⟨gg, 0, none⟩) (k + 1) cap1)) w1.heap.size (.slice (some ⟨gg, 0, none⟩) (k + 1) cap1) ((cs.take (k + 1)).map mirC)) := O5.out.kept (grownBy_setCell' _ _ _) (.inr (fun e => ngg (Option.some.inj e)))
      have B6 : Hid (Below w1.heap.size w1 (w5.setCell ⟨w1.heap.size + 1, 4, none⟩ (.slice (some ⟨gg, 0, none⟩) (k + 1) cap1))) := B5.out.setCell (p := ⟨w1.heap.size + 1, 4, none⟩) (by simp) _
      have z6 : w1.heap.size + 1 < (w5.setCell ⟨w1.heap.size + 1, 4, none⟩ (.slice (some ⟨gg, 0, none⟩) (k + 1) cap1)).heap.size := by simp; omega
      clear hown1 hgrow hat hlt' gb x5 B5 O5 ho X B a0 a1 a2 a3 a4 e0 e1 e2 x4 f4 own lg lb
      go_wp2
      exact ⟨⟨k + 1, gg, cap1, by omega, by go_num, O6, X6, B6, ngg, z6⟩, by simp only [intOf]; omega⟩
    · obtain rfl : k = cs.length := by omega
      have x0 : wr.cell? ⟨w1.heap.size + 1, 0, none⟩ = some (.int .i64 (-q.s)) := cell_of_row wr _ 0 _ _ _ X.out
      have x1 : wr.cell? ⟨w1.heap.size + 1, 1, none⟩ = some (.int .i64 q.h) := cell_of_row wr _ 1 _ _ _ X.out
      have x2 : wr.cell? ⟨w1.heap.size + 1, 2, none⟩ = some (.int .i64 (-q.y)) := cell_of_row wr _ 2 _ _ _ X.out
      have x3 : wr.cell? ⟨w1.heap.size + 1, 3, none⟩ = some (.int .i64 q.p) := cell_of_row wr _ 3 _ _ _ X.out
      have rr := (B.out.block (w.heap.size + 1) (by omega)).trans R1.out
      obtain ⟨⟨g0, g1, g2, g3, g4⟩, l6⟩ := boxA_at (q := zPs') rr
      have f0 := frozen_of_row wr (w.heap.size + 1) 0 _ _ rr
      have f1 := frozen_of_row wr (w.heap.size + 1) 1 _ _ rr
      have f2 := frozen_of_row wr (w.heap.size + 1) 2 _ _ rr
      have f3 := frozen_of_row wr (w.heap.size + 1) 3 _ _ rr
      have f5 := frozen_of_row wr (w.heap.size + 1) 4 _ _ rr
      have HO : Hid (OwnS 84 3 encCv wr w1.heap.size (.slice (some ⟨g, 0, none⟩) cs.length c1) (cs.map mirC)) := by
        have e := ho.out
        rw [List.take_of_length_le (Nat.le_refl _)] at e
        exact e
      have BW : Hid (Below w.heap.size w wr) := B1.out.trans (B.out.mono (by omega))
      clear rr ho X B f4
      go_wp2
      refine bodyPost_ret (v := .tuple #[.agg #[.int .i64 (-q.s), .int .i64 q.h, .int .i64 (-q.y), .int .i64 q.p, .slice (some ⟨g, 0, none⟩) cs.length c1], .bool true]) (by simp [results, Try.results49, go_sem, g0, g1, g2, g3, g4]; try rfl) rfl ⟨_, rfl, ?_, ?_⟩
      · refine OwnS.mono ?_ (show w.heap.size ≤ w1.heap.size by omega)
        exact (((((HO.out.setBelow (by simp; omega) _).setBelow (by simp; omega) _).setBelow (by simp; omega) _).setBelow (by simp; omega) _).setBelow (by simp; omega) _)
      · have b := BW.out
        go_grown

theorem exMirrorAxis (q : Ps) (cs : List Cv) (lz : cs.length ≤ 1048576) : ∃ (r : Ps) (ys : List Cv) (b : Bool), ys.length ≤ 1048576 ∧
    Hid (∀ v w, RdS 3 encCv w v cs → Calls Try.prog 49 #[(.agg #[.int .i64 q.s, .int .i64 q.h, .int .i64 q.y, .int .i64 q.p, v])] w fun e w' => ∃ v', e = .returned (.tuple #[(.agg #[.int .i64 r.s, .int .i64 r.h, .int .i64 r.y, .int .i64 r.p, v']), .bool b]) ∧ OwnS 84 3 encCv w' w.heap.size v' ys ∧ Below w.heap.size w w') ∧
    Hid (∀ v w, RdS 3 encCv w v cs → Calls Try.prog 50 #[(.agg #[.int .i64 q.s, .int .i64 q.h, .int .i64 q.y, .int .i64 q.p, v])] w fun e w' => ∃ v', e = .returned (.tuple #[(.agg #[.int .i64 r.s, .int .i64 r.h, .int .i64 r.y, .int .i64 r.p, v']), .bool b]) ∧ OwnS 84 3 encCv w' w.heap.size v' ys ∧ Below w.heap.size w w') := by
  by_cases h : OkA q cs
  · exact ⟨_, cs.map mirC, true, by rw [List.length_map]; exact lz, fun v w hr => specMirror_yes q v cs w hr lz h _ rfl, fun v w hr => implMirror_yes q v cs w hr lz h _ rfl⟩
  · exact ⟨_, [], false, by simp, fun v w hr => specMirror_no q v cs w hr lz h _ rfl, fun v w hr => implMirror_no q v cs w hr lz h _ rfl⟩
end Go.Proofs.Ytfmncgbdlfdebaa
