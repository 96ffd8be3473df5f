/- NormalAxis on both sides. -/
import Derived.Test.YthhnnkgfnhggbaaMerge2
import Derived.Test.YthhnnkgfnhggbaaSpecIs
namespace Go.Proofs.Ythhnnkgfnhggbaa
open Go.ChangeShapes Go.WideShapes Go.ChangeAt Go.RowKit
set_option linter.unusedVariables false
set_option linter.unusedSimpArgs false

def zPsN : Ps := ⟨0, 0, 0, 0⟩

set_option maxRecDepth 100000 in
set_option maxHeartbeats 4000000 in
theorem implNormal_no (q : Ps) (v : Value) (cs : List Cv) (w : World) (hc : RdS 3 encCv w v cs) (lz : cs.length ≤ 1048576) (h : ¬ OkA q cs) (r : Ps) (hr : r = ⟨0, 0, 0, 0⟩) :
    Calls Try.prog 15 #[(.agg #[.int .i64 q.s, .int .i64 q.h, .int .i64 q.y, .int .i64 q.p, v])] w fun e w' => ∃ v', e = .returned (.tuple #[(.agg #[.int .i64 r.s, .int .i64 r.h, .int .i64 r.y, .int .i64 r.p, v']), .bool false]) ∧ OwnS 46 3 encCv w' w.heap.size v' [] ∧ Below w.heap.size w w' := by
  have HC := Lib.hid hc
  obtain ⟨a, cap, rfl, _⟩ := hc
  have c1 := Lib.hid (fun w (hr : RdS 3 encCv w (.slice a cs.length cap) cs) => implValidAxis_any q _ cs w hr lz false ⟨fun e => (by cases e), fun e => absurd e h⟩)
  subst hr
  clear h lz
  go_enter Try.func15, Try.ntmps15
  go_wp2_with fail
  refine (c1.out _ (HC.out.later (by go_grown))).mono ?_
  rintro e w1 ⟨rfl, b1⟩
  have r1 := (b1.block (w.heap.size + 1) (by simp only [World.size_alloc]; omega)).trans (heap_alloc2_new w _ _)
  have B1 : Hid (Below w.heap.size w w1) := Below.trans (by go_grown) (b1.mono (by simp only [World.size_alloc]; omega))
  obtain ⟨⟨g0, g1, g2, g3, g4⟩, l6⟩ := boxA_at (q := zPsN) r1
  have f0 := frozen_of_row w1 (w.heap.size + 1) 0 _ _ r1
  have f1 := frozen_of_row w1 (w.heap.size + 1) 1 _ _ r1
  have f2 := frozen_of_row w1 (w.heap.size + 1) 2 _ _ r1
  have f3 := frozen_of_row w1 (w.heap.size + 1) 3 _ _ r1
  have f4 := frozen_of_row w1 (w.heap.size + 1) 4 _ _ r1
  clear b1 c1 r1
  go_wp2
  refine bodyPost_ret (v := .tuple #[.agg #[.int .i64 0, .int .i64 0, .int .i64 0, .int .i64 0, .slice none 0 0], .bool false]) (by simp [results, Try.results15, go_sem, g0, g1, g2, g3, g4]; try rfl) rfl ⟨_, rfl, OwnS.nil _ _, ?_⟩
  have b := B1.out
  go_grown

theorem okA_pos {q : Ps} {cs : List Cv} (h : OkA q cs) : ∀ c ∈ cs, 1 ≤ c.r := fun c hc => (h.parts'.2.2.1 c hc).1.1

set_option maxRecDepth 100000 in
set_option maxHeartbeats 4000000 in
theorem implNormal_yes (q : Ps) (v : Value) (cs : List Cv) (w : World) (hc : RdS 3 encCv w v cs) (lz : cs.length ≤ 1048576) (h : OkA q cs) :
    Calls Try.prog 15 #[(.agg #[.int .i64 q.s, .int .i64 q.h, .int .i64 q.y, .int .i64 q.p, v])] w fun e w' => ∃ v', e = .returned (.tuple #[(.agg #[.int .i64 q.s, .int .i64 q.h, .int .i64 q.y, .int .i64 q.p, v']), .bool true]) ∧ OwnS 46 3 encCv w' w.heap.size v' (mergeL cs) ∧ Below w.heap.size w w' := by
  have HC := Lib.hid hc
  obtain ⟨a, cap, rfl, _⟩ := hc
  have H := Lib.hid h
  have mg := Lib.hid (fun w (h' : RdS 3 encCv w (.slice a cs.length cap) cs) => merged_any _ cs w h' (by have := h.parts'.2.1; omega) (okA_pos h) h.parts'.2.2.2.2)
  have c1 := Lib.hid (fun w (hr : RdS 3 encCv w (.slice a cs.length cap) cs) => implValidAxis_any q _ cs w hr lz true ⟨fun _ => h, fun _ => rfl⟩)
  clear h
  go_enter Try.func15, Try.ntmps15
  go_wp2_with fail
  refine (c1.out _ (HC.out.later (by go_grown))).mono ?_
  rintro e w1 ⟨rfl, b1⟩
  have n1 := (b1.block w.heap.size (by simp only [World.size_alloc]; omega)).trans (heap_alloc2_old w _ _)
  have r1 := (b1.block (w.heap.size + 1) (by simp only [World.size_alloc]; omega)).trans (heap_alloc2_new w _ _)
  have B1 : Hid (Below w.heap.size w w1) := Below.trans (by go_grown) (b1.mono (by simp only [World.size_alloc]; omega))
  have z1 := b1.size
  simp only [World.size_alloc] at z1
  obtain ⟨⟨a0, a1, a2, a3, a4⟩, l1⟩ := boxA_at n1
  have N1 := Lib.hid n1
  have R1 := Lib.hid r1
  clear b1 n1 r1 lz
  go_wp2_with fail
  go_region_law (go_simp; go_at_call 48; refine (mg.out _ (HC.out.later B1.out.drew)).mono ?_; rintro e w3 ⟨vm, rfl, om, bm0⟩; obtain ⟨am, cm, rfl⟩ := om.form; have bm : Below w1.heap.size w1 w3 := (Below.refl _ _).drew.trans bm0; have z3 := bm.size; have n3 := (bm.block w.heap.size (by omega)).trans N1.out; obtain ⟨⟨b0, b1, b2, b3, b4⟩, -⟩ := boxA_at n3; have rr := (bm.block (w.heap.size + 1) (by omega)).trans R1.out; obtain ⟨⟨g0, g1, g2, g3, g4⟩, l6⟩ := boxA_at (q := zPsN) rr; have f0 := frozen_of_row w3 (w.heap.size + 1) 0 _ _ rr; have f1 := frozen_of_row w3 (w.heap.size + 1) 1 _ _ rr; have f2 := frozen_of_row w3 (w.heap.size + 1) 2 _ _ rr; have f3 := frozen_of_row w3 (w.heap.size + 1) 3 _ _ rr; have f5 := frozen_of_row w3 (w.heap.size + 1) 4 _ _ rr; have OM := Lib.hid om; have BM := Lib.hid bm; clear om bm bm0 n3 rr)
  all_goals
    go_wp2
    refine bodyPost_ret (v := .tuple #[.agg #[.int .i64 q.s, .int .i64 q.h, .int .i64 q.y, .int .i64 q.p, .slice am (mergeL cs).length cm], .bool true]) (by simp [results, Try.results15, go_sem, g0, g1, g2, g3, g4]; try rfl) rfl ⟨_, rfl, ?_, ?_⟩
    · refine OwnS.mono ?_ (show w.heap.size ≤ w1.heap.size by omega)
      exact (((((OM.out.setBelow (show w.heap.size + 1 < w1.heap.size by omega) _).setBelow (show w.heap.size + 1 < w1.heap.size by omega) _).setBelow (show w.heap.size + 1 < w1.heap.size by omega) _).setBelow (show w.heap.size + 1 < w1.heap.size by omega) _).setBelow (show w.heap.size + 1 < w1.heap.size by omega) _)
    · have b := B1.out.trans (BM.out.mono (show w.heap.size ≤ w1.heap.size by omega))
      go_grown
end Go.Proofs.Ythhnnkgfnhggbaa
