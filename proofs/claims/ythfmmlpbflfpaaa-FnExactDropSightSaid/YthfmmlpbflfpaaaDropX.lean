/- DropSight: both sides. -/
import Derived.Test.YthfmmlpbflfpaaaDropM
namespace Go.Proofs.Ythfmmlpbflfpaaa
open Go.ChangeShapes Go.WideShapes Go.ChangeAt Go.RowKit
set_option linter.unusedVariables false
set_option linter.unusedSimpArgs false

theorem OwnSv.zero (w : World) (B : Nat) : OwnSv w B w.heap.size 0 ⟨0, none, 0, []⟩ := ⟨OwnS.nil _ _, fun k e => by simp [Value.ownBlock] at e, Nat.le_refl _⟩
theorem OwnSv.mono {w : World} {B B' C n : Nat} {g : Sv} (h : OwnSv w B C n g) (hB : B' ≤ B) : OwnSv w B' C n g := ⟨h.o0.mono hB, h.b0, h.cb⟩

set_option maxRecDepth 100000 in
set_option maxHeartbeats 8000000 in
theorem specDrop_any (g : Sv) (n0 : Nat) (k : Int) (w : World) (hr : RdSv w n0 g) (l0 : n0 ≤ 1048576) (y : Sv) (ny : Nat) (r : Bool)
    (h1 : r = true → OkSv g ∧ ∃ K : Nat, k = K ∧ K < n0 ∧ y.p = g.p ∧ y.x = dropL g.x K ∧ ny = n0 - 1) (h2 : r = false → ¬ (OkSv g ∧ 0 ≤ k ∧ k ≤ (n0 : Int) - 1) ∧ y = ⟨0, none, 0, []⟩ ∧ ny = 0) :
    Calls Try.prog 10 #[(.agg #[.int .i64 g.p, .slice g.xa n0 g.xc]), .int .i64 k] w fun e w' => ∃ u : Sv, e = .returned (.tuple #[.agg #[.int .i64 u.p, .slice u.xa ny u.xc], .bool r]) ∧ u.same y ∧ OwnSv w' w.heap.size w'.heap.size ny u ∧ Below w.heap.size w w' := by
  have E0 := Lib.hid hr.len
  have H := Lib.hid hr
  obtain ⟨b1, hb1⟩ := bool_ofV (OkSv g)
  obtain ⟨b2, hb2⟩ := bool_ofV (0 ≤ k ∧ k ≤ (n0 : Int) - 1)
  have W1 : Hid (((w.alloc (.cells #[.int .i64 g.p, .slice g.xa n0 g.xc] 29)).alloc (.cells #[.int .i64 0, .slice none 0 0] 29)).heap[w.heap.size]? = some (.cells #[.int .i64 g.p, .slice g.xa n0 g.xc] 29 (0, 0))) := box2_0 w _ _
  have W2 : Hid (((w.alloc (.cells #[.int .i64 g.p, .slice g.xa n0 g.xc] 29)).alloc (.cells #[.int .i64 0, .slice none 0 0] 29)).heap[w.heap.size + 1]? = some (.cells #[.int .i64 0, .slice none 0 0] 29 (0, 0))) := box2_1 w _ _
  have W3 : Hid (Below w.heap.size w ((w.alloc (.cells #[.int .i64 g.p, .slice g.xa n0 g.xc] 29)).alloc (.cells #[.int .i64 0, .slice none 0 0] 29))) := by show Below _ _ _; go_grown
  have W4 : w.heap.size + 2 ≤ ((w.alloc (.cells #[.int .i64 g.p, .slice g.xa n0 g.xc] 29)).alloc (.cells #[.int .i64 0, .slice none 0 0] 29)).heap.size := by simp
  have C1 := Lib.hid (l10Is_any w.heap.size 29 g n0 _ W1.out (H.out.later W3.out) l0 b1 hb1)
  have C2 := Lib.hid (fun w => in_any k 0 ((n0 : Int) - 1) b2 hb2 w)
  have H1 := Lib.hid h1
  have H2 := Lib.hid h2
  have HB1 := Lib.hid hb1
  have HB2 := Lib.hid hb2
  have qp : IntKind.i64.wrap ((n0 : Int) - 1) = (n0 : Int) - 1 := IntWalk.i64_in _ (by omega)
  clear hr h1 h2 hb1 hb2
  go_enter Try.func10, Try.ntmps10
  go_wp2_with fail
  refine C1.out.mono ?_
  rintro e w1 ⟨rfl, bb1⟩
  have V1 := Lib.hid ((bb1.block w.heap.size (by omega)).trans W1.out)
  have V2 := Lib.hid ((bb1.block (w.heap.size + 1) (by omega)).trans W2.out)
  have V3 : Hid (Below w.heap.size w w1) := W3.out.trans (bb1.mono (by omega))
  have V4 : w.heap.size + 2 ≤ w1.heap.size := by have := bb1.size; omega
  clear bb1 C1 W1 W2 W3 W4
  obtain ⟨⟨p0, p1⟩, -, -⟩ := boxedSv_at V1.out
  obtain ⟨⟨r0, r1⟩, ⟨f0, f1⟩, lR⟩ := boxedSv_at V2.out
  have fail_ : r = false → Hid (∃ u : Sv, u.same y ∧ u = ⟨0, none, 0, []⟩ ∧ ny = 0) := fun hr => ⟨y, Sv.same_refl y, (H2.out hr).2.1, (H2.out hr).2.2⟩
  cases b1 with
  | false =>
    obtain rfl : r = false := by
      cases r
      · rfl
      · have := HB1.out.mpr (H1.out rfl).1; simp at this
    obtain ⟨-, rfl, rfl⟩ := H2.out rfl
    have BE : Hid (Below w.heap.size w ((w1.setCell ⟨w.heap.size + 1, 0, none⟩ (.int .i64 0)).setCell ⟨w.heap.size + 1, 1, none⟩ (.slice none 0 0))) := (V3.out.setCell (p := ⟨w.heap.size + 1, 0, none⟩) (by show w.heap.size ≤ w.heap.size + 1; omega) _).setCell (p := ⟨w.heap.size + 1, 1, none⟩) (by show w.heap.size ≤ w.heap.size + 1; omega) _
    clear H1 H2 fail_ HB1 HB2 C2
    go_wp2
    refine bodyPost_ret (v := .tuple #[.agg #[.int .i64 0, .slice none 0 0], .bool false]) (by simp [results, Try.results10, go_sem, r0, r1]; try rfl) rfl ?_
    exact ⟨⟨0, none, 0, []⟩, rfl, Sv.same_refl _, OwnSv.zero _ _, BE.out⟩
  | true =>
  cases b2 with
  | false =>
    obtain rfl : r = false := by
      cases r
      · rfl
      · obtain ⟨-, K, e, e2, -⟩ := H1.out rfl; have := HB2.out.mpr (by omega); simp at this
    obtain ⟨-, rfl, rfl⟩ := H2.out rfl
    have BE : Hid (Below w.heap.size w ((w1.setCell ⟨w.heap.size + 1, 0, none⟩ (.int .i64 0)).setCell ⟨w.heap.size + 1, 1, none⟩ (.slice none 0 0))) := (V3.out.setCell (p := ⟨w.heap.size + 1, 0, none⟩) (by show w.heap.size ≤ w.heap.size + 1; omega) _).setCell (p := ⟨w.heap.size + 1, 1, none⟩) (by show w.heap.size ≤ w.heap.size + 1; omega) _
    clear H1 H2 fail_ HB1 HB2
    go_wp2_with fail
    refine (C2.out _).mono ?_
    rintro e w' ⟨rfl, rfl⟩
    go_wp2
    refine bodyPost_ret (v := .tuple #[.agg #[.int .i64 0, .slice none 0 0], .bool false]) (by simp [results, Try.results10, go_sem, r0, r1]; try rfl) rfl ?_
    exact ⟨⟨0, none, 0, []⟩, rfl, Sv.same_refl _, OwnSv.zero _ _, BE.out⟩
  | true =>
    obtain rfl : r = true := by
      cases r
      · exact absurd ⟨HB1.out.mp (by trivial), HB2.out.mp (by trivial)⟩ (H2.out (by trivial)).1
      · rfl
    obtain ⟨ok, K, rfl, hK, yp, yx, rfl⟩ := H1.out rfl
    have C3 := Lib.hid (l10Drop_any w.heap.size 29 g n0 w1 V1.out (H.out.later V3.out) (by have := ok.n0; have := E0.out; omega) K hK)
    have YP := Lib.hid yp
    have YX := Lib.hid yx
    clear H1 H2 fail_ HB1 HB2 ok yp yx
    go_wp2_with fail
    refine (C2.out _).mono ?_
    rintro e w' ⟨rfl, rfl⟩
    go_wp2_with fail
    refine C3.out.mono ?_
    rintro e w2 ⟨u, us, rfl, o2, b2⟩
    have R2 := Lib.hid ((b2.block (w.heap.size + 1) (by omega)).trans V2.out)
    have B2 : Hid (Below w.heap.size w w2) := V3.out.trans (b2.mono (by omega))
    have s2 := b2.size
    have O2 := Lib.hid o2
    have US : Hid (u.same y) := ⟨us.1.trans YP.out.symm, us.2.trans YX.out.symm⟩
    clear V1 V2 V3 C3 us o2 b2 p0 p1 r0 r1 f0 f1 lR C2
    obtain ⟨⟨r0, r1⟩, ⟨f0, f1⟩, lR⟩ := boxedSv_at R2.out
    have BE : Hid (Below w.heap.size w ((w2.setCell ⟨w.heap.size + 1, 0, none⟩ (.int .i64 u.p)).setCell ⟨w.heap.size + 1, 1, none⟩ (.slice u.xa (n0 - 1) u.xc))) := (B2.out.setCell (p := ⟨w.heap.size + 1, 0, none⟩) (by show w.heap.size ≤ w.heap.size + 1; omega) _).setCell (p := ⟨w.heap.size + 1, 1, none⟩) (by show w.heap.size ≤ w.heap.size + 1; omega) _
    have OE : Hid (OwnSv ((w2.setCell ⟨w.heap.size + 1, 0, none⟩ (.int .i64 u.p)).setCell ⟨w.heap.size + 1, 1, none⟩ (.slice u.xa (n0 - 1) u.xc)) w.heap.size ((w2.setCell ⟨w.heap.size + 1, 0, none⟩ (.int .i64 u.p)).setCell ⟨w.heap.size + 1, 1, none⟩ (.slice u.xa (n0 - 1) u.xc)).heap.size (n0 - 1) u) := by
      have e : ((w2.setCell ⟨w.heap.size + 1, 0, none⟩ (.int .i64 u.p)).setCell ⟨w.heap.size + 1, 1, none⟩ (.slice u.xa (n0 - 1) u.xc)).heap.size = w2.heap.size := by simp
      show OwnSv _ _ _ _ _
      rw [e]
      exact (O2.out.of_blocks (by omega) fun k h1 h2 => by
        rw [Below.heap_setCell _ _ _ _ (by show k ≠ w.heap.size + 1; omega), Below.heap_setCell _ _ _ _ (by show k ≠ w.heap.size + 1; omega)]).mono (by omega)
    clear O2 B2 R2
    go_wp2
    refine bodyPost_ret (v := .tuple #[.agg #[.int .i64 u.p, .slice u.xa (n0 - 1) u.xc], .bool true]) (by simp [results, Try.results10, go_sem, r0, r1]; try rfl) rfl ?_
    exact ⟨u, rfl, US.out, OE.out, BE.out⟩
set_option maxRecDepth 100000 in
set_option maxHeartbeats 8000000 in
theorem implDrop_any (g : Sv) (n0 : Nat) (k : Int) (w : World) (hr : RdSv w n0 g) (cp : g.caps n0) (l0 : n0 ≤ 1048576) (y : Sv) (ny : Nat) (r : Bool)
    (h1 : r = true → OkSv g ∧ ∃ K : Nat, k = K ∧ K < n0 ∧ y.p = g.p ∧ y.x = dropL g.x K ∧ ny = n0 - 1) (h2 : r = false → ¬ (OkSv g ∧ 0 ≤ k ∧ k ≤ (n0 : Int) - 1) ∧ y = ⟨0, none, 0, []⟩ ∧ ny = 0) :
    Calls Try.prog 11 #[(.agg #[.int .i64 g.p, .slice g.xa n0 g.xc]), .int .i64 k] w fun e w' => ∃ u : Sv, e = .returned (.tuple #[.agg #[.int .i64 u.p, .slice u.xa ny u.xc], .bool r]) ∧ u.same y ∧ OwnSv w' w.heap.size w'.heap.size ny u ∧ Below w.heap.size w w' := by
  have E0 := Lib.hid hr.len
  have H := Lib.hid hr
  obtain ⟨b1, hb1⟩ := bool_ofV (OkSv g)
  obtain ⟨b2, hb2⟩ := bool_ofV (0 ≤ k ∧ k ≤ (n0 : Int) - 1)
  have W1 : Hid (((w.alloc (.cells #[.int .i64 g.p, .slice g.xa n0 g.xc] 29)).alloc (.cells #[.int .i64 0, .slice none 0 0] 29)).heap[w.heap.size]? = some (.cells #[.int .i64 g.p, .slice g.xa n0 g.xc] 29 (0, 0))) := box2_0 w _ _
  have W2 : Hid (((w.alloc (.cells #[.int .i64 g.p, .slice g.xa n0 g.xc] 29)).alloc (.cells #[.int .i64 0, .slice none 0 0] 29)).heap[w.heap.size + 1]? = some (.cells #[.int .i64 0, .slice none 0 0] 29 (0, 0))) := box2_1 w _ _
  have W3 : Hid (Below w.heap.size w ((w.alloc (.cells #[.int .i64 g.p, .slice g.xa n0 g.xc] 29)).alloc (.cells #[.int .i64 0, .slice none 0 0] 29))) := by show Below _ _ _; go_grown
  have W4 : w.heap.size + 2 ≤ ((w.alloc (.cells #[.int .i64 g.p, .slice g.xa n0 g.xc] 29)).alloc (.cells #[.int .i64 0, .slice none 0 0] 29)).heap.size := by simp
  have C1 := Lib.hid (implSurvey_any g n0 _ (H.out.later W3.out) l0 b1 hb1)
  have H1 := Lib.hid h1
  have H2 := Lib.hid h2
  have HB1 := Lib.hid hb1
  have HB2 := Lib.hid hb2
  have CP := Lib.hid cp
  have qp : IntKind.i64.wrap ((n0 : Int) - 1) = (n0 : Int) - 1 := IntWalk.i64_in _ (by omega)
  clear hr h1 h2 hb1 hb2 cp
  go_enter Try.func11, Try.ntmps11
  go_wp2_with fail
  refine C1.out.mono ?_
  rintro e w1 ⟨rfl, bb1⟩
  have V1 := Lib.hid ((bb1.block w.heap.size (by omega)).trans W1.out)
  have V2 := Lib.hid ((bb1.block (w.heap.size + 1) (by omega)).trans W2.out)
  have V3 : Hid (Below w.heap.size w w1) := W3.out.trans (bb1.mono (by omega))
  have V4 : w.heap.size + 2 ≤ w1.heap.size := by have := bb1.size; omega
  clear bb1 C1 W1 W2 W3 W4
  obtain ⟨⟨p0, p1⟩, -, -⟩ := boxedSv_at V1.out
  obtain ⟨⟨r0, r1⟩, ⟨f0, f1⟩, lR⟩ := boxedSv_at V2.out
  have fail_ : r = false → Hid (∃ u : Sv, u.same y ∧ u = ⟨0, none, 0, []⟩ ∧ ny = 0) := fun hr => ⟨y, Sv.same_refl y, (H2.out hr).2.1, (H2.out hr).2.2⟩
  cases b1 with
  | false =>
    obtain rfl : r = false := by
      cases r
      · rfl
      · have := HB1.out.mpr (H1.out rfl).1; simp at this
    obtain ⟨-, rfl, rfl⟩ := H2.out rfl
    have BE : Hid (Below w.heap.size w ((w1.setCell ⟨w.heap.size + 1, 0, none⟩ (.int .i64 0)).setCell ⟨w.heap.size + 1, 1, none⟩ (.slice none 0 0))) := (V3.out.setCell (p := ⟨w.heap.size + 1, 0, none⟩) (by show w.heap.size ≤ w.heap.size + 1; omega) _).setCell (p := ⟨w.heap.size + 1, 1, none⟩) (by show w.heap.size ≤ w.heap.size + 1; omega) _
    clear H1 H2 fail_ HB1 HB2
    go_wp2
    refine bodyPost_ret (v := .tuple #[.agg #[.int .i64 0, .slice none 0 0], .bool false]) (by simp [results, Try.results11, go_sem, r0, r1]; try rfl) rfl ?_
    exact ⟨⟨0, none, 0, []⟩, rfl, Sv.same_refl _, OwnSv.zero _ _, BE.out⟩
  | true =>
  have ok1 := HB1.out.mp (by trivial)
  have C2 := Lib.hid (fun w => hasSight_any g n0 (by have := ok1.n0; have := E0.out; omega) k b2 HB2.out w)
  clear ok1
  go_wp2_with fail
  refine (C2.out _).mono ?_
  rintro e w2 ⟨rfl, hw⟩
  have bb2 : Below w1.heap.size w1 w2 := by rw [hw]; go_grown
  have T1 := Lib.hid ((bb2.block w.heap.size (by omega)).trans V1.out)
  have T2 := Lib.hid ((bb2.block (w.heap.size + 1) (by omega)).trans V2.out)
  have T3 : Hid (Below w.heap.size w w2) := V3.out.trans (bb2.mono (by omega))
  have T4 : w.heap.size + 2 ≤ w2.heap.size := by have := bb2.size; omega
  clear bb2 hw C2 V1 V2 V3 V4 p0 p1 r0 r1 f0 f1 lR
  obtain ⟨⟨p0, p1⟩, -, -⟩ := boxedSv_at T1.out
  obtain ⟨⟨r0, r1⟩, ⟨f0, f1⟩, lR⟩ := boxedSv_at T2.out
  cases b2 with
  | false =>
    obtain rfl : r = false := by
      cases r
      · rfl
      · obtain ⟨-, K, e, e2, -⟩ := H1.out rfl; have := HB2.out.mpr (by omega); simp at this
    obtain ⟨-, rfl, rfl⟩ := H2.out rfl
    have BE : Hid (Below w.heap.size w ((w2.setCell ⟨w.heap.size + 1, 0, none⟩ (.int .i64 0)).setCell ⟨w.heap.size + 1, 1, none⟩ (.slice none 0 0))) := (T3.out.setCell (p := ⟨w.heap.size + 1, 0, none⟩) (by show w.heap.size ≤ w.heap.size + 1; omega) _).setCell (p := ⟨w.heap.size + 1, 1, none⟩) (by show w.heap.size ≤ w.heap.size + 1; omega) _
    clear H1 H2 fail_ HB1 HB2
    go_wp2
    refine bodyPost_ret (v := .tuple #[.agg #[.int .i64 0, .slice none 0 0], .bool false]) (by simp [results, Try.results11, go_sem, r0, r1]; try rfl) rfl ?_
    exact ⟨⟨0, none, 0, []⟩, rfl, Sv.same_refl _, OwnSv.zero _ _, BE.out⟩
  | true =>
    obtain rfl : r = true := by
      cases r
      · exact absurd ⟨HB1.out.mp (by trivial), HB2.out.mp (by trivial)⟩ (H2.out (by trivial)).1
      · rfl
    obtain ⟨ok, K, rfl, hK, yp, yx, rfl⟩ := H1.out rfl
    have C3 := Lib.hid (without_any g n0 w2 (H.out.later T3.out) CP.out (by have := ok.n0; have := E0.out; omega) K hK)
    have YP := Lib.hid yp
    have YX := Lib.hid yx
    clear H1 H2 fail_ HB1 HB2 ok yp yx
    go_wp2_with fail
    refine C3.out.mono ?_
    rintro e w3 ⟨u, us, rfl, o2, b2⟩
    have R2 := Lib.hid ((b2.block (w.heap.size + 1) (by omega)).trans T2.out)
    have B2 : Hid (Below w.heap.size w w3) := T3.out.trans (b2.mono (by omega))
    have s2 := b2.size
    have O2 := Lib.hid o2
    have US : Hid (u.same y) := ⟨us.1.trans YP.out.symm, us.2.trans YX.out.symm⟩
    clear T1 T2 T3 C3 us o2 b2 p0 p1 r0 r1 f0 f1 lR
    obtain ⟨⟨r0, r1⟩, ⟨f0, f1⟩, lR⟩ := boxedSv_at R2.out
    have BE : Hid (Below w.heap.size w ((w3.setCell ⟨w.heap.size + 1, 0, none⟩ (.int .i64 u.p)).setCell ⟨w.heap.size + 1, 1, none⟩ (.slice u.xa (n0 - 1) u.xc))) := (B2.out.setCell (p := ⟨w.heap.size + 1, 0, none⟩) (by show w.heap.size ≤ w.heap.size + 1; omega) _).setCell (p := ⟨w.heap.size + 1, 1, none⟩) (by show w.heap.size ≤ w.heap.size + 1; omega) _
    have OE : Hid (OwnSv ((w3.setCell ⟨w.heap.size + 1, 0, none⟩ (.int .i64 u.p)).setCell ⟨w.heap.size + 1, 1, none⟩ (.slice u.xa (n0 - 1) u.xc)) w.heap.size ((w3.setCell ⟨w.heap.size + 1, 0, none⟩ (.int .i64 u.p)).setCell ⟨w.heap.size + 1, 1, none⟩ (.slice u.xa (n0 - 1) u.xc)).heap.size (n0 - 1) u) := by
      have e : ((w3.setCell ⟨w.heap.size + 1, 0, none⟩ (.int .i64 u.p)).setCell ⟨w.heap.size + 1, 1, none⟩ (.slice u.xa (n0 - 1) u.xc)).heap.size = w3.heap.size := by simp
      show OwnSv _ _ _ _ _
      rw [e]
      exact (O2.out.of_blocks (by omega) fun k h1 h2 => by
        rw [Below.heap_setCell _ _ _ _ (by show k ≠ w.heap.size + 1; omega), Below.heap_setCell _ _ _ _ (by show k ≠ w.heap.size + 1; omega)]).mono (by omega)
    clear O2 B2 R2
    go_wp2
    refine bodyPost_ret (v := .tuple #[.agg #[.int .i64 u.p, .slice u.xa (n0 - 1) u.xc], .bool true]) (by simp [results, Try.results11, go_sem, r0, r1]; try rfl) rfl ?_
    exact ⟨u, rfl, US.out, OE.out, BE.out⟩

theorem exDropSight (g0 : Sv) (n0 : Nat) (e0 : n0 = g0.x.length) (a1 : Int) (lt : (n0 : Int) ≤ 1048576) : ∃ (y0 : Sv) (nr0 : Nat) (r1 : Bool), (nr0 = y0.x.length ∧ nr0 ≤ 1048576) ∧
    Hid (∀ (w : World) (k0 : Sv), k0.same g0 → k0.caps n0 → RdSv w n0 k0 → Calls Try.prog 10 #[(.agg #[.int .i64 k0.p, .slice k0.xa n0 k0.xc]), .int .i64 a1] w fun e w' => ∃ u0 : Sv, e = .returned (.tuple #[(.agg #[.int .i64 u0.p, .slice u0.xa nr0 u0.xc]), .bool r1]) ∧ u0.same y0 ∧ OwnSv w' w.heap.size w'.heap.size nr0 u0 ∧ Below w.heap.size w w') ∧
    Hid (∀ (w : World) (k0 : Sv), k0.same g0 → k0.caps n0 → RdSv w n0 k0 → Calls Try.prog 11 #[(.agg #[.int .i64 k0.p, .slice k0.xa n0 k0.xc]), .int .i64 a1] w fun e w' => ∃ u0 : Sv, e = .returned (.tuple #[(.agg #[.int .i64 u0.p, .slice u0.xa nr0 u0.xc]), .bool r1]) ∧ u0.same y0 ∧ OwnSv w' w.heap.size w'.heap.size nr0 u0 ∧ Below w.heap.size w w') := by
  by_cases h : OkSv g0 ∧ 0 ≤ a1 ∧ a1 ≤ (n0 : Int) - 1
  · obtain ⟨ok, h1, h2⟩ := h
    obtain ⟨K, rfl⟩ : ∃ K : Nat, a1 = K := ⟨a1.toNat, by omega⟩
    have hK : K < n0 := by omega
    have F : ∀ k0 : Sv, k0.same g0 → true = true → OkSv k0 ∧ ∃ K' : Nat, (K : Int) = K' ∧ K' < n0 ∧ (⟨g0.p, none, 0, dropL g0.x K⟩ : Sv).p = k0.p ∧ (⟨g0.p, none, 0, dropL g0.x K⟩ : Sv).x = dropL k0.x K' ∧ n0 - 1 = n0 - 1 :=
      fun k0 s _ => ⟨(okSv_same s).mpr ok, K, rfl, hK, s.1.symm, by rw [s.2], rfl⟩
    refine ⟨⟨g0.p, none, 0, dropL g0.x K⟩, n0 - 1, true, ⟨by show _ = (dropL _ _).length; rw [dropL_len (by omega)]; omega, by omega⟩, ?_, ?_⟩
    · exact fun w k0 s cp hr => specDrop_any k0 n0 K w hr (by omega) _ _ true (F k0 s) (fun h => by cases h)
    · exact fun w k0 s cp hr => implDrop_any k0 n0 K w hr cp (by omega) _ _ true (F k0 s) (fun h => by cases h)
  · have F : ∀ k0 : Sv, k0.same g0 → false = false → ¬ (OkSv k0 ∧ 0 ≤ a1 ∧ a1 ≤ (n0 : Int) - 1) ∧ (⟨0, none, 0, []⟩ : Sv) = ⟨0, none, 0, []⟩ ∧ 0 = 0 :=
      fun k0 s _ => ⟨fun hh => h ⟨(okSv_same s).mp hh.1, hh.2⟩, rfl, rfl⟩
    refine ⟨⟨0, none, 0, []⟩, 0, false, ⟨rfl, by omega⟩, ?_, ?_⟩
    · exact fun w k0 s cp hr => specDrop_any k0 n0 a1 w hr (by omega) _ _ false (fun h => by cases h) (F k0 s)
    · exact fun w k0 s cp hr => implDrop_any k0 n0 a1 w hr cp (by omega) _ _ false (fun h => by cases h) (F k0 s)
end Go.Proofs.Ythfmmlpbflfpaaa
