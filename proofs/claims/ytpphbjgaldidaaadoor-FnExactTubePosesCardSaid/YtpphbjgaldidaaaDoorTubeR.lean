/- TubePoses: both sides' answers. -/
import Derived.Test.YtpphbjgaldidaaaDoorTubeQ
namespace Go.Proofs.YtpphbjgaldidaaaDoor
open Go.ChangeShapes Go.WideShapes Go.ChangeAt Go.RowKit
set_option linter.unusedVariables false
set_option linter.unusedSimpArgs false

theorem implTubePoses_no1 (p : Ps) (v : Value) (xs : List Rg) (w : World) (h : RdS 2 encRg w v xs) (hp : ¬ OkP p) :
    Calls Tryd.prog 12 #[(.agg #[.int .i64 p.s, .int .i64 p.h, .int .i64 p.y, .int .i64 p.p]), v] w fun e w' => ∃ v', e = .returned (.tuple #[v', .bool false]) ∧ OwnS 35 4 encPs w' w.heap.size v' [] ∧ Below w.heap.size w w' := by
  have c1 := Lib.hid (fun w => implPose_any p false ⟨fun e => (by cases e), fun e => absurd e hp⟩ w)
  obtain ⟨a, cap, rfl, _⟩ := h
  clear hp
  go_enter Tryd.func12, Tryd.ntmps12
  go_wp2_with fail
  refine (c1.out _).mono ?_
  rintro e w1 ⟨rfl, hw1⟩
  have B1 : Hid (Below w.heap.size w w1) := by rw [hw1]; show Below _ _ _; go_grown
  clear hw1
  go_wp2
  go_ret2
  exact ⟨_, rfl, OwnS.nil _ _, B1.out⟩

theorem implTubePoses_no2 (p : Ps) (v : Value) (xs : List Rg) (w : World) (h : RdS 2 encRg w v xs) (lz : xs.length ≤ 1048576) (hp : OkP p) (ok : ¬ OkT xs) :
    Calls Tryd.prog 12 #[(.agg #[.int .i64 p.s, .int .i64 p.h, .int .i64 p.y, .int .i64 p.p]), v] w fun e w' => ∃ v', e = .returned (.tuple #[v', .bool false]) ∧ OwnS 35 4 encPs w' w.heap.size v' [] ∧ Below w.heap.size w w' := by
  have HC := Lib.hid h
  have c1 := Lib.hid (fun w => implPose_any p true ⟨fun _ => hp, fun _ => rfl⟩ w)
  have c2 := Lib.hid (fun w (h : RdS 2 encRg w v xs) => implTube_any v xs w h lz false ⟨fun e => (by cases e), fun e => absurd e ok⟩)
  obtain ⟨a, cap, rfl, _⟩ := h
  clear hp ok lz
  go_enter Tryd.func12, Tryd.ntmps12
  go_wp2_with fail
  refine (c1.out _).mono ?_
  rintro e w1 ⟨rfl, hw1⟩
  have B1 : Hid (Below w.heap.size w w1) := by rw [hw1]; show Below _ _ _; go_grown
  have z1 := B1.out.size
  clear hw1
  go_wp2_with fail
  refine (c2.out _ (HC.out.later B1.out)).mono ?_
  rintro e w2 ⟨rfl, b2⟩
  have B2 : Hid (Below w.heap.size w w2) := B1.out.trans (b2.mono z1)
  clear b2
  go_wp2
  go_ret2
  exact ⟨_, rfl, OwnS.nil _ _, B2.out⟩

theorem specTubePoses_no2 (p : Ps) (v : Value) (xs : List Rg) (w : World) (h : RdS 2 encRg w v xs) (lz : xs.length ≤ 1048576) (ok : ¬ OkT xs) :
    Calls Tryd.prog 10 #[(.agg #[.int .i64 p.s, .int .i64 p.h, .int .i64 p.y, .int .i64 p.p]), v] w fun e w' => ∃ v', e = .returned (.tuple #[v', .bool false]) ∧ OwnS 35 4 encPs w' w.heap.size v' [] ∧ Below w.heap.size w w' := by
  have HC := Lib.hid h
  have c2 := Lib.hid (fun w (h : RdS 2 encRg w v xs) => l03Tube_any v xs w h lz false ⟨fun e => (by cases e), fun e => absurd e ok⟩)
  obtain ⟨a, cap, rfl, _⟩ := h
  clear ok lz
  go_enter Tryd.func10, Tryd.ntmps10
  go_wp2_with fail
  refine (c2.out _ (HC.out.later (by go_grown))).mono ?_
  rintro e w2 ⟨rfl, b2⟩
  have B2 : Hid (Below w.heap.size w w2) := Below.trans (by go_grown) (b2.mono (by simp))
  clear b2
  go_wp2
  go_ret2
  exact ⟨_, rfl, OwnS.nil _ _, B2.out⟩

theorem specTubePoses_go (p : Ps) (v : Value) (xs : List Rg) (w : World) (h : RdS 2 encRg w v xs) (lz : xs.length ≤ 1048576) (ok : OkT xs) (b : Bool) (hb : b = true ↔ OkTP p xs) (ys : List Ps) (hy : ys = if b then posesT p xs xs.length else []) :
    Calls Tryd.prog 10 #[(.agg #[.int .i64 p.s, .int .i64 p.h, .int .i64 p.y, .int .i64 p.p]), v] w fun e w' => ∃ v', e = .returned (.tuple #[v', .bool b]) ∧ OwnS 35 4 encPs w' w.heap.size v' ys ∧ Below w.heap.size w w' := by
  have HC := Lib.hid h
  have c1 := Lib.hid (fun w (h : RdS 2 encRg w v xs) => l03Tube_any v xs w h lz true ⟨fun _ => ok, fun _ => rfl⟩)
  have c2 := Lib.hid (fun w (h : RdS 2 encRg w v xs) => l03Poses_any p v xs w h ok b hb ys hy)
  obtain ⟨a, cap, rfl, _⟩ := h
  clear ok lz hb hy
  go_enter Tryd.func10, Tryd.ntmps10
  go_wp2_with fail
  refine (c1.out _ (HC.out.later (by go_grown))).mono ?_
  rintro e w2 ⟨rfl, b2⟩
  have z2 := b2.size
  simp only [World.size_alloc] at z2
  have n2 := (b2.block w.heap.size (by simp)).trans (heap_alloc_new w _)
  obtain ⟨⟨k0, k1, k2, k3⟩, -⟩ := boxPs_at n2
  have B2 : Hid (Below w.heap.size w w2) := Below.trans (by go_grown) (b2.mono (by simp))
  clear b2 n2
  go_wp2_with fail
  refine (c2.out _ (HC.out.later B2.out)).mono ?_
  rintro e w3 ⟨v3, rfl, o3, b3⟩
  have O3 : Hid (OwnS 35 4 encPs w3 w.heap.size v3 ys) := o3.mono (by omega)
  have B3 : Hid (Below w.heap.size w w3) := B2.out.trans (b3.mono (by omega))
  clear b3 o3 k0 k1 k2 k3
  go_wp2
  go_ret2
  exact ⟨_, rfl, O3.out, B3.out⟩

theorem exTubePoses (p : Ps) (xs : List Rg) (lz : xs.length ≤ 1048576) : ∃ (ys : List Ps) (b : Bool), ys.length ≤ 1048576 ∧
    Hid (∀ (w : World) (v1 : Value), TKeys w → RdS 2 encRg w v1 xs → Calls Tryd.prog 10 #[(.agg #[.int .i64 p.s, .int .i64 p.h, .int .i64 p.y, .int .i64 p.p]), v1] w fun e w' => ∃ u0, e = .returned (.tuple #[u0, .bool b]) ∧ OwnS 35 4 encPs w' w.heap.size u0 ys ∧ Below w.heap.size w w') ∧
    Hid (∀ (w : World) (v1 : Value), TKeys w → RdS 2 encRg w v1 xs → Calls Tryd.prog 12 #[(.agg #[.int .i64 p.s, .int .i64 p.h, .int .i64 p.y, .int .i64 p.p]), v1] w fun e w' => ∃ u0, e = .returned (.tuple #[u0, .bool b]) ∧ OwnS 35 4 encPs w' w.heap.size u0 ys ∧ Below w.heap.size w w') := by
  by_cases ok : OkT xs
  · obtain ⟨b, hb⟩ : ∃ b : Bool, b = true ↔ OkTP p xs := by
      by_cases h : OkTP p xs
      · exact ⟨true, fun _ => h, fun _ => rfl⟩
      · exact ⟨false, fun e => (by cases e), fun e => absurd e h⟩
    refine ⟨if b then posesT p xs xs.length else [], b, ?_, fun w v _ h => specTubePoses_go p v xs w h lz ok b hb _ rfl, fun w v T h => ?_⟩
    · split
      · rw [posesT_length]; have := ok.1; omega
      · simp
    · by_cases hp : OkP p
      · exact implTubePoses_go p v xs w h lz T hp ok b hb _ rfl
      · obtain rfl : b = false := b_false hb (fun h => hp h.1)
        exact implTubePoses_no1 p v xs w h hp
  · refine ⟨[], false, by simp, fun w v _ h => specTubePoses_no2 p v xs w h lz ok, fun w v T h => ?_⟩
    by_cases hp : OkP p
    · exact implTubePoses_no2 p v xs w h lz hp ok
    · exact implTubePoses_no1 p v xs w h hp
end Go.Proofs.YtpphbjgaldidaaaDoor
