/- The laws of ValidPose and NextPose. -/
import Derived.Test.YtfmncgbdlfdebaaNext
namespace Go.Proofs.Ytfmncgbdlfdebaa
open Go.ChangeShapes Go.WideShapes Go.ChangeAt Go.RowKit
set_option linter.unusedVariables false
set_option linter.unusedSimpArgs false

/-- A box of four cells is in a later world as it was. -/
theorem box4 {N : Nat} {w w' : World} {g : Nat} {t : TypeId} {a b c d : Value} (B : Below N w w') (hN : g < N) (h : w.heap[g]? = some (.cells #[a, b, c, d] t (0, 0))) :
    w'.cell? ⟨g, 0, none⟩ = some a ∧ w'.cell? ⟨g, 1, none⟩ = some b ∧ w'.cell? ⟨g, 2, none⟩ = some c ∧ w'.cell? ⟨g, 3, none⟩ = some d := by
  have h' := (B.block g hN).trans h
  exact ⟨cell_of_row w' g 0 _ t _ h', cell_of_row w' g 1 _ t _ h', cell_of_row w' g 2 _ t _ h', cell_of_row w' g 3 _ t _ h'⟩

set_option maxHeartbeats 1000000 in
theorem walkFnExactValidPose (q : Ps) (wf : WfP q) (w : World) :
    Calls Try.prog 3 #[(.agg #[.int .i64 q.s, .int .i64 q.h, .int .i64 q.y, .int .i64 q.p])] w fun e w' => e = .returned (.bool true) ∧ Below w.heap.size w w' := by
  obtain ⟨b, hb⟩ : ∃ b : Bool, b = true ↔ OkP q := by
    by_cases h : OkP q
    · exact ⟨true, by simp [h]⟩
    · exact ⟨false, by simp [h]⟩
  have c1 := Lib.hid (fun w => specPose_any q b hb w)
  have c2 := Lib.hid (fun w => implPose_any q b hb w)
  clear hb wf
  go_enter Try.func3, Try.ntmps3
  go_wp2_with fail
  refine (toPose_any q _).mono ?_
  rintro e w1 ⟨rfl, rfl⟩
  go_wp2_with fail
  refine (c1.out _).mono ?_
  rintro e w1 ⟨rfl, rfl⟩
  go_wp2_with fail
  refine (toPose_any q _).mono ?_
  rintro e w1 ⟨rfl, rfl⟩
  go_wp2_with fail
  refine (c2.out _).mono ?_
  rintro e w1 ⟨rfl, rfl⟩
  go_wp2
  go_ret
  exact ⟨rfl, by go_grown⟩

set_option maxHeartbeats 2000000 in
theorem next_law (q : Ps) (b r : Int) (w : World) (o : Ps) (v : Bool)
    (c1 : Hid (∀ w, Calls Try.prog 18 #[(.agg #[.int .i64 q.s, .int .i64 q.h, .int .i64 q.y, .int .i64 q.p]), .int .i64 b, .int .i64 r] w fun e w' => e = .returned (.tuple #[(.agg #[.int .i64 o.s, .int .i64 o.h, .int .i64 o.y, .int .i64 o.p]), .bool v]) ∧ Below w.heap.size w w'))
    (c2 : Hid (∀ w, Calls Try.prog 19 #[(.agg #[.int .i64 q.s, .int .i64 q.h, .int .i64 q.y, .int .i64 q.p]), .int .i64 b, .int .i64 r] w fun e w' => e = .returned (.tuple #[(.agg #[.int .i64 o.s, .int .i64 o.h, .int .i64 o.y, .int .i64 o.p]), .bool v]) ∧ Below w.heap.size w w')) :
    Calls Try.prog 4 #[(.agg #[.int .i64 q.s, .int .i64 q.h, .int .i64 q.y, .int .i64 q.p]), .int .i64 b, .int .i64 r] w fun e w' => e = .returned (.bool true) ∧ Below w.heap.size w w' := by
  go_enter Try.func4, Try.ntmps4
  go_wp2_with fail
  refine (toPose_any q _).mono ?_
  rintro e w1 ⟨rfl, rfl⟩
  go_wp2_with fail
  refine (c1.out _).mono ?_
  rintro e w1 ⟨rfl, b1⟩
  have B0 : Below (w.heap.size + 1) (w.alloc (.cells #[.int .i64 q.s, .int .i64 q.h, .int .i64 q.y, .int .i64 q.p] 23)) w1 := Below.trans (by go_grown) (b1.mono (by simp))
  obtain ⟨k0, k1, k2, k3⟩ := box4 B0 (g := w.heap.size) (by omega) (heap_alloc_new w _)
  have B1 : Hid (Below w.heap.size w w1) := Below.trans (by go_grown) (B0.mono (by simp))
  have l1 : w.heap.size < w1.heap.size := by have := B0.size; simp at this; omega
  have l2 : ¬ w.heap.size = w1.heap.size := by omega
  clear b1 B0
  go_wp2_with fail
  refine (toPose_any q _).mono ?_
  rintro e w2 ⟨rfl, rfl⟩
  clear k0 k1 k2 k3
  go_wp2_with fail
  refine (c2.out _).mono ?_
  rintro e w2 ⟨rfl, b2⟩
  have B2 : Below (w1.heap.size + 1) (w1.alloc (.cells #[.int .i64 o.s, .int .i64 o.h, .int .i64 o.y, .int .i64 o.p] 25)) w2 := Below.trans (by go_grown) (b2.mono (by simp))
  obtain ⟨k0, k1, k2, k3⟩ := box4 B2 (g := w1.heap.size) (by omega) (heap_alloc_new w1 _)
  have l3 : w1.heap.size < w2.heap.size := by have := B2.size; simp at this; omega
  have l4 : ¬ w1.heap.size = w2.heap.size := by omega
  have B3 : Hid (Below w.heap.size w w2) := B1.out.trans (Below.trans (by have := B1.out.size; go_grown) (B2.mono (by have := B1.out.size; simp; omega)))
  clear b2 B2
  go_wp2_with fail
  refine (eqPose_same o _).mono ?_
  rintro e w3 ⟨rfl, rfl⟩
  clear k0 k1 k2 k3
  go_wp2
  go_ret
  exact ⟨rfl, by have B := B3.out; have := B.size; go_grown⟩

theorem walkFnExactNextPose (q : Ps) (wf : WfP q) (b : Int) (wb : (Lit.int .i64 b).wf = true) (r : Int) (wr : (Lit.int .i64 r).wf = true) (w : World) :
    Calls Try.prog 4 #[(.agg #[.int .i64 q.s, .int .i64 q.h, .int .i64 q.y, .int .i64 q.p]), .int .i64 b, .int .i64 r] w fun e w' => e = .returned (.bool true) ∧ Below w.heap.size w w' := by
  by_cases h : CanP q b r
  · exact next_law q b r w (stepP q b r) true (fun w => specNext_yes q b r h.1 h.2.1 h.2.2.1 h.2.2.2 w) (fun w => implNext_yes q b r h.1 h.2.1 h.2.2.1 h.2.2.2 w)
  · exact next_law q b r w noP false (fun w => specNext_no q b r h w) (fun w => implNext_no q b r h w)
end Go.Proofs.Ytfmncgbdlfdebaa
