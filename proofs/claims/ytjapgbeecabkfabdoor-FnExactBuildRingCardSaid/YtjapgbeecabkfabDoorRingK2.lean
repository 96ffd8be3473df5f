/- TurnOf and TotalTurn on both sides. -/
import Derived.Test.YtjapgbeecabkfabDoorRingK
namespace Go.Proofs.YtjapgbeecabkfabDoor
open Go.ChangeShapes Go.WideShapes Go.ChangeAt Go.RowKit
set_option linter.unusedVariables false
set_option linter.unusedSimpArgs false

theorem implTurnOf_any (q : Rg) (b : Bool) (hb : b = true ↔ OkR q) (x y : Int) (hx : x = if b then bendR q else 0) (hy : y = if b then riseR q else 0) (w : World) (T : TKeys w) :
    Calls Tryd.prog 83 #[(.agg #[.int .i64 q.k, .int .i64 q.y])] w fun e w' => e = .returned (.tuple #[.int .i64 x, .int .i64 y, .bool b]) ∧ Below w.heap.size w w' := by
  have c1 := Lib.hid (fun w => implRing_any q b hb w)
  have HT := Lib.hid T
  cases b with
  | false =>
    simp only [Bool.false_eq_true, if_false] at hx hy
    subst hx hy
    clear T hb
    go_enter Tryd.func83, Tryd.ntmps83
    go_wp2_with fail
    refine (c1.out _).mono ?_
    rintro e w1 ⟨rfl, b1⟩
    have B1 : Hid (Below w.heap.size w w1) := Below.trans (by go_grown) (b1.mono (by simp only [World.size_alloc]; omega))
    clear b1
    go_wp2
    go_ret3
    exact ⟨rfl, B1.out⟩
  | true =>
    simp only [if_true] at hx hy
    have h := hb.mp rfl
    have c2 := Lib.hid (fun w T => turn_any q h w T)
    rw [← hx, ← hy] at c2
    clear T hb h hx hy
    go_enter Tryd.func83, Tryd.ntmps83
    go_wp2_with fail
    refine (c1.out _).mono ?_
    rintro e w1 ⟨rfl, b1⟩
    have z1 := b1.size
    simp only [World.size_alloc] at z1
    have n1 := (b1.block w.heap.size (by simp only [World.size_alloc]; omega)).trans (heap_alloc_new w _)
    obtain ⟨⟨k0, k1⟩, -⟩ := boxRg_at n1
    have B1 : Hid (Below w.heap.size w w1) := Below.trans (by go_grown) (b1.mono (by simp only [World.size_alloc]; omega))
    clear b1 n1
    go_wp2_with fail
    refine (c2.out _ (HT.out.later B1.out)).mono ?_
    rintro e w2 ⟨rfl, b2⟩
    have B2 : Hid (Below w.heap.size w w2) := B1.out.trans (b2.mono (by omega))
    have hsz := B2.out.size
    clear b2 k0 k1 B1
    go_wp2
    have n0 : (w2.alloc (.cells #[.int .i64 x, .int .i64 y] 127)).cell? ⟨w2.heap.size, 0, none⟩ = some (.int .i64 x) := cell_of_row _ w2.heap.size 0 _ _ _ (heap_alloc_new w2 _)
    have n1 : (w2.alloc (.cells #[.int .i64 x, .int .i64 y] 127)).cell? ⟨w2.heap.size, 1, none⟩ = some (.int .i64 y) := cell_of_row _ w2.heap.size 1 _ _ _ (heap_alloc_new w2 _)
    have B : Hid (Below w.heap.size w (w2.alloc (.cells #[.int .i64 x, .int .i64 y] 127))) := B2.out.alloc hsz _
    obtain ⟨w3, hw3⟩ : ∃ w3, w3 = (w2.alloc (.cells #[.int .i64 x, .int .i64 y] 127)) := ⟨_, rfl⟩
    rw [← hw3] at n0 n1 B
    rw [← hw3]
    clear hw3
    go_quiet (fail)
    go_wp2
    go_ret3
    exact ⟨rfl, below_drewN' _ B.out⟩

end Go.Proofs.YtjapgbeecabkfabDoor
