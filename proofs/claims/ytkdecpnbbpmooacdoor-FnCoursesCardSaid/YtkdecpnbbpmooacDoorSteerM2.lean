/- Mirrored courses, on both sides. -/
import Derived.Test.YtkdecpnbbpmooacDoorSteerM
import Derived.Test.YtkdecpnbbpmooacDoorSteerN
namespace Go.Proofs.YtkdecpnbbpmooacDoor
open Go.ChangeShapes Go.WideShapes Go.ChangeAt Go.RowKit
set_option linter.unusedVariables false
set_option linter.unusedSimpArgs false


set_option maxHeartbeats 2000000 in
theorem implMirrorC_any (c o : Co) (h : MirRes c o) (w : World) :
    Calls Tryd.prog 13 #[(.agg #[.int .i64 c.o, .int .i64 c.h, .int .i64 c.t])] w fun e w' => e = .returned (.agg #[.int .i64 o.o, .int .i64 o.h, .int .i64 o.t]) ∧ Below w.heap.size w w' := by
  obtain ⟨b, hb⟩ := bool_of (SmallC c)
  have C1 := Lib.hid (fun w => isSmall_any c b hb w)
  have R : Hid ((b = false ∧ o = noC) ∨ (b = true ∧ SmallC c ∧ o = mirC c)) := by
    rcases h with ⟨h1, h2⟩ | ⟨h1, h2⟩
    · exact .inr ⟨hb.mpr h1, h1, h2⟩
    · refine .inl ⟨?_, h2⟩
      cases e : b with
      | false => rfl
      | true => exact absurd (hb.mp e) h1
  clear h hb
  go_enter Tryd.func13, Tryd.ntmps13
  go_wp2_with fail
  refine (C1.out _).mono ?_
  rintro e u ⟨rfl, b1⟩
  have su : w.heap.size + 2 ≤ u.heap.size := by have := b1.size; simp only [World.size_alloc] at this; omega
  have BU : Hid (Below w.heap.size w u) := Below.trans (by go_grown) (b1.mono (by simp only [World.size_alloc]; omega))
  have NC := (b1.block (w.heap.size) (by simp only [World.size_alloc]; omega)).trans (boxN2_0 w _ _)
  have NR := (b1.block (w.heap.size + 1) (by simp only [World.size_alloc]; omega)).trans (boxN2_1 w _ _)
  clear b1 C1
  obtain ⟨⟨f0, f1, f2⟩, ⟨z0, z1, z2⟩, -⟩ := boxCo_at (q := noC) NR
  have RF := Lib.hid (boxCo_put (q := noC) NR o)
  clear NR
  rcases R.out with ⟨rfl, rfl⟩ | ⟨rfl, ok, rfl⟩
  · clear R NC
    go_wp2
    obtain ⟨⟨g0, g1, g2⟩, -⟩ := boxCo_at (q := noC) RF.out
    dsimp only [noC] at g0 g1 g2
    have B := BU.out
    have sz := B.size
    refine bodyPost_ret (v := (.agg #[.int .i64 noC.o, .int .i64 noC.h, .int .i64 noC.t])) (by simp [results, Tryd.results13, go_sem, g0, g1, g2, noC]; try rfl) rfl ⟨rfl, ?_⟩
    go_grown
  · obtain ⟨⟨⟨x1, x2⟩, ⟨x3, x4⟩⟩, ⟨x5, x6⟩⟩ := ok
    obtain ⟨⟨j0, j1, j2⟩, -, -⟩ := boxCo_at NC
    have q1 : IntKind.i64.wrap (-c.o) = -c.o := IntWalk.i64_in _ (by omega)
    have q2 : IntKind.i64.wrap (-c.h) = -c.h := IntWalk.i64_in _ (by omega)
    have q3 : IntKind.i64.wrap (-c.t) = -c.t := IntWalk.i64_in _ (by omega)
    clear R NC
    go_wp2
    obtain ⟨⟨g0, g1, g2⟩, -⟩ := boxCo_at (q := mirC c) RF.out
    dsimp only [mirC] at g0 g1 g2
    have B := BU.out
    have sz := B.size
    refine bodyPost_ret (v := (.agg #[.int .i64 (mirC c).o, .int .i64 (mirC c).h, .int .i64 (mirC c).t])) (by simp [results, Tryd.results13, go_sem, g0, g1, g2, mirC]; try rfl) rfl ⟨rfl, ?_⟩
    go_grown

end Go.Proofs.YtkdecpnbbpmooacDoor
