/- Courses read from their texts: the law's walk. -/
import Derived.Test.YtkdecpnbbpmooacDoorReadC2
namespace Go.Proofs.YtkdecpnbbpmooacDoor
open Go.ChangeShapes Go.WideShapes Go.ChangeAt Go.RowKit
set_option linter.unusedVariables false
set_option linter.unusedSimpArgs false

set_option maxRecDepth 100000 in
set_option maxHeartbeats 4000000 in
theorem walkFnExactReadCourse (s : ByteArray) (hs : s.size ≤ maxLen) (w : World) (hT : TSp w) :
    Calls Tryd.prog 5 #[.string s] w fun e w' => e = .returned (.bool true) ∧ Below w.heap.size w w' := by
  obtain ⟨c, b, h⟩ := courseRes_of s.data.toList
  unfold maxLen at hs
  by_cases hl : (1048576 : Int) < (s.size : Int)
  · clear h hT
    go_enter Tryd.func5, Tryd.ntmps5
    go_wp2
    go_ret
    exact ⟨rfl, Below.refl _ _⟩
  · have C1 := Lib.hid (fun w => specReadC_any s (by omega) c b h w)
    have C2 := Lib.hid (fun w hT => implReadC_any s (by omega) c b h w hT)
    have HT := Lib.hid hT
    clear h hT
    go_enter Tryd.func5, Tryd.ntmps5
    go_wp2_with fail
    refine (C1.out _).mono ?_
    rintro e w1 ⟨rfl, b1⟩
    have B1 := Lib.hid b1
    clear b1 C1
    have sz := B1.out.size
    have B2 : Hid (Below w.heap.size w (w1.alloc (.cells #[.int .i64 c.o, .int .i64 c.h, .int .i64 c.t] 27))) := B1.out.alloc (by omega) _
    go_wp2_with fail
    refine (C2.out _ (HT.out.later B2.out)).mono ?_
    rintro e w2 ⟨rfl, b2⟩
    have N2 := Lib.hid ((b2.block w1.heap.size (by simp)).trans (heap_alloc_new w1 _))
    have B3 := Lib.hid (B2.out.trans (b2.mono B2.out.size))
    clear b2 C2 B1 B2
    have lt1 := box_ltR N2.out
    have ne1 : ¬ w1.heap.size = w2.heap.size := by omega
    obtain ⟨⟨k0, k1, k2⟩, -⟩ := boxCo_at (q := c) N2.out
    clear N2
    go_wp2_with fail
    refine (eqCourse_same c _).mono ?_
    rintro e w3 ⟨rfl, hw3⟩
    have B4 : Hid (Below w.heap.size w w3) := by
      have B := B3.out
      have := B.size
      show Below _ _ _
      rw [hw3]
      go_grown
    clear hw3 B3 k0 k1 k2 ne1 lt1
    go_wp2
    go_ret
    exact ⟨rfl, B4.out⟩
end Go.Proofs.YtkdecpnbbpmooacDoor
