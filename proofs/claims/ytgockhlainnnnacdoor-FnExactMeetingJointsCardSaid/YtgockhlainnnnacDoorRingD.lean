/- Sets of positions as lists: the program's side, by math/bits' table. -/
import Derived.Test.YtgockhlainnnnacDoorSpecT
import Derived.Test.YtgockhlainnnnacDoorBitsI
namespace Go.Proofs.YtgockhlainnnnacDoor
open Go.ChangeShapes Go.WideShapes Go.ChangeAt Go.RowKit
set_option linter.unusedVariables false
set_option linter.unusedSimpArgs false

set_option maxHeartbeats 1000000 in
theorem list_any (s0 : Int) (hs : 0 ≤ s0 ∧ s0 ≤ 65535) (n : Nat) (L : List Int) (h : chain n s0 = some L) (hL : L.length ≤ 16) (w : World) (T : TDebL w) :
    Calls Tryd.prog 45 #[.int .u16 s0] w fun e w' => ∃ v', e = .returned v' ∧ OwnI w' w.heap.size v' L ∧ Below w.heap.size w w' := by
  have C := Lib.hid (fun w T => bitNumbers_any s0 n L h (by omega) w T)
  have q1 : IntKind.u64.wrap s0 = s0 := by unfold IntKind.wrap; simp [IntKind.bits, IntKind.signed]; omega
  have HT := Lib.hid T
  clear T h hL
  go_enter Tryd.func45, Tryd.ntmps45
  go_wp2_with fail
  refine (C.out _ HT.out).mono ?_
  rintro e w1 ⟨v1, rfl, o1, b1⟩
  have O1 := Lib.hid o1
  have B1 := Lib.hid b1
  clear o1 b1
  go_wp2
  go_ret
  exact ⟨_, rfl, O1.out, B1.out⟩

theorem OwnI.nil' (w : World) (B : Nat) : OwnI w B (.slice none 0 0) [] := World.ownsRow_nil _ _ _ _

/-- What comes out of a set of joints, and of two that meet. -/
theorem joints_chain_fin : ∀ a : Fin 16, chain 16 (jM a.val) = some (jointsL a.val) := by decide +kernel
theorem meet_chain_fin : ∀ a b : Fin 16, chain 16 (bits BinOp.and IntKind.u16 (jM a.val) (jM b.val)) = some (meetL a.val b.val) := by decide +kernel

theorem joints_chain (a : Int) (h : 0 ≤ a ∧ a ≤ 15) : chain 16 (jM a) = some (jointsL a) := by
  obtain ⟨f, rfl⟩ := fin16 a h
  exact joints_chain_fin f
theorem meet_chain (a b : Int) (h : 0 ≤ a ∧ a ≤ 15) (h' : 0 ≤ b ∧ b ≤ 15) : chain 16 (bits BinOp.and IntKind.u16 (jM a) (jM b)) = some (meetL a b) := by
  obtain ⟨f, rfl⟩ := fin16 a h
  obtain ⟨g, rfl⟩ := fin16 b h'
  exact meet_chain_fin f g
theorem jM_u16_fin : ∀ a : Fin 16, 0 ≤ jM a.val ∧ jM a.val ≤ 65535 := by decide +kernel
theorem jM_u16 (a : Int) (h : 0 ≤ a ∧ a ≤ 15) : 0 ≤ jM a ∧ jM a ≤ 65535 := by
  obtain ⟨f, rfl⟩ := fin16 a h
  exact jM_u16_fin f
theorem mM_u16_fin : ∀ a b : Fin 16, 0 ≤ bits BinOp.and IntKind.u16 (jM a.val) (jM b.val) ∧ bits BinOp.and IntKind.u16 (jM a.val) (jM b.val) ≤ 65535 := by decide +kernel
theorem mM_u16 (a b : Int) (h : 0 ≤ a ∧ a ≤ 15) (h' : 0 ≤ b ∧ b ≤ 15) : 0 ≤ bits BinOp.and IntKind.u16 (jM a) (jM b) ∧ bits BinOp.and IntKind.u16 (jM a) (jM b) ≤ 65535 := by
  obtain ⟨f, rfl⟩ := fin16 a h
  obtain ⟨g, rfl⟩ := fin16 b h'
  exact mM_u16_fin f g
theorem jointsL_len (a : Int) : (jointsL a).length ≤ 16 := Nat.le_trans (putAll_length a sixSteps) (by decide)
theorem meetL_len (a b : Int) : (meetL a b).length ≤ 16 := Nat.le_trans (List.length_filter_le _ _) (jointsL_len a)

/-- What a function of a ring (or of two) answers: a list in memory of its own. -/
def GivesI (f : Nat) (args : Array Value) (L : List Int) (b : Bool) : Prop :=
  ∀ w : World, TDebL w → Calls Tryd.prog f args w fun e w' => ∃ v', e = .returned (.tuple #[v', .bool b]) ∧ OwnI w' w.heap.size v' L ∧ Below w.heap.size w w'

theorem OwnI.mono' {w : World} {B B' : Nat} {v : Value} {zs : List Int} (h : OwnI w B v zs) (hB : B' ≤ B) : OwnI w B' v zs := h.mono hB

set_option maxHeartbeats 1000000 in
theorem implJoints_yes (q : Rg) (h : OkR q) : GivesI 15 #[(.agg #[.int .i64 q.k, .int .i64 q.y])] (jointsL q.y) true := by
  intro w T
  have c1 := Lib.hid (fun w => implRing_any q true ⟨fun _ => h, fun _ => rfl⟩ w)
  have c2 := Lib.hid (fun w => joints_any q h w)
  have c3 := Lib.hid (fun w T => list_any (jM q.y) (jM_u16 q.y h.2) 16 (jointsL q.y) (joints_chain q.y h.2) (jointsL_len _) w T)
  have HT := Lib.hid T
  clear h T
  go_enter Tryd.func15, Tryd.ntmps15
  go_wp2_with fail
  refine (c1.out _).mono ?_
  rintro e w1 ⟨rfl, b1⟩
  have z1 := b1.size
  simp only [World.size_alloc] at z1
  have n1 := (b1.block w.heap.size (by simp only [World.size_alloc]; omega)).trans (heap_alloc_new w _)
  obtain ⟨⟨k0, k1⟩, -⟩ := boxRg_at n1
  have B1 : Hid (Below w.heap.size w w1) := Below.trans (by go_grown) (b1.mono (by simp only [World.size_alloc]; omega))
  clear b1 n1
  go_wp2_with fail
  refine (c2.out _).mono ?_
  rintro e w2 ⟨rfl, b2⟩
  have z2 := b2.size
  have B2 : Hid (Below w.heap.size w w2) := B1.out.trans (b2.mono (by omega))
  clear b2 k0 k1 B1
  go_wp2_with fail
  refine (c3.out _ (HT.out.later B2.out)).mono ?_
  rintro e w3 ⟨v3, rfl, o3, b3⟩
  have O3 : Hid (OwnI w3 w.heap.size v3 (jointsL q.y)) := o3.mono (by omega)
  have B3 : Hid (Below w.heap.size w w3) := B2.out.trans (b3.mono (by omega))
  clear o3 b3
  go_wp2
  go_ret2
  exact ⟨_, rfl, O3.out, B3.out⟩

theorem implJoints_no (q : Rg) (h : ¬ OkR q) : GivesI 15 #[(.agg #[.int .i64 q.k, .int .i64 q.y])] [] false := by
  intro w T
  have c1 := Lib.hid (fun w => implRing_any q false ⟨fun e => (by cases e), fun e => absurd e h⟩ w)
  clear h T
  go_enter Tryd.func15, Tryd.ntmps15
  go_wp2_with fail
  refine (c1.out _).mono ?_
  rintro e w1 ⟨rfl, b1⟩
  have B1 : Hid (Below w.heap.size w w1) := Below.trans (by go_grown) (b1.mono (by simp only [World.size_alloc]; omega))
  clear b1
  go_wp2
  go_ret2
  exact ⟨_, rfl, OwnI.nil' _ _, B1.out⟩

set_option maxHeartbeats 1000000 in
theorem specJoints_yes (q : Rg) (h : OkR q) : GivesI 13 #[(.agg #[.int .i64 q.k, .int .i64 q.y])] (jointsL q.y) true := by
  intro w T
  have c1 := Lib.hid (fun w => l03Is_any q true ⟨fun _ => h, fun _ => rfl⟩ w)
  have c2 := Lib.hid (fun w => l03Joints_any q.y h.2 w)
  clear h T
  go_enter Tryd.func13, Tryd.ntmps13
  go_wp2_with fail
  refine (c1.out _).mono ?_
  rintro e w1 ⟨rfl, b1⟩
  have z1 := b1.size
  simp only [World.size_alloc] at z1
  have n1 := (b1.block w.heap.size (by simp only [World.size_alloc]; omega)).trans (heap_alloc_new w _)
  obtain ⟨⟨k0, k1⟩, -⟩ := boxRg_at n1
  have B1 : Hid (Below w.heap.size w w1) := Below.trans (by go_grown) (b1.mono (by simp only [World.size_alloc]; omega))
  clear b1 n1
  go_wp2_with fail
  refine (c2.out _).mono ?_
  rintro e w3 ⟨v3, rfl, o3, b3⟩
  have O3 : Hid (OwnI w3 w.heap.size v3 (jointsL q.y)) := o3.mono (by omega)
  have B3 : Hid (Below w.heap.size w w3) := B1.out.trans (b3.mono (by omega))
  clear o3 b3 k0 k1
  go_wp2
  go_ret2
  exact ⟨_, rfl, O3.out, B3.out⟩

theorem specJoints_no (q : Rg) (h : ¬ OkR q) : GivesI 13 #[(.agg #[.int .i64 q.k, .int .i64 q.y])] [] false := by
  intro w T
  have c1 := Lib.hid (fun w => l03Is_any q false ⟨fun e => (by cases e), fun e => absurd e h⟩ w)
  clear h T
  go_enter Tryd.func13, Tryd.ntmps13
  go_wp2_with fail
  refine (c1.out _).mono ?_
  rintro e w1 ⟨rfl, b1⟩
  have B1 : Hid (Below w.heap.size w w1) := Below.trans (by go_grown) (b1.mono (by simp only [World.size_alloc]; omega))
  clear b1
  go_wp2
  go_ret2
  exact ⟨_, rfl, OwnI.nil' _ _, B1.out⟩

theorem exJointsOf (q : Rg) : ∃ (ys : List Int) (b : Bool), ys.length ≤ 1048576 ∧
    Hid (∀ (w : World), TDebL w → Calls Tryd.prog 13 #[(.agg #[.int .i64 q.k, .int .i64 q.y])] w fun e w' => ∃ u0, e = .returned (.tuple #[u0, .bool b]) ∧ OwnI w' w.heap.size u0 ys ∧ Below w.heap.size w w') ∧
    Hid (∀ (w : World), TDebL w → Calls Tryd.prog 15 #[(.agg #[.int .i64 q.k, .int .i64 q.y])] w fun e w' => ∃ u0, e = .returned (.tuple #[u0, .bool b]) ∧ OwnI w' w.heap.size u0 ys ∧ Below w.heap.size w w') := by
  by_cases h : OkR q
  · exact ⟨_, true, by have := jointsL_len q.y; omega, specJoints_yes q h, implJoints_yes q h⟩
  · exact ⟨[], false, by simp, specJoints_no q h, implJoints_no q h⟩
end Go.Proofs.YtgockhlainnnnacDoor
