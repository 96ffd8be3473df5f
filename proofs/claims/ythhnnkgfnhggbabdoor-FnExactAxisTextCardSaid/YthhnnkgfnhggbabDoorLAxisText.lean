/- The law of AxisText. -/
import Derived.Test.YthhnnkgfnhggbabDoorAxTx
import Derived.Test.YthhnnkgfnhggbabDoorOpens2
import Derived.Test.YthhnnkgfnhggbabDoorAxis
import Derived.Deep.RegionHeld3
namespace Go.Proofs.YthhnnkgfnhggbabDoor
open Go.ChangeShapes Go.WideShapes Go.ChangeAt Go.RowKit
set_option linter.unusedVariables false
set_option linter.unusedSimpArgs false

set_option maxRecDepth 100000 in
set_option maxHeartbeats 4000000 in
theorem axisText_law (q : Ps) (a : Option Addr) (cap : Nat) (cs : List Cv)  (w : World) (hc : RdS 3 encCv w (.slice a cs.length cap) cs) (lz : cs.length ≤ 1048576) (r0 : ByteArray) (r1 : Bool)
    (hT : TDec w)
    (c1 : Hid (∀ v w, RdS 3 encCv w v cs → TDec w → Calls Tryd.prog 36 #[(.agg #[.int .i64 q.s, .int .i64 q.h, .int .i64 q.y, .int .i64 q.p, v])] w fun e w' => e = .returned (.tuple #[.string r0, .bool r1]) ∧ Below w.heap.size w w'))
    (c2 : Hid (∀ v w, RdS 3 encCv w v cs → TDec w → Calls Tryd.prog 37 #[(.agg #[.int .i64 q.s, .int .i64 q.h, .int .i64 q.y, .int .i64 q.p, v])] w fun e w' => e = .returned (.tuple #[.string r0, .bool r1]) ∧ Below w.heap.size w w')) :
    Calls Tryd.prog 8 #[(.agg #[.int .i64 q.s, .int .i64 q.h, .int .i64 q.y, .int .i64 q.p, (.slice a cs.length cap)])] w fun e w' => e = .returned (.bool true) ∧ Below w.heap.size w w' := by
  have H := Lib.hid hc
  have HT := Lib.hid hT
  clear hT
  have s0 := Lib.hid (fun w => szAxis_any q a cs.length cap 1048576 (by omega) (by omega) (by omega) w)
  rw [if_pos (show (cs.length : Int) ≤ 1048576 by omega)] at s0
  have LZ := Lib.hid lz
  have g0 : ¬ (1048576 - (cs.length : Int) < 0) := by omega
  clear hc lz
  go_enter Tryd.func8, Tryd.ntmps8
  go_wp2_with fail
  refine (s0.out _).mono ?_
  rintro e w1 ⟨rfl, rfl⟩
  go_wp2_with fail
  refine (toAxis_any q _ cs _ (H.out.later (by go_grown)) LZ.out).mono ?_
  rintro e w2 ⟨v2, rfl, o2, b2⟩
  have n2 := (b2.block w.heap.size (by simp only [World.size_alloc]; omega)).trans (heap_alloc2_old w _ _)
  have z2 := b2.size
  simp only [World.size_alloc] at z2
  have B2 : Hid (Below w.heap.size w w2) := Below.trans (by go_grown) (b2.mono (by simp only [World.size_alloc]; omega))
  have R2 := Lib.hid (o2.rd encCv_len)
  clear b2 o2 g0
  go_wp2_with fail
  refine (c1.out _ _ R2.out (HT.out.later B2.out)).mono ?_
  rintro e w3 ⟨rfl, b3⟩
  have n3 := (b3.block w.heap.size (by omega)).trans n2
  have z3 := b3.size
  have B3 : Hid (Below w.heap.size w w3) := B2.out.trans (b3.mono (by omega))
  clear b3 n2 R2 B2
  obtain ⟨⟨a0, a1, a2, a3, a4⟩, l3⟩ := boxA_at n3
  go_wp2_with fail
  refine (toAxis_any q _ cs _ (H.out.later B3.out) LZ.out).mono ?_
  rintro e w4 ⟨v4, rfl, o4, b4⟩
  have n4 := (b4.block w.heap.size (by omega)).trans n3
  have z4 := b4.size
  have B4 : Hid (Below w.heap.size w w4) := B3.out.trans (b4.mono (by omega))
  obtain ⟨a4', cap4, rfl⟩ := o4.form
  have R4 := Lib.hid (o4.rd encCv_len)
  clear b4 o4 n3 a0 a1 a2 a3 a4 l3 B3
  go_wp2_with fail
  refine (c2.out _ _ (R4.out.later (by go_grown)) (HT.out.later (B4.out.alloc (by omega) _))).mono ?_
  rintro e w6 ⟨rfl, b6⟩
  have n6 := (b6.block w.heap.size (by simp only [World.size_alloc]; omega)).trans ((Below.heap_alloc w4 _ _ (by omega)).trans n4)
  have x6 := (b6.block w4.heap.size (by simp only [World.size_alloc]; omega)).trans (heap_alloc_new w4 _)
  have z6 := b6.size
  simp only [World.size_alloc] at z6
  have B6 : Hid (Below w.heap.size w w6) := Below.trans (B4.out.alloc (by omega) _) (b6.mono (by simp only [World.size_alloc]; omega))
  have R6 : Hid (RdS 3 encCv w6 (.slice a4' cs.length cap4) cs) := (R4.out.later (Below.alloc (Below.refl _ _) (Nat.le_refl _) _)).later b6
  clear b6 n4 R4 B4
  have KS : Hid (∀ w', Below w6.heap.size w6 w' → (w'.cell? ⟨w.heap.size, 0, none⟩ = some (.int .i64 q.s) ∧ w'.cell? ⟨w.heap.size, 1, none⟩ = some (.int .i64 q.h) ∧ w'.cell? ⟨w.heap.size, 2, none⟩ = some (.int .i64 q.y) ∧ w'.cell? ⟨w.heap.size, 3, none⟩ = some (.int .i64 q.p) ∧ w'.cell? ⟨w.heap.size, 4, none⟩ = some (.slice a cs.length cap) ∧ w'.cell? ⟨w4.heap.size, 0, none⟩ = some (.int .i64 q.s) ∧ w'.cell? ⟨w4.heap.size, 1, none⟩ = some (.int .i64 q.h) ∧ w'.cell? ⟨w4.heap.size, 2, none⟩ = some (.int .i64 q.y) ∧ w'.cell? ⟨w4.heap.size, 3, none⟩ = some (.int .i64 q.p) ∧ w'.cell? ⟨w4.heap.size, 4, none⟩ = some (.slice a4' cs.length cap4) ∧ Hid (Below w6.heap.size w6 w'))) := by
    intro w' hb
    obtain ⟨⟨u0, u1, u2, u3, u4⟩, _⟩ := boxA_at ((hb.block w.heap.size (by omega)).trans n6)
    obtain ⟨⟨v0, v1, v2, v3, v4⟩, _⟩ := boxA_at ((hb.block w4.heap.size (by omega)).trans x6)
    exact ⟨u0, u1, u2, u3, u4, v0, v1, v2, v3, v4, hb⟩
  clear n6 x6
  go_wp2_with fail
  go_region_held3 (fun w' => (w'.cell? ⟨w.heap.size, 0, none⟩ = some (.int .i64 q.s) ∧ w'.cell? ⟨w.heap.size, 1, none⟩ = some (.int .i64 q.h) ∧ w'.cell? ⟨w.heap.size, 2, none⟩ = some (.int .i64 q.y) ∧ w'.cell? ⟨w.heap.size, 3, none⟩ = some (.int .i64 q.p) ∧ w'.cell? ⟨w.heap.size, 4, none⟩ = some (.slice a cs.length cap) ∧ w'.cell? ⟨w4.heap.size, 0, none⟩ = some (.int .i64 q.s) ∧ w'.cell? ⟨w4.heap.size, 1, none⟩ = some (.int .i64 q.h) ∧ w'.cell? ⟨w4.heap.size, 2, none⟩ = some (.int .i64 q.y) ∧ w'.cell? ⟨w4.heap.size, 3, none⟩ = some (.int .i64 q.p) ∧ w'.cell? ⟨w4.heap.size, 4, none⟩ = some (.slice a4' cs.length cap4) ∧ Hid (Below w6.heap.size w6 w')))
    (first | exact KS.out _ (Below.refl _ _).drew | exact KS.out _ B8.out | exact KS.out _ B7.out)
    (first
      | (go_at_call 13; refine (toAxis_any q _ cs _ (H.out.later B6.out.drew) LZ.out).mono ?_; rintro e w7 ⟨v7, rfl, o7, b7⟩; obtain ⟨a7, c7, rfl⟩ := o7.form; have B7 : Hid (Below w6.heap.size w6 w7) := (Below.refl _ _).drew.trans b7; have R7 := Lib.hid (o7.rd encCv_len); have R67 := Lib.hid (R6.out.later B7.out))
      | (go_at_call 18; refine (eqAxis_same q _ _ cs _ R67.out R7.out LZ.out).mono ?_; rintro e w8 ⟨rfl, b8⟩; have B8 : Hid (Below w6.heap.size w6 w8) := B7.out.trans (b8.mono B7.out.size)))
  go_wp2
  go_ret
  exact ⟨rfl, B6.out.trans (B8.out.mono B6.out.size)⟩

set_option maxRecDepth 100000 in
theorem walkFnExactAxisText (w : World) (q : Ps) (wq : WfP q) (a : Option Addr) (cap : Nat) (cs : List Cv) (hc : RdS 3 encCv w (.slice a cs.length cap) cs) (hl : cs.length ≤ maxLen) (wc : ∀ y ∈ cs, WfL encCv y) (hT : TDec w)  :
    Calls Tryd.prog 8 #[(.agg #[.int .i64 q.s, .int .i64 q.h, .int .i64 q.y, .int .i64 q.p, (.slice a cs.length cap)])] w fun e w' => e = .returned (.bool true) ∧ Below w.heap.size w w' := by
  by_cases lz : cs.length ≤ 1048576
  · obtain ⟨r0, r1, c1, c2⟩ := exAxisText q cs lz 
    exact axisText_law q a cap cs  w hc lz r0 r1 hT c1 c2
  · have s0 := Lib.hid (fun w => szAxis_any q a cs.length cap 1048576 (by omega) (by omega) (by unfold maxLen at hl; omega) w)
    rw [if_neg (show ¬ (cs.length : Int) ≤ 1048576 by omega)] at s0
    clear hc lz hl wc hT
    go_enter Tryd.func8, Tryd.ntmps8
    go_wp2_with fail
    refine (s0.out _).mono ?_
    rintro e w1 ⟨rfl, rfl⟩
    go_wp2
    go_ret
    exact ⟨rfl, by go_grown⟩
end Go.Proofs.YthhnnkgfnhggbabDoor
