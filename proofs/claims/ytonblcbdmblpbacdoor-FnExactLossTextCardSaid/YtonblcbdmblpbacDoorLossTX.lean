/- LossText on both sides, and its law. -/
import Derived.Test.YtonblcbdmblpbacDoorLossT
namespace Go.Proofs.YtonblcbdmblpbacDoor
open Go.ChangeShapes Go.WideShapes Go.ChangeAt Go.RowKit
set_option linter.unusedVariables false
set_option linter.unusedSimpArgs false

def LTRes (c : Lo) (l : List UInt8) (b : Bool) : Prop := (OkLo c ∧ l = textLo c ∧ b = true) ∨ (¬ OkLo c ∧ l = [] ∧ b = false)
theorem ltRes_of (c : Lo) : ∃ l b, LTRes c l b := by
  by_cases h : OkLo c
  · exact ⟨_, _, .inl ⟨h, rfl, rfl⟩⟩
  · exact ⟨_, _, .inr ⟨h, rfl, rfl⟩⟩
theorem okLs_one (g : Lo) : OkLs [g] ↔ OkLo g := by
  constructor
  · intro h; exact h.2 g (by simp)
  · intro h; exact ⟨by simp, by simpa using h⟩
theorem built_lo (w : World) (g : Lo) (t : TypeId) (N : Nat) (hN : N = w.heap.size) : RdS 3 encLo (w.alloc (.cells #[.int .i64 g.s, .int .i64 g.v, .int .i64 g.w] t)) (.slice (some ⟨N, 0, none⟩) 1 1) [g] := by
  subst hN
  refine ⟨_, 1, rfl, .inr ⟨w.heap.size, 0, rfl, fun i x hx j u hu => ?_⟩⟩
  have hi : i = 0 := by have := (List.getElem?_eq_some_iff.1 hx).1; simp at this; omega
  subst hi
  obtain rfl : g = x := by simpa using hx
  have hj : j < 3 := (List.getElem?_eq_some_iff.1 hu).1
  rw [cell_of_row (w.alloc (.cells #[.int .i64 g.s, .int .i64 g.v, .int .i64 g.w] t)) w.heap.size _ _ t (0, 0) (heap_alloc_new w _)]
  rw [← hu]
  simp only [Nat.zero_mul, Nat.zero_add, encLo]
  rcases j with _ | _ | _ | j <;> first | rfl | omega

set_option maxHeartbeats 2000000 in
theorem implLT_any (c : Lo) (l : List UInt8) (b : Bool) (h : LTRes c l b) (w : World) (hT : TDec w) :
    Calls Tryd.prog 7 #[(.agg #[.int .i64 c.s, .int .i64 c.v, .int .i64 c.w])] w fun e w' => e = .returned (.tuple #[.string ⟨l.toArray⟩, .bool b]) ∧ Below w.heap.size w w' := by
  rcases h with ⟨ok, rfl, rfl⟩ | ⟨no, rfl, rfl⟩
  · have C1 := Lib.hid (fun w => loIs_blw c true (by simpa using ok) w)
    have C2 := Lib.hid (fun w hT => lossText_any c ok w hT)
    have HT := Lib.hid hT
    obtain ⟨A, hA⟩ : ∃ A : ByteArray, A = ⟨(textLo c).toArray⟩ := ⟨_, rfl⟩
    rw [← hA] at C2 ⊢
    clear ok hT hA
    go_enter Tryd.func7, Tryd.ntmps7
    go_wp2_with fail
    refine (C1.out _).mono ?_
    rintro e w1 ⟨rfl, b1⟩
    obtain ⟨⟨a0, a1, a2⟩, -⟩ := boxLo_at ((b1.block w.heap.size (by simp)).trans (heap_alloc_new w _))
    have B1 : Hid (Below w.heap.size w w1) := Below.trans (by go_grown) (b1.mono (by simp))
    clear b1 C1
    go_wp2_with fail
    refine (C2.out _ (HT.out.later B1.out)).mono ?_
    rintro e w2 ⟨rfl, b2⟩
    have B2 : Hid (Below w.heap.size w w2) := B1.out.trans (b2.mono B1.out.size)
    clear b2 a0 a1 a2 C2
    go_wp2
    go_ret2
    exact ⟨rfl, B2.out⟩
  · have C1 := Lib.hid (fun w => loIs_blw c false (by simpa using no) w)
    clear no hT
    go_enter Tryd.func7, Tryd.ntmps7
    go_wp2_with fail
    refine (C1.out _).mono ?_
    rintro e w1 ⟨rfl, b1⟩
    have B1 : Hid (Below w.heap.size w w1) := Below.trans (by go_grown) (b1.mono (by simp))
    clear b1
    go_wp2
    go_ret2
    exact ⟨rfl, B1.out⟩
set_option maxHeartbeats 2000000 in
theorem specLT_any (c : Lo) (l : List UInt8) (b : Bool) (h : LTRes c l b) (w : World) :
    Calls Tryd.prog 5 #[(.agg #[.int .i64 c.s, .int .i64 c.v, .int .i64 c.w])] w fun e w' => e = .returned (.tuple #[.string ⟨l.toArray⟩, .bool b]) ∧ Below w.heap.size w w' := by
  have K := Lib.hid (fun w v k => l07Losses_any v [c] w k (by simp) b (by
    rw [okLs_one]
    rcases h with ⟨ok, rfl, rfl⟩ | ⟨no, rfl, rfl⟩
    · simpa using ok
    · simpa using no))
  rcases h with ⟨ok, rfl, rfl⟩ | ⟨no, rfl, rfl⟩
  · have C2 := Lib.hid (fun w => l07Text_any c ok w)
    obtain ⟨A, hA⟩ : ∃ A : ByteArray, A = ⟨(textLo c).toArray⟩ := ⟨_, rfl⟩
    rw [← hA] at C2 ⊢
    clear ok hA
    go_enter Tryd.func5, Tryd.ntmps5
    go_wp2_with fail
    refine (K.out _ _ (built_lo (w.alloc _) c _ _ (by simp))).mono ?_
    rintro e w1 ⟨rfl, b1⟩
    obtain ⟨⟨a0, a1, a2⟩, -⟩ := boxLo_at ((b1.block w.heap.size (by simp; omega)).trans (heap_alloc2_old w _ _))
    have B1 : Hid (Below w.heap.size w w1) := Below.trans (by go_grown) (b1.mono (by simp; omega))
    clear b1 K
    go_wp2_with fail
    refine (C2.out _).mono ?_
    rintro e w2 ⟨rfl, b2⟩
    have B2 : Hid (Below w.heap.size w w2) := B1.out.trans (b2.mono B1.out.size)
    clear b2 a0 a1 a2 C2
    go_wp2
    go_ret2
    exact ⟨rfl, B2.out⟩
  · clear no
    go_enter Tryd.func5, Tryd.ntmps5
    go_wp2_with fail
    refine (K.out _ _ (built_lo (w.alloc _) c _ _ (by simp))).mono ?_
    rintro e w1 ⟨rfl, b1⟩
    have B1 : Hid (Below w.heap.size w w1) := Below.trans (by go_grown) (b1.mono (by simp; omega))
    clear b1
    go_wp2
    go_ret2
    exact ⟨rfl, B1.out⟩

set_option maxRecDepth 100000 in
set_option maxHeartbeats 4000000 in
theorem walkFnExactLossText (q : Lo) (wq : (Lit.int .i64 q.s).wf = true ∧ (Lit.int .i64 q.v).wf = true ∧ (Lit.int .i64 q.w).wf = true) (w : World) (hT : TDec w) :
    Calls Tryd.prog 3 #[(.agg #[.int .i64 q.s, .int .i64 q.v, .int .i64 q.w])] w fun e w' => e = .returned (.bool true) ∧ Below w.heap.size w w' := by
  obtain ⟨l, b, h⟩ := ltRes_of q
  have C1 := Lib.hid (fun w => specLT_any q l b h w)
  have C2 := Lib.hid (fun w hT => implLT_any q l b h w hT)
  have HT := Lib.hid hT
  clear h hT wq
  obtain ⟨A, hA⟩ : ∃ A : ByteArray, A = ⟨l.toArray⟩ := ⟨_, rfl⟩
  rw [← hA] at C1 C2
  clear hA
  go_enter Tryd.func3, Tryd.ntmps3
  go_wp2_with fail
  refine (toLoss_any q _).mono ?_
  rintro e w1 ⟨rfl, rfl⟩
  go_wp2_with fail
  refine (C1.out _).mono ?_
  rintro e w2 ⟨rfl, b2⟩
  have B2 : Hid (Below w.heap.size w w2) := Below.trans (by go_grown) (b2.mono (by simp only [World.size_alloc]; omega))
  have NQ := (b2.block w.heap.size (by simp only [World.size_alloc]; omega)).trans (show _ = some (.cells #[.int .i64 q.s, .int .i64 q.v, .int .i64 q.w] 23 (0, 0)) from by
    refine (Below.heap_alloc _ _ _ (by simp only [World.size_alloc]; omega)).trans ((Below.heap_alloc _ _ _ (by simp only [World.size_alloc]; omega)).trans ((Below.heap_alloc _ _ _ (by simp only [World.size_alloc]; omega)).trans (heap_alloc_new w _))))
  obtain ⟨⟨k0, k1, k2⟩, -, -⟩ := boxLo_at NQ
  clear b2 NQ C1
  go_wp2_with fail
  refine (toLoss_any q _).mono ?_
  rintro e w3 ⟨rfl, rfl⟩
  clear k0 k1 k2
  have sz := B2.out.size
  have B3 : Hid (Below w.heap.size w (((w2.alloc (.cells #[.int .i64 q.s, .int .i64 q.v, .int .i64 q.w] 23)).alloc (.cells #[.int .i64 q.s, .int .i64 q.v, .int .i64 q.w] 26)).alloc (.cells #[.int .i64 q.s, .int .i64 q.v, .int .i64 q.w] 26))) := by have := B2.out; show Below _ _ _; go_grown
  go_wp2_with fail
  refine (C2.out _ (HT.out.later B3.out)).mono ?_
  rintro e w4 ⟨rfl, b4⟩
  have B4 : Hid (Below w.heap.size w w4) := B3.out.trans (b4.mono B3.out.size)
  clear b4 B3 B2 C2
  cases b
  · go_wp2
    go_ret
    exact ⟨rfl, B4.out⟩
  · go_wp2
    go_ret
    exact ⟨rfl, B4.out⟩
end Go.Proofs.YtonblcbdmblpbacDoor
