/- The law of CourseOf. -/
import Derived.Test.YtkdecpnbbpmooaaSteerC
import Derived.Test.YtkdecpnbbpmooaaPoses
import Derived.Test.YtkdecpnbbpmooaaStoreCo
import Derived.Test.YtkdecpnbbpmooaaKit5
import Derived.Test.YtkdecpnbbpmooaaExKit
import Derived.Deep.RegionHeld3
import Derived.Deep.DeepCutAuto
namespace Go.Proofs.Ytkdecpnbbpmooaa
open Go.ChangeShapes Go.WideShapes Go.ChangeAt Go.RowKit
set_option linter.unusedVariables false
set_option linter.unusedSimpArgs false

set_option maxRecDepth 100000 in
set_option maxHeartbeats 8000000 in
theorem courseOf_law (q0 : Ps) (q1 : Ps) (w : World) (T : World → Prop) (hT : ∀ w', Below w.heap.size w w' → T w') (r0 : Co) (r1 : Co) (r2 : Bool) 
    (c1 : Hid (∀ (w : World), T w → Calls Try.prog 34 #[(.agg #[.int .i64 q0.s, .int .i64 q0.h, .int .i64 q0.y, .int .i64 q0.p]), (.agg #[.int .i64 q1.s, .int .i64 q1.h, .int .i64 q1.y, .int .i64 q1.p])] w fun e w' => e = .returned (.tuple #[(.agg #[.int .i64 r0.o, .int .i64 r0.h, .int .i64 r0.t]), (.agg #[.int .i64 r1.o, .int .i64 r1.h, .int .i64 r1.t]), .bool r2]) ∧ Below w.heap.size w w'))
    (c2 : Hid (∀ (w : World), T w → Calls Try.prog 36 #[(.agg #[.int .i64 q0.s, .int .i64 q0.h, .int .i64 q0.y, .int .i64 q0.p]), (.agg #[.int .i64 q1.s, .int .i64 q1.h, .int .i64 q1.y, .int .i64 q1.p])] w fun e w' => e = .returned (.tuple #[(.agg #[.int .i64 r0.o, .int .i64 r0.h, .int .i64 r0.t]), (.agg #[.int .i64 r1.o, .int .i64 r1.h, .int .i64 r1.t]), .bool r2]) ∧ Below w.heap.size w w')) :
    Calls Try.prog 9 #[(.agg #[.int .i64 q0.s, .int .i64 q0.h, .int .i64 q0.y, .int .i64 q0.p]), (.agg #[.int .i64 q1.s, .int .i64 q1.h, .int .i64 q1.y, .int .i64 q1.p])] w fun e w' => e = .returned (.bool true) ∧ Below w.heap.size w w' := by
  have HT := Lib.hid hT
  clear hT
  have KQ : Hid (∀ w', Below (w.heap.size + 2) ((w.alloc (.cells #[.int .i64 q0.s, .int .i64 q0.h, .int .i64 q0.y, .int .i64 q0.p] 53)).alloc (.cells #[.int .i64 q1.s, .int .i64 q1.h, .int .i64 q1.y, .int .i64 q1.p] 53)) w' → (w'.cell? ⟨w.heap.size, 0, none⟩ = some (.int .i64 q0.s) ∧ w'.cell? ⟨w.heap.size, 1, none⟩ = some (.int .i64 q0.h) ∧ w'.cell? ⟨w.heap.size, 2, none⟩ = some (.int .i64 q0.y) ∧ w'.cell? ⟨w.heap.size, 3, none⟩ = some (.int .i64 q0.p) ∧ w'.cell? ⟨w.heap.size + 1, 0, none⟩ = some (.int .i64 q1.s) ∧ w'.cell? ⟨w.heap.size + 1, 1, none⟩ = some (.int .i64 q1.h) ∧ w'.cell? ⟨w.heap.size + 1, 2, none⟩ = some (.int .i64 q1.y) ∧ w'.cell? ⟨w.heap.size + 1, 3, none⟩ = some (.int .i64 q1.p))) := by
    intro w' b
    obtain ⟨⟨k0_0, k0_1, k0_2, k0_3⟩, -⟩ := boxPs_at ((b.block (w.heap.size) (by omega)).trans (box2_0 w _ _))
    obtain ⟨⟨k1_0, k1_1, k1_2, k1_3⟩, -⟩ := boxPs_at ((b.block (w.heap.size + 1) (by omega)).trans (box2_1 w _ _))
    exact ⟨k0_0, k0_1, k0_2, k0_3, k1_0, k1_1, k1_2, k1_3⟩
  have BQ : Hid (Below w.heap.size w ((w.alloc (.cells #[.int .i64 q0.s, .int .i64 q0.h, .int .i64 q0.y, .int .i64 q0.p] 53)).alloc (.cells #[.int .i64 q1.s, .int .i64 q1.h, .int .i64 q1.y, .int .i64 q1.p] 53))) := by show Below _ _ _; go_grown
  have SQ : Hid (((w.alloc (.cells #[.int .i64 q0.s, .int .i64 q0.h, .int .i64 q0.y, .int .i64 q0.p] 53)).alloc (.cells #[.int .i64 q1.s, .int .i64 q1.h, .int .i64 q1.y, .int .i64 q1.p] 53)).heap.size = w.heap.size + 2) := by show _ = _; simp
  go_enter Try.func9, Try.ntmps9
  go_upto_region 1 with (fail)
  generalize hwq : ((w.alloc (.cells #[.int .i64 q0.s, .int .i64 q0.h, .int .i64 q0.y, .int .i64 q0.p] 53)).alloc (.cells #[.int .i64 q1.s, .int .i64 q1.h, .int .i64 q1.y, .int .i64 q1.p] 53)) = wq at KQ BQ SQ ⊢
  clear hwq
  have KS : Hid (∀ w', Below wq.heap.size wq w' → (w'.cell? ⟨w.heap.size, 0, none⟩ = some (.int .i64 q0.s) ∧ w'.cell? ⟨w.heap.size, 1, none⟩ = some (.int .i64 q0.h) ∧ w'.cell? ⟨w.heap.size, 2, none⟩ = some (.int .i64 q0.y) ∧ w'.cell? ⟨w.heap.size, 3, none⟩ = some (.int .i64 q0.p) ∧ w'.cell? ⟨w.heap.size + 1, 0, none⟩ = some (.int .i64 q1.s) ∧ w'.cell? ⟨w.heap.size + 1, 1, none⟩ = some (.int .i64 q1.h) ∧ w'.cell? ⟨w.heap.size + 1, 2, none⟩ = some (.int .i64 q1.y) ∧ w'.cell? ⟨w.heap.size + 1, 3, none⟩ = some (.int .i64 q1.p))) := fun w' b => KQ.out w' (b.mono (by have := SQ.out; omega))
  go_cut [5, 6, 7] (fun s5 s6 s7 wx => ∃ p1_0 p1_1 : Nat, s5 = .pointer (some ⟨p1_0, 0, none⟩) ∧ s6 = .pointer (some ⟨p1_1, 0, none⟩) ∧ s7 = .bool r2 ∧ Hid (Below wq.heap.size wq wx) ∧ Hid (wx.heap[p1_0]? = some (.cells #[.int .i64 r0.o, .int .i64 r0.h, .int .i64 r0.t] 31 (0, 0))) ∧ Hid (wx.heap[p1_1]? = some (.cells #[.int .i64 r1.o, .int .i64 r1.h, .int .i64 r1.t] 31 (0, 0))))
  case first =>
   go_wp2_with fail
   refine wp_region_held_drew (S := fun w' => (w'.cell? ⟨w.heap.size, 0, none⟩ = some (.int .i64 q0.s) ∧ w'.cell? ⟨w.heap.size, 1, none⟩ = some (.int .i64 q0.h) ∧ w'.cell? ⟨w.heap.size, 2, none⟩ = some (.int .i64 q0.y) ∧ w'.cell? ⟨w.heap.size, 3, none⟩ = some (.int .i64 q0.p) ∧ w'.cell? ⟨w.heap.size + 1, 0, none⟩ = some (.int .i64 q1.s) ∧ w'.cell? ⟨w.heap.size + 1, 1, none⟩ = some (.int .i64 q1.h) ∧ w'.cell? ⟨w.heap.size + 1, 2, none⟩ = some (.int .i64 q1.y) ∧ w'.cell? ⟨w.heap.size + 1, 3, none⟩ = some (.int .i64 q1.p))) (by kernel_rfl) (KS.out _ (Below.refl _ _).drew) (fun hHeld => ?_)
   have D0 : Hid (Below wq.heap.size wq (World.drew wq)) := (Below.refl _ _).drew
   refine wpAnyH_take (i := 0) (v := ?_) (by (simp only [ea, eb, ec]); (try exact rfl)) (by kernel_rfl) (by kernel_rfl) (by kernel_rfl) (by intro _ _ _ h; exact h) (Or.inl ⟨by rfl, ?_⟩) (by assumption) ?_
   rotate_left
   · intro w hSw
     try dsimp only at hSw
     go_simp
     try with_reducible rfl
   try simp only [Act.put, sa, sb, sc]
   refine wpAnyH_take (i := 2) (v := ?_) (by (simp only [ea, eb, ec]); (try exact rfl)) (by kernel_rfl) (by kernel_rfl) (by kernel_rfl) (by intro _ _ _ h; exact h) (Or.inl ⟨by rfl, ?_⟩) (by assumption) ?_
   rotate_left
   · intro w hSw
     try dsimp only at hSw
     go_simp
     try with_reducible rfl
   try simp only [Act.put, sa, sb, sc]
   refine wpAnyH_ready (rs := [1, 9, 10]) (by kernel_rfl) (by simp) ?_
   refine (AllReadyH.cons (by (simp only [ea, eb, ec]); (try exact rfl)) (fun K hK => ?_) (AllReadyH.cons (by (simp only [ea, eb, ec]); (try exact rfl)) (fun K hK => ?_) (AllReadyH.cons (by (simp only [ea, eb, ec]); (try exact rfl)) (fun K hK => ?_) AllReadyH.nil)))
   go_simp
   go_at_call 35
   refine (toPose_blw q0 _).mono ?_
   rintro e u1_1 ⟨rfl, bb⟩
   have Du1_1 : Hid (Below wq.heap.size wq u1_1) := Below.trans D0.out (bb.mono D0.out.size)
   clear bb
   (first | refine hK.out _ _ ?_ (fun hHeld => ?_) | (go_wp2_with fail; refine hK.out _ _ ?_ (fun hHeld => ?_)))
   · try dsimp only
     exact KS.out _ Du1_1.out
   clear hK K
   try simp only [Act.put, sa, sb, sc]
   refine wpAnyH_ready (rs := [3, 9, 10]) (by kernel_rfl) (by simp) ?_
   refine (AllReadyH.cons (by (simp only [ea, eb, ec]); (try exact rfl)) (fun K hK => ?_) (AllReadyH.cons (by (simp only [ea, eb, ec]); (try exact rfl)) (fun K hK => ?_) (AllReadyH.cons (by (simp only [ea, eb, ec]); (try exact rfl)) (fun K hK => ?_) AllReadyH.nil)))
   go_simp
   go_at_call 35
   refine (toPose_blw q1 _).mono ?_
   rintro e u1_2 ⟨rfl, bb⟩
   have Du1_2 : Hid (Below wq.heap.size wq u1_2) := Below.trans Du1_1.out (bb.mono Du1_1.out.size)
   clear bb
   (first | refine hK.out _ _ ?_ (fun hHeld => ?_) | (go_wp2_with fail; refine hK.out _ _ ?_ (fun hHeld => ?_)))
   · try dsimp only
     exact KS.out _ Du1_2.out
   clear hK K
   try simp only [Act.put, sa, sb, sc]
   refine wpAnyH_ready (rs := [4, 9, 10]) (by kernel_rfl) (by simp) ?_
   refine (AllReadyH.cons (by (simp only [ea, eb, ec]); (try exact rfl)) (fun K hK => ?_) (AllReadyH.cons (by (simp only [ea, eb, ec]); (try exact rfl)) (fun K hK => ?_) (AllReadyH.cons (by (simp only [ea, eb, ec]); (try exact rfl)) (fun K hK => ?_) AllReadyH.nil)))
   go_simp
   go_at_call 34
   refine (c1.out _ (HT.out _ (BQ.out.trans (Du1_2.out.mono (BQ.out.size))))).mono ?_
   rintro e u1_3 ⟨rfl, bb⟩
   have Du1_3 : Hid (Below wq.heap.size wq u1_3) := Below.trans Du1_2.out (bb.mono Du1_2.out.size)
   clear bb
   (first | refine hK.out _ _ ?_ (fun hHeld => ?_) | (go_wp2_with fail; refine hK.out _ _ ?_ (fun hHeld => ?_)))
   · try dsimp only
     exact KS.out _ Du1_3.out
   clear hK K
   try simp only [Act.put, sa, sb, sc]
   refine wpAnyH_take (i := 5) (v := ?_) (by (simp only [ea, eb, ec]); (try exact rfl)) (by kernel_rfl) (by kernel_rfl) (by kernel_rfl) (by intro _ _ _ h; exact h) (Or.inl ⟨by rfl, ?_⟩) (by assumption) ?_
   rotate_left
   · intro w hSw
     try dsimp only at hSw
     go_simp
     try with_reducible rfl
   try simp only [Act.put, sa, sb, sc]
   refine wpAnyH_take (i := 6) (v := ?_) (by (simp only [ea, eb, ec]); (try exact rfl)) (by kernel_rfl) (by kernel_rfl) (by kernel_rfl) (by intro _ _ _ h; exact h) (Or.inl ⟨by rfl, ?_⟩) (by assumption) ?_
   rotate_left
   · intro w hSw
     try dsimp only at hSw
     go_simp
     try with_reducible rfl
   try simp only [Act.put, sa, sb, sc]
   refine wpAnyH_take (i := 7) (v := ?_) (by (simp only [ea, eb, ec]); (try exact rfl)) (by kernel_rfl) (by kernel_rfl) (by kernel_rfl) (by intro _ _ _ h; exact h) (Or.inl ⟨by rfl, ?_⟩) (by assumption) ?_
   rotate_left
   · intro w hSw
     try dsimp only at hSw
     go_simp
     try with_reducible rfl
   try simp only [Act.put, sa, sb, sc]
   refine wpAnyH_take (i := 8) (v := ?_) (by (simp only [ea, eb, ec]); (try exact rfl)) (by kernel_rfl) (by kernel_rfl) (by kernel_rfl) (by intro _ _ _ h; exact h) (Or.inl ⟨by rfl, ?_⟩) (by assumption) ?_
   rotate_left
   · intro w hSw
     try dsimp only at hSw
     go_simp
     try with_reducible rfl
   try simp only [Act.put, sa, sb, sc]
   refine wpAnyH_ready (rs := [9, 10]) (by kernel_rfl) (by simp) ?_
   refine (AllReadyH.cons (by (simp only [ea, eb, ec]); (try exact rfl)) (fun K hK => ?_) (AllReadyH.cons (by (simp only [ea, eb, ec]); (try exact rfl)) (fun K hK => ?_) AllReadyH.nil))
   go_simp
   generalize hA : World.alloc u1_3 (.cells #[.int .i64 0, .int .i64 0, .int .i64 0] 31) = a1_4
   obtain ⟨p1_0, hp⟩ : ∃ p, p = u1_3.heap.size := ⟨_, rfl⟩
   have ba : Below u1_3.heap.size u1_3 a1_4 := by rw [← hA]; exact Below.alloc (Below.refl _ _) (Nat.le_refl _) _
   have Z1_0a1_4 := Lib.hid (show a1_4.heap[p1_0]? = some (.cells #[.int .i64 0, .int .i64 0, .int .i64 0] 31 (0, 0)) from by rw [← hA, hp]; exact heap_alloc_new _ _)
   have tp1_0 : wq.heap.size ≤ p1_0 := by rw [hp]; exact Du1_3.out.size
   have Da1_4 : Hid (Below wq.heap.size wq a1_4) := Below.trans Du1_3.out (ba.mono Du1_3.out.size)
   rw [← hp]
   clear hA hp ba
   refine hK.out _ _ ?_ (fun hHeld => ?_)
   · try dsimp only
     exact KS.out _ Da1_4.out
   clear hK K
   try simp only [Act.put, sa, sb, sc]
   refine wpAnyH_ready (rs := [10]) (by kernel_rfl) (by simp) ?_
   refine (AllReadyH.cons (by (simp only [ea, eb, ec]); (try exact rfl)) (fun K hK => ?_) AllReadyH.nil)
   go_simp
   generalize hA : World.alloc a1_4 (.cells #[.int .i64 0, .int .i64 0, .int .i64 0] 31) = a1_5
   obtain ⟨p1_1, hp⟩ : ∃ p, p = a1_4.heap.size := ⟨_, rfl⟩
   have ba : Below a1_4.heap.size a1_4 a1_5 := by rw [← hA]; exact Below.alloc (Below.refl _ _) (Nat.le_refl _) _
   have Z1_1a1_5 := Lib.hid (show a1_5.heap[p1_1]? = some (.cells #[.int .i64 0, .int .i64 0, .int .i64 0] 31 (0, 0)) from by rw [← hA, hp]; exact heap_alloc_new _ _)
   have tp1_1 : wq.heap.size ≤ p1_1 := by rw [hp]; exact Da1_4.out.size
   have n1_0_1_1 : p1_0 ≠ p1_1 := by have hh := box_lt Z1_0a1_4.out; rw [hp]; intro e; rw [e] at hh; exact Nat.lt_irrefl _ hh
   have Da1_5 : Hid (Below wq.heap.size wq a1_5) := Below.trans Da1_4.out (ba.mono Da1_4.out.size)
   have Z1_0a1_5 := Lib.hid ((ba.block p1_0 (box_lt Z1_0a1_4.out)).trans Z1_0a1_4.out)
   rw [← hp]
   clear hA hp ba
   refine hK.out _ _ ?_ (fun hHeld => ?_)
   · try dsimp only
     exact KS.out _ Da1_5.out
   clear hK K
   try simp only [Act.put, sa, sb, sc]
   refine wpAnyH_ready (rs := [11]) (by kernel_rfl) (by simp) ?_
   refine AllReadyH.cons (by (simp only [ea, eb, ec]); (try exact rfl)) (fun K hK => ?_) AllReadyH.nil
   refine step_store_Co rfl _ _ rfl p1_0 (⟨0, 0, 0⟩ : Co) r0 _ rfl rfl Z1_0a1_5.out ?_
   intro e1_6 hE oE bE
   have De1_6 : Hid (Below wq.heap.size wq e1_6) := Below.trans Da1_5.out (bE.mono tp1_0)
   have Z1_0e1_6 := Lib.hid hE
   have Z1_1e1_6 := Lib.hid ((oE p1_1 (by first | assumption | exact Ne.symm (by assumption))).trans Z1_1a1_5.out)
   clear hE oE bE
   refine hK.out _ _ ?_ (fun hHeld => ?_)
   · try dsimp only
     exact KS.out _ De1_6.out
   clear hK K
   try simp only [Act.put, sa, sb, sc]
   refine wpAnyH_ready (rs := [12]) (by kernel_rfl) (by simp) ?_
   refine AllReadyH.cons (by (simp only [ea, eb, ec]); (try exact rfl)) (fun K hK => ?_) AllReadyH.nil
   refine step_store_Co rfl _ _ rfl p1_1 (⟨0, 0, 0⟩ : Co) r1 _ rfl rfl Z1_1e1_6.out ?_
   intro e1_7 hE oE bE
   have De1_7 : Hid (Below wq.heap.size wq e1_7) := Below.trans De1_6.out (bE.mono tp1_1)
   have Z1_1e1_7 := Lib.hid hE
   have Z1_0e1_7 := Lib.hid ((oE p1_0 (by first | assumption | exact Ne.symm (by assumption))).trans Z1_0e1_6.out)
   clear hE oE bE
   refine hK.out _ _ ?_ (fun hHeld => ?_)
   · try dsimp only
     exact KS.out _ De1_7.out
   clear hK K
   try simp only [Act.put, sa, sb, sc]
   refine wpAnyH_take (i := 13) (v := ?_) (by (simp only [ea, eb, ec]); (try exact rfl)) (by kernel_rfl) (by kernel_rfl) (by kernel_rfl) (by intro _ _ _ h; exact h) (Or.inl ⟨by rfl, ?_⟩) (by assumption) ?_
   rotate_left
   · intro w hSw
     try dsimp only at hSw
     go_simp
     try with_reducible rfl
   try simp only [Act.put, sa, sb, sc]
   refine wpAnyH_done (by kernel_rfl) ?_ _
   go_wp2_with fail
   go_meet
   exact ⟨p1_0, p1_1, rfl, rfl, rfl, De1_7, Z1_0e1_7, Z1_1e1_7⟩
   go_simp
   generalize hA : World.alloc u1_3 (.cells #[.int .i64 0, .int .i64 0, .int .i64 0] 31) = a1_8
   obtain ⟨p1_1, hp⟩ : ∃ p, p = u1_3.heap.size := ⟨_, rfl⟩
   have ba : Below u1_3.heap.size u1_3 a1_8 := by rw [← hA]; exact Below.alloc (Below.refl _ _) (Nat.le_refl _) _
   have Z1_1a1_8 := Lib.hid (show a1_8.heap[p1_1]? = some (.cells #[.int .i64 0, .int .i64 0, .int .i64 0] 31 (0, 0)) from by rw [← hA, hp]; exact heap_alloc_new _ _)
   have tp1_1 : wq.heap.size ≤ p1_1 := by rw [hp]; exact Du1_3.out.size
   have Da1_8 : Hid (Below wq.heap.size wq a1_8) := Below.trans Du1_3.out (ba.mono Du1_3.out.size)
   rw [← hp]
   clear hA hp ba
   refine hK.out _ _ ?_ (fun hHeld => ?_)
   · try dsimp only
     exact KS.out _ Da1_8.out
   clear hK K
   try simp only [Act.put, sa, sb, sc]
   refine wpAnyH_ready (rs := [9]) (by kernel_rfl) (by simp) ?_
   refine (AllReadyH.cons (by (simp only [ea, eb, ec]); (try exact rfl)) (fun K hK => ?_) AllReadyH.nil)
   go_simp
   generalize hA : World.alloc a1_8 (.cells #[.int .i64 0, .int .i64 0, .int .i64 0] 31) = a1_9
   obtain ⟨p1_0, hp⟩ : ∃ p, p = a1_8.heap.size := ⟨_, rfl⟩
   have ba : Below a1_8.heap.size a1_8 a1_9 := by rw [← hA]; exact Below.alloc (Below.refl _ _) (Nat.le_refl _) _
   have Z1_0a1_9 := Lib.hid (show a1_9.heap[p1_0]? = some (.cells #[.int .i64 0, .int .i64 0, .int .i64 0] 31 (0, 0)) from by rw [← hA, hp]; exact heap_alloc_new _ _)
   have tp1_0 : wq.heap.size ≤ p1_0 := by rw [hp]; exact Da1_8.out.size
   have n1_1_1_0 : p1_1 ≠ p1_0 := by have hh := box_lt Z1_1a1_8.out; rw [hp]; intro e; rw [e] at hh; exact Nat.lt_irrefl _ hh
   have Da1_9 : Hid (Below wq.heap.size wq a1_9) := Below.trans Da1_8.out (ba.mono Da1_8.out.size)
   have Z1_1a1_9 := Lib.hid ((ba.block p1_1 (box_lt Z1_1a1_8.out)).trans Z1_1a1_8.out)
   rw [← hp]
   clear hA hp ba
   refine hK.out _ _ ?_ (fun hHeld => ?_)
   · try dsimp only
     exact KS.out _ Da1_9.out
   clear hK K
   try simp only [Act.put, sa, sb, sc]
   refine wpAnyH_ready (rs := [11]) (by kernel_rfl) (by simp) ?_
   refine AllReadyH.cons (by (simp only [ea, eb, ec]); (try exact rfl)) (fun K hK => ?_) AllReadyH.nil
   refine step_store_Co rfl _ _ rfl p1_0 (⟨0, 0, 0⟩ : Co) r0 _ rfl rfl Z1_0a1_9.out ?_
   intro e1_10 hE oE bE
   have De1_10 : Hid (Below wq.heap.size wq e1_10) := Below.trans Da1_9.out (bE.mono tp1_0)
   have Z1_0e1_10 := Lib.hid hE
   have Z1_1e1_10 := Lib.hid ((oE p1_1 (by first | assumption | exact Ne.symm (by assumption))).trans Z1_1a1_9.out)
   clear hE oE bE
   refine hK.out _ _ ?_ (fun hHeld => ?_)
   · try dsimp only
     exact KS.out _ De1_10.out
   clear hK K
   try simp only [Act.put, sa, sb, sc]
   refine wpAnyH_ready (rs := [12]) (by kernel_rfl) (by simp) ?_
   refine AllReadyH.cons (by (simp only [ea, eb, ec]); (try exact rfl)) (fun K hK => ?_) AllReadyH.nil
   refine step_store_Co rfl _ _ rfl p1_1 (⟨0, 0, 0⟩ : Co) r1 _ rfl rfl Z1_1e1_10.out ?_
   intro e1_11 hE oE bE
   have De1_11 : Hid (Below wq.heap.size wq e1_11) := Below.trans De1_10.out (bE.mono tp1_1)
   have Z1_1e1_11 := Lib.hid hE
   have Z1_0e1_11 := Lib.hid ((oE p1_0 (by first | assumption | exact Ne.symm (by assumption))).trans Z1_0e1_10.out)
   clear hE oE bE
   refine hK.out _ _ ?_ (fun hHeld => ?_)
   · try dsimp only
     exact KS.out _ De1_11.out
   clear hK K
   try simp only [Act.put, sa, sb, sc]
   refine wpAnyH_take (i := 13) (v := ?_) (by (simp only [ea, eb, ec]); (try exact rfl)) (by kernel_rfl) (by kernel_rfl) (by kernel_rfl) (by intro _ _ _ h; exact h) (Or.inl ⟨by rfl, ?_⟩) (by assumption) ?_
   rotate_left
   · intro w hSw
     try dsimp only at hSw
     go_simp
     try with_reducible rfl
   try simp only [Act.put, sa, sb, sc]
   refine wpAnyH_done (by kernel_rfl) ?_ _
   go_wp2_with fail
   go_meet
   exact ⟨p1_0, p1_1, rfl, rfl, rfl, De1_11, Z1_0e1_11, Z1_1e1_11⟩
   go_simp
   generalize hA : World.alloc u1_2 (.cells #[.int .i64 0, .int .i64 0, .int .i64 0] 31) = a1_12
   obtain ⟨p1_0, hp⟩ : ∃ p, p = u1_2.heap.size := ⟨_, rfl⟩
   have ba : Below u1_2.heap.size u1_2 a1_12 := by rw [← hA]; exact Below.alloc (Below.refl _ _) (Nat.le_refl _) _
   have Z1_0a1_12 := Lib.hid (show a1_12.heap[p1_0]? = some (.cells #[.int .i64 0, .int .i64 0, .int .i64 0] 31 (0, 0)) from by rw [← hA, hp]; exact heap_alloc_new _ _)
   have tp1_0 : wq.heap.size ≤ p1_0 := by rw [hp]; exact Du1_2.out.size
   have Da1_12 : Hid (Below wq.heap.size wq a1_12) := Below.trans Du1_2.out (ba.mono Du1_2.out.size)
   rw [← hp]
   clear hA hp ba
   refine hK.out _ _ ?_ (fun hHeld => ?_)
   · try dsimp only
     exact KS.out _ Da1_12.out
   clear hK K
   try simp only [Act.put, sa, sb, sc]
   refine wpAnyH_ready (rs := [4, 10]) (by kernel_rfl) (by simp) ?_
   refine (AllReadyH.cons (by (simp only [ea, eb, ec]); (try exact rfl)) (fun K hK => ?_) (AllReadyH.cons (by (simp only [ea, eb, ec]); (try exact rfl)) (fun K hK => ?_) AllReadyH.nil))
   go_simp
   go_at_call 34
   refine (c1.out _ (HT.out _ (BQ.out.trans (Da1_12.out.mono (BQ.out.size))))).mono ?_
   rintro e u1_13 ⟨rfl, bb⟩
   have Du1_13 : Hid (Below wq.heap.size wq u1_13) := Below.trans Da1_12.out (bb.mono Da1_12.out.size)
   have Z1_0u1_13 := Lib.hid ((bb.block p1_0 (box_lt Z1_0a1_12.out)).trans Z1_0a1_12.out)
   clear bb
   (first | refine hK.out _ _ ?_ (fun hHeld => ?_) | (go_wp2_with fail; refine hK.out _ _ ?_ (fun hHeld => ?_)))
   · try dsimp only
     exact KS.out _ Du1_13.out
   clear hK K
   try simp only [Act.put, sa, sb, sc]
   refine wpAnyH_take (i := 5) (v := ?_) (by (simp only [ea, eb, ec]); (try exact rfl)) (by kernel_rfl) (by kernel_rfl) (by kernel_rfl) (by intro _ _ _ h; exact h) (Or.inl ⟨by rfl, ?_⟩) (by assumption) ?_
   rotate_left
   · intro w hSw
     try dsimp only at hSw
     go_simp
     try with_reducible rfl
   try simp only [Act.put, sa, sb, sc]
   refine wpAnyH_take (i := 6) (v := ?_) (by (simp only [ea, eb, ec]); (try exact rfl)) (by kernel_rfl) (by kernel_rfl) (by kernel_rfl) (by intro _ _ _ h; exact h) (Or.inl ⟨by rfl, ?_⟩) (by assumption) ?_
   rotate_left
   · intro w hSw
     try dsimp only at hSw
     go_simp
     try with_reducible rfl
   try simp only [Act.put, sa, sb, sc]
   refine wpAnyH_take (i := 7) (v := ?_) (by (simp only [ea, eb, ec]); (try exact rfl)) (by kernel_rfl) (by kernel_rfl) (by kernel_rfl) (by intro _ _ _ h; exact h) (Or.inl ⟨by rfl, ?_⟩) (by assumption) ?_
   rotate_left
   · intro w hSw
     try dsimp only at hSw
     go_simp
     try with_reducible rfl
   try simp only [Act.put, sa, sb, sc]
   refine wpAnyH_take (i := 8) (v := ?_) (by (simp only [ea, eb, ec]); (try exact rfl)) (by kernel_rfl) (by kernel_rfl) (by kernel_rfl) (by intro _ _ _ h; exact h) (Or.inl ⟨by rfl, ?_⟩) (by assumption) ?_
   rotate_left
   · intro w hSw
     try dsimp only at hSw
     go_simp
     try with_reducible rfl
   try simp only [Act.put, sa, sb, sc]
   refine wpAnyH_ready (rs := [10]) (by kernel_rfl) (by simp) ?_
   refine (AllReadyH.cons (by (simp only [ea, eb, ec]); (try exact rfl)) (fun K hK => ?_) AllReadyH.nil)
   go_simp
   generalize hA : World.alloc u1_13 (.cells #[.int .i64 0, .int .i64 0, .int .i64 0] 31) = a1_14
   obtain ⟨p1_1, hp⟩ : ∃ p, p = u1_13.heap.size := ⟨_, rfl⟩
   have ba : Below u1_13.heap.size u1_13 a1_14 := by rw [← hA]; exact Below.alloc (Below.refl _ _) (Nat.le_refl _) _
   have Z1_1a1_14 := Lib.hid (show a1_14.heap[p1_1]? = some (.cells #[.int .i64 0, .int .i64 0, .int .i64 0] 31 (0, 0)) from by rw [← hA, hp]; exact heap_alloc_new _ _)
   have tp1_1 : wq.heap.size ≤ p1_1 := by rw [hp]; exact Du1_13.out.size
   have n1_0_1_1 : p1_0 ≠ p1_1 := by have hh := box_lt Z1_0u1_13.out; rw [hp]; intro e; rw [e] at hh; exact Nat.lt_irrefl _ hh
   have Da1_14 : Hid (Below wq.heap.size wq a1_14) := Below.trans Du1_13.out (ba.mono Du1_13.out.size)
   have Z1_0a1_14 := Lib.hid ((ba.block p1_0 (box_lt Z1_0u1_13.out)).trans Z1_0u1_13.out)
   rw [← hp]
   clear hA hp ba
   refine hK.out _ _ ?_ (fun hHeld => ?_)
   · try dsimp only
     exact KS.out _ Da1_14.out
   clear hK K
   try simp only [Act.put, sa, sb, sc]
   refine wpAnyH_ready (rs := [11]) (by kernel_rfl) (by simp) ?_
   refine AllReadyH.cons (by (simp only [ea, eb, ec]); (try exact rfl)) (fun K hK => ?_) AllReadyH.nil
   refine step_store_Co rfl _ _ rfl p1_0 (⟨0, 0, 0⟩ : Co) r0 _ rfl rfl Z1_0a1_14.out ?_
   intro e1_15 hE oE bE
   have De1_15 : Hid (Below wq.heap.size wq e1_15) := Below.trans Da1_14.out (bE.mono tp1_0)
   have Z1_0e1_15 := Lib.hid hE
   have Z1_1e1_15 := Lib.hid ((oE p1_1 (by first | assumption | exact Ne.symm (by assumption))).trans Z1_1a1_14.out)
   clear hE oE bE
   refine hK.out _ _ ?_ (fun hHeld => ?_)
   · try dsimp only
     exact KS.out _ De1_15.out
   clear hK K
   try simp only [Act.put, sa, sb, sc]
   refine wpAnyH_ready (rs := [12]) (by kernel_rfl) (by simp) ?_
   refine AllReadyH.cons (by (simp only [ea, eb, ec]); (try exact rfl)) (fun K hK => ?_) AllReadyH.nil
   refine step_store_Co rfl _ _ rfl p1_1 (⟨0, 0, 0⟩ : Co) r1 _ rfl rfl Z1_1e1_15.out ?_
   intro e1_16 hE oE bE
   have De1_16 : Hid (Below wq.heap.size wq e1_16) := Below.trans De1_15.out (bE.mono tp1_1)
   have Z1_1e1_16 := Lib.hid hE
   have Z1_0e1_16 := Lib.hid ((oE p1_0 (by first | assumption | exact Ne.symm (by assumption))).trans Z1_0e1_15.out)
   clear hE oE bE
   refine hK.out _ _ ?_ (fun hHeld => ?_)
   · try dsimp only
     exact KS.out _ De1_16.out
   clear hK K
   try simp only [Act.put, sa, sb, sc]
   refine wpAnyH_take (i := 13) (v := ?_) (by (simp only [ea, eb, ec]); (try exact rfl)) (by kernel_rfl) (by kernel_rfl) (by kernel_rfl) (by intro _ _ _ h; exact h) (Or.inl ⟨by rfl, ?_⟩) (by assumption) ?_
   rotate_left
   · intro w hSw
     try dsimp only at hSw
     go_simp
     try with_reducible rfl
   try simp only [Act.put, sa, sb, sc]
   refine wpAnyH_done (by kernel_rfl) ?_ _
   go_wp2_with fail
   go_meet
   exact ⟨p1_0, p1_1, rfl, rfl, rfl, De1_16, Z1_0e1_16, Z1_1e1_16⟩
   go_simp
   generalize hA : World.alloc a1_12 (.cells #[.int .i64 0, .int .i64 0, .int .i64 0] 31) = a1_17
   obtain ⟨p1_1, hp⟩ : ∃ p, p = a1_12.heap.size := ⟨_, rfl⟩
   have ba : Below a1_12.heap.size a1_12 a1_17 := by rw [← hA]; exact Below.alloc (Below.refl _ _) (Nat.le_refl _) _
   have Z1_1a1_17 := Lib.hid (show a1_17.heap[p1_1]? = some (.cells #[.int .i64 0, .int .i64 0, .int .i64 0] 31 (0, 0)) from by rw [← hA, hp]; exact heap_alloc_new _ _)
   have tp1_1 : wq.heap.size ≤ p1_1 := by rw [hp]; exact Da1_12.out.size
   have n1_0_1_1 : p1_0 ≠ p1_1 := by have hh := box_lt Z1_0a1_12.out; rw [hp]; intro e; rw [e] at hh; exact Nat.lt_irrefl _ hh
   have Da1_17 : Hid (Below wq.heap.size wq a1_17) := Below.trans Da1_12.out (ba.mono Da1_12.out.size)
   have Z1_0a1_17 := Lib.hid ((ba.block p1_0 (box_lt Z1_0a1_12.out)).trans Z1_0a1_12.out)
   rw [← hp]
   clear hA hp ba
   refine hK.out _ _ ?_ (fun hHeld => ?_)
   · try dsimp only
     exact KS.out _ Da1_17.out
   clear hK K
   try simp only [Act.put, sa, sb, sc]
   refine wpAnyH_ready (rs := [4]) (by kernel_rfl) (by simp) ?_
   refine (AllReadyH.cons (by (simp only [ea, eb, ec]); (try exact rfl)) (fun K hK => ?_) AllReadyH.nil)
   go_simp
   go_at_call 34
   refine (c1.out _ (HT.out _ (BQ.out.trans (Da1_17.out.mono (BQ.out.size))))).mono ?_
   rintro e u1_18 ⟨rfl, bb⟩
   have Du1_18 : Hid (Below wq.heap.size wq u1_18) := Below.trans Da1_17.out (bb.mono Da1_17.out.size)
   have Z1_0u1_18 := Lib.hid ((bb.block p1_0 (box_lt Z1_0a1_17.out)).trans Z1_0a1_17.out)
   have Z1_1u1_18 := Lib.hid ((bb.block p1_1 (box_lt Z1_1a1_17.out)).trans Z1_1a1_17.out)
   clear bb
   (first | refine hK.out _ _ ?_ (fun hHeld => ?_) | (go_wp2_with fail; refine hK.out _ _ ?_ (fun hHeld => ?_)))
   · try dsimp only
     exact KS.out _ Du1_18.out
   clear hK K
   try simp only [Act.put, sa, sb, sc]
   refine wpAnyH_take (i := 5) (v := ?_) (by (simp only [ea, eb, ec]); (try exact rfl)) (by kernel_rfl) (by kernel_rfl) (by kernel_rfl) (by intro _ _ _ h; exact h) (Or.inl ⟨by rfl, ?_⟩) (by assumption) ?_
   rotate_left
   · intro w hSw
     try dsimp only at hSw
     go_simp
     try with_reducible rfl
   try simp only [Act.put, sa, sb, sc]
   refine wpAnyH_take (i := 6) (v := ?_) (by (simp only [ea, eb, ec]); (try exact rfl)) (by kernel_rfl) (by kernel_rfl) (by kernel_rfl) (by intro _ _ _ h; exact h) (Or.inl ⟨by rfl, ?_⟩) (by assumption) ?_
   rotate_left
   · intro w hSw
     try dsimp only at hSw
     go_simp
     try with_reducible rfl
   try simp only [Act.put, sa, sb, sc]
   refine wpAnyH_take (i := 7) (v := ?_) (by (simp only [ea, eb, ec]); (try exact rfl)) (by kernel_rfl) (by kernel_rfl) (by kernel_rfl) (by intro _ _ _ h; exact h) (Or.inl ⟨by rfl, ?_⟩) (by assumption) ?_
   rotate_left
   · intro w hSw
     try dsimp only at hSw
     go_simp
     try with_reducible rfl
   try simp only [Act.put, sa, sb, sc]
   refine wpAnyH_take (i := 8) (v := ?_) (by (simp only [ea, eb, ec]); (try exact rfl)) (by kernel_rfl) (by kernel_rfl) (by kernel_rfl) (by intro _ _ _ h; exact h) (Or.inl ⟨by rfl, ?_⟩) (by assumption) ?_
   rotate_left
   · intro w hSw
     try dsimp only at hSw
     go_simp
     try with_reducible rfl
   try simp only [Act.put, sa, sb, sc]
   refine wpAnyH_ready (rs := [11]) (by kernel_rfl) (by simp) ?_
   refine AllReadyH.cons (by (simp only [ea, eb, ec]); (try exact rfl)) (fun K hK => ?_) AllReadyH.nil
   refine step_store_Co rfl _ _ rfl p1_0 (⟨0, 0, 0⟩ : Co) r0 _ rfl rfl Z1_0u1_18.out ?_
   intro e1_19 hE oE bE
   have De1_19 : Hid (Below wq.heap.size wq e1_19) := Below.trans Du1_18.out (bE.mono tp1_0)
   have Z1_0e1_19 := Lib.hid hE
   have Z1_1e1_19 := Lib.hid ((oE p1_1 (by first | assumption | exact Ne.symm (by assumption))).trans Z1_1u1_18.out)
   clear hE oE bE
   refine hK.out _ _ ?_ (fun hHeld => ?_)
   · try dsimp only
     exact KS.out _ De1_19.out
   clear hK K
   try simp only [Act.put, sa, sb, sc]
   refine wpAnyH_ready (rs := [12]) (by kernel_rfl) (by simp) ?_
   refine AllReadyH.cons (by (simp only [ea, eb, ec]); (try exact rfl)) (fun K hK => ?_) AllReadyH.nil
   refine step_store_Co rfl _ _ rfl p1_1 (⟨0, 0, 0⟩ : Co) r1 _ rfl rfl Z1_1e1_19.out ?_
   intro e1_20 hE oE bE
   have De1_20 : Hid (Below wq.heap.size wq e1_20) := Below.trans De1_19.out (bE.mono tp1_1)
   have Z1_1e1_20 := Lib.hid hE
   have Z1_0e1_20 := Lib.hid ((oE p1_0 (by first | assumption | exact Ne.symm (by assumption))).trans Z1_0e1_19.out)
   clear hE oE bE
   refine hK.out _ _ ?_ (fun hHeld => ?_)
   · try dsimp only
     exact KS.out _ De1_20.out
   clear hK K
   try simp only [Act.put, sa, sb, sc]
   refine wpAnyH_take (i := 13) (v := ?_) (by (simp only [ea, eb, ec]); (try exact rfl)) (by kernel_rfl) (by kernel_rfl) (by kernel_rfl) (by intro _ _ _ h; exact h) (Or.inl ⟨by rfl, ?_⟩) (by assumption) ?_
   rotate_left
   · intro w hSw
     try dsimp only at hSw
     go_simp
     try with_reducible rfl
   try simp only [Act.put, sa, sb, sc]
   refine wpAnyH_done (by kernel_rfl) ?_ _
   go_wp2_with fail
   go_meet
   exact ⟨p1_0, p1_1, rfl, rfl, rfl, De1_20, Z1_0e1_20, Z1_1e1_20⟩
   go_simp
   generalize hA : World.alloc u1_2 (.cells #[.int .i64 0, .int .i64 0, .int .i64 0] 31) = a1_21
   obtain ⟨p1_1, hp⟩ : ∃ p, p = u1_2.heap.size := ⟨_, rfl⟩
   have ba : Below u1_2.heap.size u1_2 a1_21 := by rw [← hA]; exact Below.alloc (Below.refl _ _) (Nat.le_refl _) _
   have Z1_1a1_21 := Lib.hid (show a1_21.heap[p1_1]? = some (.cells #[.int .i64 0, .int .i64 0, .int .i64 0] 31 (0, 0)) from by rw [← hA, hp]; exact heap_alloc_new _ _)
   have tp1_1 : wq.heap.size ≤ p1_1 := by rw [hp]; exact Du1_2.out.size
   have Da1_21 : Hid (Below wq.heap.size wq a1_21) := Below.trans Du1_2.out (ba.mono Du1_2.out.size)
   rw [← hp]
   clear hA hp ba
   refine hK.out _ _ ?_ (fun hHeld => ?_)
   · try dsimp only
     exact KS.out _ Da1_21.out
   clear hK K
   try simp only [Act.put, sa, sb, sc]
   refine wpAnyH_ready (rs := [4, 9]) (by kernel_rfl) (by simp) ?_
   refine (AllReadyH.cons (by (simp only [ea, eb, ec]); (try exact rfl)) (fun K hK => ?_) (AllReadyH.cons (by (simp only [ea, eb, ec]); (try exact rfl)) (fun K hK => ?_) AllReadyH.nil))
   go_simp
   go_at_call 34
   refine (c1.out _ (HT.out _ (BQ.out.trans (Da1_21.out.mono (BQ.out.size))))).mono ?_
   rintro e u1_22 ⟨rfl, bb⟩
   have Du1_22 : Hid (Below wq.heap.size wq u1_22) := Below.trans Da1_21.out (bb.mono Da1_21.out.size)
   have Z1_1u1_22 := Lib.hid ((bb.block p1_1 (box_lt Z1_1a1_21.out)).trans Z1_1a1_21.out)
   clear bb
   (first | refine hK.out _ _ ?_ (fun hHeld => ?_) | (go_wp2_with fail; refine hK.out _ _ ?_ (fun hHeld => ?_)))
   · try dsimp only
     exact KS.out _ Du1_22.out
   clear hK K
   try simp only [Act.put, sa, sb, sc]
   refine wpAnyH_take (i := 5) (v := ?_) (by (simp only [ea, eb, ec]); (try exact rfl)) (by kernel_rfl) (by kernel_rfl) (by kernel_rfl) (by intro _ _ _ h; exact h) (Or.inl ⟨by rfl, ?_⟩) (by assumption) ?_
   rotate_left
   · intro w hSw
     try dsimp only at hSw
     go_simp
     try with_reducible rfl
   try simp only [Act.put, sa, sb, sc]
   refine wpAnyH_take (i := 6) (v := ?_) (by (simp only [ea, eb, ec]); (try exact rfl)) (by kernel_rfl) (by kernel_rfl) (by kernel_rfl) (by intro _ _ _ h; exact h) (Or.inl ⟨by rfl, ?_⟩) (by assumption) ?_
   rotate_left
   · intro w hSw
     try dsimp only at hSw
     go_simp
     try with_reducible rfl
   try simp only [Act.put, sa, sb, sc]
   refine wpAnyH_take (i := 7) (v := ?_) (by (simp only [ea, eb, ec]); (try exact rfl)) (by kernel_rfl) (by kernel_rfl) (by kernel_rfl) (by intro _ _ _ h; exact h) (Or.inl ⟨by rfl, ?_⟩) (by assumption) ?_
   rotate_left
   · intro w hSw
     try dsimp only at hSw
     go_simp
     try with_reducible rfl
   try simp only [Act.put, sa, sb, sc]
   refine wpAnyH_take (i := 8) (v := ?_) (by (simp only [ea, eb, ec]); (try exact rfl)) (by kernel_rfl) (by kernel_rfl) (by kernel_rfl) (by intro _ _ _ h; exact h) (Or.inl ⟨by rfl, ?_⟩) (by assumption) ?_
   rotate_left
   · intro w hSw
     try dsimp only at hSw
     go_simp
     try with_reducible rfl
   try simp only [Act.put, sa, sb, sc]
   refine wpAnyH_ready (rs := [9]) (by kernel_rfl) (by simp) ?_
   refine (AllReadyH.cons (by (simp only [ea, eb, ec]); (try exact rfl)) (fun K hK => ?_) AllReadyH.nil)
   go_simp
   generalize hA : World.alloc u1_22 (.cells #[.int .i64 0, .int .i64 0, .int .i64 0] 31) = a1_23
   obtain ⟨p1_0, hp⟩ : ∃ p, p = u1_22.heap.size := ⟨_, rfl⟩
   have ba : Below u1_22.heap.size u1_22 a1_23 := by rw [← hA]; exact Below.alloc (Below.refl _ _) (Nat.le_refl _) _
   have Z1_0a1_23 := Lib.hid (show a1_23.heap[p1_0]? = some (.cells #[.int .i64 0, .int .i64 0, .int .i64 0] 31 (0, 0)) from by rw [← hA, hp]; exact heap_alloc_new _ _)
   have tp1_0 : wq.heap.size ≤ p1_0 := by rw [hp]; exact Du1_22.out.size
   have n1_1_1_0 : p1_1 ≠ p1_0 := by have hh := box_lt Z1_1u1_22.out; rw [hp]; intro e; rw [e] at hh; exact Nat.lt_irrefl _ hh
   have Da1_23 : Hid (Below wq.heap.size wq a1_23) := Below.trans Du1_22.out (ba.mono Du1_22.out.size)
   have Z1_1a1_23 := Lib.hid ((ba.block p1_1 (box_lt Z1_1u1_22.out)).trans Z1_1u1_22.out)
   rw [← hp]
   clear hA hp ba
   refine hK.out _ _ ?_ (fun hHeld => ?_)
   · try dsimp only
     exact KS.out _ Da1_23.out
   clear hK K
   try simp only [Act.put, sa, sb, sc]
   refine wpAnyH_ready (rs := [11]) (by kernel_rfl) (by simp) ?_
   refine AllReadyH.cons (by (simp only [ea, eb, ec]); (try exact rfl)) (fun K hK => ?_) AllReadyH.nil
   refine step_store_Co rfl _ _ rfl p1_0 (⟨0, 0, 0⟩ : Co) r0 _ rfl rfl Z1_0a1_23.out ?_
   intro e1_24 hE oE bE
   have De1_24 : Hid (Below wq.heap.size wq e1_24) := Below.trans Da1_23.out (bE.mono tp1_0)
   have Z1_0e1_24 := Lib.hid hE
   have Z1_1e1_24 := Lib.hid ((oE p1_1 (by first | assumption | exact Ne.symm (by assumption))).trans Z1_1a1_23.out)
   clear hE oE bE
   refine hK.out _ _ ?_ (fun hHeld => ?_)
   · try dsimp only
     exact KS.out _ De1_24.out
   clear hK K
   try simp only [Act.put, sa, sb, sc]
   refine wpAnyH_ready (rs := [12]) (by kernel_rfl) (by simp) ?_
   refine AllReadyH.cons (by (simp only [ea, eb, ec]); (try exact rfl)) (fun K hK => ?_) AllReadyH.nil
   refine step_store_Co rfl _ _ rfl p1_1 (⟨0, 0, 0⟩ : Co) r1 _ rfl rfl Z1_1e1_24.out ?_
   intro e1_25 hE oE bE
   have De1_25 : Hid (Below wq.heap.size wq e1_25) := Below.trans De1_24.out (bE.mono tp1_1)
   have Z1_1e1_25 := Lib.hid hE
   have Z1_0e1_25 := Lib.hid ((oE p1_0 (by first | assumption | exact Ne.symm (by assumption))).trans Z1_0e1_24.out)
   clear hE oE bE
   refine hK.out _ _ ?_ (fun hHeld => ?_)
   · try dsimp only
     exact KS.out _ De1_25.out
   clear hK K
   try simp only [Act.put, sa, sb, sc]
   refine wpAnyH_take (i := 13) (v := ?_) (by (simp only [ea, eb, ec]); (try exact rfl)) (by kernel_rfl) (by kernel_rfl) (by kernel_rfl) (by intro _ _ _ h; exact h) (Or.inl ⟨by rfl, ?_⟩) (by assumption) ?_
   rotate_left
   · intro w hSw
     try dsimp only at hSw
     go_simp
     try with_reducible rfl
   try simp only [Act.put, sa, sb, sc]
   refine wpAnyH_done (by kernel_rfl) ?_ _
   go_wp2_with fail
   go_meet
   exact ⟨p1_0, p1_1, rfl, rfl, rfl, De1_25, Z1_0e1_25, Z1_1e1_25⟩
   go_simp
   generalize hA : World.alloc a1_21 (.cells #[.int .i64 0, .int .i64 0, .int .i64 0] 31) = a1_26
   obtain ⟨p1_0, hp⟩ : ∃ p, p = a1_21.heap.size := ⟨_, rfl⟩
   have ba : Below a1_21.heap.size a1_21 a1_26 := by rw [← hA]; exact Below.alloc (Below.refl _ _) (Nat.le_refl _) _
   have Z1_0a1_26 := Lib.hid (show a1_26.heap[p1_0]? = some (.cells #[.int .i64 0, .int .i64 0, .int .i64 0] 31 (0, 0)) from by rw [← hA, hp]; exact heap_alloc_new _ _)
   have tp1_0 : wq.heap.size ≤ p1_0 := by rw [hp]; exact Da1_21.out.size
   have n1_1_1_0 : p1_1 ≠ p1_0 := by have hh := box_lt Z1_1a1_21.out; rw [hp]; intro e; rw [e] at hh; exact Nat.lt_irrefl _ hh
   have Da1_26 : Hid (Below wq.heap.size wq a1_26) := Below.trans Da1_21.out (ba.mono Da1_21.out.size)
   have Z1_1a1_26 := Lib.hid ((ba.block p1_1 (box_lt Z1_1a1_21.out)).trans Z1_1a1_21.out)
   rw [← hp]
   clear hA hp ba
   refine hK.out _ _ ?_ (fun hHeld => ?_)
   · try dsimp only
     exact KS.out _ Da1_26.out
   clear hK K
   try simp only [Act.put, sa, sb, sc]
   refine wpAnyH_ready (rs := [4]) (by kernel_rfl) (by simp) ?_
   refine (AllReadyH.cons (by (simp only [ea, eb, ec]); (try exact rfl)) (fun K hK => ?_) AllReadyH.nil)
   go_simp
   go_at_call 34
   refine (c1.out _ (HT.out _ (BQ.out.trans (Da1_26.out.mono (BQ.out.size))))).mono ?_
   rintro e u1_27 ⟨rfl, bb⟩
   have Du1_27 : Hid (Below wq.heap.size wq u1_27) := Below.trans Da1_26.out (bb.mono Da1_26.out.size)
   have Z1_1u1_27 := Lib.hid ((bb.block p1_1 (box_lt Z1_1a1_26.out)).trans Z1_1a1_26.out)
   have Z1_0u1_27 := Lib.hid ((bb.block p1_0 (box_lt Z1_0a1_26.out)).trans Z1_0a1_26.out)
   clear bb
   (first | refine hK.out _ _ ?_ (fun hHeld => ?_) | (go_wp2_with fail; refine hK.out _ _ ?_ (fun hHeld => ?_)))
   · try dsimp only
     exact KS.out _ Du1_27.out
   clear hK K
   try simp only [Act.put, sa, sb, sc]
   refine wpAnyH_take (i := 5) (v := ?_) (by (simp only [ea, eb, ec]); (try exact rfl)) (by kernel_rfl) (by kernel_rfl) (by kernel_rfl) (by intro _ _ _ h; exact h) (Or.inl ⟨by rfl, ?_⟩) (by assumption) ?_
   rotate_left
   · intro w hSw
     try dsimp only at hSw
     go_simp
     try with_reducible rfl
   try simp only [Act.put, sa, sb, sc]
   refine wpAnyH_take (i := 6) (v := ?_) (by (simp only [ea, eb, ec]); (try exact rfl)) (by kernel_rfl) (by kernel_rfl) (by kernel_rfl) (by intro _ _ _ h; exact h) (Or.inl ⟨by rfl, ?_⟩) (by assumption) ?_
   rotate_left
   · intro w hSw
     try dsimp only at hSw
     go_simp
     try with_reducible rfl
   try simp only [Act.put, sa, sb, sc]
   refine wpAnyH_take (i := 7) (v := ?_) (by (simp only [ea, eb, ec]); (try exact rfl)) (by kernel_rfl) (by kernel_rfl) (by kernel_rfl) (by intro _ _ _ h; exact h) (Or.inl ⟨by rfl, ?_⟩) (by assumption) ?_
   rotate_left
   · intro w hSw
     try dsimp only at hSw
     go_simp
     try with_reducible rfl
   try simp only [Act.put, sa, sb, sc]
   refine wpAnyH_take (i := 8) (v := ?_) (by (simp only [ea, eb, ec]); (try exact rfl)) (by kernel_rfl) (by kernel_rfl) (by kernel_rfl) (by intro _ _ _ h; exact h) (Or.inl ⟨by rfl, ?_⟩) (by assumption) ?_
   rotate_left
   · intro w hSw
     try dsimp only at hSw
     go_simp
     try with_reducible rfl
   try simp only [Act.put, sa, sb, sc]
   refine wpAnyH_ready (rs := [11]) (by kernel_rfl) (by simp) ?_
   refine AllReadyH.cons (by (simp only [ea, eb, ec]); (try exact rfl)) (fun K hK => ?_) AllReadyH.nil
   refine step_store_Co rfl _ _ rfl p1_0 (⟨0, 0, 0⟩ : Co) r0 _ rfl rfl Z1_0u1_27.out ?_
   intro e1_28 hE oE bE
   have De1_28 : Hid (Below wq.heap.size wq e1_28) := Below.trans Du1_27.out (bE.mono tp1_0)
   have Z1_0e1_28 := Lib.hid hE
   have Z1_1e1_28 := Lib.hid ((oE p1_1 (by first | assumption | exact Ne.symm (by assumption))).trans Z1_1u1_27.out)
   clear hE oE bE
   refine hK.out _ _ ?_ (fun hHeld => ?_)
   · try dsimp only
     exact KS.out _ De1_28.out
   clear hK K
   try simp only [Act.put, sa, sb, sc]
   refine wpAnyH_ready (rs := [12]) (by kernel_rfl) (by simp) ?_
   refine AllReadyH.cons (by (simp only [ea, eb, ec]); (try exact rfl)) (fun K hK => ?_) AllReadyH.nil
   refine step_store_Co rfl _ _ rfl p1_1 (⟨0, 0, 0⟩ : Co) r1 _ rfl rfl Z1_1e1_28.out ?_
   intro e1_29 hE oE bE
   have De1_29 : Hid (Below wq.heap.size wq e1_29) := Below.trans De1_28.out (bE.mono tp1_1)
   have Z1_1e1_29 := Lib.hid hE
   have Z1_0e1_29 := Lib.hid ((oE p1_0 (by first | assumption | exact Ne.symm (by assumption))).trans Z1_0e1_28.out)
   clear hE oE bE
   refine hK.out _ _ ?_ (fun hHeld => ?_)
   · try dsimp only
     exact KS.out _ De1_29.out
   clear hK K
   try simp only [Act.put, sa, sb, sc]
   refine wpAnyH_take (i := 13) (v := ?_) (by (simp only [ea, eb, ec]); (try exact rfl)) (by kernel_rfl) (by kernel_rfl) (by kernel_rfl) (by intro _ _ _ h; exact h) (Or.inl ⟨by rfl, ?_⟩) (by assumption) ?_
   rotate_left
   · intro w hSw
     try dsimp only at hSw
     go_simp
     try with_reducible rfl
   try simp only [Act.put, sa, sb, sc]
   refine wpAnyH_done (by kernel_rfl) ?_ _
   go_wp2_with fail
   go_meet
   exact ⟨p1_0, p1_1, rfl, rfl, rfl, De1_29, Z1_0e1_29, Z1_1e1_29⟩
   go_simp
   generalize hA : World.alloc u1_1 (.cells #[.int .i64 0, .int .i64 0, .int .i64 0] 31) = a1_30
   obtain ⟨p1_0, hp⟩ : ∃ p, p = u1_1.heap.size := ⟨_, rfl⟩
   have ba : Below u1_1.heap.size u1_1 a1_30 := by rw [← hA]; exact Below.alloc (Below.refl _ _) (Nat.le_refl _) _
   have Z1_0a1_30 := Lib.hid (show a1_30.heap[p1_0]? = some (.cells #[.int .i64 0, .int .i64 0, .int .i64 0] 31 (0, 0)) from by rw [← hA, hp]; exact heap_alloc_new _ _)
   have tp1_0 : wq.heap.size ≤ p1_0 := by rw [hp]; exact Du1_1.out.size
   have Da1_30 : Hid (Below wq.heap.size wq a1_30) := Below.trans Du1_1.out (ba.mono Du1_1.out.size)
   rw [← hp]
   clear hA hp ba
   refine hK.out _ _ ?_ (fun hHeld => ?_)
   · try dsimp only
     exact KS.out _ Da1_30.out
   clear hK K
   try simp only [Act.put, sa, sb, sc]
   refine wpAnyH_ready (rs := [3, 10]) (by kernel_rfl) (by simp) ?_
   refine (AllReadyH.cons (by (simp only [ea, eb, ec]); (try exact rfl)) (fun K hK => ?_) (AllReadyH.cons (by (simp only [ea, eb, ec]); (try exact rfl)) (fun K hK => ?_) AllReadyH.nil))
   go_simp
   go_at_call 35
   refine (toPose_blw q1 _).mono ?_
   rintro e u1_31 ⟨rfl, bb⟩
   have Du1_31 : Hid (Below wq.heap.size wq u1_31) := Below.trans Da1_30.out (bb.mono Da1_30.out.size)
   have Z1_0u1_31 := Lib.hid ((bb.block p1_0 (box_lt Z1_0a1_30.out)).trans Z1_0a1_30.out)
   clear bb
   (first | refine hK.out _ _ ?_ (fun hHeld => ?_) | (go_wp2_with fail; refine hK.out _ _ ?_ (fun hHeld => ?_)))
   · try dsimp only
     exact KS.out _ Du1_31.out
   clear hK K
   try simp only [Act.put, sa, sb, sc]
   refine wpAnyH_ready (rs := [4, 10]) (by kernel_rfl) (by simp) ?_
   refine (AllReadyH.cons (by (simp only [ea, eb, ec]); (try exact rfl)) (fun K hK => ?_) (AllReadyH.cons (by (simp only [ea, eb, ec]); (try exact rfl)) (fun K hK => ?_) AllReadyH.nil))
   go_simp
   go_at_call 34
   refine (c1.out _ (HT.out _ (BQ.out.trans (Du1_31.out.mono (BQ.out.size))))).mono ?_
   rintro e u1_32 ⟨rfl, bb⟩
   have Du1_32 : Hid (Below wq.heap.size wq u1_32) := Below.trans Du1_31.out (bb.mono Du1_31.out.size)
   have Z1_0u1_32 := Lib.hid ((bb.block p1_0 (box_lt Z1_0u1_31.out)).trans Z1_0u1_31.out)
   clear bb
   (first | refine hK.out _ _ ?_ (fun hHeld => ?_) | (go_wp2_with fail; refine hK.out _ _ ?_ (fun hHeld => ?_)))
   · try dsimp only
     exact KS.out _ Du1_32.out
   clear hK K
   try simp only [Act.put, sa, sb, sc]
   refine wpAnyH_take (i := 5) (v := ?_) (by (simp only [ea, eb, ec]); (try exact rfl)) (by kernel_rfl) (by kernel_rfl) (by kernel_rfl) (by intro _ _ _ h; exact h) (Or.inl ⟨by rfl, ?_⟩) (by assumption) ?_
   rotate_left
   · intro w hSw
     try dsimp only at hSw
     go_simp
     try with_reducible rfl
   try simp only [Act.put, sa, sb, sc]
   refine wpAnyH_take (i := 6) (v := ?_) (by (simp only [ea, eb, ec]); (try exact rfl)) (by kernel_rfl) (by kernel_rfl) (by kernel_rfl) (by intro _ _ _ h; exact h) (Or.inl ⟨by rfl, ?_⟩) (by assumption) ?_
   rotate_left
   · intro w hSw
     try dsimp only at hSw
     go_simp
     try with_reducible rfl
   try simp only [Act.put, sa, sb, sc]
   refine wpAnyH_take (i := 7) (v := ?_) (by (simp only [ea, eb, ec]); (try exact rfl)) (by kernel_rfl) (by kernel_rfl) (by kernel_rfl) (by intro _ _ _ h; exact h) (Or.inl ⟨by rfl, ?_⟩) (by assumption) ?_
   rotate_left
   · intro w hSw
     try dsimp only at hSw
     go_simp
     try with_reducible rfl
   try simp only [Act.put, sa, sb, sc]
   refine wpAnyH_take (i := 8) (v := ?_) (by (simp only [ea, eb, ec]); (try exact rfl)) (by kernel_rfl) (by kernel_rfl) (by kernel_rfl) (by intro _ _ _ h; exact h) (Or.inl ⟨by rfl, ?_⟩) (by assumption) ?_
   rotate_left
   · intro w hSw
     try dsimp only at hSw
     go_simp
     try with_reducible rfl
   try simp only [Act.put, sa, sb, sc]
   refine wpAnyH_ready (rs := [10]) (by kernel_rfl) (by simp) ?_
   refine (AllReadyH.cons (by (simp only [ea, eb, ec]); (try exact rfl)) (fun K hK => ?_) AllReadyH.nil)
   go_simp
   generalize hA : World.alloc u1_32 (.cells #[.int .i64 0, .int .i64 0, .int .i64 0] 31) = a1_33
   obtain ⟨p1_1, hp⟩ : ∃ p, p = u1_32.heap.size := ⟨_, rfl⟩
   have ba : Below u1_32.heap.size u1_32 a1_33 := by rw [← hA]; exact Below.alloc (Below.refl _ _) (Nat.le_refl _) _
   have Z1_1a1_33 := Lib.hid (show a1_33.heap[p1_1]? = some (.cells #[.int .i64 0, .int .i64 0, .int .i64 0] 31 (0, 0)) from by rw [← hA, hp]; exact heap_alloc_new _ _)
   have tp1_1 : wq.heap.size ≤ p1_1 := by rw [hp]; exact Du1_32.out.size
   have n1_0_1_1 : p1_0 ≠ p1_1 := by have hh := box_lt Z1_0u1_32.out; rw [hp]; intro e; rw [e] at hh; exact Nat.lt_irrefl _ hh
   have Da1_33 : Hid (Below wq.heap.size wq a1_33) := Below.trans Du1_32.out (ba.mono Du1_32.out.size)
   have Z1_0a1_33 := Lib.hid ((ba.block p1_0 (box_lt Z1_0u1_32.out)).trans Z1_0u1_32.out)
   rw [← hp]
   clear hA hp ba
   refine hK.out _ _ ?_ (fun hHeld => ?_)
   · try dsimp only
     exact KS.out _ Da1_33.out
   clear hK K
   try simp only [Act.put, sa, sb, sc]
   refine wpAnyH_ready (rs := [11]) (by kernel_rfl) (by simp) ?_
   refine AllReadyH.cons (by (simp only [ea, eb, ec]); (try exact rfl)) (fun K hK => ?_) AllReadyH.nil
   refine step_store_Co rfl _ _ rfl p1_0 (⟨0, 0, 0⟩ : Co) r0 _ rfl rfl Z1_0a1_33.out ?_
   intro e1_34 hE oE bE
   have De1_34 : Hid (Below wq.heap.size wq e1_34) := Below.trans Da1_33.out (bE.mono tp1_0)
   have Z1_0e1_34 := Lib.hid hE
   have Z1_1e1_34 := Lib.hid ((oE p1_1 (by first | assumption | exact Ne.symm (by assumption))).trans Z1_1a1_33.out)
   clear hE oE bE
   refine hK.out _ _ ?_ (fun hHeld => ?_)
   · try dsimp only
     exact KS.out _ De1_34.out
   clear hK K
   try simp only [Act.put, sa, sb, sc]
   refine wpAnyH_ready (rs := [12]) (by kernel_rfl) (by simp) ?_
   refine AllReadyH.cons (by (simp only [ea, eb, ec]); (try exact rfl)) (fun K hK => ?_) AllReadyH.nil
   refine step_store_Co rfl _ _ rfl p1_1 (⟨0, 0, 0⟩ : Co) r1 _ rfl rfl Z1_1e1_34.out ?_
   intro e1_35 hE oE bE
   have De1_35 : Hid (Below wq.heap.size wq e1_35) := Below.trans De1_34.out (bE.mono tp1_1)
   have Z1_1e1_35 := Lib.hid hE
   have Z1_0e1_35 := Lib.hid ((oE p1_0 (by first | assumption | exact Ne.symm (by assumption))).trans Z1_0e1_34.out)
   clear hE oE bE
   refine hK.out _ _ ?_ (fun hHeld => ?_)
   · try dsimp only
     exact KS.out _ De1_35.out
   clear hK K
   try simp only [Act.put, sa, sb, sc]
   refine wpAnyH_take (i := 13) (v := ?_) (by (simp only [ea, eb, ec]); (try exact rfl)) (by kernel_rfl) (by kernel_rfl) (by kernel_rfl) (by intro _ _ _ h; exact h) (Or.inl ⟨by rfl, ?_⟩) (by assumption) ?_
   rotate_left
   · intro w hSw
     try dsimp only at hSw
     go_simp
     try with_reducible rfl
   try simp only [Act.put, sa, sb, sc]
   refine wpAnyH_done (by kernel_rfl) ?_ _
   go_wp2_with fail
   go_meet
   exact ⟨p1_0, p1_1, rfl, rfl, rfl, De1_35, Z1_0e1_35, Z1_1e1_35⟩
   go_simp
   generalize hA : World.alloc u1_31 (.cells #[.int .i64 0, .int .i64 0, .int .i64 0] 31) = a1_36
   obtain ⟨p1_1, hp⟩ : ∃ p, p = u1_31.heap.size := ⟨_, rfl⟩
   have ba : Below u1_31.heap.size u1_31 a1_36 := by rw [← hA]; exact Below.alloc (Below.refl _ _) (Nat.le_refl _) _
   have Z1_1a1_36 := Lib.hid (show a1_36.heap[p1_1]? = some (.cells #[.int .i64 0, .int .i64 0, .int .i64 0] 31 (0, 0)) from by rw [← hA, hp]; exact heap_alloc_new _ _)
   have tp1_1 : wq.heap.size ≤ p1_1 := by rw [hp]; exact Du1_31.out.size
   have n1_0_1_1 : p1_0 ≠ p1_1 := by have hh := box_lt Z1_0u1_31.out; rw [hp]; intro e; rw [e] at hh; exact Nat.lt_irrefl _ hh
   have Da1_36 : Hid (Below wq.heap.size wq a1_36) := Below.trans Du1_31.out (ba.mono Du1_31.out.size)
   have Z1_0a1_36 := Lib.hid ((ba.block p1_0 (box_lt Z1_0u1_31.out)).trans Z1_0u1_31.out)
   rw [← hp]
   clear hA hp ba
   refine hK.out _ _ ?_ (fun hHeld => ?_)
   · try dsimp only
     exact KS.out _ Da1_36.out
   clear hK K
   try simp only [Act.put, sa, sb, sc]
   refine wpAnyH_ready (rs := [4]) (by kernel_rfl) (by simp) ?_
   refine (AllReadyH.cons (by (simp only [ea, eb, ec]); (try exact rfl)) (fun K hK => ?_) AllReadyH.nil)
   go_simp
   go_at_call 34
   refine (c1.out _ (HT.out _ (BQ.out.trans (Da1_36.out.mono (BQ.out.size))))).mono ?_
   rintro e u1_37 ⟨rfl, bb⟩
   have Du1_37 : Hid (Below wq.heap.size wq u1_37) := Below.trans Da1_36.out (bb.mono Da1_36.out.size)
   have Z1_0u1_37 := Lib.hid ((bb.block p1_0 (box_lt Z1_0a1_36.out)).trans Z1_0a1_36.out)
   have Z1_1u1_37 := Lib.hid ((bb.block p1_1 (box_lt Z1_1a1_36.out)).trans Z1_1a1_36.out)
   clear bb
   (first | refine hK.out _ _ ?_ (fun hHeld => ?_) | (go_wp2_with fail; refine hK.out _ _ ?_ (fun hHeld => ?_)))
   · try dsimp only
     exact KS.out _ Du1_37.out
   clear hK K
   try simp only [Act.put, sa, sb, sc]
   refine wpAnyH_take (i := 5) (v := ?_) (by (simp only [ea, eb, ec]); (try exact rfl)) (by kernel_rfl) (by kernel_rfl) (by kernel_rfl) (by intro _ _ _ h; exact h) (Or.inl ⟨by rfl, ?_⟩) (by assumption) ?_
   rotate_left
   · intro w hSw
     try dsimp only at hSw
     go_simp
     try with_reducible rfl
   try simp only [Act.put, sa, sb, sc]
   refine wpAnyH_take (i := 6) (v := ?_) (by (simp only [ea, eb, ec]); (try exact rfl)) (by kernel_rfl) (by kernel_rfl) (by kernel_rfl) (by intro _ _ _ h; exact h) (Or.inl ⟨by rfl, ?_⟩) (by assumption) ?_
   rotate_left
   · intro w hSw
     try dsimp only at hSw
     go_simp
     try with_reducible rfl
   try simp only [Act.put, sa, sb, sc]
   refine wpAnyH_take (i := 7) (v := ?_) (by (simp only [ea, eb, ec]); (try exact rfl)) (by kernel_rfl) (by kernel_rfl) (by kernel_rfl) (by intro _ _ _ h; exact h) (Or.inl ⟨by rfl, ?_⟩) (by assumption) ?_
   rotate_left
   · intro w hSw
     try dsimp only at hSw
     go_simp
     try with_reducible rfl
   try simp only [Act.put, sa, sb, sc]
   refine wpAnyH_take (i := 8) (v := ?_) (by (simp only [ea, eb, ec]); (try exact rfl)) (by kernel_rfl) (by kernel_rfl) (by kernel_rfl) (by intro _ _ _ h; exact h) (Or.inl ⟨by rfl, ?_⟩) (by assumption) ?_
   rotate_left
   · intro w hSw
     try dsimp only at hSw
     go_simp
     try with_reducible rfl
   try simp only [Act.put, sa, sb, sc]
   refine wpAnyH_ready (rs := [11]) (by kernel_rfl) (by simp) ?_
   refine AllReadyH.cons (by (simp only [ea, eb, ec]); (try exact rfl)) (fun K hK => ?_) AllReadyH.nil
   refine step_store_Co rfl _ _ rfl p1_0 (⟨0, 0, 0⟩ : Co) r0 _ rfl rfl Z1_0u1_37.out ?_
   intro e1_38 hE oE bE
   have De1_38 : Hid (Below wq.heap.size wq e1_38) := Below.trans Du1_37.out (bE.mono tp1_0)
   have Z1_0e1_38 := Lib.hid hE
   have Z1_1e1_38 := Lib.hid ((oE p1_1 (by first | assumption | exact Ne.symm (by assumption))).trans Z1_1u1_37.out)
   clear hE oE bE
   refine hK.out _ _ ?_ (fun hHeld => ?_)
   · try dsimp only
     exact KS.out _ De1_38.out
   clear hK K
   try simp only [Act.put, sa, sb, sc]
   refine wpAnyH_ready (rs := [12]) (by kernel_rfl) (by simp) ?_
   refine AllReadyH.cons (by (simp only [ea, eb, ec]); (try exact rfl)) (fun K hK => ?_) AllReadyH.nil
   refine step_store_Co rfl _ _ rfl p1_1 (⟨0, 0, 0⟩ : Co) r1 _ rfl rfl Z1_1e1_38.out ?_
   intro e1_39 hE oE bE
   have De1_39 : Hid (Below wq.heap.size wq e1_39) := Below.trans De1_38.out (bE.mono tp1_1)
   have Z1_1e1_39 := Lib.hid hE
   have Z1_0e1_39 := Lib.hid ((oE p1_0 (by first | assumption | exact Ne.symm (by assumption))).trans Z1_0e1_38.out)
   clear hE oE bE
   refine hK.out _ _ ?_ (fun hHeld => ?_)
   · try dsimp only
     exact KS.out _ De1_39.out
   clear hK K
   try simp only [Act.put, sa, sb, sc]
   refine wpAnyH_take (i := 13) (v := ?_) (by (simp only [ea, eb, ec]); (try exact rfl)) (by kernel_rfl) (by kernel_rfl) (by kernel_rfl) (by intro _ _ _ h; exact h) (Or.inl ⟨by rfl, ?_⟩) (by assumption) ?_
   rotate_left
   · intro w hSw
     try dsimp only at hSw
     go_simp
     try with_reducible rfl
   try simp only [Act.put, sa, sb, sc]
   refine wpAnyH_done (by kernel_rfl) ?_ _
   go_wp2_with fail
   go_meet
   exact ⟨p1_0, p1_1, rfl, rfl, rfl, De1_39, Z1_0e1_39, Z1_1e1_39⟩
   go_simp
   generalize hA : World.alloc a1_30 (.cells #[.int .i64 0, .int .i64 0, .int .i64 0] 31) = a1_40
   obtain ⟨p1_1, hp⟩ : ∃ p, p = a1_30.heap.size := ⟨_, rfl⟩
   have ba : Below a1_30.heap.size a1_30 a1_40 := by rw [← hA]; exact Below.alloc (Below.refl _ _) (Nat.le_refl _) _
   have Z1_1a1_40 := Lib.hid (show a1_40.heap[p1_1]? = some (.cells #[.int .i64 0, .int .i64 0, .int .i64 0] 31 (0, 0)) from by rw [← hA, hp]; exact heap_alloc_new _ _)
   have tp1_1 : wq.heap.size ≤ p1_1 := by rw [hp]; exact Da1_30.out.size
   have n1_0_1_1 : p1_0 ≠ p1_1 := by have hh := box_lt Z1_0a1_30.out; rw [hp]; intro e; rw [e] at hh; exact Nat.lt_irrefl _ hh
   have Da1_40 : Hid (Below wq.heap.size wq a1_40) := Below.trans Da1_30.out (ba.mono Da1_30.out.size)
   have Z1_0a1_40 := Lib.hid ((ba.block p1_0 (box_lt Z1_0a1_30.out)).trans Z1_0a1_30.out)
   rw [← hp]
   clear hA hp ba
   refine hK.out _ _ ?_ (fun hHeld => ?_)
   · try dsimp only
     exact KS.out _ Da1_40.out
   clear hK K
   try simp only [Act.put, sa, sb, sc]
   refine wpAnyH_ready (rs := [3]) (by kernel_rfl) (by simp) ?_
   refine (AllReadyH.cons (by (simp only [ea, eb, ec]); (try exact rfl)) (fun K hK => ?_) AllReadyH.nil)
   go_simp
   go_at_call 35
   refine (toPose_blw q1 _).mono ?_
   rintro e u1_41 ⟨rfl, bb⟩
   have Du1_41 : Hid (Below wq.heap.size wq u1_41) := Below.trans Da1_40.out (bb.mono Da1_40.out.size)
   have Z1_0u1_41 := Lib.hid ((bb.block p1_0 (box_lt Z1_0a1_40.out)).trans Z1_0a1_40.out)
   have Z1_1u1_41 := Lib.hid ((bb.block p1_1 (box_lt Z1_1a1_40.out)).trans Z1_1a1_40.out)
   clear bb
   (first | refine hK.out _ _ ?_ (fun hHeld => ?_) | (go_wp2_with fail; refine hK.out _ _ ?_ (fun hHeld => ?_)))
   · try dsimp only
     exact KS.out _ Du1_41.out
   clear hK K
   try simp only [Act.put, sa, sb, sc]
   refine wpAnyH_ready (rs := [4]) (by kernel_rfl) (by simp) ?_
   refine (AllReadyH.cons (by (simp only [ea, eb, ec]); (try exact rfl)) (fun K hK => ?_) AllReadyH.nil)
   go_simp
   go_at_call 34
   refine (c1.out _ (HT.out _ (BQ.out.trans (Du1_41.out.mono (BQ.out.size))))).mono ?_
   rintro e u1_42 ⟨rfl, bb⟩
   have Du1_42 : Hid (Below wq.heap.size wq u1_42) := Below.trans Du1_41.out (bb.mono Du1_41.out.size)
   have Z1_0u1_42 := Lib.hid ((bb.block p1_0 (box_lt Z1_0u1_41.out)).trans Z1_0u1_41.out)
   have Z1_1u1_42 := Lib.hid ((bb.block p1_1 (box_lt Z1_1u1_41.out)).trans Z1_1u1_41.out)
   clear bb
   (first | refine hK.out _ _ ?_ (fun hHeld => ?_) | (go_wp2_with fail; refine hK.out _ _ ?_ (fun hHeld => ?_)))
   · try dsimp only
     exact KS.out _ Du1_42.out
   clear hK K
   try simp only [Act.put, sa, sb, sc]
   refine wpAnyH_take (i := 5) (v := ?_) (by (simp only [ea, eb, ec]); (try exact rfl)) (by kernel_rfl) (by kernel_rfl) (by kernel_rfl) (by intro _ _ _ h; exact h) (Or.inl ⟨by rfl, ?_⟩) (by assumption) ?_
   rotate_left
   · intro w hSw
     try dsimp only at hSw
     go_simp
     try with_reducible rfl
   try simp only [Act.put, sa, sb, sc]
   refine wpAnyH_take (i := 6) (v := ?_) (by (simp only [ea, eb, ec]); (try exact rfl)) (by kernel_rfl) (by kernel_rfl) (by kernel_rfl) (by intro _ _ _ h; exact h) (Or.inl ⟨by rfl, ?_⟩) (by assumption) ?_
   rotate_left
   · intro w hSw
     try dsimp only at hSw
     go_simp
     try with_reducible rfl
   try simp only [Act.put, sa, sb, sc]
   refine wpAnyH_take (i := 7) (v := ?_) (by (simp only [ea, eb, ec]); (try exact rfl)) (by kernel_rfl) (by kernel_rfl) (by kernel_rfl) (by intro _ _ _ h; exact h) (Or.inl ⟨by rfl, ?_⟩) (by assumption) ?_
   rotate_left
   · intro w hSw
     try dsimp only at hSw
     go_simp
     try with_reducible rfl
   try simp only [Act.put, sa, sb, sc]
   refine wpAnyH_take (i := 8) (v := ?_) (by (simp only [ea, eb, ec]); (try exact rfl)) (by kernel_rfl) (by kernel_rfl) (by kernel_rfl) (by intro _ _ _ h; exact h) (Or.inl ⟨by rfl, ?_⟩) (by assumption) ?_
   rotate_left
   · intro w hSw
     try dsimp only at hSw
     go_simp
     try with_reducible rfl
   try simp only [Act.put, sa, sb, sc]
   refine wpAnyH_ready (rs := [11]) (by kernel_rfl) (by simp) ?_
   refine AllReadyH.cons (by (simp only [ea, eb, ec]); (try exact rfl)) (fun K hK => ?_) AllReadyH.nil
   refine step_store_Co rfl _ _ rfl p1_0 (⟨0, 0, 0⟩ : Co) r0 _ rfl rfl Z1_0u1_42.out ?_
   intro e1_43 hE oE bE
   have De1_43 : Hid (Below wq.heap.size wq e1_43) := Below.trans Du1_42.out (bE.mono tp1_0)
   have Z1_0e1_43 := Lib.hid hE
   have Z1_1e1_43 := Lib.hid ((oE p1_1 (by first | assumption | exact Ne.symm (by assumption))).trans Z1_1u1_42.out)
   clear hE oE bE
   refine hK.out _ _ ?_ (fun hHeld => ?_)
   · try dsimp only
     exact KS.out _ De1_43.out
   clear hK K
   try simp only [Act.put, sa, sb, sc]
   refine wpAnyH_ready (rs := [12]) (by kernel_rfl) (by simp) ?_
   refine AllReadyH.cons (by (simp only [ea, eb, ec]); (try exact rfl)) (fun K hK => ?_) AllReadyH.nil
   refine step_store_Co rfl _ _ rfl p1_1 (⟨0, 0, 0⟩ : Co) r1 _ rfl rfl Z1_1e1_43.out ?_
   intro e1_44 hE oE bE
   have De1_44 : Hid (Below wq.heap.size wq e1_44) := Below.trans De1_43.out (bE.mono tp1_1)
   have Z1_1e1_44 := Lib.hid hE
   have Z1_0e1_44 := Lib.hid ((oE p1_0 (by first | assumption | exact Ne.symm (by assumption))).trans Z1_0e1_43.out)
   clear hE oE bE
   refine hK.out _ _ ?_ (fun hHeld => ?_)
   · try dsimp only
     exact KS.out _ De1_44.out
   clear hK K
   try simp only [Act.put, sa, sb, sc]
   refine wpAnyH_take (i := 13) (v := ?_) (by (simp only [ea, eb, ec]); (try exact rfl)) (by kernel_rfl) (by kernel_rfl) (by kernel_rfl) (by intro _ _ _ h; exact h) (Or.inl ⟨by rfl, ?_⟩) (by assumption) ?_
   rotate_left
   · intro w hSw
     try dsimp only at hSw
     go_simp
     try with_reducible rfl
   try simp only [Act.put, sa, sb, sc]
   refine wpAnyH_done (by kernel_rfl) ?_ _
   go_wp2_with fail
   go_meet
   exact ⟨p1_0, p1_1, rfl, rfl, rfl, De1_44, Z1_0e1_44, Z1_1e1_44⟩
   go_simp
   generalize hA : World.alloc u1_1 (.cells #[.int .i64 0, .int .i64 0, .int .i64 0] 31) = a1_45
   obtain ⟨p1_1, hp⟩ : ∃ p, p = u1_1.heap.size := ⟨_, rfl⟩
   have ba : Below u1_1.heap.size u1_1 a1_45 := by rw [← hA]; exact Below.alloc (Below.refl _ _) (Nat.le_refl _) _
   have Z1_1a1_45 := Lib.hid (show a1_45.heap[p1_1]? = some (.cells #[.int .i64 0, .int .i64 0, .int .i64 0] 31 (0, 0)) from by rw [← hA, hp]; exact heap_alloc_new _ _)
   have tp1_1 : wq.heap.size ≤ p1_1 := by rw [hp]; exact Du1_1.out.size
   have Da1_45 : Hid (Below wq.heap.size wq a1_45) := Below.trans Du1_1.out (ba.mono Du1_1.out.size)
   rw [← hp]
   clear hA hp ba
   refine hK.out _ _ ?_ (fun hHeld => ?_)
   · try dsimp only
     exact KS.out _ Da1_45.out
   clear hK K
   try simp only [Act.put, sa, sb, sc]
   refine wpAnyH_ready (rs := [3, 9]) (by kernel_rfl) (by simp) ?_
   refine (AllReadyH.cons (by (simp only [ea, eb, ec]); (try exact rfl)) (fun K hK => ?_) (AllReadyH.cons (by (simp only [ea, eb, ec]); (try exact rfl)) (fun K hK => ?_) AllReadyH.nil))
   go_simp
   go_at_call 35
   refine (toPose_blw q1 _).mono ?_
   rintro e u1_46 ⟨rfl, bb⟩
   have Du1_46 : Hid (Below wq.heap.size wq u1_46) := Below.trans Da1_45.out (bb.mono Da1_45.out.size)
   have Z1_1u1_46 := Lib.hid ((bb.block p1_1 (box_lt Z1_1a1_45.out)).trans Z1_1a1_45.out)
   clear bb
   (first | refine hK.out _ _ ?_ (fun hHeld => ?_) | (go_wp2_with fail; refine hK.out _ _ ?_ (fun hHeld => ?_)))
   · try dsimp only
     exact KS.out _ Du1_46.out
   clear hK K
   try simp only [Act.put, sa, sb, sc]
   refine wpAnyH_ready (rs := [4, 9]) (by kernel_rfl) (by simp) ?_
   refine (AllReadyH.cons (by (simp only [ea, eb, ec]); (try exact rfl)) (fun K hK => ?_) (AllReadyH.cons (by (simp only [ea, eb, ec]); (try exact rfl)) (fun K hK => ?_) AllReadyH.nil))
   go_simp
   go_at_call 34
   refine (c1.out _ (HT.out _ (BQ.out.trans (Du1_46.out.mono (BQ.out.size))))).mono ?_
   rintro e u1_47 ⟨rfl, bb⟩
   have Du1_47 : Hid (Below wq.heap.size wq u1_47) := Below.trans Du1_46.out (bb.mono Du1_46.out.size)
   have Z1_1u1_47 := Lib.hid ((bb.block p1_1 (box_lt Z1_1u1_46.out)).trans Z1_1u1_46.out)
   clear bb
   (first | refine hK.out _ _ ?_ (fun hHeld => ?_) | (go_wp2_with fail; refine hK.out _ _ ?_ (fun hHeld => ?_)))
   · try dsimp only
     exact KS.out _ Du1_47.out
   clear hK K
   try simp only [Act.put, sa, sb, sc]
   refine wpAnyH_take (i := 5) (v := ?_) (by (simp only [ea, eb, ec]); (try exact rfl)) (by kernel_rfl) (by kernel_rfl) (by kernel_rfl) (by intro _ _ _ h; exact h) (Or.inl ⟨by rfl, ?_⟩) (by assumption) ?_
   rotate_left
   · intro w hSw
     try dsimp only at hSw
     go_simp
     try with_reducible rfl
   try simp only [Act.put, sa, sb, sc]
   refine wpAnyH_take (i := 6) (v := ?_) (by (simp only [ea, eb, ec]); (try exact rfl)) (by kernel_rfl) (by kernel_rfl) (by kernel_rfl) (by intro _ _ _ h; exact h) (Or.inl ⟨by rfl, ?_⟩) (by assumption) ?_
   rotate_left
   · intro w hSw
     try dsimp only at hSw
     go_simp
     try with_reducible rfl
   try simp only [Act.put, sa, sb, sc]
   refine wpAnyH_take (i := 7) (v := ?_) (by (simp only [ea, eb, ec]); (try exact rfl)) (by kernel_rfl) (by kernel_rfl) (by kernel_rfl) (by intro _ _ _ h; exact h) (Or.inl ⟨by rfl, ?_⟩) (by assumption) ?_
   rotate_left
   · intro w hSw
     try dsimp only at hSw
     go_simp
     try with_reducible rfl
   try simp only [Act.put, sa, sb, sc]
   refine wpAnyH_take (i := 8) (v := ?_) (by (simp only [ea, eb, ec]); (try exact rfl)) (by kernel_rfl) (by kernel_rfl) (by kernel_rfl) (by intro _ _ _ h; exact h) (Or.inl ⟨by rfl, ?_⟩) (by assumption) ?_
   rotate_left
   · intro w hSw
     try dsimp only at hSw
     go_simp
     try with_reducible rfl
   try simp only [Act.put, sa, sb, sc]
   refine wpAnyH_ready (rs := [9]) (by kernel_rfl) (by simp) ?_
   refine (AllReadyH.cons (by (simp only [ea, eb, ec]); (try exact rfl)) (fun K hK => ?_) AllReadyH.nil)
   go_simp
   generalize hA : World.alloc u1_47 (.cells #[.int .i64 0, .int .i64 0, .int .i64 0] 31) = a1_48
   obtain ⟨p1_0, hp⟩ : ∃ p, p = u1_47.heap.size := ⟨_, rfl⟩
   have ba : Below u1_47.heap.size u1_47 a1_48 := by rw [← hA]; exact Below.alloc (Below.refl _ _) (Nat.le_refl _) _
   have Z1_0a1_48 := Lib.hid (show a1_48.heap[p1_0]? = some (.cells #[.int .i64 0, .int .i64 0, .int .i64 0] 31 (0, 0)) from by rw [← hA, hp]; exact heap_alloc_new _ _)
   have tp1_0 : wq.heap.size ≤ p1_0 := by rw [hp]; exact Du1_47.out.size
   have n1_1_1_0 : p1_1 ≠ p1_0 := by have hh := box_lt Z1_1u1_47.out; rw [hp]; intro e; rw [e] at hh; exact Nat.lt_irrefl _ hh
   have Da1_48 : Hid (Below wq.heap.size wq a1_48) := Below.trans Du1_47.out (ba.mono Du1_47.out.size)
   have Z1_1a1_48 := Lib.hid ((ba.block p1_1 (box_lt Z1_1u1_47.out)).trans Z1_1u1_47.out)
   rw [← hp]
   clear hA hp ba
   refine hK.out _ _ ?_ (fun hHeld => ?_)
   · try dsimp only
     exact KS.out _ Da1_48.out
   clear hK K
   try simp only [Act.put, sa, sb, sc]
   refine wpAnyH_ready (rs := [11]) (by kernel_rfl) (by simp) ?_
   refine AllReadyH.cons (by (simp only [ea, eb, ec]); (try exact rfl)) (fun K hK => ?_) AllReadyH.nil
   refine step_store_Co rfl _ _ rfl p1_0 (⟨0, 0, 0⟩ : Co) r0 _ rfl rfl Z1_0a1_48.out ?_
   intro e1_49 hE oE bE
   have De1_49 : Hid (Below wq.heap.size wq e1_49) := Below.trans Da1_48.out (bE.mono tp1_0)
   have Z1_0e1_49 := Lib.hid hE
   have Z1_1e1_49 := Lib.hid ((oE p1_1 (by first | assumption | exact Ne.symm (by assumption))).trans Z1_1a1_48.out)
   clear hE oE bE
   refine hK.out _ _ ?_ (fun hHeld => ?_)
   · try dsimp only
     exact KS.out _ De1_49.out
   clear hK K
   try simp only [Act.put, sa, sb, sc]
   refine wpAnyH_ready (rs := [12]) (by kernel_rfl) (by simp) ?_
   refine AllReadyH.cons (by (simp only [ea, eb, ec]); (try exact rfl)) (fun K hK => ?_) AllReadyH.nil
   refine step_store_Co rfl _ _ rfl p1_1 (⟨0, 0, 0⟩ : Co) r1 _ rfl rfl Z1_1e1_49.out ?_
   intro e1_50 hE oE bE
   have De1_50 : Hid (Below wq.heap.size wq e1_50) := Below.trans De1_49.out (bE.mono tp1_1)
   have Z1_1e1_50 := Lib.hid hE
   have Z1_0e1_50 := Lib.hid ((oE p1_0 (by first | assumption | exact Ne.symm (by assumption))).trans Z1_0e1_49.out)
   clear hE oE bE
   refine hK.out _ _ ?_ (fun hHeld => ?_)
   · try dsimp only
     exact KS.out _ De1_50.out
   clear hK K
   try simp only [Act.put, sa, sb, sc]
   refine wpAnyH_take (i := 13) (v := ?_) (by (simp only [ea, eb, ec]); (try exact rfl)) (by kernel_rfl) (by kernel_rfl) (by kernel_rfl) (by intro _ _ _ h; exact h) (Or.inl ⟨by rfl, ?_⟩) (by assumption) ?_
   rotate_left
   · intro w hSw
     try dsimp only at hSw
     go_simp
     try with_reducible rfl
   try simp only [Act.put, sa, sb, sc]
   refine wpAnyH_done (by kernel_rfl) ?_ _
   go_wp2_with fail
   go_meet
   exact ⟨p1_0, p1_1, rfl, rfl, rfl, De1_50, Z1_0e1_50, Z1_1e1_50⟩
   go_simp
   generalize hA : World.alloc u1_46 (.cells #[.int .i64 0, .int .i64 0, .int .i64 0] 31) = a1_51
   obtain ⟨p1_0, hp⟩ : ∃ p, p = u1_46.heap.size := ⟨_, rfl⟩
   have ba : Below u1_46.heap.size u1_46 a1_51 := by rw [← hA]; exact Below.alloc (Below.refl _ _) (Nat.le_refl _) _
   have Z1_0a1_51 := Lib.hid (show a1_51.heap[p1_0]? = some (.cells #[.int .i64 0, .int .i64 0, .int .i64 0] 31 (0, 0)) from by rw [← hA, hp]; exact heap_alloc_new _ _)
   have tp1_0 : wq.heap.size ≤ p1_0 := by rw [hp]; exact Du1_46.out.size
   have n1_1_1_0 : p1_1 ≠ p1_0 := by have hh := box_lt Z1_1u1_46.out; rw [hp]; intro e; rw [e] at hh; exact Nat.lt_irrefl _ hh
   have Da1_51 : Hid (Below wq.heap.size wq a1_51) := Below.trans Du1_46.out (ba.mono Du1_46.out.size)
   have Z1_1a1_51 := Lib.hid ((ba.block p1_1 (box_lt Z1_1u1_46.out)).trans Z1_1u1_46.out)
   rw [← hp]
   clear hA hp ba
   refine hK.out _ _ ?_ (fun hHeld => ?_)
   · try dsimp only
     exact KS.out _ Da1_51.out
   clear hK K
   try simp only [Act.put, sa, sb, sc]
   refine wpAnyH_ready (rs := [4]) (by kernel_rfl) (by simp) ?_
   refine (AllReadyH.cons (by (simp only [ea, eb, ec]); (try exact rfl)) (fun K hK => ?_) AllReadyH.nil)
   go_simp
   go_at_call 34
   refine (c1.out _ (HT.out _ (BQ.out.trans (Da1_51.out.mono (BQ.out.size))))).mono ?_
   rintro e u1_52 ⟨rfl, bb⟩
   have Du1_52 : Hid (Below wq.heap.size wq u1_52) := Below.trans Da1_51.out (bb.mono Da1_51.out.size)
   have Z1_1u1_52 := Lib.hid ((bb.block p1_1 (box_lt Z1_1a1_51.out)).trans Z1_1a1_51.out)
   have Z1_0u1_52 := Lib.hid ((bb.block p1_0 (box_lt Z1_0a1_51.out)).trans Z1_0a1_51.out)
   clear bb
   (first | refine hK.out _ _ ?_ (fun hHeld => ?_) | (go_wp2_with fail; refine hK.out _ _ ?_ (fun hHeld => ?_)))
   · try dsimp only
     exact KS.out _ Du1_52.out
   clear hK K
   try simp only [Act.put, sa, sb, sc]
   refine wpAnyH_take (i := 5) (v := ?_) (by (simp only [ea, eb, ec]); (try exact rfl)) (by kernel_rfl) (by kernel_rfl) (by kernel_rfl) (by intro _ _ _ h; exact h) (Or.inl ⟨by rfl, ?_⟩) (by assumption) ?_
   rotate_left
   · intro w hSw
     try dsimp only at hSw
     go_simp
     try with_reducible rfl
   try simp only [Act.put, sa, sb, sc]
   refine wpAnyH_take (i := 6) (v := ?_) (by (simp only [ea, eb, ec]); (try exact rfl)) (by kernel_rfl) (by kernel_rfl) (by kernel_rfl) (by intro _ _ _ h; exact h) (Or.inl ⟨by rfl, ?_⟩) (by assumption) ?_
   rotate_left
   · intro w hSw
     try dsimp only at hSw
     go_simp
     try with_reducible rfl
   try simp only [Act.put, sa, sb, sc]
   refine wpAnyH_take (i := 7) (v := ?_) (by (simp only [ea, eb, ec]); (try exact rfl)) (by kernel_rfl) (by kernel_rfl) (by kernel_rfl) (by intro _ _ _ h; exact h) (Or.inl ⟨by rfl, ?_⟩) (by assumption) ?_
   rotate_left
   · intro w hSw
     try dsimp only at hSw
     go_simp
     try with_reducible rfl
   try simp only [Act.put, sa, sb, sc]
   refine wpAnyH_take (i := 8) (v := ?_) (by (simp only [ea, eb, ec]); (try exact rfl)) (by kernel_rfl) (by kernel_rfl) (by kernel_rfl) (by intro _ _ _ h; exact h) (Or.inl ⟨by rfl, ?_⟩) (by assumption) ?_
   rotate_left
   · intro w hSw
     try dsimp only at hSw
     go_simp
     try with_reducible rfl
   try simp only [Act.put, sa, sb, sc]
   refine wpAnyH_ready (rs := [11]) (by kernel_rfl) (by simp) ?_
   refine AllReadyH.cons (by (simp only [ea, eb, ec]); (try exact rfl)) (fun K hK => ?_) AllReadyH.nil
   refine step_store_Co rfl _ _ rfl p1_0 (⟨0, 0, 0⟩ : Co) r0 _ rfl rfl Z1_0u1_52.out ?_
   intro e1_53 hE oE bE
   have De1_53 : Hid (Below wq.heap.size wq e1_53) := Below.trans Du1_52.out (bE.mono tp1_0)
   have Z1_0e1_53 := Lib.hid hE
   have Z1_1e1_53 := Lib.hid ((oE p1_1 (by first | assumption | exact Ne.symm (by assumption))).trans Z1_1u1_52.out)
   clear hE oE bE
   refine hK.out _ _ ?_ (fun hHeld => ?_)
   · try dsimp only
     exact KS.out _ De1_53.out
   clear hK K
   try simp only [Act.put, sa, sb, sc]
   refine wpAnyH_ready (rs := [12]) (by kernel_rfl) (by simp) ?_
   refine AllReadyH.cons (by (simp only [ea, eb, ec]); (try exact rfl)) (fun K hK => ?_) AllReadyH.nil
   refine step_store_Co rfl _ _ rfl p1_1 (⟨0, 0, 0⟩ : Co) r1 _ rfl rfl Z1_1e1_53.out ?_
   intro e1_54 hE oE bE
   have De1_54 : Hid (Below wq.heap.size wq e1_54) := Below.trans De1_53.out (bE.mono tp1_1)
   have Z1_1e1_54 := Lib.hid hE
   have Z1_0e1_54 := Lib.hid ((oE p1_0 (by first | assumption | exact Ne.symm (by assumption))).trans Z1_0e1_53.out)
   clear hE oE bE
   refine hK.out _ _ ?_ (fun hHeld => ?_)
   · try dsimp only
     exact KS.out _ De1_54.out
   clear hK K
   try simp only [Act.put, sa, sb, sc]
   refine wpAnyH_take (i := 13) (v := ?_) (by (simp only [ea, eb, ec]); (try exact rfl)) (by kernel_rfl) (by kernel_rfl) (by kernel_rfl) (by intro _ _ _ h; exact h) (Or.inl ⟨by rfl, ?_⟩) (by assumption) ?_
   rotate_left
   · intro w hSw
     try dsimp only at hSw
     go_simp
     try with_reducible rfl
   try simp only [Act.put, sa, sb, sc]
   refine wpAnyH_done (by kernel_rfl) ?_ _
   go_wp2_with fail
   go_meet
   exact ⟨p1_0, p1_1, rfl, rfl, rfl, De1_54, Z1_0e1_54, Z1_1e1_54⟩
   go_simp
   generalize hA : World.alloc a1_45 (.cells #[.int .i64 0, .int .i64 0, .int .i64 0] 31) = a1_55
   obtain ⟨p1_0, hp⟩ : ∃ p, p = a1_45.heap.size := ⟨_, rfl⟩
   have ba : Below a1_45.heap.size a1_45 a1_55 := by rw [← hA]; exact Below.alloc (Below.refl _ _) (Nat.le_refl _) _
   have Z1_0a1_55 := Lib.hid (show a1_55.heap[p1_0]? = some (.cells #[.int .i64 0, .int .i64 0, .int .i64 0] 31 (0, 0)) from by rw [← hA, hp]; exact heap_alloc_new _ _)
   have tp1_0 : wq.heap.size ≤ p1_0 := by rw [hp]; exact Da1_45.out.size
   have n1_1_1_0 : p1_1 ≠ p1_0 := by have hh := box_lt Z1_1a1_45.out; rw [hp]; intro e; rw [e] at hh; exact Nat.lt_irrefl _ hh
   have Da1_55 : Hid (Below wq.heap.size wq a1_55) := Below.trans Da1_45.out (ba.mono Da1_45.out.size)
   have Z1_1a1_55 := Lib.hid ((ba.block p1_1 (box_lt Z1_1a1_45.out)).trans Z1_1a1_45.out)
   rw [← hp]
   clear hA hp ba
   refine hK.out _ _ ?_ (fun hHeld => ?_)
   · try dsimp only
     exact KS.out _ Da1_55.out
   clear hK K
   try simp only [Act.put, sa, sb, sc]
   refine wpAnyH_ready (rs := [3]) (by kernel_rfl) (by simp) ?_
   refine (AllReadyH.cons (by (simp only [ea, eb, ec]); (try exact rfl)) (fun K hK => ?_) AllReadyH.nil)
   go_simp
   go_at_call 35
   refine (toPose_blw q1 _).mono ?_
   rintro e u1_56 ⟨rfl, bb⟩
   have Du1_56 : Hid (Below wq.heap.size wq u1_56) := Below.trans Da1_55.out (bb.mono Da1_55.out.size)
   have Z1_1u1_56 := Lib.hid ((bb.block p1_1 (box_lt Z1_1a1_55.out)).trans Z1_1a1_55.out)
   have Z1_0u1_56 := Lib.hid ((bb.block p1_0 (box_lt Z1_0a1_55.out)).trans Z1_0a1_55.out)
   clear bb
   (first | refine hK.out _ _ ?_ (fun hHeld => ?_) | (go_wp2_with fail; refine hK.out _ _ ?_ (fun hHeld => ?_)))
   · try dsimp only
     exact KS.out _ Du1_56.out
   clear hK K
   try simp only [Act.put, sa, sb, sc]
   refine wpAnyH_ready (rs := [4]) (by kernel_rfl) (by simp) ?_
   refine (AllReadyH.cons (by (simp only [ea, eb, ec]); (try exact rfl)) (fun K hK => ?_) AllReadyH.nil)
   go_simp
   go_at_call 34
   refine (c1.out _ (HT.out _ (BQ.out.trans (Du1_56.out.mono (BQ.out.size))))).mono ?_
   rintro e u1_57 ⟨rfl, bb⟩
   have Du1_57 : Hid (Below wq.heap.size wq u1_57) := Below.trans Du1_56.out (bb.mono Du1_56.out.size)
   have Z1_1u1_57 := Lib.hid ((bb.block p1_1 (box_lt Z1_1u1_56.out)).trans Z1_1u1_56.out)
   have Z1_0u1_57 := Lib.hid ((bb.block p1_0 (box_lt Z1_0u1_56.out)).trans Z1_0u1_56.out)
   clear bb
   (first | refine hK.out _ _ ?_ (fun hHeld => ?_) | (go_wp2_with fail; refine hK.out _ _ ?_ (fun hHeld => ?_)))
   · try dsimp only
     exact KS.out _ Du1_57.out
   clear hK K
   try simp only [Act.put, sa, sb, sc]
   refine wpAnyH_take (i := 5) (v := ?_) (by (simp only [ea, eb, ec]); (try exact rfl)) (by kernel_rfl) (by kernel_rfl) (by kernel_rfl) (by intro _ _ _ h; exact h) (Or.inl ⟨by rfl, ?_⟩) (by assumption) ?_
   rotate_left
   · intro w hSw
     try dsimp only at hSw
     go_simp
     try with_reducible rfl
   try simp only [Act.put, sa, sb, sc]
   refine wpAnyH_take (i := 6) (v := ?_) (by (simp only [ea, eb, ec]); (try exact rfl)) (by kernel_rfl) (by kernel_rfl) (by kernel_rfl) (by intro _ _ _ h; exact h) (Or.inl ⟨by rfl, ?_⟩) (by assumption) ?_
   rotate_left
   · intro w hSw
     try dsimp only at hSw
     go_simp
     try with_reducible rfl
   try simp only [Act.put, sa, sb, sc]
   refine wpAnyH_take (i := 7) (v := ?_) (by (simp only [ea, eb, ec]); (try exact rfl)) (by kernel_rfl) (by kernel_rfl) (by kernel_rfl) (by intro _ _ _ h; exact h) (Or.inl ⟨by rfl, ?_⟩) (by assumption) ?_
   rotate_left
   · intro w hSw
     try dsimp only at hSw
     go_simp
     try with_reducible rfl
   try simp only [Act.put, sa, sb, sc]
   refine wpAnyH_take (i := 8) (v := ?_) (by (simp only [ea, eb, ec]); (try exact rfl)) (by kernel_rfl) (by kernel_rfl) (by kernel_rfl) (by intro _ _ _ h; exact h) (Or.inl ⟨by rfl, ?_⟩) (by assumption) ?_
   rotate_left
   · intro w hSw
     try dsimp only at hSw
     go_simp
     try with_reducible rfl
   try simp only [Act.put, sa, sb, sc]
   refine wpAnyH_ready (rs := [11]) (by kernel_rfl) (by simp) ?_
   refine AllReadyH.cons (by (simp only [ea, eb, ec]); (try exact rfl)) (fun K hK => ?_) AllReadyH.nil
   refine step_store_Co rfl _ _ rfl p1_0 (⟨0, 0, 0⟩ : Co) r0 _ rfl rfl Z1_0u1_57.out ?_
   intro e1_58 hE oE bE
   have De1_58 : Hid (Below wq.heap.size wq e1_58) := Below.trans Du1_57.out (bE.mono tp1_0)
   have Z1_0e1_58 := Lib.hid hE
   have Z1_1e1_58 := Lib.hid ((oE p1_1 (by first | assumption | exact Ne.symm (by assumption))).trans Z1_1u1_57.out)
   clear hE oE bE
   refine hK.out _ _ ?_ (fun hHeld => ?_)
   · try dsimp only
     exact KS.out _ De1_58.out
   clear hK K
   try simp only [Act.put, sa, sb, sc]
   refine wpAnyH_ready (rs := [12]) (by kernel_rfl) (by simp) ?_
   refine AllReadyH.cons (by (simp only [ea, eb, ec]); (try exact rfl)) (fun K hK => ?_) AllReadyH.nil
   refine step_store_Co rfl _ _ rfl p1_1 (⟨0, 0, 0⟩ : Co) r1 _ rfl rfl Z1_1e1_58.out ?_
   intro e1_59 hE oE bE
   have De1_59 : Hid (Below wq.heap.size wq e1_59) := Below.trans De1_58.out (bE.mono tp1_1)
   have Z1_1e1_59 := Lib.hid hE
   have Z1_0e1_59 := Lib.hid ((oE p1_0 (by first | assumption | exact Ne.symm (by assumption))).trans Z1_0e1_58.out)
   clear hE oE bE
   refine hK.out _ _ ?_ (fun hHeld => ?_)
   · try dsimp only
     exact KS.out _ De1_59.out
   clear hK K
   try simp only [Act.put, sa, sb, sc]
   refine wpAnyH_take (i := 13) (v := ?_) (by (simp only [ea, eb, ec]); (try exact rfl)) (by kernel_rfl) (by kernel_rfl) (by kernel_rfl) (by intro _ _ _ h; exact h) (Or.inl ⟨by rfl, ?_⟩) (by assumption) ?_
   rotate_left
   · intro w hSw
     try dsimp only at hSw
     go_simp
     try with_reducible rfl
   try simp only [Act.put, sa, sb, sc]
   refine wpAnyH_done (by kernel_rfl) ?_ _
   go_wp2_with fail
   go_meet
   exact ⟨p1_0, p1_1, rfl, rfl, rfl, De1_59, Z1_0e1_59, Z1_1e1_59⟩
   go_simp
   generalize hA : World.drew (World.alloc wq (.cells #[.int .i64 0, .int .i64 0, .int .i64 0] 31)) = a1_60
   obtain ⟨p1_0, hp⟩ : ∃ p, p = wq.heap.size := ⟨_, rfl⟩
   have ba : Below (World.drew wq).heap.size (World.drew wq) a1_60 := by rw [← hA]; exact (Below.alloc (Below.refl _ _) (Nat.le_refl _) _ : Below _ (World.drew wq) (World.alloc (World.drew wq) _))
   have Z1_0a1_60 := Lib.hid (show a1_60.heap[p1_0]? = some (.cells #[.int .i64 0, .int .i64 0, .int .i64 0] 31 (0, 0)) from by rw [← hA, hp]; exact heap_alloc_new wq _)
   have tp1_0 : wq.heap.size ≤ p1_0 := by rw [hp]; exact Nat.le_refl _
   have Da1_60 : Hid (Below wq.heap.size wq a1_60) := Below.trans D0.out (ba.mono D0.out.size)
   rw [← hp]
   clear hA hp ba
   refine hK.out _ _ ?_ (fun hHeld => ?_)
   · try dsimp only
     exact KS.out _ Da1_60.out
   clear hK K
   try simp only [Act.put, sa, sb, sc]
   refine wpAnyH_ready (rs := [1, 10]) (by kernel_rfl) (by simp) ?_
   refine (AllReadyH.cons (by (simp only [ea, eb, ec]); (try exact rfl)) (fun K hK => ?_) (AllReadyH.cons (by (simp only [ea, eb, ec]); (try exact rfl)) (fun K hK => ?_) AllReadyH.nil))
   go_simp
   go_at_call 35
   refine (toPose_blw q0 _).mono ?_
   rintro e u1_61 ⟨rfl, bb⟩
   have Du1_61 : Hid (Below wq.heap.size wq u1_61) := Below.trans Da1_60.out (bb.mono Da1_60.out.size)
   have Z1_0u1_61 := Lib.hid ((bb.block p1_0 (box_lt Z1_0a1_60.out)).trans Z1_0a1_60.out)
   clear bb
   (first | refine hK.out _ _ ?_ (fun hHeld => ?_) | (go_wp2_with fail; refine hK.out _ _ ?_ (fun hHeld => ?_)))
   · try dsimp only
     exact KS.out _ Du1_61.out
   clear hK K
   try simp only [Act.put, sa, sb, sc]
   refine wpAnyH_ready (rs := [3, 10]) (by kernel_rfl) (by simp) ?_
   refine (AllReadyH.cons (by (simp only [ea, eb, ec]); (try exact rfl)) (fun K hK => ?_) (AllReadyH.cons (by (simp only [ea, eb, ec]); (try exact rfl)) (fun K hK => ?_) AllReadyH.nil))
   go_simp
   go_at_call 35
   refine (toPose_blw q1 _).mono ?_
   rintro e u1_62 ⟨rfl, bb⟩
   have Du1_62 : Hid (Below wq.heap.size wq u1_62) := Below.trans Du1_61.out (bb.mono Du1_61.out.size)
   have Z1_0u1_62 := Lib.hid ((bb.block p1_0 (box_lt Z1_0u1_61.out)).trans Z1_0u1_61.out)
   clear bb
   (first | refine hK.out _ _ ?_ (fun hHeld => ?_) | (go_wp2_with fail; refine hK.out _ _ ?_ (fun hHeld => ?_)))
   · try dsimp only
     exact KS.out _ Du1_62.out
   clear hK K
   try simp only [Act.put, sa, sb, sc]
   refine wpAnyH_ready (rs := [4, 10]) (by kernel_rfl) (by simp) ?_
   refine (AllReadyH.cons (by (simp only [ea, eb, ec]); (try exact rfl)) (fun K hK => ?_) (AllReadyH.cons (by (simp only [ea, eb, ec]); (try exact rfl)) (fun K hK => ?_) AllReadyH.nil))
   go_simp
   go_at_call 34
   refine (c1.out _ (HT.out _ (BQ.out.trans (Du1_62.out.mono (BQ.out.size))))).mono ?_
   rintro e u1_63 ⟨rfl, bb⟩
   have Du1_63 : Hid (Below wq.heap.size wq u1_63) := Below.trans Du1_62.out (bb.mono Du1_62.out.size)
   have Z1_0u1_63 := Lib.hid ((bb.block p1_0 (box_lt Z1_0u1_62.out)).trans Z1_0u1_62.out)
   clear bb
   (first | refine hK.out _ _ ?_ (fun hHeld => ?_) | (go_wp2_with fail; refine hK.out _ _ ?_ (fun hHeld => ?_)))
   · try dsimp only
     exact KS.out _ Du1_63.out
   clear hK K
   try simp only [Act.put, sa, sb, sc]
   refine wpAnyH_take (i := 5) (v := ?_) (by (simp only [ea, eb, ec]); (try exact rfl)) (by kernel_rfl) (by kernel_rfl) (by kernel_rfl) (by intro _ _ _ h; exact h) (Or.inl ⟨by rfl, ?_⟩) (by assumption) ?_
   rotate_left
   · intro w hSw
     try dsimp only at hSw
     go_simp
     try with_reducible rfl
   try simp only [Act.put, sa, sb, sc]
   refine wpAnyH_take (i := 6) (v := ?_) (by (simp only [ea, eb, ec]); (try exact rfl)) (by kernel_rfl) (by kernel_rfl) (by kernel_rfl) (by intro _ _ _ h; exact h) (Or.inl ⟨by rfl, ?_⟩) (by assumption) ?_
   rotate_left
   · intro w hSw
     try dsimp only at hSw
     go_simp
     try with_reducible rfl
   try simp only [Act.put, sa, sb, sc]
   refine wpAnyH_take (i := 7) (v := ?_) (by (simp only [ea, eb, ec]); (try exact rfl)) (by kernel_rfl) (by kernel_rfl) (by kernel_rfl) (by intro _ _ _ h; exact h) (Or.inl ⟨by rfl, ?_⟩) (by assumption) ?_
   rotate_left
   · intro w hSw
     try dsimp only at hSw
     go_simp
     try with_reducible rfl
   try simp only [Act.put, sa, sb, sc]
   refine wpAnyH_take (i := 8) (v := ?_) (by (simp only [ea, eb, ec]); (try exact rfl)) (by kernel_rfl) (by kernel_rfl) (by kernel_rfl) (by intro _ _ _ h; exact h) (Or.inl ⟨by rfl, ?_⟩) (by assumption) ?_
   rotate_left
   · intro w hSw
     try dsimp only at hSw
     go_simp
     try with_reducible rfl
   try simp only [Act.put, sa, sb, sc]
   refine wpAnyH_ready (rs := [10]) (by kernel_rfl) (by simp) ?_
   refine (AllReadyH.cons (by (simp only [ea, eb, ec]); (try exact rfl)) (fun K hK => ?_) AllReadyH.nil)
   go_simp
   generalize hA : World.alloc u1_63 (.cells #[.int .i64 0, .int .i64 0, .int .i64 0] 31) = a1_64
   obtain ⟨p1_1, hp⟩ : ∃ p, p = u1_63.heap.size := ⟨_, rfl⟩
   have ba : Below u1_63.heap.size u1_63 a1_64 := by rw [← hA]; exact Below.alloc (Below.refl _ _) (Nat.le_refl _) _
   have Z1_1a1_64 := Lib.hid (show a1_64.heap[p1_1]? = some (.cells #[.int .i64 0, .int .i64 0, .int .i64 0] 31 (0, 0)) from by rw [← hA, hp]; exact heap_alloc_new _ _)
   have tp1_1 : wq.heap.size ≤ p1_1 := by rw [hp]; exact Du1_63.out.size
   have n1_0_1_1 : p1_0 ≠ p1_1 := by have hh := box_lt Z1_0u1_63.out; rw [hp]; intro e; rw [e] at hh; exact Nat.lt_irrefl _ hh
   have Da1_64 : Hid (Below wq.heap.size wq a1_64) := Below.trans Du1_63.out (ba.mono Du1_63.out.size)
   have Z1_0a1_64 := Lib.hid ((ba.block p1_0 (box_lt Z1_0u1_63.out)).trans Z1_0u1_63.out)
   rw [← hp]
   clear hA hp ba
   refine hK.out _ _ ?_ (fun hHeld => ?_)
   · try dsimp only
     exact KS.out _ Da1_64.out
   clear hK K
   try simp only [Act.put, sa, sb, sc]
   refine wpAnyH_ready (rs := [11]) (by kernel_rfl) (by simp) ?_
   refine AllReadyH.cons (by (simp only [ea, eb, ec]); (try exact rfl)) (fun K hK => ?_) AllReadyH.nil
   refine step_store_Co rfl _ _ rfl p1_0 (⟨0, 0, 0⟩ : Co) r0 _ rfl rfl Z1_0a1_64.out ?_
   intro e1_65 hE oE bE
   have De1_65 : Hid (Below wq.heap.size wq e1_65) := Below.trans Da1_64.out (bE.mono tp1_0)
   have Z1_0e1_65 := Lib.hid hE
   have Z1_1e1_65 := Lib.hid ((oE p1_1 (by first | assumption | exact Ne.symm (by assumption))).trans Z1_1a1_64.out)
   clear hE oE bE
   refine hK.out _ _ ?_ (fun hHeld => ?_)
   · try dsimp only
     exact KS.out _ De1_65.out
   clear hK K
   try simp only [Act.put, sa, sb, sc]
   refine wpAnyH_ready (rs := [12]) (by kernel_rfl) (by simp) ?_
   refine AllReadyH.cons (by (simp only [ea, eb, ec]); (try exact rfl)) (fun K hK => ?_) AllReadyH.nil
   refine step_store_Co rfl _ _ rfl p1_1 (⟨0, 0, 0⟩ : Co) r1 _ rfl rfl Z1_1e1_65.out ?_
   intro e1_66 hE oE bE
   have De1_66 : Hid (Below wq.heap.size wq e1_66) := Below.trans De1_65.out (bE.mono tp1_1)
   have Z1_1e1_66 := Lib.hid hE
   have Z1_0e1_66 := Lib.hid ((oE p1_0 (by first | assumption | exact Ne.symm (by assumption))).trans Z1_0e1_65.out)
   clear hE oE bE
   refine hK.out _ _ ?_ (fun hHeld => ?_)
   · try dsimp only
     exact KS.out _ De1_66.out
   clear hK K
   try simp only [Act.put, sa, sb, sc]
   refine wpAnyH_take (i := 13) (v := ?_) (by (simp only [ea, eb, ec]); (try exact rfl)) (by kernel_rfl) (by kernel_rfl) (by kernel_rfl) (by intro _ _ _ h; exact h) (Or.inl ⟨by rfl, ?_⟩) (by assumption) ?_
   rotate_left
   · intro w hSw
     try dsimp only at hSw
     go_simp
     try with_reducible rfl
   try simp only [Act.put, sa, sb, sc]
   refine wpAnyH_done (by kernel_rfl) ?_ _
   go_wp2_with fail
   go_meet
   exact ⟨p1_0, p1_1, rfl, rfl, rfl, De1_66, Z1_0e1_66, Z1_1e1_66⟩
   go_simp
   generalize hA : World.alloc u1_62 (.cells #[.int .i64 0, .int .i64 0, .int .i64 0] 31) = a1_67
   obtain ⟨p1_1, hp⟩ : ∃ p, p = u1_62.heap.size := ⟨_, rfl⟩
   have ba : Below u1_62.heap.size u1_62 a1_67 := by rw [← hA]; exact Below.alloc (Below.refl _ _) (Nat.le_refl _) _
   have Z1_1a1_67 := Lib.hid (show a1_67.heap[p1_1]? = some (.cells #[.int .i64 0, .int .i64 0, .int .i64 0] 31 (0, 0)) from by rw [← hA, hp]; exact heap_alloc_new _ _)
   have tp1_1 : wq.heap.size ≤ p1_1 := by rw [hp]; exact Du1_62.out.size
   have n1_0_1_1 : p1_0 ≠ p1_1 := by have hh := box_lt Z1_0u1_62.out; rw [hp]; intro e; rw [e] at hh; exact Nat.lt_irrefl _ hh
   have Da1_67 : Hid (Below wq.heap.size wq a1_67) := Below.trans Du1_62.out (ba.mono Du1_62.out.size)
   have Z1_0a1_67 := Lib.hid ((ba.block p1_0 (box_lt Z1_0u1_62.out)).trans Z1_0u1_62.out)
   rw [← hp]
   clear hA hp ba
   refine hK.out _ _ ?_ (fun hHeld => ?_)
   · try dsimp only
     exact KS.out _ Da1_67.out
   clear hK K
   try simp only [Act.put, sa, sb, sc]
   refine wpAnyH_ready (rs := [4]) (by kernel_rfl) (by simp) ?_
   refine (AllReadyH.cons (by (simp only [ea, eb, ec]); (try exact rfl)) (fun K hK => ?_) AllReadyH.nil)
   go_simp
   go_at_call 34
   refine (c1.out _ (HT.out _ (BQ.out.trans (Da1_67.out.mono (BQ.out.size))))).mono ?_
   rintro e u1_68 ⟨rfl, bb⟩
   have Du1_68 : Hid (Below wq.heap.size wq u1_68) := Below.trans Da1_67.out (bb.mono Da1_67.out.size)
   have Z1_0u1_68 := Lib.hid ((bb.block p1_0 (box_lt Z1_0a1_67.out)).trans Z1_0a1_67.out)
   have Z1_1u1_68 := Lib.hid ((bb.block p1_1 (box_lt Z1_1a1_67.out)).trans Z1_1a1_67.out)
   clear bb
   (first | refine hK.out _ _ ?_ (fun hHeld => ?_) | (go_wp2_with fail; refine hK.out _ _ ?_ (fun hHeld => ?_)))
   · try dsimp only
     exact KS.out _ Du1_68.out
   clear hK K
   try simp only [Act.put, sa, sb, sc]
   refine wpAnyH_take (i := 5) (v := ?_) (by (simp only [ea, eb, ec]); (try exact rfl)) (by kernel_rfl) (by kernel_rfl) (by kernel_rfl) (by intro _ _ _ h; exact h) (Or.inl ⟨by rfl, ?_⟩) (by assumption) ?_
   rotate_left
   · intro w hSw
     try dsimp only at hSw
     go_simp
     try with_reducible rfl
   try simp only [Act.put, sa, sb, sc]
   refine wpAnyH_take (i := 6) (v := ?_) (by (simp only [ea, eb, ec]); (try exact rfl)) (by kernel_rfl) (by kernel_rfl) (by kernel_rfl) (by intro _ _ _ h; exact h) (Or.inl ⟨by rfl, ?_⟩) (by assumption) ?_
   rotate_left
   · intro w hSw
     try dsimp only at hSw
     go_simp
     try with_reducible rfl
   try simp only [Act.put, sa, sb, sc]
   refine wpAnyH_take (i := 7) (v := ?_) (by (simp only [ea, eb, ec]); (try exact rfl)) (by kernel_rfl) (by kernel_rfl) (by kernel_rfl) (by intro _ _ _ h; exact h) (Or.inl ⟨by rfl, ?_⟩) (by assumption) ?_
   rotate_left
   · intro w hSw
     try dsimp only at hSw
     go_simp
     try with_reducible rfl
   try simp only [Act.put, sa, sb, sc]
   refine wpAnyH_take (i := 8) (v := ?_) (by (simp only [ea, eb, ec]); (try exact rfl)) (by kernel_rfl) (by kernel_rfl) (by kernel_rfl) (by intro _ _ _ h; exact h) (Or.inl ⟨by rfl, ?_⟩) (by assumption) ?_
   rotate_left
   · intro w hSw
     try dsimp only at hSw
     go_simp
     try with_reducible rfl
   try simp only [Act.put, sa, sb, sc]
   refine wpAnyH_ready (rs := [11]) (by kernel_rfl) (by simp) ?_
   refine AllReadyH.cons (by (simp only [ea, eb, ec]); (try exact rfl)) (fun K hK => ?_) AllReadyH.nil
   refine step_store_Co rfl _ _ rfl p1_0 (⟨0, 0, 0⟩ : Co) r0 _ rfl rfl Z1_0u1_68.out ?_
   intro e1_69 hE oE bE
   have De1_69 : Hid (Below wq.heap.size wq e1_69) := Below.trans Du1_68.out (bE.mono tp1_0)
   have Z1_0e1_69 := Lib.hid hE
   have Z1_1e1_69 := Lib.hid ((oE p1_1 (by first | assumption | exact Ne.symm (by assumption))).trans Z1_1u1_68.out)
   clear hE oE bE
   refine hK.out _ _ ?_ (fun hHeld => ?_)
   · try dsimp only
     exact KS.out _ De1_69.out
   clear hK K
   try simp only [Act.put, sa, sb, sc]
   refine wpAnyH_ready (rs := [12]) (by kernel_rfl) (by simp) ?_
   refine AllReadyH.cons (by (simp only [ea, eb, ec]); (try exact rfl)) (fun K hK => ?_) AllReadyH.nil
   refine step_store_Co rfl _ _ rfl p1_1 (⟨0, 0, 0⟩ : Co) r1 _ rfl rfl Z1_1e1_69.out ?_
   intro e1_70 hE oE bE
   have De1_70 : Hid (Below wq.heap.size wq e1_70) := Below.trans De1_69.out (bE.mono tp1_1)
   have Z1_1e1_70 := Lib.hid hE
   have Z1_0e1_70 := Lib.hid ((oE p1_0 (by first | assumption | exact Ne.symm (by assumption))).trans Z1_0e1_69.out)
   clear hE oE bE
   refine hK.out _ _ ?_ (fun hHeld => ?_)
   · try dsimp only
     exact KS.out _ De1_70.out
   clear hK K
   try simp only [Act.put, sa, sb, sc]
   refine wpAnyH_take (i := 13) (v := ?_) (by (simp only [ea, eb, ec]); (try exact rfl)) (by kernel_rfl) (by kernel_rfl) (by kernel_rfl) (by intro _ _ _ h; exact h) (Or.inl ⟨by rfl, ?_⟩) (by assumption) ?_
   rotate_left
   · intro w hSw
     try dsimp only at hSw
     go_simp
     try with_reducible rfl
   try simp only [Act.put, sa, sb, sc]
   refine wpAnyH_done (by kernel_rfl) ?_ _
   go_wp2_with fail
   go_meet
   exact ⟨p1_0, p1_1, rfl, rfl, rfl, De1_70, Z1_0e1_70, Z1_1e1_70⟩
   go_simp
   generalize hA : World.alloc u1_61 (.cells #[.int .i64 0, .int .i64 0, .int .i64 0] 31) = a1_71
   obtain ⟨p1_1, hp⟩ : ∃ p, p = u1_61.heap.size := ⟨_, rfl⟩
   have ba : Below u1_61.heap.size u1_61 a1_71 := by rw [← hA]; exact Below.alloc (Below.refl _ _) (Nat.le_refl _) _
   have Z1_1a1_71 := Lib.hid (show a1_71.heap[p1_1]? = some (.cells #[.int .i64 0, .int .i64 0, .int .i64 0] 31 (0, 0)) from by rw [← hA, hp]; exact heap_alloc_new _ _)
   have tp1_1 : wq.heap.size ≤ p1_1 := by rw [hp]; exact Du1_61.out.size
   have n1_0_1_1 : p1_0 ≠ p1_1 := by have hh := box_lt Z1_0u1_61.out; rw [hp]; intro e; rw [e] at hh; exact Nat.lt_irrefl _ hh
   have Da1_71 : Hid (Below wq.heap.size wq a1_71) := Below.trans Du1_61.out (ba.mono Du1_61.out.size)
   have Z1_0a1_71 := Lib.hid ((ba.block p1_0 (box_lt Z1_0u1_61.out)).trans Z1_0u1_61.out)
   rw [← hp]
   clear hA hp ba
   refine hK.out _ _ ?_ (fun hHeld => ?_)
   · try dsimp only
     exact KS.out _ Da1_71.out
   clear hK K
   try simp only [Act.put, sa, sb, sc]
   refine wpAnyH_ready (rs := [3]) (by kernel_rfl) (by simp) ?_
   refine (AllReadyH.cons (by (simp only [ea, eb, ec]); (try exact rfl)) (fun K hK => ?_) AllReadyH.nil)
   go_simp
   go_at_call 35
   refine (toPose_blw q1 _).mono ?_
   rintro e u1_72 ⟨rfl, bb⟩
   have Du1_72 : Hid (Below wq.heap.size wq u1_72) := Below.trans Da1_71.out (bb.mono Da1_71.out.size)
   have Z1_0u1_72 := Lib.hid ((bb.block p1_0 (box_lt Z1_0a1_71.out)).trans Z1_0a1_71.out)
   have Z1_1u1_72 := Lib.hid ((bb.block p1_1 (box_lt Z1_1a1_71.out)).trans Z1_1a1_71.out)
   clear bb
   (first | refine hK.out _ _ ?_ (fun hHeld => ?_) | (go_wp2_with fail; refine hK.out _ _ ?_ (fun hHeld => ?_)))
   · try dsimp only
     exact KS.out _ Du1_72.out
   clear hK K
   try simp only [Act.put, sa, sb, sc]
   refine wpAnyH_ready (rs := [4]) (by kernel_rfl) (by simp) ?_
   refine (AllReadyH.cons (by (simp only [ea, eb, ec]); (try exact rfl)) (fun K hK => ?_) AllReadyH.nil)
   go_simp
   go_at_call 34
   refine (c1.out _ (HT.out _ (BQ.out.trans (Du1_72.out.mono (BQ.out.size))))).mono ?_
   rintro e u1_73 ⟨rfl, bb⟩
   have Du1_73 : Hid (Below wq.heap.size wq u1_73) := Below.trans Du1_72.out (bb.mono Du1_72.out.size)
   have Z1_0u1_73 := Lib.hid ((bb.block p1_0 (box_lt Z1_0u1_72.out)).trans Z1_0u1_72.out)
   have Z1_1u1_73 := Lib.hid ((bb.block p1_1 (box_lt Z1_1u1_72.out)).trans Z1_1u1_72.out)
   clear bb
   (first | refine hK.out _ _ ?_ (fun hHeld => ?_) | (go_wp2_with fail; refine hK.out _ _ ?_ (fun hHeld => ?_)))
   · try dsimp only
     exact KS.out _ Du1_73.out
   clear hK K
   try simp only [Act.put, sa, sb, sc]
   refine wpAnyH_take (i := 5) (v := ?_) (by (simp only [ea, eb, ec]); (try exact rfl)) (by kernel_rfl) (by kernel_rfl) (by kernel_rfl) (by intro _ _ _ h; exact h) (Or.inl ⟨by rfl, ?_⟩) (by assumption) ?_
   rotate_left
   · intro w hSw
     try dsimp only at hSw
     go_simp
     try with_reducible rfl
   try simp only [Act.put, sa, sb, sc]
   refine wpAnyH_take (i := 6) (v := ?_) (by (simp only [ea, eb, ec]); (try exact rfl)) (by kernel_rfl) (by kernel_rfl) (by kernel_rfl) (by intro _ _ _ h; exact h) (Or.inl ⟨by rfl, ?_⟩) (by assumption) ?_
   rotate_left
   · intro w hSw
     try dsimp only at hSw
     go_simp
     try with_reducible rfl
   try simp only [Act.put, sa, sb, sc]
   refine wpAnyH_take (i := 7) (v := ?_) (by (simp only [ea, eb, ec]); (try exact rfl)) (by kernel_rfl) (by kernel_rfl) (by kernel_rfl) (by intro _ _ _ h; exact h) (Or.inl ⟨by rfl, ?_⟩) (by assumption) ?_
   rotate_left
   · intro w hSw
     try dsimp only at hSw
     go_simp
     try with_reducible rfl
   try simp only [Act.put, sa, sb, sc]
   refine wpAnyH_take (i := 8) (v := ?_) (by (simp only [ea, eb, ec]); (try exact rfl)) (by kernel_rfl) (by kernel_rfl) (by kernel_rfl) (by intro _ _ _ h; exact h) (Or.inl ⟨by rfl, ?_⟩) (by assumption) ?_
   rotate_left
   · intro w hSw
     try dsimp only at hSw
     go_simp
     try with_reducible rfl
   try simp only [Act.put, sa, sb, sc]
   refine wpAnyH_ready (rs := [11]) (by kernel_rfl) (by simp) ?_
   refine AllReadyH.cons (by (simp only [ea, eb, ec]); (try exact rfl)) (fun K hK => ?_) AllReadyH.nil
   refine step_store_Co rfl _ _ rfl p1_0 (⟨0, 0, 0⟩ : Co) r0 _ rfl rfl Z1_0u1_73.out ?_
   intro e1_74 hE oE bE
   have De1_74 : Hid (Below wq.heap.size wq e1_74) := Below.trans Du1_73.out (bE.mono tp1_0)
   have Z1_0e1_74 := Lib.hid hE
   have Z1_1e1_74 := Lib.hid ((oE p1_1 (by first | assumption | exact Ne.symm (by assumption))).trans Z1_1u1_73.out)
   clear hE oE bE
   refine hK.out _ _ ?_ (fun hHeld => ?_)
   · try dsimp only
     exact KS.out _ De1_74.out
   clear hK K
   try simp only [Act.put, sa, sb, sc]
   refine wpAnyH_ready (rs := [12]) (by kernel_rfl) (by simp) ?_
   refine AllReadyH.cons (by (simp only [ea, eb, ec]); (try exact rfl)) (fun K hK => ?_) AllReadyH.nil
   refine step_store_Co rfl _ _ rfl p1_1 (⟨0, 0, 0⟩ : Co) r1 _ rfl rfl Z1_1e1_74.out ?_
   intro e1_75 hE oE bE
   have De1_75 : Hid (Below wq.heap.size wq e1_75) := Below.trans De1_74.out (bE.mono tp1_1)
   have Z1_1e1_75 := Lib.hid hE
   have Z1_0e1_75 := Lib.hid ((oE p1_0 (by first | assumption | exact Ne.symm (by assumption))).trans Z1_0e1_74.out)
   clear hE oE bE
   refine hK.out _ _ ?_ (fun hHeld => ?_)
   · try dsimp only
     exact KS.out _ De1_75.out
   clear hK K
   try simp only [Act.put, sa, sb, sc]
   refine wpAnyH_take (i := 13) (v := ?_) (by (simp only [ea, eb, ec]); (try exact rfl)) (by kernel_rfl) (by kernel_rfl) (by kernel_rfl) (by intro _ _ _ h; exact h) (Or.inl ⟨by rfl, ?_⟩) (by assumption) ?_
   rotate_left
   · intro w hSw
     try dsimp only at hSw
     go_simp
     try with_reducible rfl
   try simp only [Act.put, sa, sb, sc]
   refine wpAnyH_done (by kernel_rfl) ?_ _
   go_wp2_with fail
   go_meet
   exact ⟨p1_0, p1_1, rfl, rfl, rfl, De1_75, Z1_0e1_75, Z1_1e1_75⟩
   go_simp
   generalize hA : World.alloc a1_60 (.cells #[.int .i64 0, .int .i64 0, .int .i64 0] 31) = a1_76
   obtain ⟨p1_1, hp⟩ : ∃ p, p = a1_60.heap.size := ⟨_, rfl⟩
   have ba : Below a1_60.heap.size a1_60 a1_76 := by rw [← hA]; exact Below.alloc (Below.refl _ _) (Nat.le_refl _) _
   have Z1_1a1_76 := Lib.hid (show a1_76.heap[p1_1]? = some (.cells #[.int .i64 0, .int .i64 0, .int .i64 0] 31 (0, 0)) from by rw [← hA, hp]; exact heap_alloc_new _ _)
   have tp1_1 : wq.heap.size ≤ p1_1 := by rw [hp]; exact Da1_60.out.size
   have n1_0_1_1 : p1_0 ≠ p1_1 := by have hh := box_lt Z1_0a1_60.out; rw [hp]; intro e; rw [e] at hh; exact Nat.lt_irrefl _ hh
   have Da1_76 : Hid (Below wq.heap.size wq a1_76) := Below.trans Da1_60.out (ba.mono Da1_60.out.size)
   have Z1_0a1_76 := Lib.hid ((ba.block p1_0 (box_lt Z1_0a1_60.out)).trans Z1_0a1_60.out)
   rw [← hp]
   clear hA hp ba
   refine hK.out _ _ ?_ (fun hHeld => ?_)
   · try dsimp only
     exact KS.out _ Da1_76.out
   clear hK K
   try simp only [Act.put, sa, sb, sc]
   refine wpAnyH_ready (rs := [1]) (by kernel_rfl) (by simp) ?_
   refine (AllReadyH.cons (by (simp only [ea, eb, ec]); (try exact rfl)) (fun K hK => ?_) AllReadyH.nil)
   go_simp
   go_at_call 35
   refine (toPose_blw q0 _).mono ?_
   rintro e u1_77 ⟨rfl, bb⟩
   have Du1_77 : Hid (Below wq.heap.size wq u1_77) := Below.trans Da1_76.out (bb.mono Da1_76.out.size)
   have Z1_0u1_77 := Lib.hid ((bb.block p1_0 (box_lt Z1_0a1_76.out)).trans Z1_0a1_76.out)
   have Z1_1u1_77 := Lib.hid ((bb.block p1_1 (box_lt Z1_1a1_76.out)).trans Z1_1a1_76.out)
   clear bb
   (first | refine hK.out _ _ ?_ (fun hHeld => ?_) | (go_wp2_with fail; refine hK.out _ _ ?_ (fun hHeld => ?_)))
   · try dsimp only
     exact KS.out _ Du1_77.out
   clear hK K
   try simp only [Act.put, sa, sb, sc]
   refine wpAnyH_ready (rs := [3]) (by kernel_rfl) (by simp) ?_
   refine (AllReadyH.cons (by (simp only [ea, eb, ec]); (try exact rfl)) (fun K hK => ?_) AllReadyH.nil)
   go_simp
   go_at_call 35
   refine (toPose_blw q1 _).mono ?_
   rintro e u1_78 ⟨rfl, bb⟩
   have Du1_78 : Hid (Below wq.heap.size wq u1_78) := Below.trans Du1_77.out (bb.mono Du1_77.out.size)
   have Z1_0u1_78 := Lib.hid ((bb.block p1_0 (box_lt Z1_0u1_77.out)).trans Z1_0u1_77.out)
   have Z1_1u1_78 := Lib.hid ((bb.block p1_1 (box_lt Z1_1u1_77.out)).trans Z1_1u1_77.out)
   clear bb
   (first | refine hK.out _ _ ?_ (fun hHeld => ?_) | (go_wp2_with fail; refine hK.out _ _ ?_ (fun hHeld => ?_)))
   · try dsimp only
     exact KS.out _ Du1_78.out
   clear hK K
   try simp only [Act.put, sa, sb, sc]
   refine wpAnyH_ready (rs := [4]) (by kernel_rfl) (by simp) ?_
   refine (AllReadyH.cons (by (simp only [ea, eb, ec]); (try exact rfl)) (fun K hK => ?_) AllReadyH.nil)
   go_simp
   go_at_call 34
   refine (c1.out _ (HT.out _ (BQ.out.trans (Du1_78.out.mono (BQ.out.size))))).mono ?_
   rintro e u1_79 ⟨rfl, bb⟩
   have Du1_79 : Hid (Below wq.heap.size wq u1_79) := Below.trans Du1_78.out (bb.mono Du1_78.out.size)
   have Z1_0u1_79 := Lib.hid ((bb.block p1_0 (box_lt Z1_0u1_78.out)).trans Z1_0u1_78.out)
   have Z1_1u1_79 := Lib.hid ((bb.block p1_1 (box_lt Z1_1u1_78.out)).trans Z1_1u1_78.out)
   clear bb
   (first | refine hK.out _ _ ?_ (fun hHeld => ?_) | (go_wp2_with fail; refine hK.out _ _ ?_ (fun hHeld => ?_)))
   · try dsimp only
     exact KS.out _ Du1_79.out
   clear hK K
   try simp only [Act.put, sa, sb, sc]
   refine wpAnyH_take (i := 5) (v := ?_) (by (simp only [ea, eb, ec]); (try exact rfl)) (by kernel_rfl) (by kernel_rfl) (by kernel_rfl) (by intro _ _ _ h; exact h) (Or.inl ⟨by rfl, ?_⟩) (by assumption) ?_
   rotate_left
   · intro w hSw
     try dsimp only at hSw
     go_simp
     try with_reducible rfl
   try simp only [Act.put, sa, sb, sc]
   refine wpAnyH_take (i := 6) (v := ?_) (by (simp only [ea, eb, ec]); (try exact rfl)) (by kernel_rfl) (by kernel_rfl) (by kernel_rfl) (by intro _ _ _ h; exact h) (Or.inl ⟨by rfl, ?_⟩) (by assumption) ?_
   rotate_left
   · intro w hSw
     try dsimp only at hSw
     go_simp
     try with_reducible rfl
   try simp only [Act.put, sa, sb, sc]
   refine wpAnyH_take (i := 7) (v := ?_) (by (simp only [ea, eb, ec]); (try exact rfl)) (by kernel_rfl) (by kernel_rfl) (by kernel_rfl) (by intro _ _ _ h; exact h) (Or.inl ⟨by rfl, ?_⟩) (by assumption) ?_
   rotate_left
   · intro w hSw
     try dsimp only at hSw
     go_simp
     try with_reducible rfl
   try simp only [Act.put, sa, sb, sc]
   refine wpAnyH_take (i := 8) (v := ?_) (by (simp only [ea, eb, ec]); (try exact rfl)) (by kernel_rfl) (by kernel_rfl) (by kernel_rfl) (by intro _ _ _ h; exact h) (Or.inl ⟨by rfl, ?_⟩) (by assumption) ?_
   rotate_left
   · intro w hSw
     try dsimp only at hSw
     go_simp
     try with_reducible rfl
   try simp only [Act.put, sa, sb, sc]
   refine wpAnyH_ready (rs := [11]) (by kernel_rfl) (by simp) ?_
   refine AllReadyH.cons (by (simp only [ea, eb, ec]); (try exact rfl)) (fun K hK => ?_) AllReadyH.nil
   refine step_store_Co rfl _ _ rfl p1_0 (⟨0, 0, 0⟩ : Co) r0 _ rfl rfl Z1_0u1_79.out ?_
   intro e1_80 hE oE bE
   have De1_80 : Hid (Below wq.heap.size wq e1_80) := Below.trans Du1_79.out (bE.mono tp1_0)
   have Z1_0e1_80 := Lib.hid hE
   have Z1_1e1_80 := Lib.hid ((oE p1_1 (by first | assumption | exact Ne.symm (by assumption))).trans Z1_1u1_79.out)
   clear hE oE bE
   refine hK.out _ _ ?_ (fun hHeld => ?_)
   · try dsimp only
     exact KS.out _ De1_80.out
   clear hK K
   try simp only [Act.put, sa, sb, sc]
   refine wpAnyH_ready (rs := [12]) (by kernel_rfl) (by simp) ?_
   refine AllReadyH.cons (by (simp only [ea, eb, ec]); (try exact rfl)) (fun K hK => ?_) AllReadyH.nil
   refine step_store_Co rfl _ _ rfl p1_1 (⟨0, 0, 0⟩ : Co) r1 _ rfl rfl Z1_1e1_80.out ?_
   intro e1_81 hE oE bE
   have De1_81 : Hid (Below wq.heap.size wq e1_81) := Below.trans De1_80.out (bE.mono tp1_1)
   have Z1_1e1_81 := Lib.hid hE
   have Z1_0e1_81 := Lib.hid ((oE p1_0 (by first | assumption | exact Ne.symm (by assumption))).trans Z1_0e1_80.out)
   clear hE oE bE
   refine hK.out _ _ ?_ (fun hHeld => ?_)
   · try dsimp only
     exact KS.out _ De1_81.out
   clear hK K
   try simp only [Act.put, sa, sb, sc]
   refine wpAnyH_take (i := 13) (v := ?_) (by (simp only [ea, eb, ec]); (try exact rfl)) (by kernel_rfl) (by kernel_rfl) (by kernel_rfl) (by intro _ _ _ h; exact h) (Or.inl ⟨by rfl, ?_⟩) (by assumption) ?_
   rotate_left
   · intro w hSw
     try dsimp only at hSw
     go_simp
     try with_reducible rfl
   try simp only [Act.put, sa, sb, sc]
   refine wpAnyH_done (by kernel_rfl) ?_ _
   go_wp2_with fail
   go_meet
   exact ⟨p1_0, p1_1, rfl, rfl, rfl, De1_81, Z1_0e1_81, Z1_1e1_81⟩
   go_simp
   generalize hA : World.drew (World.alloc wq (.cells #[.int .i64 0, .int .i64 0, .int .i64 0] 31)) = a1_82
   obtain ⟨p1_1, hp⟩ : ∃ p, p = wq.heap.size := ⟨_, rfl⟩
   have ba : Below (World.drew wq).heap.size (World.drew wq) a1_82 := by rw [← hA]; exact (Below.alloc (Below.refl _ _) (Nat.le_refl _) _ : Below _ (World.drew wq) (World.alloc (World.drew wq) _))
   have Z1_1a1_82 := Lib.hid (show a1_82.heap[p1_1]? = some (.cells #[.int .i64 0, .int .i64 0, .int .i64 0] 31 (0, 0)) from by rw [← hA, hp]; exact heap_alloc_new wq _)
   have tp1_1 : wq.heap.size ≤ p1_1 := by rw [hp]; exact Nat.le_refl _
   have Da1_82 : Hid (Below wq.heap.size wq a1_82) := Below.trans D0.out (ba.mono D0.out.size)
   rw [← hp]
   clear hA hp ba
   refine hK.out _ _ ?_ (fun hHeld => ?_)
   · try dsimp only
     exact KS.out _ Da1_82.out
   clear hK K
   try simp only [Act.put, sa, sb, sc]
   refine wpAnyH_ready (rs := [1, 9]) (by kernel_rfl) (by simp) ?_
   refine (AllReadyH.cons (by (simp only [ea, eb, ec]); (try exact rfl)) (fun K hK => ?_) (AllReadyH.cons (by (simp only [ea, eb, ec]); (try exact rfl)) (fun K hK => ?_) AllReadyH.nil))
   go_simp
   go_at_call 35
   refine (toPose_blw q0 _).mono ?_
   rintro e u1_83 ⟨rfl, bb⟩
   have Du1_83 : Hid (Below wq.heap.size wq u1_83) := Below.trans Da1_82.out (bb.mono Da1_82.out.size)
   have Z1_1u1_83 := Lib.hid ((bb.block p1_1 (box_lt Z1_1a1_82.out)).trans Z1_1a1_82.out)
   clear bb
   (first | refine hK.out _ _ ?_ (fun hHeld => ?_) | (go_wp2_with fail; refine hK.out _ _ ?_ (fun hHeld => ?_)))
   · try dsimp only
     exact KS.out _ Du1_83.out
   clear hK K
   try simp only [Act.put, sa, sb, sc]
   refine wpAnyH_ready (rs := [3, 9]) (by kernel_rfl) (by simp) ?_
   refine (AllReadyH.cons (by (simp only [ea, eb, ec]); (try exact rfl)) (fun K hK => ?_) (AllReadyH.cons (by (simp only [ea, eb, ec]); (try exact rfl)) (fun K hK => ?_) AllReadyH.nil))
   go_simp
   go_at_call 35
   refine (toPose_blw q1 _).mono ?_
   rintro e u1_84 ⟨rfl, bb⟩
   have Du1_84 : Hid (Below wq.heap.size wq u1_84) := Below.trans Du1_83.out (bb.mono Du1_83.out.size)
   have Z1_1u1_84 := Lib.hid ((bb.block p1_1 (box_lt Z1_1u1_83.out)).trans Z1_1u1_83.out)
   clear bb
   (first | refine hK.out _ _ ?_ (fun hHeld => ?_) | (go_wp2_with fail; refine hK.out _ _ ?_ (fun hHeld => ?_)))
   · try dsimp only
     exact KS.out _ Du1_84.out
   clear hK K
   try simp only [Act.put, sa, sb, sc]
   refine wpAnyH_ready (rs := [4, 9]) (by kernel_rfl) (by simp) ?_
   refine (AllReadyH.cons (by (simp only [ea, eb, ec]); (try exact rfl)) (fun K hK => ?_) (AllReadyH.cons (by (simp only [ea, eb, ec]); (try exact rfl)) (fun K hK => ?_) AllReadyH.nil))
   go_simp
   go_at_call 34
   refine (c1.out _ (HT.out _ (BQ.out.trans (Du1_84.out.mono (BQ.out.size))))).mono ?_
   rintro e u1_85 ⟨rfl, bb⟩
   have Du1_85 : Hid (Below wq.heap.size wq u1_85) := Below.trans Du1_84.out (bb.mono Du1_84.out.size)
   have Z1_1u1_85 := Lib.hid ((bb.block p1_1 (box_lt Z1_1u1_84.out)).trans Z1_1u1_84.out)
   clear bb
   (first | refine hK.out _ _ ?_ (fun hHeld => ?_) | (go_wp2_with fail; refine hK.out _ _ ?_ (fun hHeld => ?_)))
   · try dsimp only
     exact KS.out _ Du1_85.out
   clear hK K
   try simp only [Act.put, sa, sb, sc]
   refine wpAnyH_take (i := 5) (v := ?_) (by (simp only [ea, eb, ec]); (try exact rfl)) (by kernel_rfl) (by kernel_rfl) (by kernel_rfl) (by intro _ _ _ h; exact h) (Or.inl ⟨by rfl, ?_⟩) (by assumption) ?_
   rotate_left
   · intro w hSw
     try dsimp only at hSw
     go_simp
     try with_reducible rfl
   try simp only [Act.put, sa, sb, sc]
   refine wpAnyH_take (i := 6) (v := ?_) (by (simp only [ea, eb, ec]); (try exact rfl)) (by kernel_rfl) (by kernel_rfl) (by kernel_rfl) (by intro _ _ _ h; exact h) (Or.inl ⟨by rfl, ?_⟩) (by assumption) ?_
   rotate_left
   · intro w hSw
     try dsimp only at hSw
     go_simp
     try with_reducible rfl
   try simp only [Act.put, sa, sb, sc]
   refine wpAnyH_take (i := 7) (v := ?_) (by (simp only [ea, eb, ec]); (try exact rfl)) (by kernel_rfl) (by kernel_rfl) (by kernel_rfl) (by intro _ _ _ h; exact h) (Or.inl ⟨by rfl, ?_⟩) (by assumption) ?_
   rotate_left
   · intro w hSw
     try dsimp only at hSw
     go_simp
     try with_reducible rfl
   try simp only [Act.put, sa, sb, sc]
   refine wpAnyH_take (i := 8) (v := ?_) (by (simp only [ea, eb, ec]); (try exact rfl)) (by kernel_rfl) (by kernel_rfl) (by kernel_rfl) (by intro _ _ _ h; exact h) (Or.inl ⟨by rfl, ?_⟩) (by assumption) ?_
   rotate_left
   · intro w hSw
     try dsimp only at hSw
     go_simp
     try with_reducible rfl
   try simp only [Act.put, sa, sb, sc]
   refine wpAnyH_ready (rs := [9]) (by kernel_rfl) (by simp) ?_
   refine (AllReadyH.cons (by (simp only [ea, eb, ec]); (try exact rfl)) (fun K hK => ?_) AllReadyH.nil)
   go_simp
   generalize hA : World.alloc u1_85 (.cells #[.int .i64 0, .int .i64 0, .int .i64 0] 31) = a1_86
   obtain ⟨p1_0, hp⟩ : ∃ p, p = u1_85.heap.size := ⟨_, rfl⟩
   have ba : Below u1_85.heap.size u1_85 a1_86 := by rw [← hA]; exact Below.alloc (Below.refl _ _) (Nat.le_refl _) _
   have Z1_0a1_86 := Lib.hid (show a1_86.heap[p1_0]? = some (.cells #[.int .i64 0, .int .i64 0, .int .i64 0] 31 (0, 0)) from by rw [← hA, hp]; exact heap_alloc_new _ _)
   have tp1_0 : wq.heap.size ≤ p1_0 := by rw [hp]; exact Du1_85.out.size
   have n1_1_1_0 : p1_1 ≠ p1_0 := by have hh := box_lt Z1_1u1_85.out; rw [hp]; intro e; rw [e] at hh; exact Nat.lt_irrefl _ hh
   have Da1_86 : Hid (Below wq.heap.size wq a1_86) := Below.trans Du1_85.out (ba.mono Du1_85.out.size)
   have Z1_1a1_86 := Lib.hid ((ba.block p1_1 (box_lt Z1_1u1_85.out)).trans Z1_1u1_85.out)
   rw [← hp]
   clear hA hp ba
   refine hK.out _ _ ?_ (fun hHeld => ?_)
   · try dsimp only
     exact KS.out _ Da1_86.out
   clear hK K
   try simp only [Act.put, sa, sb, sc]
   refine wpAnyH_ready (rs := [11]) (by kernel_rfl) (by simp) ?_
   refine AllReadyH.cons (by (simp only [ea, eb, ec]); (try exact rfl)) (fun K hK => ?_) AllReadyH.nil
   refine step_store_Co rfl _ _ rfl p1_0 (⟨0, 0, 0⟩ : Co) r0 _ rfl rfl Z1_0a1_86.out ?_
   intro e1_87 hE oE bE
   have De1_87 : Hid (Below wq.heap.size wq e1_87) := Below.trans Da1_86.out (bE.mono tp1_0)
   have Z1_0e1_87 := Lib.hid hE
   have Z1_1e1_87 := Lib.hid ((oE p1_1 (by first | assumption | exact Ne.symm (by assumption))).trans Z1_1a1_86.out)
   clear hE oE bE
   refine hK.out _ _ ?_ (fun hHeld => ?_)
   · try dsimp only
     exact KS.out _ De1_87.out
   clear hK K
   try simp only [Act.put, sa, sb, sc]
   refine wpAnyH_ready (rs := [12]) (by kernel_rfl) (by simp) ?_
   refine AllReadyH.cons (by (simp only [ea, eb, ec]); (try exact rfl)) (fun K hK => ?_) AllReadyH.nil
   refine step_store_Co rfl _ _ rfl p1_1 (⟨0, 0, 0⟩ : Co) r1 _ rfl rfl Z1_1e1_87.out ?_
   intro e1_88 hE oE bE
   have De1_88 : Hid (Below wq.heap.size wq e1_88) := Below.trans De1_87.out (bE.mono tp1_1)
   have Z1_1e1_88 := Lib.hid hE
   have Z1_0e1_88 := Lib.hid ((oE p1_0 (by first | assumption | exact Ne.symm (by assumption))).trans Z1_0e1_87.out)
   clear hE oE bE
   refine hK.out _ _ ?_ (fun hHeld => ?_)
   · try dsimp only
     exact KS.out _ De1_88.out
   clear hK K
   try simp only [Act.put, sa, sb, sc]
   refine wpAnyH_take (i := 13) (v := ?_) (by (simp only [ea, eb, ec]); (try exact rfl)) (by kernel_rfl) (by kernel_rfl) (by kernel_rfl) (by intro _ _ _ h; exact h) (Or.inl ⟨by rfl, ?_⟩) (by assumption) ?_
   rotate_left
   · intro w hSw
     try dsimp only at hSw
     go_simp
     try with_reducible rfl
   try simp only [Act.put, sa, sb, sc]
   refine wpAnyH_done (by kernel_rfl) ?_ _
   go_wp2_with fail
   go_meet
   exact ⟨p1_0, p1_1, rfl, rfl, rfl, De1_88, Z1_0e1_88, Z1_1e1_88⟩
   go_simp
   generalize hA : World.alloc u1_84 (.cells #[.int .i64 0, .int .i64 0, .int .i64 0] 31) = a1_89
   obtain ⟨p1_0, hp⟩ : ∃ p, p = u1_84.heap.size := ⟨_, rfl⟩
   have ba : Below u1_84.heap.size u1_84 a1_89 := by rw [← hA]; exact Below.alloc (Below.refl _ _) (Nat.le_refl _) _
   have Z1_0a1_89 := Lib.hid (show a1_89.heap[p1_0]? = some (.cells #[.int .i64 0, .int .i64 0, .int .i64 0] 31 (0, 0)) from by rw [← hA, hp]; exact heap_alloc_new _ _)
   have tp1_0 : wq.heap.size ≤ p1_0 := by rw [hp]; exact Du1_84.out.size
   have n1_1_1_0 : p1_1 ≠ p1_0 := by have hh := box_lt Z1_1u1_84.out; rw [hp]; intro e; rw [e] at hh; exact Nat.lt_irrefl _ hh
   have Da1_89 : Hid (Below wq.heap.size wq a1_89) := Below.trans Du1_84.out (ba.mono Du1_84.out.size)
   have Z1_1a1_89 := Lib.hid ((ba.block p1_1 (box_lt Z1_1u1_84.out)).trans Z1_1u1_84.out)
   rw [← hp]
   clear hA hp ba
   refine hK.out _ _ ?_ (fun hHeld => ?_)
   · try dsimp only
     exact KS.out _ Da1_89.out
   clear hK K
   try simp only [Act.put, sa, sb, sc]
   refine wpAnyH_ready (rs := [4]) (by kernel_rfl) (by simp) ?_
   refine (AllReadyH.cons (by (simp only [ea, eb, ec]); (try exact rfl)) (fun K hK => ?_) AllReadyH.nil)
   go_simp
   go_at_call 34
   refine (c1.out _ (HT.out _ (BQ.out.trans (Da1_89.out.mono (BQ.out.size))))).mono ?_
   rintro e u1_90 ⟨rfl, bb⟩
   have Du1_90 : Hid (Below wq.heap.size wq u1_90) := Below.trans Da1_89.out (bb.mono Da1_89.out.size)
   have Z1_1u1_90 := Lib.hid ((bb.block p1_1 (box_lt Z1_1a1_89.out)).trans Z1_1a1_89.out)
   have Z1_0u1_90 := Lib.hid ((bb.block p1_0 (box_lt Z1_0a1_89.out)).trans Z1_0a1_89.out)
   clear bb
   (first | refine hK.out _ _ ?_ (fun hHeld => ?_) | (go_wp2_with fail; refine hK.out _ _ ?_ (fun hHeld => ?_)))
   · try dsimp only
     exact KS.out _ Du1_90.out
   clear hK K
   try simp only [Act.put, sa, sb, sc]
   refine wpAnyH_take (i := 5) (v := ?_) (by (simp only [ea, eb, ec]); (try exact rfl)) (by kernel_rfl) (by kernel_rfl) (by kernel_rfl) (by intro _ _ _ h; exact h) (Or.inl ⟨by rfl, ?_⟩) (by assumption) ?_
   rotate_left
   · intro w hSw
     try dsimp only at hSw
     go_simp
     try with_reducible rfl
   try simp only [Act.put, sa, sb, sc]
   refine wpAnyH_take (i := 6) (v := ?_) (by (simp only [ea, eb, ec]); (try exact rfl)) (by kernel_rfl) (by kernel_rfl) (by kernel_rfl) (by intro _ _ _ h; exact h) (Or.inl ⟨by rfl, ?_⟩) (by assumption) ?_
   rotate_left
   · intro w hSw
     try dsimp only at hSw
     go_simp
     try with_reducible rfl
   try simp only [Act.put, sa, sb, sc]
   refine wpAnyH_take (i := 7) (v := ?_) (by (simp only [ea, eb, ec]); (try exact rfl)) (by kernel_rfl) (by kernel_rfl) (by kernel_rfl) (by intro _ _ _ h; exact h) (Or.inl ⟨by rfl, ?_⟩) (by assumption) ?_
   rotate_left
   · intro w hSw
     try dsimp only at hSw
     go_simp
     try with_reducible rfl
   try simp only [Act.put, sa, sb, sc]
   refine wpAnyH_take (i := 8) (v := ?_) (by (simp only [ea, eb, ec]); (try exact rfl)) (by kernel_rfl) (by kernel_rfl) (by kernel_rfl) (by intro _ _ _ h; exact h) (Or.inl ⟨by rfl, ?_⟩) (by assumption) ?_
   rotate_left
   · intro w hSw
     try dsimp only at hSw
     go_simp
     try with_reducible rfl
   try simp only [Act.put, sa, sb, sc]
   refine wpAnyH_ready (rs := [11]) (by kernel_rfl) (by simp) ?_
   refine AllReadyH.cons (by (simp only [ea, eb, ec]); (try exact rfl)) (fun K hK => ?_) AllReadyH.nil
   refine step_store_Co rfl _ _ rfl p1_0 (⟨0, 0, 0⟩ : Co) r0 _ rfl rfl Z1_0u1_90.out ?_
   intro e1_91 hE oE bE
   have De1_91 : Hid (Below wq.heap.size wq e1_91) := Below.trans Du1_90.out (bE.mono tp1_0)
   have Z1_0e1_91 := Lib.hid hE
   have Z1_1e1_91 := Lib.hid ((oE p1_1 (by first | assumption | exact Ne.symm (by assumption))).trans Z1_1u1_90.out)
   clear hE oE bE
   refine hK.out _ _ ?_ (fun hHeld => ?_)
   · try dsimp only
     exact KS.out _ De1_91.out
   clear hK K
   try simp only [Act.put, sa, sb, sc]
   refine wpAnyH_ready (rs := [12]) (by kernel_rfl) (by simp) ?_
   refine AllReadyH.cons (by (simp only [ea, eb, ec]); (try exact rfl)) (fun K hK => ?_) AllReadyH.nil
   refine step_store_Co rfl _ _ rfl p1_1 (⟨0, 0, 0⟩ : Co) r1 _ rfl rfl Z1_1e1_91.out ?_
   intro e1_92 hE oE bE
   have De1_92 : Hid (Below wq.heap.size wq e1_92) := Below.trans De1_91.out (bE.mono tp1_1)
   have Z1_1e1_92 := Lib.hid hE
   have Z1_0e1_92 := Lib.hid ((oE p1_0 (by first | assumption | exact Ne.symm (by assumption))).trans Z1_0e1_91.out)
   clear hE oE bE
   refine hK.out _ _ ?_ (fun hHeld => ?_)
   · try dsimp only
     exact KS.out _ De1_92.out
   clear hK K
   try simp only [Act.put, sa, sb, sc]
   refine wpAnyH_take (i := 13) (v := ?_) (by (simp only [ea, eb, ec]); (try exact rfl)) (by kernel_rfl) (by kernel_rfl) (by kernel_rfl) (by intro _ _ _ h; exact h) (Or.inl ⟨by rfl, ?_⟩) (by assumption) ?_
   rotate_left
   · intro w hSw
     try dsimp only at hSw
     go_simp
     try with_reducible rfl
   try simp only [Act.put, sa, sb, sc]
   refine wpAnyH_done (by kernel_rfl) ?_ _
   go_wp2_with fail
   go_meet
   exact ⟨p1_0, p1_1, rfl, rfl, rfl, De1_92, Z1_0e1_92, Z1_1e1_92⟩
   go_simp
   generalize hA : World.alloc u1_83 (.cells #[.int .i64 0, .int .i64 0, .int .i64 0] 31) = a1_93
   obtain ⟨p1_0, hp⟩ : ∃ p, p = u1_83.heap.size := ⟨_, rfl⟩
   have ba : Below u1_83.heap.size u1_83 a1_93 := by rw [← hA]; exact Below.alloc (Below.refl _ _) (Nat.le_refl _) _
   have Z1_0a1_93 := Lib.hid (show a1_93.heap[p1_0]? = some (.cells #[.int .i64 0, .int .i64 0, .int .i64 0] 31 (0, 0)) from by rw [← hA, hp]; exact heap_alloc_new _ _)
   have tp1_0 : wq.heap.size ≤ p1_0 := by rw [hp]; exact Du1_83.out.size
   have n1_1_1_0 : p1_1 ≠ p1_0 := by have hh := box_lt Z1_1u1_83.out; rw [hp]; intro e; rw [e] at hh; exact Nat.lt_irrefl _ hh
   have Da1_93 : Hid (Below wq.heap.size wq a1_93) := Below.trans Du1_83.out (ba.mono Du1_83.out.size)
   have Z1_1a1_93 := Lib.hid ((ba.block p1_1 (box_lt Z1_1u1_83.out)).trans Z1_1u1_83.out)
   rw [← hp]
   clear hA hp ba
   refine hK.out _ _ ?_ (fun hHeld => ?_)
   · try dsimp only
     exact KS.out _ Da1_93.out
   clear hK K
   try simp only [Act.put, sa, sb, sc]
   refine wpAnyH_ready (rs := [3]) (by kernel_rfl) (by simp) ?_
   refine (AllReadyH.cons (by (simp only [ea, eb, ec]); (try exact rfl)) (fun K hK => ?_) AllReadyH.nil)
   go_simp
   go_at_call 35
   refine (toPose_blw q1 _).mono ?_
   rintro e u1_94 ⟨rfl, bb⟩
   have Du1_94 : Hid (Below wq.heap.size wq u1_94) := Below.trans Da1_93.out (bb.mono Da1_93.out.size)
   have Z1_1u1_94 := Lib.hid ((bb.block p1_1 (box_lt Z1_1a1_93.out)).trans Z1_1a1_93.out)
   have Z1_0u1_94 := Lib.hid ((bb.block p1_0 (box_lt Z1_0a1_93.out)).trans Z1_0a1_93.out)
   clear bb
   (first | refine hK.out _ _ ?_ (fun hHeld => ?_) | (go_wp2_with fail; refine hK.out _ _ ?_ (fun hHeld => ?_)))
   · try dsimp only
     exact KS.out _ Du1_94.out
   clear hK K
   try simp only [Act.put, sa, sb, sc]
   refine wpAnyH_ready (rs := [4]) (by kernel_rfl) (by simp) ?_
   refine (AllReadyH.cons (by (simp only [ea, eb, ec]); (try exact rfl)) (fun K hK => ?_) AllReadyH.nil)
   go_simp
   go_at_call 34
   refine (c1.out _ (HT.out _ (BQ.out.trans (Du1_94.out.mono (BQ.out.size))))).mono ?_
   rintro e u1_95 ⟨rfl, bb⟩
   have Du1_95 : Hid (Below wq.heap.size wq u1_95) := Below.trans Du1_94.out (bb.mono Du1_94.out.size)
   have Z1_1u1_95 := Lib.hid ((bb.block p1_1 (box_lt Z1_1u1_94.out)).trans Z1_1u1_94.out)
   have Z1_0u1_95 := Lib.hid ((bb.block p1_0 (box_lt Z1_0u1_94.out)).trans Z1_0u1_94.out)
   clear bb
   (first | refine hK.out _ _ ?_ (fun hHeld => ?_) | (go_wp2_with fail; refine hK.out _ _ ?_ (fun hHeld => ?_)))
   · try dsimp only
     exact KS.out _ Du1_95.out
   clear hK K
   try simp only [Act.put, sa, sb, sc]
   refine wpAnyH_take (i := 5) (v := ?_) (by (simp only [ea, eb, ec]); (try exact rfl)) (by kernel_rfl) (by kernel_rfl) (by kernel_rfl) (by intro _ _ _ h; exact h) (Or.inl ⟨by rfl, ?_⟩) (by assumption) ?_
   rotate_left
   · intro w hSw
     try dsimp only at hSw
     go_simp
     try with_reducible rfl
   try simp only [Act.put, sa, sb, sc]
   refine wpAnyH_take (i := 6) (v := ?_) (by (simp only [ea, eb, ec]); (try exact rfl)) (by kernel_rfl) (by kernel_rfl) (by kernel_rfl) (by intro _ _ _ h; exact h) (Or.inl ⟨by rfl, ?_⟩) (by assumption) ?_
   rotate_left
   · intro w hSw
     try dsimp only at hSw
     go_simp
     try with_reducible rfl
   try simp only [Act.put, sa, sb, sc]
   refine wpAnyH_take (i := 7) (v := ?_) (by (simp only [ea, eb, ec]); (try exact rfl)) (by kernel_rfl) (by kernel_rfl) (by kernel_rfl) (by intro _ _ _ h; exact h) (Or.inl ⟨by rfl, ?_⟩) (by assumption) ?_
   rotate_left
   · intro w hSw
     try dsimp only at hSw
     go_simp
     try with_reducible rfl
   try simp only [Act.put, sa, sb, sc]
   refine wpAnyH_take (i := 8) (v := ?_) (by (simp only [ea, eb, ec]); (try exact rfl)) (by kernel_rfl) (by kernel_rfl) (by kernel_rfl) (by intro _ _ _ h; exact h) (Or.inl ⟨by rfl, ?_⟩) (by assumption) ?_
   rotate_left
   · intro w hSw
     try dsimp only at hSw
     go_simp
     try with_reducible rfl
   try simp only [Act.put, sa, sb, sc]
   refine wpAnyH_ready (rs := [11]) (by kernel_rfl) (by simp) ?_
   refine AllReadyH.cons (by (simp only [ea, eb, ec]); (try exact rfl)) (fun K hK => ?_) AllReadyH.nil
   refine step_store_Co rfl _ _ rfl p1_0 (⟨0, 0, 0⟩ : Co) r0 _ rfl rfl Z1_0u1_95.out ?_
   intro e1_96 hE oE bE
   have De1_96 : Hid (Below wq.heap.size wq e1_96) := Below.trans Du1_95.out (bE.mono tp1_0)
   have Z1_0e1_96 := Lib.hid hE
   have Z1_1e1_96 := Lib.hid ((oE p1_1 (by first | assumption | exact Ne.symm (by assumption))).trans Z1_1u1_95.out)
   clear hE oE bE
   refine hK.out _ _ ?_ (fun hHeld => ?_)
   · try dsimp only
     exact KS.out _ De1_96.out
   clear hK K
   try simp only [Act.put, sa, sb, sc]
   refine wpAnyH_ready (rs := [12]) (by kernel_rfl) (by simp) ?_
   refine AllReadyH.cons (by (simp only [ea, eb, ec]); (try exact rfl)) (fun K hK => ?_) AllReadyH.nil
   refine step_store_Co rfl _ _ rfl p1_1 (⟨0, 0, 0⟩ : Co) r1 _ rfl rfl Z1_1e1_96.out ?_
   intro e1_97 hE oE bE
   have De1_97 : Hid (Below wq.heap.size wq e1_97) := Below.trans De1_96.out (bE.mono tp1_1)
   have Z1_1e1_97 := Lib.hid hE
   have Z1_0e1_97 := Lib.hid ((oE p1_0 (by first | assumption | exact Ne.symm (by assumption))).trans Z1_0e1_96.out)
   clear hE oE bE
   refine hK.out _ _ ?_ (fun hHeld => ?_)
   · try dsimp only
     exact KS.out _ De1_97.out
   clear hK K
   try simp only [Act.put, sa, sb, sc]
   refine wpAnyH_take (i := 13) (v := ?_) (by (simp only [ea, eb, ec]); (try exact rfl)) (by kernel_rfl) (by kernel_rfl) (by kernel_rfl) (by intro _ _ _ h; exact h) (Or.inl ⟨by rfl, ?_⟩) (by assumption) ?_
   rotate_left
   · intro w hSw
     try dsimp only at hSw
     go_simp
     try with_reducible rfl
   try simp only [Act.put, sa, sb, sc]
   refine wpAnyH_done (by kernel_rfl) ?_ _
   go_wp2_with fail
   go_meet
   exact ⟨p1_0, p1_1, rfl, rfl, rfl, De1_97, Z1_0e1_97, Z1_1e1_97⟩
   go_simp
   generalize hA : World.alloc a1_82 (.cells #[.int .i64 0, .int .i64 0, .int .i64 0] 31) = a1_98
   obtain ⟨p1_0, hp⟩ : ∃ p, p = a1_82.heap.size := ⟨_, rfl⟩
   have ba : Below a1_82.heap.size a1_82 a1_98 := by rw [← hA]; exact Below.alloc (Below.refl _ _) (Nat.le_refl _) _
   have Z1_0a1_98 := Lib.hid (show a1_98.heap[p1_0]? = some (.cells #[.int .i64 0, .int .i64 0, .int .i64 0] 31 (0, 0)) from by rw [← hA, hp]; exact heap_alloc_new _ _)
   have tp1_0 : wq.heap.size ≤ p1_0 := by rw [hp]; exact Da1_82.out.size
   have n1_1_1_0 : p1_1 ≠ p1_0 := by have hh := box_lt Z1_1a1_82.out; rw [hp]; intro e; rw [e] at hh; exact Nat.lt_irrefl _ hh
   have Da1_98 : Hid (Below wq.heap.size wq a1_98) := Below.trans Da1_82.out (ba.mono Da1_82.out.size)
   have Z1_1a1_98 := Lib.hid ((ba.block p1_1 (box_lt Z1_1a1_82.out)).trans Z1_1a1_82.out)
   rw [← hp]
   clear hA hp ba
   refine hK.out _ _ ?_ (fun hHeld => ?_)
   · try dsimp only
     exact KS.out _ Da1_98.out
   clear hK K
   try simp only [Act.put, sa, sb, sc]
   refine wpAnyH_ready (rs := [1]) (by kernel_rfl) (by simp) ?_
   refine (AllReadyH.cons (by (simp only [ea, eb, ec]); (try exact rfl)) (fun K hK => ?_) AllReadyH.nil)
   go_simp
   go_at_call 35
   refine (toPose_blw q0 _).mono ?_
   rintro e u1_99 ⟨rfl, bb⟩
   have Du1_99 : Hid (Below wq.heap.size wq u1_99) := Below.trans Da1_98.out (bb.mono Da1_98.out.size)
   have Z1_1u1_99 := Lib.hid ((bb.block p1_1 (box_lt Z1_1a1_98.out)).trans Z1_1a1_98.out)
   have Z1_0u1_99 := Lib.hid ((bb.block p1_0 (box_lt Z1_0a1_98.out)).trans Z1_0a1_98.out)
   clear bb
   (first | refine hK.out _ _ ?_ (fun hHeld => ?_) | (go_wp2_with fail; refine hK.out _ _ ?_ (fun hHeld => ?_)))
   · try dsimp only
     exact KS.out _ Du1_99.out
   clear hK K
   try simp only [Act.put, sa, sb, sc]
   refine wpAnyH_ready (rs := [3]) (by kernel_rfl) (by simp) ?_
   refine (AllReadyH.cons (by (simp only [ea, eb, ec]); (try exact rfl)) (fun K hK => ?_) AllReadyH.nil)
   go_simp
   go_at_call 35
   refine (toPose_blw q1 _).mono ?_
   rintro e u1_100 ⟨rfl, bb⟩
   have Du1_100 : Hid (Below wq.heap.size wq u1_100) := Below.trans Du1_99.out (bb.mono Du1_99.out.size)
   have Z1_1u1_100 := Lib.hid ((bb.block p1_1 (box_lt Z1_1u1_99.out)).trans Z1_1u1_99.out)
   have Z1_0u1_100 := Lib.hid ((bb.block p1_0 (box_lt Z1_0u1_99.out)).trans Z1_0u1_99.out)
   clear bb
   (first | refine hK.out _ _ ?_ (fun hHeld => ?_) | (go_wp2_with fail; refine hK.out _ _ ?_ (fun hHeld => ?_)))
   · try dsimp only
     exact KS.out _ Du1_100.out
   clear hK K
   try simp only [Act.put, sa, sb, sc]
   refine wpAnyH_ready (rs := [4]) (by kernel_rfl) (by simp) ?_
   refine (AllReadyH.cons (by (simp only [ea, eb, ec]); (try exact rfl)) (fun K hK => ?_) AllReadyH.nil)
   go_simp
   go_at_call 34
   refine (c1.out _ (HT.out _ (BQ.out.trans (Du1_100.out.mono (BQ.out.size))))).mono ?_
   rintro e u1_101 ⟨rfl, bb⟩
   have Du1_101 : Hid (Below wq.heap.size wq u1_101) := Below.trans Du1_100.out (bb.mono Du1_100.out.size)
   have Z1_1u1_101 := Lib.hid ((bb.block p1_1 (box_lt Z1_1u1_100.out)).trans Z1_1u1_100.out)
   have Z1_0u1_101 := Lib.hid ((bb.block p1_0 (box_lt Z1_0u1_100.out)).trans Z1_0u1_100.out)
   clear bb
   (first | refine hK.out _ _ ?_ (fun hHeld => ?_) | (go_wp2_with fail; refine hK.out _ _ ?_ (fun hHeld => ?_)))
   · try dsimp only
     exact KS.out _ Du1_101.out
   clear hK K
   try simp only [Act.put, sa, sb, sc]
   refine wpAnyH_take (i := 5) (v := ?_) (by (simp only [ea, eb, ec]); (try exact rfl)) (by kernel_rfl) (by kernel_rfl) (by kernel_rfl) (by intro _ _ _ h; exact h) (Or.inl ⟨by rfl, ?_⟩) (by assumption) ?_
   rotate_left
   · intro w hSw
     try dsimp only at hSw
     go_simp
     try with_reducible rfl
   try simp only [Act.put, sa, sb, sc]
   refine wpAnyH_take (i := 6) (v := ?_) (by (simp only [ea, eb, ec]); (try exact rfl)) (by kernel_rfl) (by kernel_rfl) (by kernel_rfl) (by intro _ _ _ h; exact h) (Or.inl ⟨by rfl, ?_⟩) (by assumption) ?_
   rotate_left
   · intro w hSw
     try dsimp only at hSw
     go_simp
     try with_reducible rfl
   try simp only [Act.put, sa, sb, sc]
   refine wpAnyH_take (i := 7) (v := ?_) (by (simp only [ea, eb, ec]); (try exact rfl)) (by kernel_rfl) (by kernel_rfl) (by kernel_rfl) (by intro _ _ _ h; exact h) (Or.inl ⟨by rfl, ?_⟩) (by assumption) ?_
   rotate_left
   · intro w hSw
     try dsimp only at hSw
     go_simp
     try with_reducible rfl
   try simp only [Act.put, sa, sb, sc]
   refine wpAnyH_take (i := 8) (v := ?_) (by (simp only [ea, eb, ec]); (try exact rfl)) (by kernel_rfl) (by kernel_rfl) (by kernel_rfl) (by intro _ _ _ h; exact h) (Or.inl ⟨by rfl, ?_⟩) (by assumption) ?_
   rotate_left
   · intro w hSw
     try dsimp only at hSw
     go_simp
     try with_reducible rfl
   try simp only [Act.put, sa, sb, sc]
   refine wpAnyH_ready (rs := [11]) (by kernel_rfl) (by simp) ?_
   refine AllReadyH.cons (by (simp only [ea, eb, ec]); (try exact rfl)) (fun K hK => ?_) AllReadyH.nil
   refine step_store_Co rfl _ _ rfl p1_0 (⟨0, 0, 0⟩ : Co) r0 _ rfl rfl Z1_0u1_101.out ?_
   intro e1_102 hE oE bE
   have De1_102 : Hid (Below wq.heap.size wq e1_102) := Below.trans Du1_101.out (bE.mono tp1_0)
   have Z1_0e1_102 := Lib.hid hE
   have Z1_1e1_102 := Lib.hid ((oE p1_1 (by first | assumption | exact Ne.symm (by assumption))).trans Z1_1u1_101.out)
   clear hE oE bE
   refine hK.out _ _ ?_ (fun hHeld => ?_)
   · try dsimp only
     exact KS.out _ De1_102.out
   clear hK K
   try simp only [Act.put, sa, sb, sc]
   refine wpAnyH_ready (rs := [12]) (by kernel_rfl) (by simp) ?_
   refine AllReadyH.cons (by (simp only [ea, eb, ec]); (try exact rfl)) (fun K hK => ?_) AllReadyH.nil
   refine step_store_Co rfl _ _ rfl p1_1 (⟨0, 0, 0⟩ : Co) r1 _ rfl rfl Z1_1e1_102.out ?_
   intro e1_103 hE oE bE
   have De1_103 : Hid (Below wq.heap.size wq e1_103) := Below.trans De1_102.out (bE.mono tp1_1)
   have Z1_1e1_103 := Lib.hid hE
   have Z1_0e1_103 := Lib.hid ((oE p1_0 (by first | assumption | exact Ne.symm (by assumption))).trans Z1_0e1_102.out)
   clear hE oE bE
   refine hK.out _ _ ?_ (fun hHeld => ?_)
   · try dsimp only
     exact KS.out _ De1_103.out
   clear hK K
   try simp only [Act.put, sa, sb, sc]
   refine wpAnyH_take (i := 13) (v := ?_) (by (simp only [ea, eb, ec]); (try exact rfl)) (by kernel_rfl) (by kernel_rfl) (by kernel_rfl) (by intro _ _ _ h; exact h) (Or.inl ⟨by rfl, ?_⟩) (by assumption) ?_
   rotate_left
   · intro w hSw
     try dsimp only at hSw
     go_simp
     try with_reducible rfl
   try simp only [Act.put, sa, sb, sc]
   refine wpAnyH_done (by kernel_rfl) ?_ _
   go_wp2_with fail
   go_meet
   exact ⟨p1_0, p1_1, rfl, rfl, rfl, De1_103, Z1_0e1_103, Z1_1e1_103⟩
  case rest =>
    obtain ⟨p1_0, p1_1, rfl, rfl, rfl, DC1, C1_0, C1_1⟩ := hcut
    obtain ⟨wm, hwm⟩ : ∃ x, x = wc := ⟨_, rfl⟩
    rw [← hwm] at DC1 C1_0 C1_1
    rw [← hwm]
    clear hwm KS
    have KS : Hid (∀ w', Below wm.heap.size wm w' → (w'.cell? ⟨w.heap.size, 0, none⟩ = some (.int .i64 q0.s) ∧ w'.cell? ⟨w.heap.size, 1, none⟩ = some (.int .i64 q0.h) ∧ w'.cell? ⟨w.heap.size, 2, none⟩ = some (.int .i64 q0.y) ∧ w'.cell? ⟨w.heap.size, 3, none⟩ = some (.int .i64 q0.p) ∧ w'.cell? ⟨w.heap.size + 1, 0, none⟩ = some (.int .i64 q1.s) ∧ w'.cell? ⟨w.heap.size + 1, 1, none⟩ = some (.int .i64 q1.h) ∧ w'.cell? ⟨w.heap.size + 1, 2, none⟩ = some (.int .i64 q1.y) ∧ w'.cell? ⟨w.heap.size + 1, 3, none⟩ = some (.int .i64 q1.p))) := fun w' b => KQ.out w' (Below.trans (DC1.out.mono (by have := SQ.out; omega)) (b.mono (by have h1 := SQ.out; have h2 := DC1.out.size; omega)))
    have BM : Hid (Below w.heap.size w wm) := BQ.out.trans (DC1.out.mono BQ.out.size)
    clear DC1 KQ SQ BQ c1
    go_upto_region 2 with (fail)
    go_cut [8, 9, 10] (fun s8 s9 s10 wx => ∃ p2_0 p2_1 : Nat, s8 = .pointer (some ⟨p2_0, 0, none⟩) ∧ s9 = .pointer (some ⟨p2_1, 0, none⟩) ∧ s10 = .bool r2 ∧ Hid (Below wm.heap.size wm wx) ∧ Hid (wx.heap[p2_0]? = some (.cells #[.int .i64 r0.o, .int .i64 r0.h, .int .i64 r0.t] 31 (0, 0))) ∧ Hid (wx.heap[p2_1]? = some (.cells #[.int .i64 r1.o, .int .i64 r1.h, .int .i64 r1.t] 31 (0, 0))))
    case first =>
     go_wp2_with fail
     refine wp_region_held_drew (S := fun w' => (w'.cell? ⟨w.heap.size, 0, none⟩ = some (.int .i64 q0.s) ∧ w'.cell? ⟨w.heap.size, 1, none⟩ = some (.int .i64 q0.h) ∧ w'.cell? ⟨w.heap.size, 2, none⟩ = some (.int .i64 q0.y) ∧ w'.cell? ⟨w.heap.size, 3, none⟩ = some (.int .i64 q0.p) ∧ w'.cell? ⟨w.heap.size + 1, 0, none⟩ = some (.int .i64 q1.s) ∧ w'.cell? ⟨w.heap.size + 1, 1, none⟩ = some (.int .i64 q1.h) ∧ w'.cell? ⟨w.heap.size + 1, 2, none⟩ = some (.int .i64 q1.y) ∧ w'.cell? ⟨w.heap.size + 1, 3, none⟩ = some (.int .i64 q1.p))) (by kernel_rfl) (KS.out _ (Below.refl _ _).drew) (fun hHeld => ?_)
     have D0 : Hid (Below wm.heap.size wm (World.drew wm)) := (Below.refl _ _).drew
     refine wpAnyH_take (i := 0) (v := ?_) (by (simp only [ea, eb, ec]); (try exact rfl)) (by kernel_rfl) (by kernel_rfl) (by kernel_rfl) (by intro _ _ _ h; exact h) (Or.inl ⟨by rfl, ?_⟩) (by assumption) ?_
     rotate_left
     · intro w hSw
       try dsimp only at hSw
       go_simp
       try with_reducible rfl
     try simp only [Act.put, sa, sb, sc]
     refine wpAnyH_take (i := 2) (v := ?_) (by (simp only [ea, eb, ec]); (try exact rfl)) (by kernel_rfl) (by kernel_rfl) (by kernel_rfl) (by intro _ _ _ h; exact h) (Or.inl ⟨by rfl, ?_⟩) (by assumption) ?_
     rotate_left
     · intro w hSw
       try dsimp only at hSw
       go_simp
       try with_reducible rfl
     try simp only [Act.put, sa, sb, sc]
     refine wpAnyH_ready (rs := [1, 9, 10]) (by kernel_rfl) (by simp) ?_
     refine (AllReadyH.cons (by (simp only [ea, eb, ec]); (try exact rfl)) (fun K hK => ?_) (AllReadyH.cons (by (simp only [ea, eb, ec]); (try exact rfl)) (fun K hK => ?_) (AllReadyH.cons (by (simp only [ea, eb, ec]); (try exact rfl)) (fun K hK => ?_) AllReadyH.nil)))
     go_simp
     go_at_call 35
     refine (toPose_blw q0 _).mono ?_
     rintro e u2_1 ⟨rfl, bb⟩
     have Du2_1 : Hid (Below wm.heap.size wm u2_1) := Below.trans D0.out (bb.mono D0.out.size)
     clear bb
     (first | refine hK.out _ _ ?_ (fun hHeld => ?_) | (go_wp2_with fail; refine hK.out _ _ ?_ (fun hHeld => ?_)))
     · try dsimp only
       exact KS.out _ Du2_1.out
     clear hK K
     try simp only [Act.put, sa, sb, sc]
     refine wpAnyH_ready (rs := [3, 9, 10]) (by kernel_rfl) (by simp) ?_
     refine (AllReadyH.cons (by (simp only [ea, eb, ec]); (try exact rfl)) (fun K hK => ?_) (AllReadyH.cons (by (simp only [ea, eb, ec]); (try exact rfl)) (fun K hK => ?_) (AllReadyH.cons (by (simp only [ea, eb, ec]); (try exact rfl)) (fun K hK => ?_) AllReadyH.nil)))
     go_simp
     go_at_call 35
     refine (toPose_blw q1 _).mono ?_
     rintro e u2_2 ⟨rfl, bb⟩
     have Du2_2 : Hid (Below wm.heap.size wm u2_2) := Below.trans Du2_1.out (bb.mono Du2_1.out.size)
     clear bb
     (first | refine hK.out _ _ ?_ (fun hHeld => ?_) | (go_wp2_with fail; refine hK.out _ _ ?_ (fun hHeld => ?_)))
     · try dsimp only
       exact KS.out _ Du2_2.out
     clear hK K
     try simp only [Act.put, sa, sb, sc]
     refine wpAnyH_ready (rs := [4, 9, 10]) (by kernel_rfl) (by simp) ?_
     refine (AllReadyH.cons (by (simp only [ea, eb, ec]); (try exact rfl)) (fun K hK => ?_) (AllReadyH.cons (by (simp only [ea, eb, ec]); (try exact rfl)) (fun K hK => ?_) (AllReadyH.cons (by (simp only [ea, eb, ec]); (try exact rfl)) (fun K hK => ?_) AllReadyH.nil)))
     go_simp
     go_at_call 36
     refine (c2.out _ (HT.out _ (BM.out.trans (Du2_2.out.mono (BM.out.size))))).mono ?_
     rintro e u2_3 ⟨rfl, bb⟩
     have Du2_3 : Hid (Below wm.heap.size wm u2_3) := Below.trans Du2_2.out (bb.mono Du2_2.out.size)
     clear bb
     (first | refine hK.out _ _ ?_ (fun hHeld => ?_) | (go_wp2_with fail; refine hK.out _ _ ?_ (fun hHeld => ?_)))
     · try dsimp only
       exact KS.out _ Du2_3.out
     clear hK K
     try simp only [Act.put, sa, sb, sc]
     refine wpAnyH_take (i := 5) (v := ?_) (by (simp only [ea, eb, ec]); (try exact rfl)) (by kernel_rfl) (by kernel_rfl) (by kernel_rfl) (by intro _ _ _ h; exact h) (Or.inl ⟨by rfl, ?_⟩) (by assumption) ?_
     rotate_left
     · intro w hSw
       try dsimp only at hSw
       go_simp
       try with_reducible rfl
     try simp only [Act.put, sa, sb, sc]
     refine wpAnyH_take (i := 6) (v := ?_) (by (simp only [ea, eb, ec]); (try exact rfl)) (by kernel_rfl) (by kernel_rfl) (by kernel_rfl) (by intro _ _ _ h; exact h) (Or.inl ⟨by rfl, ?_⟩) (by assumption) ?_
     rotate_left
     · intro w hSw
       try dsimp only at hSw
       go_simp
       try with_reducible rfl
     try simp only [Act.put, sa, sb, sc]
     refine wpAnyH_take (i := 7) (v := ?_) (by (simp only [ea, eb, ec]); (try exact rfl)) (by kernel_rfl) (by kernel_rfl) (by kernel_rfl) (by intro _ _ _ h; exact h) (Or.inl ⟨by rfl, ?_⟩) (by assumption) ?_
     rotate_left
     · intro w hSw
       try dsimp only at hSw
       go_simp
       try with_reducible rfl
     try simp only [Act.put, sa, sb, sc]
     refine wpAnyH_take (i := 8) (v := ?_) (by (simp only [ea, eb, ec]); (try exact rfl)) (by kernel_rfl) (by kernel_rfl) (by kernel_rfl) (by intro _ _ _ h; exact h) (Or.inl ⟨by rfl, ?_⟩) (by assumption) ?_
     rotate_left
     · intro w hSw
       try dsimp only at hSw
       go_simp
       try with_reducible rfl
     try simp only [Act.put, sa, sb, sc]
     refine wpAnyH_ready (rs := [9, 10]) (by kernel_rfl) (by simp) ?_
     refine (AllReadyH.cons (by (simp only [ea, eb, ec]); (try exact rfl)) (fun K hK => ?_) (AllReadyH.cons (by (simp only [ea, eb, ec]); (try exact rfl)) (fun K hK => ?_) AllReadyH.nil))
     go_simp
     generalize hA : World.alloc u2_3 (.cells #[.int .i64 0, .int .i64 0, .int .i64 0] 31) = a2_4
     obtain ⟨p2_0, hp⟩ : ∃ p, p = u2_3.heap.size := ⟨_, rfl⟩
     have ba : Below u2_3.heap.size u2_3 a2_4 := by rw [← hA]; exact Below.alloc (Below.refl _ _) (Nat.le_refl _) _
     have Z2_0a2_4 := Lib.hid (show a2_4.heap[p2_0]? = some (.cells #[.int .i64 0, .int .i64 0, .int .i64 0] 31 (0, 0)) from by rw [← hA, hp]; exact heap_alloc_new _ _)
     have tp2_0 : wm.heap.size ≤ p2_0 := by rw [hp]; exact Du2_3.out.size
     have Da2_4 : Hid (Below wm.heap.size wm a2_4) := Below.trans Du2_3.out (ba.mono Du2_3.out.size)
     rw [← hp]
     clear hA hp ba
     refine hK.out _ _ ?_ (fun hHeld => ?_)
     · try dsimp only
       exact KS.out _ Da2_4.out
     clear hK K
     try simp only [Act.put, sa, sb, sc]
     refine wpAnyH_ready (rs := [10]) (by kernel_rfl) (by simp) ?_
     refine (AllReadyH.cons (by (simp only [ea, eb, ec]); (try exact rfl)) (fun K hK => ?_) AllReadyH.nil)
     go_simp
     generalize hA : World.alloc a2_4 (.cells #[.int .i64 0, .int .i64 0, .int .i64 0] 31) = a2_5
     obtain ⟨p2_1, hp⟩ : ∃ p, p = a2_4.heap.size := ⟨_, rfl⟩
     have ba : Below a2_4.heap.size a2_4 a2_5 := by rw [← hA]; exact Below.alloc (Below.refl _ _) (Nat.le_refl _) _
     have Z2_1a2_5 := Lib.hid (show a2_5.heap[p2_1]? = some (.cells #[.int .i64 0, .int .i64 0, .int .i64 0] 31 (0, 0)) from by rw [← hA, hp]; exact heap_alloc_new _ _)
     have tp2_1 : wm.heap.size ≤ p2_1 := by rw [hp]; exact Da2_4.out.size
     have n2_0_2_1 : p2_0 ≠ p2_1 := by have hh := box_lt Z2_0a2_4.out; rw [hp]; intro e; rw [e] at hh; exact Nat.lt_irrefl _ hh
     have Da2_5 : Hid (Below wm.heap.size wm a2_5) := Below.trans Da2_4.out (ba.mono Da2_4.out.size)
     have Z2_0a2_5 := Lib.hid ((ba.block p2_0 (box_lt Z2_0a2_4.out)).trans Z2_0a2_4.out)
     rw [← hp]
     clear hA hp ba
     refine hK.out _ _ ?_ (fun hHeld => ?_)
     · try dsimp only
       exact KS.out _ Da2_5.out
     clear hK K
     try simp only [Act.put, sa, sb, sc]
     refine wpAnyH_ready (rs := [11]) (by kernel_rfl) (by simp) ?_
     refine AllReadyH.cons (by (simp only [ea, eb, ec]); (try exact rfl)) (fun K hK => ?_) AllReadyH.nil
     refine step_store_Co rfl _ _ rfl p2_0 (⟨0, 0, 0⟩ : Co) r0 _ rfl rfl Z2_0a2_5.out ?_
     intro e2_6 hE oE bE
     have De2_6 : Hid (Below wm.heap.size wm e2_6) := Below.trans Da2_5.out (bE.mono tp2_0)
     have Z2_0e2_6 := Lib.hid hE
     have Z2_1e2_6 := Lib.hid ((oE p2_1 (by first | assumption | exact Ne.symm (by assumption))).trans Z2_1a2_5.out)
     clear hE oE bE
     refine hK.out _ _ ?_ (fun hHeld => ?_)
     · try dsimp only
       exact KS.out _ De2_6.out
     clear hK K
     try simp only [Act.put, sa, sb, sc]
     refine wpAnyH_ready (rs := [12]) (by kernel_rfl) (by simp) ?_
     refine AllReadyH.cons (by (simp only [ea, eb, ec]); (try exact rfl)) (fun K hK => ?_) AllReadyH.nil
     refine step_store_Co rfl _ _ rfl p2_1 (⟨0, 0, 0⟩ : Co) r1 _ rfl rfl Z2_1e2_6.out ?_
     intro e2_7 hE oE bE
     have De2_7 : Hid (Below wm.heap.size wm e2_7) := Below.trans De2_6.out (bE.mono tp2_1)
     have Z2_1e2_7 := Lib.hid hE
     have Z2_0e2_7 := Lib.hid ((oE p2_0 (by first | assumption | exact Ne.symm (by assumption))).trans Z2_0e2_6.out)
     clear hE oE bE
     refine hK.out _ _ ?_ (fun hHeld => ?_)
     · try dsimp only
       exact KS.out _ De2_7.out
     clear hK K
     try simp only [Act.put, sa, sb, sc]
     refine wpAnyH_take (i := 13) (v := ?_) (by (simp only [ea, eb, ec]); (try exact rfl)) (by kernel_rfl) (by kernel_rfl) (by kernel_rfl) (by intro _ _ _ h; exact h) (Or.inl ⟨by rfl, ?_⟩) (by assumption) ?_
     rotate_left
     · intro w hSw
       try dsimp only at hSw
       go_simp
       try with_reducible rfl
     try simp only [Act.put, sa, sb, sc]
     refine wpAnyH_done (by kernel_rfl) ?_ _
     go_wp2_with fail
     go_meet
     exact ⟨p2_0, p2_1, rfl, rfl, rfl, De2_7, Z2_0e2_7, Z2_1e2_7⟩
     go_simp
     generalize hA : World.alloc u2_3 (.cells #[.int .i64 0, .int .i64 0, .int .i64 0] 31) = a2_8
     obtain ⟨p2_1, hp⟩ : ∃ p, p = u2_3.heap.size := ⟨_, rfl⟩
     have ba : Below u2_3.heap.size u2_3 a2_8 := by rw [← hA]; exact Below.alloc (Below.refl _ _) (Nat.le_refl _) _
     have Z2_1a2_8 := Lib.hid (show a2_8.heap[p2_1]? = some (.cells #[.int .i64 0, .int .i64 0, .int .i64 0] 31 (0, 0)) from by rw [← hA, hp]; exact heap_alloc_new _ _)
     have tp2_1 : wm.heap.size ≤ p2_1 := by rw [hp]; exact Du2_3.out.size
     have Da2_8 : Hid (Below wm.heap.size wm a2_8) := Below.trans Du2_3.out (ba.mono Du2_3.out.size)
     rw [← hp]
     clear hA hp ba
     refine hK.out _ _ ?_ (fun hHeld => ?_)
     · try dsimp only
       exact KS.out _ Da2_8.out
     clear hK K
     try simp only [Act.put, sa, sb, sc]
     refine wpAnyH_ready (rs := [9]) (by kernel_rfl) (by simp) ?_
     refine (AllReadyH.cons (by (simp only [ea, eb, ec]); (try exact rfl)) (fun K hK => ?_) AllReadyH.nil)
     go_simp
     generalize hA : World.alloc a2_8 (.cells #[.int .i64 0, .int .i64 0, .int .i64 0] 31) = a2_9
     obtain ⟨p2_0, hp⟩ : ∃ p, p = a2_8.heap.size := ⟨_, rfl⟩
     have ba : Below a2_8.heap.size a2_8 a2_9 := by rw [← hA]; exact Below.alloc (Below.refl _ _) (Nat.le_refl _) _
     have Z2_0a2_9 := Lib.hid (show a2_9.heap[p2_0]? = some (.cells #[.int .i64 0, .int .i64 0, .int .i64 0] 31 (0, 0)) from by rw [← hA, hp]; exact heap_alloc_new _ _)
     have tp2_0 : wm.heap.size ≤ p2_0 := by rw [hp]; exact Da2_8.out.size
     have n2_1_2_0 : p2_1 ≠ p2_0 := by have hh := box_lt Z2_1a2_8.out; rw [hp]; intro e; rw [e] at hh; exact Nat.lt_irrefl _ hh
     have Da2_9 : Hid (Below wm.heap.size wm a2_9) := Below.trans Da2_8.out (ba.mono Da2_8.out.size)
     have Z2_1a2_9 := Lib.hid ((ba.block p2_1 (box_lt Z2_1a2_8.out)).trans Z2_1a2_8.out)
     rw [← hp]
     clear hA hp ba
     refine hK.out _ _ ?_ (fun hHeld => ?_)
     · try dsimp only
       exact KS.out _ Da2_9.out
     clear hK K
     try simp only [Act.put, sa, sb, sc]
     refine wpAnyH_ready (rs := [11]) (by kernel_rfl) (by simp) ?_
     refine AllReadyH.cons (by (simp only [ea, eb, ec]); (try exact rfl)) (fun K hK => ?_) AllReadyH.nil
     refine step_store_Co rfl _ _ rfl p2_0 (⟨0, 0, 0⟩ : Co) r0 _ rfl rfl Z2_0a2_9.out ?_
     intro e2_10 hE oE bE
     have De2_10 : Hid (Below wm.heap.size wm e2_10) := Below.trans Da2_9.out (bE.mono tp2_0)
     have Z2_0e2_10 := Lib.hid hE
     have Z2_1e2_10 := Lib.hid ((oE p2_1 (by first | assumption | exact Ne.symm (by assumption))).trans Z2_1a2_9.out)
     clear hE oE bE
     refine hK.out _ _ ?_ (fun hHeld => ?_)
     · try dsimp only
       exact KS.out _ De2_10.out
     clear hK K
     try simp only [Act.put, sa, sb, sc]
     refine wpAnyH_ready (rs := [12]) (by kernel_rfl) (by simp) ?_
     refine AllReadyH.cons (by (simp only [ea, eb, ec]); (try exact rfl)) (fun K hK => ?_) AllReadyH.nil
     refine step_store_Co rfl _ _ rfl p2_1 (⟨0, 0, 0⟩ : Co) r1 _ rfl rfl Z2_1e2_10.out ?_
     intro e2_11 hE oE bE
     have De2_11 : Hid (Below wm.heap.size wm e2_11) := Below.trans De2_10.out (bE.mono tp2_1)
     have Z2_1e2_11 := Lib.hid hE
     have Z2_0e2_11 := Lib.hid ((oE p2_0 (by first | assumption | exact Ne.symm (by assumption))).trans Z2_0e2_10.out)
     clear hE oE bE
     refine hK.out _ _ ?_ (fun hHeld => ?_)
     · try dsimp only
       exact KS.out _ De2_11.out
     clear hK K
     try simp only [Act.put, sa, sb, sc]
     refine wpAnyH_take (i := 13) (v := ?_) (by (simp only [ea, eb, ec]); (try exact rfl)) (by kernel_rfl) (by kernel_rfl) (by kernel_rfl) (by intro _ _ _ h; exact h) (Or.inl ⟨by rfl, ?_⟩) (by assumption) ?_
     rotate_left
     · intro w hSw
       try dsimp only at hSw
       go_simp
       try with_reducible rfl
     try simp only [Act.put, sa, sb, sc]
     refine wpAnyH_done (by kernel_rfl) ?_ _
     go_wp2_with fail
     go_meet
     exact ⟨p2_0, p2_1, rfl, rfl, rfl, De2_11, Z2_0e2_11, Z2_1e2_11⟩
     go_simp
     generalize hA : World.alloc u2_2 (.cells #[.int .i64 0, .int .i64 0, .int .i64 0] 31) = a2_12
     obtain ⟨p2_0, hp⟩ : ∃ p, p = u2_2.heap.size := ⟨_, rfl⟩
     have ba : Below u2_2.heap.size u2_2 a2_12 := by rw [← hA]; exact Below.alloc (Below.refl _ _) (Nat.le_refl _) _
     have Z2_0a2_12 := Lib.hid (show a2_12.heap[p2_0]? = some (.cells #[.int .i64 0, .int .i64 0, .int .i64 0] 31 (0, 0)) from by rw [← hA, hp]; exact heap_alloc_new _ _)
     have tp2_0 : wm.heap.size ≤ p2_0 := by rw [hp]; exact Du2_2.out.size
     have Da2_12 : Hid (Below wm.heap.size wm a2_12) := Below.trans Du2_2.out (ba.mono Du2_2.out.size)
     rw [← hp]
     clear hA hp ba
     refine hK.out _ _ ?_ (fun hHeld => ?_)
     · try dsimp only
       exact KS.out _ Da2_12.out
     clear hK K
     try simp only [Act.put, sa, sb, sc]
     refine wpAnyH_ready (rs := [4, 10]) (by kernel_rfl) (by simp) ?_
     refine (AllReadyH.cons (by (simp only [ea, eb, ec]); (try exact rfl)) (fun K hK => ?_) (AllReadyH.cons (by (simp only [ea, eb, ec]); (try exact rfl)) (fun K hK => ?_) AllReadyH.nil))
     go_simp
     go_at_call 36
     refine (c2.out _ (HT.out _ (BM.out.trans (Da2_12.out.mono (BM.out.size))))).mono ?_
     rintro e u2_13 ⟨rfl, bb⟩
     have Du2_13 : Hid (Below wm.heap.size wm u2_13) := Below.trans Da2_12.out (bb.mono Da2_12.out.size)
     have Z2_0u2_13 := Lib.hid ((bb.block p2_0 (box_lt Z2_0a2_12.out)).trans Z2_0a2_12.out)
     clear bb
     (first | refine hK.out _ _ ?_ (fun hHeld => ?_) | (go_wp2_with fail; refine hK.out _ _ ?_ (fun hHeld => ?_)))
     · try dsimp only
       exact KS.out _ Du2_13.out
     clear hK K
     try simp only [Act.put, sa, sb, sc]
     refine wpAnyH_take (i := 5) (v := ?_) (by (simp only [ea, eb, ec]); (try exact rfl)) (by kernel_rfl) (by kernel_rfl) (by kernel_rfl) (by intro _ _ _ h; exact h) (Or.inl ⟨by rfl, ?_⟩) (by assumption) ?_
     rotate_left
     · intro w hSw
       try dsimp only at hSw
       go_simp
       try with_reducible rfl
     try simp only [Act.put, sa, sb, sc]
     refine wpAnyH_take (i := 6) (v := ?_) (by (simp only [ea, eb, ec]); (try exact rfl)) (by kernel_rfl) (by kernel_rfl) (by kernel_rfl) (by intro _ _ _ h; exact h) (Or.inl ⟨by rfl, ?_⟩) (by assumption) ?_
     rotate_left
     · intro w hSw
       try dsimp only at hSw
       go_simp
       try with_reducible rfl
     try simp only [Act.put, sa, sb, sc]
     refine wpAnyH_take (i := 7) (v := ?_) (by (simp only [ea, eb, ec]); (try exact rfl)) (by kernel_rfl) (by kernel_rfl) (by kernel_rfl) (by intro _ _ _ h; exact h) (Or.inl ⟨by rfl, ?_⟩) (by assumption) ?_
     rotate_left
     · intro w hSw
       try dsimp only at hSw
       go_simp
       try with_reducible rfl
     try simp only [Act.put, sa, sb, sc]
     refine wpAnyH_take (i := 8) (v := ?_) (by (simp only [ea, eb, ec]); (try exact rfl)) (by kernel_rfl) (by kernel_rfl) (by kernel_rfl) (by intro _ _ _ h; exact h) (Or.inl ⟨by rfl, ?_⟩) (by assumption) ?_
     rotate_left
     · intro w hSw
       try dsimp only at hSw
       go_simp
       try with_reducible rfl
     try simp only [Act.put, sa, sb, sc]
     refine wpAnyH_ready (rs := [10]) (by kernel_rfl) (by simp) ?_
     refine (AllReadyH.cons (by (simp only [ea, eb, ec]); (try exact rfl)) (fun K hK => ?_) AllReadyH.nil)
     go_simp
     generalize hA : World.alloc u2_13 (.cells #[.int .i64 0, .int .i64 0, .int .i64 0] 31) = a2_14
     obtain ⟨p2_1, hp⟩ : ∃ p, p = u2_13.heap.size := ⟨_, rfl⟩
     have ba : Below u2_13.heap.size u2_13 a2_14 := by rw [← hA]; exact Below.alloc (Below.refl _ _) (Nat.le_refl _) _
     have Z2_1a2_14 := Lib.hid (show a2_14.heap[p2_1]? = some (.cells #[.int .i64 0, .int .i64 0, .int .i64 0] 31 (0, 0)) from by rw [← hA, hp]; exact heap_alloc_new _ _)
     have tp2_1 : wm.heap.size ≤ p2_1 := by rw [hp]; exact Du2_13.out.size
     have n2_0_2_1 : p2_0 ≠ p2_1 := by have hh := box_lt Z2_0u2_13.out; rw [hp]; intro e; rw [e] at hh; exact Nat.lt_irrefl _ hh
     have Da2_14 : Hid (Below wm.heap.size wm a2_14) := Below.trans Du2_13.out (ba.mono Du2_13.out.size)
     have Z2_0a2_14 := Lib.hid ((ba.block p2_0 (box_lt Z2_0u2_13.out)).trans Z2_0u2_13.out)
     rw [← hp]
     clear hA hp ba
     refine hK.out _ _ ?_ (fun hHeld => ?_)
     · try dsimp only
       exact KS.out _ Da2_14.out
     clear hK K
     try simp only [Act.put, sa, sb, sc]
     refine wpAnyH_ready (rs := [11]) (by kernel_rfl) (by simp) ?_
     refine AllReadyH.cons (by (simp only [ea, eb, ec]); (try exact rfl)) (fun K hK => ?_) AllReadyH.nil
     refine step_store_Co rfl _ _ rfl p2_0 (⟨0, 0, 0⟩ : Co) r0 _ rfl rfl Z2_0a2_14.out ?_
     intro e2_15 hE oE bE
     have De2_15 : Hid (Below wm.heap.size wm e2_15) := Below.trans Da2_14.out (bE.mono tp2_0)
     have Z2_0e2_15 := Lib.hid hE
     have Z2_1e2_15 := Lib.hid ((oE p2_1 (by first | assumption | exact Ne.symm (by assumption))).trans Z2_1a2_14.out)
     clear hE oE bE
     refine hK.out _ _ ?_ (fun hHeld => ?_)
     · try dsimp only
       exact KS.out _ De2_15.out
     clear hK K
     try simp only [Act.put, sa, sb, sc]
     refine wpAnyH_ready (rs := [12]) (by kernel_rfl) (by simp) ?_
     refine AllReadyH.cons (by (simp only [ea, eb, ec]); (try exact rfl)) (fun K hK => ?_) AllReadyH.nil
     refine step_store_Co rfl _ _ rfl p2_1 (⟨0, 0, 0⟩ : Co) r1 _ rfl rfl Z2_1e2_15.out ?_
     intro e2_16 hE oE bE
     have De2_16 : Hid (Below wm.heap.size wm e2_16) := Below.trans De2_15.out (bE.mono tp2_1)
     have Z2_1e2_16 := Lib.hid hE
     have Z2_0e2_16 := Lib.hid ((oE p2_0 (by first | assumption | exact Ne.symm (by assumption))).trans Z2_0e2_15.out)
     clear hE oE bE
     refine hK.out _ _ ?_ (fun hHeld => ?_)
     · try dsimp only
       exact KS.out _ De2_16.out
     clear hK K
     try simp only [Act.put, sa, sb, sc]
     refine wpAnyH_take (i := 13) (v := ?_) (by (simp only [ea, eb, ec]); (try exact rfl)) (by kernel_rfl) (by kernel_rfl) (by kernel_rfl) (by intro _ _ _ h; exact h) (Or.inl ⟨by rfl, ?_⟩) (by assumption) ?_
     rotate_left
     · intro w hSw
       try dsimp only at hSw
       go_simp
       try with_reducible rfl
     try simp only [Act.put, sa, sb, sc]
     refine wpAnyH_done (by kernel_rfl) ?_ _
     go_wp2_with fail
     go_meet
     exact ⟨p2_0, p2_1, rfl, rfl, rfl, De2_16, Z2_0e2_16, Z2_1e2_16⟩
     go_simp
     generalize hA : World.alloc a2_12 (.cells #[.int .i64 0, .int .i64 0, .int .i64 0] 31) = a2_17
     obtain ⟨p2_1, hp⟩ : ∃ p, p = a2_12.heap.size := ⟨_, rfl⟩
     have ba : Below a2_12.heap.size a2_12 a2_17 := by rw [← hA]; exact Below.alloc (Below.refl _ _) (Nat.le_refl _) _
     have Z2_1a2_17 := Lib.hid (show a2_17.heap[p2_1]? = some (.cells #[.int .i64 0, .int .i64 0, .int .i64 0] 31 (0, 0)) from by rw [← hA, hp]; exact heap_alloc_new _ _)
     have tp2_1 : wm.heap.size ≤ p2_1 := by rw [hp]; exact Da2_12.out.size
     have n2_0_2_1 : p2_0 ≠ p2_1 := by have hh := box_lt Z2_0a2_12.out; rw [hp]; intro e; rw [e] at hh; exact Nat.lt_irrefl _ hh
     have Da2_17 : Hid (Below wm.heap.size wm a2_17) := Below.trans Da2_12.out (ba.mono Da2_12.out.size)
     have Z2_0a2_17 := Lib.hid ((ba.block p2_0 (box_lt Z2_0a2_12.out)).trans Z2_0a2_12.out)
     rw [← hp]
     clear hA hp ba
     refine hK.out _ _ ?_ (fun hHeld => ?_)
     · try dsimp only
       exact KS.out _ Da2_17.out
     clear hK K
     try simp only [Act.put, sa, sb, sc]
     refine wpAnyH_ready (rs := [4]) (by kernel_rfl) (by simp) ?_
     refine (AllReadyH.cons (by (simp only [ea, eb, ec]); (try exact rfl)) (fun K hK => ?_) AllReadyH.nil)
     go_simp
     go_at_call 36
     refine (c2.out _ (HT.out _ (BM.out.trans (Da2_17.out.mono (BM.out.size))))).mono ?_
     rintro e u2_18 ⟨rfl, bb⟩
     have Du2_18 : Hid (Below wm.heap.size wm u2_18) := Below.trans Da2_17.out (bb.mono Da2_17.out.size)
     have Z2_0u2_18 := Lib.hid ((bb.block p2_0 (box_lt Z2_0a2_17.out)).trans Z2_0a2_17.out)
     have Z2_1u2_18 := Lib.hid ((bb.block p2_1 (box_lt Z2_1a2_17.out)).trans Z2_1a2_17.out)
     clear bb
     (first | refine hK.out _ _ ?_ (fun hHeld => ?_) | (go_wp2_with fail; refine hK.out _ _ ?_ (fun hHeld => ?_)))
     · try dsimp only
       exact KS.out _ Du2_18.out
     clear hK K
     try simp only [Act.put, sa, sb, sc]
     refine wpAnyH_take (i := 5) (v := ?_) (by (simp only [ea, eb, ec]); (try exact rfl)) (by kernel_rfl) (by kernel_rfl) (by kernel_rfl) (by intro _ _ _ h; exact h) (Or.inl ⟨by rfl, ?_⟩) (by assumption) ?_
     rotate_left
     · intro w hSw
       try dsimp only at hSw
       go_simp
       try with_reducible rfl
     try simp only [Act.put, sa, sb, sc]
     refine wpAnyH_take (i := 6) (v := ?_) (by (simp only [ea, eb, ec]); (try exact rfl)) (by kernel_rfl) (by kernel_rfl) (by kernel_rfl) (by intro _ _ _ h; exact h) (Or.inl ⟨by rfl, ?_⟩) (by assumption) ?_
     rotate_left
     · intro w hSw
       try dsimp only at hSw
       go_simp
       try with_reducible rfl
     try simp only [Act.put, sa, sb, sc]
     refine wpAnyH_take (i := 7) (v := ?_) (by (simp only [ea, eb, ec]); (try exact rfl)) (by kernel_rfl) (by kernel_rfl) (by kernel_rfl) (by intro _ _ _ h; exact h) (Or.inl ⟨by rfl, ?_⟩) (by assumption) ?_
     rotate_left
     · intro w hSw
       try dsimp only at hSw
       go_simp
       try with_reducible rfl
     try simp only [Act.put, sa, sb, sc]
     refine wpAnyH_take (i := 8) (v := ?_) (by (simp only [ea, eb, ec]); (try exact rfl)) (by kernel_rfl) (by kernel_rfl) (by kernel_rfl) (by intro _ _ _ h; exact h) (Or.inl ⟨by rfl, ?_⟩) (by assumption) ?_
     rotate_left
     · intro w hSw
       try dsimp only at hSw
       go_simp
       try with_reducible rfl
     try simp only [Act.put, sa, sb, sc]
     refine wpAnyH_ready (rs := [11]) (by kernel_rfl) (by simp) ?_
     refine AllReadyH.cons (by (simp only [ea, eb, ec]); (try exact rfl)) (fun K hK => ?_) AllReadyH.nil
     refine step_store_Co rfl _ _ rfl p2_0 (⟨0, 0, 0⟩ : Co) r0 _ rfl rfl Z2_0u2_18.out ?_
     intro e2_19 hE oE bE
     have De2_19 : Hid (Below wm.heap.size wm e2_19) := Below.trans Du2_18.out (bE.mono tp2_0)
     have Z2_0e2_19 := Lib.hid hE
     have Z2_1e2_19 := Lib.hid ((oE p2_1 (by first | assumption | exact Ne.symm (by assumption))).trans Z2_1u2_18.out)
     clear hE oE bE
     refine hK.out _ _ ?_ (fun hHeld => ?_)
     · try dsimp only
       exact KS.out _ De2_19.out
     clear hK K
     try simp only [Act.put, sa, sb, sc]
     refine wpAnyH_ready (rs := [12]) (by kernel_rfl) (by simp) ?_
     refine AllReadyH.cons (by (simp only [ea, eb, ec]); (try exact rfl)) (fun K hK => ?_) AllReadyH.nil
     refine step_store_Co rfl _ _ rfl p2_1 (⟨0, 0, 0⟩ : Co) r1 _ rfl rfl Z2_1e2_19.out ?_
     intro e2_20 hE oE bE
     have De2_20 : Hid (Below wm.heap.size wm e2_20) := Below.trans De2_19.out (bE.mono tp2_1)
     have Z2_1e2_20 := Lib.hid hE
     have Z2_0e2_20 := Lib.hid ((oE p2_0 (by first | assumption | exact Ne.symm (by assumption))).trans Z2_0e2_19.out)
     clear hE oE bE
     refine hK.out _ _ ?_ (fun hHeld => ?_)
     · try dsimp only
       exact KS.out _ De2_20.out
     clear hK K
     try simp only [Act.put, sa, sb, sc]
     refine wpAnyH_take (i := 13) (v := ?_) (by (simp only [ea, eb, ec]); (try exact rfl)) (by kernel_rfl) (by kernel_rfl) (by kernel_rfl) (by intro _ _ _ h; exact h) (Or.inl ⟨by rfl, ?_⟩) (by assumption) ?_
     rotate_left
     · intro w hSw
       try dsimp only at hSw
       go_simp
       try with_reducible rfl
     try simp only [Act.put, sa, sb, sc]
     refine wpAnyH_done (by kernel_rfl) ?_ _
     go_wp2_with fail
     go_meet
     exact ⟨p2_0, p2_1, rfl, rfl, rfl, De2_20, Z2_0e2_20, Z2_1e2_20⟩
     go_simp
     generalize hA : World.alloc u2_2 (.cells #[.int .i64 0, .int .i64 0, .int .i64 0] 31) = a2_21
     obtain ⟨p2_1, hp⟩ : ∃ p, p = u2_2.heap.size := ⟨_, rfl⟩
     have ba : Below u2_2.heap.size u2_2 a2_21 := by rw [← hA]; exact Below.alloc (Below.refl _ _) (Nat.le_refl _) _
     have Z2_1a2_21 := Lib.hid (show a2_21.heap[p2_1]? = some (.cells #[.int .i64 0, .int .i64 0, .int .i64 0] 31 (0, 0)) from by rw [← hA, hp]; exact heap_alloc_new _ _)
     have tp2_1 : wm.heap.size ≤ p2_1 := by rw [hp]; exact Du2_2.out.size
     have Da2_21 : Hid (Below wm.heap.size wm a2_21) := Below.trans Du2_2.out (ba.mono Du2_2.out.size)
     rw [← hp]
     clear hA hp ba
     refine hK.out _ _ ?_ (fun hHeld => ?_)
     · try dsimp only
       exact KS.out _ Da2_21.out
     clear hK K
     try simp only [Act.put, sa, sb, sc]
     refine wpAnyH_ready (rs := [4, 9]) (by kernel_rfl) (by simp) ?_
     refine (AllReadyH.cons (by (simp only [ea, eb, ec]); (try exact rfl)) (fun K hK => ?_) (AllReadyH.cons (by (simp only [ea, eb, ec]); (try exact rfl)) (fun K hK => ?_) AllReadyH.nil))
     go_simp
     go_at_call 36
     refine (c2.out _ (HT.out _ (BM.out.trans (Da2_21.out.mono (BM.out.size))))).mono ?_
     rintro e u2_22 ⟨rfl, bb⟩
     have Du2_22 : Hid (Below wm.heap.size wm u2_22) := Below.trans Da2_21.out (bb.mono Da2_21.out.size)
     have Z2_1u2_22 := Lib.hid ((bb.block p2_1 (box_lt Z2_1a2_21.out)).trans Z2_1a2_21.out)
     clear bb
     (first | refine hK.out _ _ ?_ (fun hHeld => ?_) | (go_wp2_with fail; refine hK.out _ _ ?_ (fun hHeld => ?_)))
     · try dsimp only
       exact KS.out _ Du2_22.out
     clear hK K
     try simp only [Act.put, sa, sb, sc]
     refine wpAnyH_take (i := 5) (v := ?_) (by (simp only [ea, eb, ec]); (try exact rfl)) (by kernel_rfl) (by kernel_rfl) (by kernel_rfl) (by intro _ _ _ h; exact h) (Or.inl ⟨by rfl, ?_⟩) (by assumption) ?_
     rotate_left
     · intro w hSw
       try dsimp only at hSw
       go_simp
       try with_reducible rfl
     try simp only [Act.put, sa, sb, sc]
     refine wpAnyH_take (i := 6) (v := ?_) (by (simp only [ea, eb, ec]); (try exact rfl)) (by kernel_rfl) (by kernel_rfl) (by kernel_rfl) (by intro _ _ _ h; exact h) (Or.inl ⟨by rfl, ?_⟩) (by assumption) ?_
     rotate_left
     · intro w hSw
       try dsimp only at hSw
       go_simp
       try with_reducible rfl
     try simp only [Act.put, sa, sb, sc]
     refine wpAnyH_take (i := 7) (v := ?_) (by (simp only [ea, eb, ec]); (try exact rfl)) (by kernel_rfl) (by kernel_rfl) (by kernel_rfl) (by intro _ _ _ h; exact h) (Or.inl ⟨by rfl, ?_⟩) (by assumption) ?_
     rotate_left
     · intro w hSw
       try dsimp only at hSw
       go_simp
       try with_reducible rfl
     try simp only [Act.put, sa, sb, sc]
     refine wpAnyH_take (i := 8) (v := ?_) (by (simp only [ea, eb, ec]); (try exact rfl)) (by kernel_rfl) (by kernel_rfl) (by kernel_rfl) (by intro _ _ _ h; exact h) (Or.inl ⟨by rfl, ?_⟩) (by assumption) ?_
     rotate_left
     · intro w hSw
       try dsimp only at hSw
       go_simp
       try with_reducible rfl
     try simp only [Act.put, sa, sb, sc]
     refine wpAnyH_ready (rs := [9]) (by kernel_rfl) (by simp) ?_
     refine (AllReadyH.cons (by (simp only [ea, eb, ec]); (try exact rfl)) (fun K hK => ?_) AllReadyH.nil)
     go_simp
     generalize hA : World.alloc u2_22 (.cells #[.int .i64 0, .int .i64 0, .int .i64 0] 31) = a2_23
     obtain ⟨p2_0, hp⟩ : ∃ p, p = u2_22.heap.size := ⟨_, rfl⟩
     have ba : Below u2_22.heap.size u2_22 a2_23 := by rw [← hA]; exact Below.alloc (Below.refl _ _) (Nat.le_refl _) _
     have Z2_0a2_23 := Lib.hid (show a2_23.heap[p2_0]? = some (.cells #[.int .i64 0, .int .i64 0, .int .i64 0] 31 (0, 0)) from by rw [← hA, hp]; exact heap_alloc_new _ _)
     have tp2_0 : wm.heap.size ≤ p2_0 := by rw [hp]; exact Du2_22.out.size
     have n2_1_2_0 : p2_1 ≠ p2_0 := by have hh := box_lt Z2_1u2_22.out; rw [hp]; intro e; rw [e] at hh; exact Nat.lt_irrefl _ hh
     have Da2_23 : Hid (Below wm.heap.size wm a2_23) := Below.trans Du2_22.out (ba.mono Du2_22.out.size)
     have Z2_1a2_23 := Lib.hid ((ba.block p2_1 (box_lt Z2_1u2_22.out)).trans Z2_1u2_22.out)
     rw [← hp]
     clear hA hp ba
     refine hK.out _ _ ?_ (fun hHeld => ?_)
     · try dsimp only
       exact KS.out _ Da2_23.out
     clear hK K
     try simp only [Act.put, sa, sb, sc]
     refine wpAnyH_ready (rs := [11]) (by kernel_rfl) (by simp) ?_
     refine AllReadyH.cons (by (simp only [ea, eb, ec]); (try exact rfl)) (fun K hK => ?_) AllReadyH.nil
     refine step_store_Co rfl _ _ rfl p2_0 (⟨0, 0, 0⟩ : Co) r0 _ rfl rfl Z2_0a2_23.out ?_
     intro e2_24 hE oE bE
     have De2_24 : Hid (Below wm.heap.size wm e2_24) := Below.trans Da2_23.out (bE.mono tp2_0)
     have Z2_0e2_24 := Lib.hid hE
     have Z2_1e2_24 := Lib.hid ((oE p2_1 (by first | assumption | exact Ne.symm (by assumption))).trans Z2_1a2_23.out)
     clear hE oE bE
     refine hK.out _ _ ?_ (fun hHeld => ?_)
     · try dsimp only
       exact KS.out _ De2_24.out
     clear hK K
     try simp only [Act.put, sa, sb, sc]
     refine wpAnyH_ready (rs := [12]) (by kernel_rfl) (by simp) ?_
     refine AllReadyH.cons (by (simp only [ea, eb, ec]); (try exact rfl)) (fun K hK => ?_) AllReadyH.nil
     refine step_store_Co rfl _ _ rfl p2_1 (⟨0, 0, 0⟩ : Co) r1 _ rfl rfl Z2_1e2_24.out ?_
     intro e2_25 hE oE bE
     have De2_25 : Hid (Below wm.heap.size wm e2_25) := Below.trans De2_24.out (bE.mono tp2_1)
     have Z2_1e2_25 := Lib.hid hE
     have Z2_0e2_25 := Lib.hid ((oE p2_0 (by first | assumption | exact Ne.symm (by assumption))).trans Z2_0e2_24.out)
     clear hE oE bE
     refine hK.out _ _ ?_ (fun hHeld => ?_)
     · try dsimp only
       exact KS.out _ De2_25.out
     clear hK K
     try simp only [Act.put, sa, sb, sc]
     refine wpAnyH_take (i := 13) (v := ?_) (by (simp only [ea, eb, ec]); (try exact rfl)) (by kernel_rfl) (by kernel_rfl) (by kernel_rfl) (by intro _ _ _ h; exact h) (Or.inl ⟨by rfl, ?_⟩) (by assumption) ?_
     rotate_left
     · intro w hSw
       try dsimp only at hSw
       go_simp
       try with_reducible rfl
     try simp only [Act.put, sa, sb, sc]
     refine wpAnyH_done (by kernel_rfl) ?_ _
     go_wp2_with fail
     go_meet
     exact ⟨p2_0, p2_1, rfl, rfl, rfl, De2_25, Z2_0e2_25, Z2_1e2_25⟩
     go_simp
     generalize hA : World.alloc a2_21 (.cells #[.int .i64 0, .int .i64 0, .int .i64 0] 31) = a2_26
     obtain ⟨p2_0, hp⟩ : ∃ p, p = a2_21.heap.size := ⟨_, rfl⟩
     have ba : Below a2_21.heap.size a2_21 a2_26 := by rw [← hA]; exact Below.alloc (Below.refl _ _) (Nat.le_refl _) _
     have Z2_0a2_26 := Lib.hid (show a2_26.heap[p2_0]? = some (.cells #[.int .i64 0, .int .i64 0, .int .i64 0] 31 (0, 0)) from by rw [← hA, hp]; exact heap_alloc_new _ _)
     have tp2_0 : wm.heap.size ≤ p2_0 := by rw [hp]; exact Da2_21.out.size
     have n2_1_2_0 : p2_1 ≠ p2_0 := by have hh := box_lt Z2_1a2_21.out; rw [hp]; intro e; rw [e] at hh; exact Nat.lt_irrefl _ hh
     have Da2_26 : Hid (Below wm.heap.size wm a2_26) := Below.trans Da2_21.out (ba.mono Da2_21.out.size)
     have Z2_1a2_26 := Lib.hid ((ba.block p2_1 (box_lt Z2_1a2_21.out)).trans Z2_1a2_21.out)
     rw [← hp]
     clear hA hp ba
     refine hK.out _ _ ?_ (fun hHeld => ?_)
     · try dsimp only
       exact KS.out _ Da2_26.out
     clear hK K
     try simp only [Act.put, sa, sb, sc]
     refine wpAnyH_ready (rs := [4]) (by kernel_rfl) (by simp) ?_
     refine (AllReadyH.cons (by (simp only [ea, eb, ec]); (try exact rfl)) (fun K hK => ?_) AllReadyH.nil)
     go_simp
     go_at_call 36
     refine (c2.out _ (HT.out _ (BM.out.trans (Da2_26.out.mono (BM.out.size))))).mono ?_
     rintro e u2_27 ⟨rfl, bb⟩
     have Du2_27 : Hid (Below wm.heap.size wm u2_27) := Below.trans Da2_26.out (bb.mono Da2_26.out.size)
     have Z2_1u2_27 := Lib.hid ((bb.block p2_1 (box_lt Z2_1a2_26.out)).trans Z2_1a2_26.out)
     have Z2_0u2_27 := Lib.hid ((bb.block p2_0 (box_lt Z2_0a2_26.out)).trans Z2_0a2_26.out)
     clear bb
     (first | refine hK.out _ _ ?_ (fun hHeld => ?_) | (go_wp2_with fail; refine hK.out _ _ ?_ (fun hHeld => ?_)))
     · try dsimp only
       exact KS.out _ Du2_27.out
     clear hK K
     try simp only [Act.put, sa, sb, sc]
     refine wpAnyH_take (i := 5) (v := ?_) (by (simp only [ea, eb, ec]); (try exact rfl)) (by kernel_rfl) (by kernel_rfl) (by kernel_rfl) (by intro _ _ _ h; exact h) (Or.inl ⟨by rfl, ?_⟩) (by assumption) ?_
     rotate_left
     · intro w hSw
       try dsimp only at hSw
       go_simp
       try with_reducible rfl
     try simp only [Act.put, sa, sb, sc]
     refine wpAnyH_take (i := 6) (v := ?_) (by (simp only [ea, eb, ec]); (try exact rfl)) (by kernel_rfl) (by kernel_rfl) (by kernel_rfl) (by intro _ _ _ h; exact h) (Or.inl ⟨by rfl, ?_⟩) (by assumption) ?_
     rotate_left
     · intro w hSw
       try dsimp only at hSw
       go_simp
       try with_reducible rfl
     try simp only [Act.put, sa, sb, sc]
     refine wpAnyH_take (i := 7) (v := ?_) (by (simp only [ea, eb, ec]); (try exact rfl)) (by kernel_rfl) (by kernel_rfl) (by kernel_rfl) (by intro _ _ _ h; exact h) (Or.inl ⟨by rfl, ?_⟩) (by assumption) ?_
     rotate_left
     · intro w hSw
       try dsimp only at hSw
       go_simp
       try with_reducible rfl
     try simp only [Act.put, sa, sb, sc]
     refine wpAnyH_take (i := 8) (v := ?_) (by (simp only [ea, eb, ec]); (try exact rfl)) (by kernel_rfl) (by kernel_rfl) (by kernel_rfl) (by intro _ _ _ h; exact h) (Or.inl ⟨by rfl, ?_⟩) (by assumption) ?_
     rotate_left
     · intro w hSw
       try dsimp only at hSw
       go_simp
       try with_reducible rfl
     try simp only [Act.put, sa, sb, sc]
     refine wpAnyH_ready (rs := [11]) (by kernel_rfl) (by simp) ?_
     refine AllReadyH.cons (by (simp only [ea, eb, ec]); (try exact rfl)) (fun K hK => ?_) AllReadyH.nil
     refine step_store_Co rfl _ _ rfl p2_0 (⟨0, 0, 0⟩ : Co) r0 _ rfl rfl Z2_0u2_27.out ?_
     intro e2_28 hE oE bE
     have De2_28 : Hid (Below wm.heap.size wm e2_28) := Below.trans Du2_27.out (bE.mono tp2_0)
     have Z2_0e2_28 := Lib.hid hE
     have Z2_1e2_28 := Lib.hid ((oE p2_1 (by first | assumption | exact Ne.symm (by assumption))).trans Z2_1u2_27.out)
     clear hE oE bE
     refine hK.out _ _ ?_ (fun hHeld => ?_)
     · try dsimp only
       exact KS.out _ De2_28.out
     clear hK K
     try simp only [Act.put, sa, sb, sc]
     refine wpAnyH_ready (rs := [12]) (by kernel_rfl) (by simp) ?_
     refine AllReadyH.cons (by (simp only [ea, eb, ec]); (try exact rfl)) (fun K hK => ?_) AllReadyH.nil
     refine step_store_Co rfl _ _ rfl p2_1 (⟨0, 0, 0⟩ : Co) r1 _ rfl rfl Z2_1e2_28.out ?_
     intro e2_29 hE oE bE
     have De2_29 : Hid (Below wm.heap.size wm e2_29) := Below.trans De2_28.out (bE.mono tp2_1)
     have Z2_1e2_29 := Lib.hid hE
     have Z2_0e2_29 := Lib.hid ((oE p2_0 (by first | assumption | exact Ne.symm (by assumption))).trans Z2_0e2_28.out)
     clear hE oE bE
     refine hK.out _ _ ?_ (fun hHeld => ?_)
     · try dsimp only
       exact KS.out _ De2_29.out
     clear hK K
     try simp only [Act.put, sa, sb, sc]
     refine wpAnyH_take (i := 13) (v := ?_) (by (simp only [ea, eb, ec]); (try exact rfl)) (by kernel_rfl) (by kernel_rfl) (by kernel_rfl) (by intro _ _ _ h; exact h) (Or.inl ⟨by rfl, ?_⟩) (by assumption) ?_
     rotate_left
     · intro w hSw
       try dsimp only at hSw
       go_simp
       try with_reducible rfl
     try simp only [Act.put, sa, sb, sc]
     refine wpAnyH_done (by kernel_rfl) ?_ _
     go_wp2_with fail
     go_meet
     exact ⟨p2_0, p2_1, rfl, rfl, rfl, De2_29, Z2_0e2_29, Z2_1e2_29⟩
     go_simp
     generalize hA : World.alloc u2_1 (.cells #[.int .i64 0, .int .i64 0, .int .i64 0] 31) = a2_30
     obtain ⟨p2_0, hp⟩ : ∃ p, p = u2_1.heap.size := ⟨_, rfl⟩
     have ba : Below u2_1.heap.size u2_1 a2_30 := by rw [← hA]; exact Below.alloc (Below.refl _ _) (Nat.le_refl _) _
     have Z2_0a2_30 := Lib.hid (show a2_30.heap[p2_0]? = some (.cells #[.int .i64 0, .int .i64 0, .int .i64 0] 31 (0, 0)) from by rw [← hA, hp]; exact heap_alloc_new _ _)
     have tp2_0 : wm.heap.size ≤ p2_0 := by rw [hp]; exact Du2_1.out.size
     have Da2_30 : Hid (Below wm.heap.size wm a2_30) := Below.trans Du2_1.out (ba.mono Du2_1.out.size)
     rw [← hp]
     clear hA hp ba
     refine hK.out _ _ ?_ (fun hHeld => ?_)
     · try dsimp only
       exact KS.out _ Da2_30.out
     clear hK K
     try simp only [Act.put, sa, sb, sc]
     refine wpAnyH_ready (rs := [3, 10]) (by kernel_rfl) (by simp) ?_
     refine (AllReadyH.cons (by (simp only [ea, eb, ec]); (try exact rfl)) (fun K hK => ?_) (AllReadyH.cons (by (simp only [ea, eb, ec]); (try exact rfl)) (fun K hK => ?_) AllReadyH.nil))
     go_simp
     go_at_call 35
     refine (toPose_blw q1 _).mono ?_
     rintro e u2_31 ⟨rfl, bb⟩
     have Du2_31 : Hid (Below wm.heap.size wm u2_31) := Below.trans Da2_30.out (bb.mono Da2_30.out.size)
     have Z2_0u2_31 := Lib.hid ((bb.block p2_0 (box_lt Z2_0a2_30.out)).trans Z2_0a2_30.out)
     clear bb
     (first | refine hK.out _ _ ?_ (fun hHeld => ?_) | (go_wp2_with fail; refine hK.out _ _ ?_ (fun hHeld => ?_)))
     · try dsimp only
       exact KS.out _ Du2_31.out
     clear hK K
     try simp only [Act.put, sa, sb, sc]
     refine wpAnyH_ready (rs := [4, 10]) (by kernel_rfl) (by simp) ?_
     refine (AllReadyH.cons (by (simp only [ea, eb, ec]); (try exact rfl)) (fun K hK => ?_) (AllReadyH.cons (by (simp only [ea, eb, ec]); (try exact rfl)) (fun K hK => ?_) AllReadyH.nil))
     go_simp
     go_at_call 36
     refine (c2.out _ (HT.out _ (BM.out.trans (Du2_31.out.mono (BM.out.size))))).mono ?_
     rintro e u2_32 ⟨rfl, bb⟩
     have Du2_32 : Hid (Below wm.heap.size wm u2_32) := Below.trans Du2_31.out (bb.mono Du2_31.out.size)
     have Z2_0u2_32 := Lib.hid ((bb.block p2_0 (box_lt Z2_0u2_31.out)).trans Z2_0u2_31.out)
     clear bb
     (first | refine hK.out _ _ ?_ (fun hHeld => ?_) | (go_wp2_with fail; refine hK.out _ _ ?_ (fun hHeld => ?_)))
     · try dsimp only
       exact KS.out _ Du2_32.out
     clear hK K
     try simp only [Act.put, sa, sb, sc]
     refine wpAnyH_take (i := 5) (v := ?_) (by (simp only [ea, eb, ec]); (try exact rfl)) (by kernel_rfl) (by kernel_rfl) (by kernel_rfl) (by intro _ _ _ h; exact h) (Or.inl ⟨by rfl, ?_⟩) (by assumption) ?_
     rotate_left
     · intro w hSw
       try dsimp only at hSw
       go_simp
       try with_reducible rfl
     try simp only [Act.put, sa, sb, sc]
     refine wpAnyH_take (i := 6) (v := ?_) (by (simp only [ea, eb, ec]); (try exact rfl)) (by kernel_rfl) (by kernel_rfl) (by kernel_rfl) (by intro _ _ _ h; exact h) (Or.inl ⟨by rfl, ?_⟩) (by assumption) ?_
     rotate_left
     · intro w hSw
       try dsimp only at hSw
       go_simp
       try with_reducible rfl
     try simp only [Act.put, sa, sb, sc]
     refine wpAnyH_take (i := 7) (v := ?_) (by (simp only [ea, eb, ec]); (try exact rfl)) (by kernel_rfl) (by kernel_rfl) (by kernel_rfl) (by intro _ _ _ h; exact h) (Or.inl ⟨by rfl, ?_⟩) (by assumption) ?_
     rotate_left
     · intro w hSw
       try dsimp only at hSw
       go_simp
       try with_reducible rfl
     try simp only [Act.put, sa, sb, sc]
     refine wpAnyH_take (i := 8) (v := ?_) (by (simp only [ea, eb, ec]); (try exact rfl)) (by kernel_rfl) (by kernel_rfl) (by kernel_rfl) (by intro _ _ _ h; exact h) (Or.inl ⟨by rfl, ?_⟩) (by assumption) ?_
     rotate_left
     · intro w hSw
       try dsimp only at hSw
       go_simp
       try with_reducible rfl
     try simp only [Act.put, sa, sb, sc]
     refine wpAnyH_ready (rs := [10]) (by kernel_rfl) (by simp) ?_
     refine (AllReadyH.cons (by (simp only [ea, eb, ec]); (try exact rfl)) (fun K hK => ?_) AllReadyH.nil)
     go_simp
     generalize hA : World.alloc u2_32 (.cells #[.int .i64 0, .int .i64 0, .int .i64 0] 31) = a2_33
     obtain ⟨p2_1, hp⟩ : ∃ p, p = u2_32.heap.size := ⟨_, rfl⟩
     have ba : Below u2_32.heap.size u2_32 a2_33 := by rw [← hA]; exact Below.alloc (Below.refl _ _) (Nat.le_refl _) _
     have Z2_1a2_33 := Lib.hid (show a2_33.heap[p2_1]? = some (.cells #[.int .i64 0, .int .i64 0, .int .i64 0] 31 (0, 0)) from by rw [← hA, hp]; exact heap_alloc_new _ _)
     have tp2_1 : wm.heap.size ≤ p2_1 := by rw [hp]; exact Du2_32.out.size
     have n2_0_2_1 : p2_0 ≠ p2_1 := by have hh := box_lt Z2_0u2_32.out; rw [hp]; intro e; rw [e] at hh; exact Nat.lt_irrefl _ hh
     have Da2_33 : Hid (Below wm.heap.size wm a2_33) := Below.trans Du2_32.out (ba.mono Du2_32.out.size)
     have Z2_0a2_33 := Lib.hid ((ba.block p2_0 (box_lt Z2_0u2_32.out)).trans Z2_0u2_32.out)
     rw [← hp]
     clear hA hp ba
     refine hK.out _ _ ?_ (fun hHeld => ?_)
     · try dsimp only
       exact KS.out _ Da2_33.out
     clear hK K
     try simp only [Act.put, sa, sb, sc]
     refine wpAnyH_ready (rs := [11]) (by kernel_rfl) (by simp) ?_
     refine AllReadyH.cons (by (simp only [ea, eb, ec]); (try exact rfl)) (fun K hK => ?_) AllReadyH.nil
     refine step_store_Co rfl _ _ rfl p2_0 (⟨0, 0, 0⟩ : Co) r0 _ rfl rfl Z2_0a2_33.out ?_
     intro e2_34 hE oE bE
     have De2_34 : Hid (Below wm.heap.size wm e2_34) := Below.trans Da2_33.out (bE.mono tp2_0)
     have Z2_0e2_34 := Lib.hid hE
     have Z2_1e2_34 := Lib.hid ((oE p2_1 (by first | assumption | exact Ne.symm (by assumption))).trans Z2_1a2_33.out)
     clear hE oE bE
     refine hK.out _ _ ?_ (fun hHeld => ?_)
     · try dsimp only
       exact KS.out _ De2_34.out
     clear hK K
     try simp only [Act.put, sa, sb, sc]
     refine wpAnyH_ready (rs := [12]) (by kernel_rfl) (by simp) ?_
     refine AllReadyH.cons (by (simp only [ea, eb, ec]); (try exact rfl)) (fun K hK => ?_) AllReadyH.nil
     refine step_store_Co rfl _ _ rfl p2_1 (⟨0, 0, 0⟩ : Co) r1 _ rfl rfl Z2_1e2_34.out ?_
     intro e2_35 hE oE bE
     have De2_35 : Hid (Below wm.heap.size wm e2_35) := Below.trans De2_34.out (bE.mono tp2_1)
     have Z2_1e2_35 := Lib.hid hE
     have Z2_0e2_35 := Lib.hid ((oE p2_0 (by first | assumption | exact Ne.symm (by assumption))).trans Z2_0e2_34.out)
     clear hE oE bE
     refine hK.out _ _ ?_ (fun hHeld => ?_)
     · try dsimp only
       exact KS.out _ De2_35.out
     clear hK K
     try simp only [Act.put, sa, sb, sc]
     refine wpAnyH_take (i := 13) (v := ?_) (by (simp only [ea, eb, ec]); (try exact rfl)) (by kernel_rfl) (by kernel_rfl) (by kernel_rfl) (by intro _ _ _ h; exact h) (Or.inl ⟨by rfl, ?_⟩) (by assumption) ?_
     rotate_left
     · intro w hSw
       try dsimp only at hSw
       go_simp
       try with_reducible rfl
     try simp only [Act.put, sa, sb, sc]
     refine wpAnyH_done (by kernel_rfl) ?_ _
     go_wp2_with fail
     go_meet
     exact ⟨p2_0, p2_1, rfl, rfl, rfl, De2_35, Z2_0e2_35, Z2_1e2_35⟩
     go_simp
     generalize hA : World.alloc u2_31 (.cells #[.int .i64 0, .int .i64 0, .int .i64 0] 31) = a2_36
     obtain ⟨p2_1, hp⟩ : ∃ p, p = u2_31.heap.size := ⟨_, rfl⟩
     have ba : Below u2_31.heap.size u2_31 a2_36 := by rw [← hA]; exact Below.alloc (Below.refl _ _) (Nat.le_refl _) _
     have Z2_1a2_36 := Lib.hid (show a2_36.heap[p2_1]? = some (.cells #[.int .i64 0, .int .i64 0, .int .i64 0] 31 (0, 0)) from by rw [← hA, hp]; exact heap_alloc_new _ _)
     have tp2_1 : wm.heap.size ≤ p2_1 := by rw [hp]; exact Du2_31.out.size
     have n2_0_2_1 : p2_0 ≠ p2_1 := by have hh := box_lt Z2_0u2_31.out; rw [hp]; intro e; rw [e] at hh; exact Nat.lt_irrefl _ hh
     have Da2_36 : Hid (Below wm.heap.size wm a2_36) := Below.trans Du2_31.out (ba.mono Du2_31.out.size)
     have Z2_0a2_36 := Lib.hid ((ba.block p2_0 (box_lt Z2_0u2_31.out)).trans Z2_0u2_31.out)
     rw [← hp]
     clear hA hp ba
     refine hK.out _ _ ?_ (fun hHeld => ?_)
     · try dsimp only
       exact KS.out _ Da2_36.out
     clear hK K
     try simp only [Act.put, sa, sb, sc]
     refine wpAnyH_ready (rs := [4]) (by kernel_rfl) (by simp) ?_
     refine (AllReadyH.cons (by (simp only [ea, eb, ec]); (try exact rfl)) (fun K hK => ?_) AllReadyH.nil)
     go_simp
     go_at_call 36
     refine (c2.out _ (HT.out _ (BM.out.trans (Da2_36.out.mono (BM.out.size))))).mono ?_
     rintro e u2_37 ⟨rfl, bb⟩
     have Du2_37 : Hid (Below wm.heap.size wm u2_37) := Below.trans Da2_36.out (bb.mono Da2_36.out.size)
     have Z2_0u2_37 := Lib.hid ((bb.block p2_0 (box_lt Z2_0a2_36.out)).trans Z2_0a2_36.out)
     have Z2_1u2_37 := Lib.hid ((bb.block p2_1 (box_lt Z2_1a2_36.out)).trans Z2_1a2_36.out)
     clear bb
     (first | refine hK.out _ _ ?_ (fun hHeld => ?_) | (go_wp2_with fail; refine hK.out _ _ ?_ (fun hHeld => ?_)))
     · try dsimp only
       exact KS.out _ Du2_37.out
     clear hK K
     try simp only [Act.put, sa, sb, sc]
     refine wpAnyH_take (i := 5) (v := ?_) (by (simp only [ea, eb, ec]); (try exact rfl)) (by kernel_rfl) (by kernel_rfl) (by kernel_rfl) (by intro _ _ _ h; exact h) (Or.inl ⟨by rfl, ?_⟩) (by assumption) ?_
     rotate_left
     · intro w hSw
       try dsimp only at hSw
       go_simp
       try with_reducible rfl
     try simp only [Act.put, sa, sb, sc]
     refine wpAnyH_take (i := 6) (v := ?_) (by (simp only [ea, eb, ec]); (try exact rfl)) (by kernel_rfl) (by kernel_rfl) (by kernel_rfl) (by intro _ _ _ h; exact h) (Or.inl ⟨by rfl, ?_⟩) (by assumption) ?_
     rotate_left
     · intro w hSw
       try dsimp only at hSw
       go_simp
       try with_reducible rfl
     try simp only [Act.put, sa, sb, sc]
     refine wpAnyH_take (i := 7) (v := ?_) (by (simp only [ea, eb, ec]); (try exact rfl)) (by kernel_rfl) (by kernel_rfl) (by kernel_rfl) (by intro _ _ _ h; exact h) (Or.inl ⟨by rfl, ?_⟩) (by assumption) ?_
     rotate_left
     · intro w hSw
       try dsimp only at hSw
       go_simp
       try with_reducible rfl
     try simp only [Act.put, sa, sb, sc]
     refine wpAnyH_take (i := 8) (v := ?_) (by (simp only [ea, eb, ec]); (try exact rfl)) (by kernel_rfl) (by kernel_rfl) (by kernel_rfl) (by intro _ _ _ h; exact h) (Or.inl ⟨by rfl, ?_⟩) (by assumption) ?_
     rotate_left
     · intro w hSw
       try dsimp only at hSw
       go_simp
       try with_reducible rfl
     try simp only [Act.put, sa, sb, sc]
     refine wpAnyH_ready (rs := [11]) (by kernel_rfl) (by simp) ?_
     refine AllReadyH.cons (by (simp only [ea, eb, ec]); (try exact rfl)) (fun K hK => ?_) AllReadyH.nil
     refine step_store_Co rfl _ _ rfl p2_0 (⟨0, 0, 0⟩ : Co) r0 _ rfl rfl Z2_0u2_37.out ?_
     intro e2_38 hE oE bE
     have De2_38 : Hid (Below wm.heap.size wm e2_38) := Below.trans Du2_37.out (bE.mono tp2_0)
     have Z2_0e2_38 := Lib.hid hE
     have Z2_1e2_38 := Lib.hid ((oE p2_1 (by first | assumption | exact Ne.symm (by assumption))).trans Z2_1u2_37.out)
     clear hE oE bE
     refine hK.out _ _ ?_ (fun hHeld => ?_)
     · try dsimp only
       exact KS.out _ De2_38.out
     clear hK K
     try simp only [Act.put, sa, sb, sc]
     refine wpAnyH_ready (rs := [12]) (by kernel_rfl) (by simp) ?_
     refine AllReadyH.cons (by (simp only [ea, eb, ec]); (try exact rfl)) (fun K hK => ?_) AllReadyH.nil
     refine step_store_Co rfl _ _ rfl p2_1 (⟨0, 0, 0⟩ : Co) r1 _ rfl rfl Z2_1e2_38.out ?_
     intro e2_39 hE oE bE
     have De2_39 : Hid (Below wm.heap.size wm e2_39) := Below.trans De2_38.out (bE.mono tp2_1)
     have Z2_1e2_39 := Lib.hid hE
     have Z2_0e2_39 := Lib.hid ((oE p2_0 (by first | assumption | exact Ne.symm (by assumption))).trans Z2_0e2_38.out)
     clear hE oE bE
     refine hK.out _ _ ?_ (fun hHeld => ?_)
     · try dsimp only
       exact KS.out _ De2_39.out
     clear hK K
     try simp only [Act.put, sa, sb, sc]
     refine wpAnyH_take (i := 13) (v := ?_) (by (simp only [ea, eb, ec]); (try exact rfl)) (by kernel_rfl) (by kernel_rfl) (by kernel_rfl) (by intro _ _ _ h; exact h) (Or.inl ⟨by rfl, ?_⟩) (by assumption) ?_
     rotate_left
     · intro w hSw
       try dsimp only at hSw
       go_simp
       try with_reducible rfl
     try simp only [Act.put, sa, sb, sc]
     refine wpAnyH_done (by kernel_rfl) ?_ _
     go_wp2_with fail
     go_meet
     exact ⟨p2_0, p2_1, rfl, rfl, rfl, De2_39, Z2_0e2_39, Z2_1e2_39⟩
     go_simp
     generalize hA : World.alloc a2_30 (.cells #[.int .i64 0, .int .i64 0, .int .i64 0] 31) = a2_40
     obtain ⟨p2_1, hp⟩ : ∃ p, p = a2_30.heap.size := ⟨_, rfl⟩
     have ba : Below a2_30.heap.size a2_30 a2_40 := by rw [← hA]; exact Below.alloc (Below.refl _ _) (Nat.le_refl _) _
     have Z2_1a2_40 := Lib.hid (show a2_40.heap[p2_1]? = some (.cells #[.int .i64 0, .int .i64 0, .int .i64 0] 31 (0, 0)) from by rw [← hA, hp]; exact heap_alloc_new _ _)
     have tp2_1 : wm.heap.size ≤ p2_1 := by rw [hp]; exact Da2_30.out.size
     have n2_0_2_1 : p2_0 ≠ p2_1 := by have hh := box_lt Z2_0a2_30.out; rw [hp]; intro e; rw [e] at hh; exact Nat.lt_irrefl _ hh
     have Da2_40 : Hid (Below wm.heap.size wm a2_40) := Below.trans Da2_30.out (ba.mono Da2_30.out.size)
     have Z2_0a2_40 := Lib.hid ((ba.block p2_0 (box_lt Z2_0a2_30.out)).trans Z2_0a2_30.out)
     rw [← hp]
     clear hA hp ba
     refine hK.out _ _ ?_ (fun hHeld => ?_)
     · try dsimp only
       exact KS.out _ Da2_40.out
     clear hK K
     try simp only [Act.put, sa, sb, sc]
     refine wpAnyH_ready (rs := [3]) (by kernel_rfl) (by simp) ?_
     refine (AllReadyH.cons (by (simp only [ea, eb, ec]); (try exact rfl)) (fun K hK => ?_) AllReadyH.nil)
     go_simp
     go_at_call 35
     refine (toPose_blw q1 _).mono ?_
     rintro e u2_41 ⟨rfl, bb⟩
     have Du2_41 : Hid (Below wm.heap.size wm u2_41) := Below.trans Da2_40.out (bb.mono Da2_40.out.size)
     have Z2_0u2_41 := Lib.hid ((bb.block p2_0 (box_lt Z2_0a2_40.out)).trans Z2_0a2_40.out)
     have Z2_1u2_41 := Lib.hid ((bb.block p2_1 (box_lt Z2_1a2_40.out)).trans Z2_1a2_40.out)
     clear bb
     (first | refine hK.out _ _ ?_ (fun hHeld => ?_) | (go_wp2_with fail; refine hK.out _ _ ?_ (fun hHeld => ?_)))
     · try dsimp only
       exact KS.out _ Du2_41.out
     clear hK K
     try simp only [Act.put, sa, sb, sc]
     refine wpAnyH_ready (rs := [4]) (by kernel_rfl) (by simp) ?_
     refine (AllReadyH.cons (by (simp only [ea, eb, ec]); (try exact rfl)) (fun K hK => ?_) AllReadyH.nil)
     go_simp
     go_at_call 36
     refine (c2.out _ (HT.out _ (BM.out.trans (Du2_41.out.mono (BM.out.size))))).mono ?_
     rintro e u2_42 ⟨rfl, bb⟩
     have Du2_42 : Hid (Below wm.heap.size wm u2_42) := Below.trans Du2_41.out (bb.mono Du2_41.out.size)
     have Z2_0u2_42 := Lib.hid ((bb.block p2_0 (box_lt Z2_0u2_41.out)).trans Z2_0u2_41.out)
     have Z2_1u2_42 := Lib.hid ((bb.block p2_1 (box_lt Z2_1u2_41.out)).trans Z2_1u2_41.out)
     clear bb
     (first | refine hK.out _ _ ?_ (fun hHeld => ?_) | (go_wp2_with fail; refine hK.out _ _ ?_ (fun hHeld => ?_)))
     · try dsimp only
       exact KS.out _ Du2_42.out
     clear hK K
     try simp only [Act.put, sa, sb, sc]
     refine wpAnyH_take (i := 5) (v := ?_) (by (simp only [ea, eb, ec]); (try exact rfl)) (by kernel_rfl) (by kernel_rfl) (by kernel_rfl) (by intro _ _ _ h; exact h) (Or.inl ⟨by rfl, ?_⟩) (by assumption) ?_
     rotate_left
     · intro w hSw
       try dsimp only at hSw
       go_simp
       try with_reducible rfl
     try simp only [Act.put, sa, sb, sc]
     refine wpAnyH_take (i := 6) (v := ?_) (by (simp only [ea, eb, ec]); (try exact rfl)) (by kernel_rfl) (by kernel_rfl) (by kernel_rfl) (by intro _ _ _ h; exact h) (Or.inl ⟨by rfl, ?_⟩) (by assumption) ?_
     rotate_left
     · intro w hSw
       try dsimp only at hSw
       go_simp
       try with_reducible rfl
     try simp only [Act.put, sa, sb, sc]
     refine wpAnyH_take (i := 7) (v := ?_) (by (simp only [ea, eb, ec]); (try exact rfl)) (by kernel_rfl) (by kernel_rfl) (by kernel_rfl) (by intro _ _ _ h; exact h) (Or.inl ⟨by rfl, ?_⟩) (by assumption) ?_
     rotate_left
     · intro w hSw
       try dsimp only at hSw
       go_simp
       try with_reducible rfl
     try simp only [Act.put, sa, sb, sc]
     refine wpAnyH_take (i := 8) (v := ?_) (by (simp only [ea, eb, ec]); (try exact rfl)) (by kernel_rfl) (by kernel_rfl) (by kernel_rfl) (by intro _ _ _ h; exact h) (Or.inl ⟨by rfl, ?_⟩) (by assumption) ?_
     rotate_left
     · intro w hSw
       try dsimp only at hSw
       go_simp
       try with_reducible rfl
     try simp only [Act.put, sa, sb, sc]
     refine wpAnyH_ready (rs := [11]) (by kernel_rfl) (by simp) ?_
     refine AllReadyH.cons (by (simp only [ea, eb, ec]); (try exact rfl)) (fun K hK => ?_) AllReadyH.nil
     refine step_store_Co rfl _ _ rfl p2_0 (⟨0, 0, 0⟩ : Co) r0 _ rfl rfl Z2_0u2_42.out ?_
     intro e2_43 hE oE bE
     have De2_43 : Hid (Below wm.heap.size wm e2_43) := Below.trans Du2_42.out (bE.mono tp2_0)
     have Z2_0e2_43 := Lib.hid hE
     have Z2_1e2_43 := Lib.hid ((oE p2_1 (by first | assumption | exact Ne.symm (by assumption))).trans Z2_1u2_42.out)
     clear hE oE bE
     refine hK.out _ _ ?_ (fun hHeld => ?_)
     · try dsimp only
       exact KS.out _ De2_43.out
     clear hK K
     try simp only [Act.put, sa, sb, sc]
     refine wpAnyH_ready (rs := [12]) (by kernel_rfl) (by simp) ?_
     refine AllReadyH.cons (by (simp only [ea, eb, ec]); (try exact rfl)) (fun K hK => ?_) AllReadyH.nil
     refine step_store_Co rfl _ _ rfl p2_1 (⟨0, 0, 0⟩ : Co) r1 _ rfl rfl Z2_1e2_43.out ?_
     intro e2_44 hE oE bE
     have De2_44 : Hid (Below wm.heap.size wm e2_44) := Below.trans De2_43.out (bE.mono tp2_1)
     have Z2_1e2_44 := Lib.hid hE
     have Z2_0e2_44 := Lib.hid ((oE p2_0 (by first | assumption | exact Ne.symm (by assumption))).trans Z2_0e2_43.out)
     clear hE oE bE
     refine hK.out _ _ ?_ (fun hHeld => ?_)
     · try dsimp only
       exact KS.out _ De2_44.out
     clear hK K
     try simp only [Act.put, sa, sb, sc]
     refine wpAnyH_take (i := 13) (v := ?_) (by (simp only [ea, eb, ec]); (try exact rfl)) (by kernel_rfl) (by kernel_rfl) (by kernel_rfl) (by intro _ _ _ h; exact h) (Or.inl ⟨by rfl, ?_⟩) (by assumption) ?_
     rotate_left
     · intro w hSw
       try dsimp only at hSw
       go_simp
       try with_reducible rfl
     try simp only [Act.put, sa, sb, sc]
     refine wpAnyH_done (by kernel_rfl) ?_ _
     go_wp2_with fail
     go_meet
     exact ⟨p2_0, p2_1, rfl, rfl, rfl, De2_44, Z2_0e2_44, Z2_1e2_44⟩
     go_simp
     generalize hA : World.alloc u2_1 (.cells #[.int .i64 0, .int .i64 0, .int .i64 0] 31) = a2_45
     obtain ⟨p2_1, hp⟩ : ∃ p, p = u2_1.heap.size := ⟨_, rfl⟩
     have ba : Below u2_1.heap.size u2_1 a2_45 := by rw [← hA]; exact Below.alloc (Below.refl _ _) (Nat.le_refl _) _
     have Z2_1a2_45 := Lib.hid (show a2_45.heap[p2_1]? = some (.cells #[.int .i64 0, .int .i64 0, .int .i64 0] 31 (0, 0)) from by rw [← hA, hp]; exact heap_alloc_new _ _)
     have tp2_1 : wm.heap.size ≤ p2_1 := by rw [hp]; exact Du2_1.out.size
     have Da2_45 : Hid (Below wm.heap.size wm a2_45) := Below.trans Du2_1.out (ba.mono Du2_1.out.size)
     rw [← hp]
     clear hA hp ba
     refine hK.out _ _ ?_ (fun hHeld => ?_)
     · try dsimp only
       exact KS.out _ Da2_45.out
     clear hK K
     try simp only [Act.put, sa, sb, sc]
     refine wpAnyH_ready (rs := [3, 9]) (by kernel_rfl) (by simp) ?_
     refine (AllReadyH.cons (by (simp only [ea, eb, ec]); (try exact rfl)) (fun K hK => ?_) (AllReadyH.cons (by (simp only [ea, eb, ec]); (try exact rfl)) (fun K hK => ?_) AllReadyH.nil))
     go_simp
     go_at_call 35
     refine (toPose_blw q1 _).mono ?_
     rintro e u2_46 ⟨rfl, bb⟩
     have Du2_46 : Hid (Below wm.heap.size wm u2_46) := Below.trans Da2_45.out (bb.mono Da2_45.out.size)
     have Z2_1u2_46 := Lib.hid ((bb.block p2_1 (box_lt Z2_1a2_45.out)).trans Z2_1a2_45.out)
     clear bb
     (first | refine hK.out _ _ ?_ (fun hHeld => ?_) | (go_wp2_with fail; refine hK.out _ _ ?_ (fun hHeld => ?_)))
     · try dsimp only
       exact KS.out _ Du2_46.out
     clear hK K
     try simp only [Act.put, sa, sb, sc]
     refine wpAnyH_ready (rs := [4, 9]) (by kernel_rfl) (by simp) ?_
     refine (AllReadyH.cons (by (simp only [ea, eb, ec]); (try exact rfl)) (fun K hK => ?_) (AllReadyH.cons (by (simp only [ea, eb, ec]); (try exact rfl)) (fun K hK => ?_) AllReadyH.nil))
     go_simp
     go_at_call 36
     refine (c2.out _ (HT.out _ (BM.out.trans (Du2_46.out.mono (BM.out.size))))).mono ?_
     rintro e u2_47 ⟨rfl, bb⟩
     have Du2_47 : Hid (Below wm.heap.size wm u2_47) := Below.trans Du2_46.out (bb.mono Du2_46.out.size)
     have Z2_1u2_47 := Lib.hid ((bb.block p2_1 (box_lt Z2_1u2_46.out)).trans Z2_1u2_46.out)
     clear bb
     (first | refine hK.out _ _ ?_ (fun hHeld => ?_) | (go_wp2_with fail; refine hK.out _ _ ?_ (fun hHeld => ?_)))
     · try dsimp only
       exact KS.out _ Du2_47.out
     clear hK K
     try simp only [Act.put, sa, sb, sc]
     refine wpAnyH_take (i := 5) (v := ?_) (by (simp only [ea, eb, ec]); (try exact rfl)) (by kernel_rfl) (by kernel_rfl) (by kernel_rfl) (by intro _ _ _ h; exact h) (Or.inl ⟨by rfl, ?_⟩) (by assumption) ?_
     rotate_left
     · intro w hSw
       try dsimp only at hSw
       go_simp
       try with_reducible rfl
     try simp only [Act.put, sa, sb, sc]
     refine wpAnyH_take (i := 6) (v := ?_) (by (simp only [ea, eb, ec]); (try exact rfl)) (by kernel_rfl) (by kernel_rfl) (by kernel_rfl) (by intro _ _ _ h; exact h) (Or.inl ⟨by rfl, ?_⟩) (by assumption) ?_
     rotate_left
     · intro w hSw
       try dsimp only at hSw
       go_simp
       try with_reducible rfl
     try simp only [Act.put, sa, sb, sc]
     refine wpAnyH_take (i := 7) (v := ?_) (by (simp only [ea, eb, ec]); (try exact rfl)) (by kernel_rfl) (by kernel_rfl) (by kernel_rfl) (by intro _ _ _ h; exact h) (Or.inl ⟨by rfl, ?_⟩) (by assumption) ?_
     rotate_left
     · intro w hSw
       try dsimp only at hSw
       go_simp
       try with_reducible rfl
     try simp only [Act.put, sa, sb, sc]
     refine wpAnyH_take (i := 8) (v := ?_) (by (simp only [ea, eb, ec]); (try exact rfl)) (by kernel_rfl) (by kernel_rfl) (by kernel_rfl) (by intro _ _ _ h; exact h) (Or.inl ⟨by rfl, ?_⟩) (by assumption) ?_
     rotate_left
     · intro w hSw
       try dsimp only at hSw
       go_simp
       try with_reducible rfl
     try simp only [Act.put, sa, sb, sc]
     refine wpAnyH_ready (rs := [9]) (by kernel_rfl) (by simp) ?_
     refine (AllReadyH.cons (by (simp only [ea, eb, ec]); (try exact rfl)) (fun K hK => ?_) AllReadyH.nil)
     go_simp
     generalize hA : World.alloc u2_47 (.cells #[.int .i64 0, .int .i64 0, .int .i64 0] 31) = a2_48
     obtain ⟨p2_0, hp⟩ : ∃ p, p = u2_47.heap.size := ⟨_, rfl⟩
     have ba : Below u2_47.heap.size u2_47 a2_48 := by rw [← hA]; exact Below.alloc (Below.refl _ _) (Nat.le_refl _) _
     have Z2_0a2_48 := Lib.hid (show a2_48.heap[p2_0]? = some (.cells #[.int .i64 0, .int .i64 0, .int .i64 0] 31 (0, 0)) from by rw [← hA, hp]; exact heap_alloc_new _ _)
     have tp2_0 : wm.heap.size ≤ p2_0 := by rw [hp]; exact Du2_47.out.size
     have n2_1_2_0 : p2_1 ≠ p2_0 := by have hh := box_lt Z2_1u2_47.out; rw [hp]; intro e; rw [e] at hh; exact Nat.lt_irrefl _ hh
     have Da2_48 : Hid (Below wm.heap.size wm a2_48) := Below.trans Du2_47.out (ba.mono Du2_47.out.size)
     have Z2_1a2_48 := Lib.hid ((ba.block p2_1 (box_lt Z2_1u2_47.out)).trans Z2_1u2_47.out)
     rw [← hp]
     clear hA hp ba
     refine hK.out _ _ ?_ (fun hHeld => ?_)
     · try dsimp only
       exact KS.out _ Da2_48.out
     clear hK K
     try simp only [Act.put, sa, sb, sc]
     refine wpAnyH_ready (rs := [11]) (by kernel_rfl) (by simp) ?_
     refine AllReadyH.cons (by (simp only [ea, eb, ec]); (try exact rfl)) (fun K hK => ?_) AllReadyH.nil
     refine step_store_Co rfl _ _ rfl p2_0 (⟨0, 0, 0⟩ : Co) r0 _ rfl rfl Z2_0a2_48.out ?_
     intro e2_49 hE oE bE
     have De2_49 : Hid (Below wm.heap.size wm e2_49) := Below.trans Da2_48.out (bE.mono tp2_0)
     have Z2_0e2_49 := Lib.hid hE
     have Z2_1e2_49 := Lib.hid ((oE p2_1 (by first | assumption | exact Ne.symm (by assumption))).trans Z2_1a2_48.out)
     clear hE oE bE
     refine hK.out _ _ ?_ (fun hHeld => ?_)
     · try dsimp only
       exact KS.out _ De2_49.out
     clear hK K
     try simp only [Act.put, sa, sb, sc]
     refine wpAnyH_ready (rs := [12]) (by kernel_rfl) (by simp) ?_
     refine AllReadyH.cons (by (simp only [ea, eb, ec]); (try exact rfl)) (fun K hK => ?_) AllReadyH.nil
     refine step_store_Co rfl _ _ rfl p2_1 (⟨0, 0, 0⟩ : Co) r1 _ rfl rfl Z2_1e2_49.out ?_
     intro e2_50 hE oE bE
     have De2_50 : Hid (Below wm.heap.size wm e2_50) := Below.trans De2_49.out (bE.mono tp2_1)
     have Z2_1e2_50 := Lib.hid hE
     have Z2_0e2_50 := Lib.hid ((oE p2_0 (by first | assumption | exact Ne.symm (by assumption))).trans Z2_0e2_49.out)
     clear hE oE bE
     refine hK.out _ _ ?_ (fun hHeld => ?_)
     · try dsimp only
       exact KS.out _ De2_50.out
     clear hK K
     try simp only [Act.put, sa, sb, sc]
     refine wpAnyH_take (i := 13) (v := ?_) (by (simp only [ea, eb, ec]); (try exact rfl)) (by kernel_rfl) (by kernel_rfl) (by kernel_rfl) (by intro _ _ _ h; exact h) (Or.inl ⟨by rfl, ?_⟩) (by assumption) ?_
     rotate_left
     · intro w hSw
       try dsimp only at hSw
       go_simp
       try with_reducible rfl
     try simp only [Act.put, sa, sb, sc]
     refine wpAnyH_done (by kernel_rfl) ?_ _
     go_wp2_with fail
     go_meet
     exact ⟨p2_0, p2_1, rfl, rfl, rfl, De2_50, Z2_0e2_50, Z2_1e2_50⟩
     go_simp
     generalize hA : World.alloc u2_46 (.cells #[.int .i64 0, .int .i64 0, .int .i64 0] 31) = a2_51
     obtain ⟨p2_0, hp⟩ : ∃ p, p = u2_46.heap.size := ⟨_, rfl⟩
     have ba : Below u2_46.heap.size u2_46 a2_51 := by rw [← hA]; exact Below.alloc (Below.refl _ _) (Nat.le_refl _) _
     have Z2_0a2_51 := Lib.hid (show a2_51.heap[p2_0]? = some (.cells #[.int .i64 0, .int .i64 0, .int .i64 0] 31 (0, 0)) from by rw [← hA, hp]; exact heap_alloc_new _ _)
     have tp2_0 : wm.heap.size ≤ p2_0 := by rw [hp]; exact Du2_46.out.size
     have n2_1_2_0 : p2_1 ≠ p2_0 := by have hh := box_lt Z2_1u2_46.out; rw [hp]; intro e; rw [e] at hh; exact Nat.lt_irrefl _ hh
     have Da2_51 : Hid (Below wm.heap.size wm a2_51) := Below.trans Du2_46.out (ba.mono Du2_46.out.size)
     have Z2_1a2_51 := Lib.hid ((ba.block p2_1 (box_lt Z2_1u2_46.out)).trans Z2_1u2_46.out)
     rw [← hp]
     clear hA hp ba
     refine hK.out _ _ ?_ (fun hHeld => ?_)
     · try dsimp only
       exact KS.out _ Da2_51.out
     clear hK K
     try simp only [Act.put, sa, sb, sc]
     refine wpAnyH_ready (rs := [4]) (by kernel_rfl) (by simp) ?_
     refine (AllReadyH.cons (by (simp only [ea, eb, ec]); (try exact rfl)) (fun K hK => ?_) AllReadyH.nil)
     go_simp
     go_at_call 36
     refine (c2.out _ (HT.out _ (BM.out.trans (Da2_51.out.mono (BM.out.size))))).mono ?_
     rintro e u2_52 ⟨rfl, bb⟩
     have Du2_52 : Hid (Below wm.heap.size wm u2_52) := Below.trans Da2_51.out (bb.mono Da2_51.out.size)
     have Z2_1u2_52 := Lib.hid ((bb.block p2_1 (box_lt Z2_1a2_51.out)).trans Z2_1a2_51.out)
     have Z2_0u2_52 := Lib.hid ((bb.block p2_0 (box_lt Z2_0a2_51.out)).trans Z2_0a2_51.out)
     clear bb
     (first | refine hK.out _ _ ?_ (fun hHeld => ?_) | (go_wp2_with fail; refine hK.out _ _ ?_ (fun hHeld => ?_)))
     · try dsimp only
       exact KS.out _ Du2_52.out
     clear hK K
     try simp only [Act.put, sa, sb, sc]
     refine wpAnyH_take (i := 5) (v := ?_) (by (simp only [ea, eb, ec]); (try exact rfl)) (by kernel_rfl) (by kernel_rfl) (by kernel_rfl) (by intro _ _ _ h; exact h) (Or.inl ⟨by rfl, ?_⟩) (by assumption) ?_
     rotate_left
     · intro w hSw
       try dsimp only at hSw
       go_simp
       try with_reducible rfl
     try simp only [Act.put, sa, sb, sc]
     refine wpAnyH_take (i := 6) (v := ?_) (by (simp only [ea, eb, ec]); (try exact rfl)) (by kernel_rfl) (by kernel_rfl) (by kernel_rfl) (by intro _ _ _ h; exact h) (Or.inl ⟨by rfl, ?_⟩) (by assumption) ?_
     rotate_left
     · intro w hSw
       try dsimp only at hSw
       go_simp
       try with_reducible rfl
     try simp only [Act.put, sa, sb, sc]
     refine wpAnyH_take (i := 7) (v := ?_) (by (simp only [ea, eb, ec]); (try exact rfl)) (by kernel_rfl) (by kernel_rfl) (by kernel_rfl) (by intro _ _ _ h; exact h) (Or.inl ⟨by rfl, ?_⟩) (by assumption) ?_
     rotate_left
     · intro w hSw
       try dsimp only at hSw
       go_simp
       try with_reducible rfl
     try simp only [Act.put, sa, sb, sc]
     refine wpAnyH_take (i := 8) (v := ?_) (by (simp only [ea, eb, ec]); (try exact rfl)) (by kernel_rfl) (by kernel_rfl) (by kernel_rfl) (by intro _ _ _ h; exact h) (Or.inl ⟨by rfl, ?_⟩) (by assumption) ?_
     rotate_left
     · intro w hSw
       try dsimp only at hSw
       go_simp
       try with_reducible rfl
     try simp only [Act.put, sa, sb, sc]
     refine wpAnyH_ready (rs := [11]) (by kernel_rfl) (by simp) ?_
     refine AllReadyH.cons (by (simp only [ea, eb, ec]); (try exact rfl)) (fun K hK => ?_) AllReadyH.nil
     refine step_store_Co rfl _ _ rfl p2_0 (⟨0, 0, 0⟩ : Co) r0 _ rfl rfl Z2_0u2_52.out ?_
     intro e2_53 hE oE bE
     have De2_53 : Hid (Below wm.heap.size wm e2_53) := Below.trans Du2_52.out (bE.mono tp2_0)
     have Z2_0e2_53 := Lib.hid hE
     have Z2_1e2_53 := Lib.hid ((oE p2_1 (by first | assumption | exact Ne.symm (by assumption))).trans Z2_1u2_52.out)
     clear hE oE bE
     refine hK.out _ _ ?_ (fun hHeld => ?_)
     · try dsimp only
       exact KS.out _ De2_53.out
     clear hK K
     try simp only [Act.put, sa, sb, sc]
     refine wpAnyH_ready (rs := [12]) (by kernel_rfl) (by simp) ?_
     refine AllReadyH.cons (by (simp only [ea, eb, ec]); (try exact rfl)) (fun K hK => ?_) AllReadyH.nil
     refine step_store_Co rfl _ _ rfl p2_1 (⟨0, 0, 0⟩ : Co) r1 _ rfl rfl Z2_1e2_53.out ?_
     intro e2_54 hE oE bE
     have De2_54 : Hid (Below wm.heap.size wm e2_54) := Below.trans De2_53.out (bE.mono tp2_1)
     have Z2_1e2_54 := Lib.hid hE
     have Z2_0e2_54 := Lib.hid ((oE p2_0 (by first | assumption | exact Ne.symm (by assumption))).trans Z2_0e2_53.out)
     clear hE oE bE
     refine hK.out _ _ ?_ (fun hHeld => ?_)
     · try dsimp only
       exact KS.out _ De2_54.out
     clear hK K
     try simp only [Act.put, sa, sb, sc]
     refine wpAnyH_take (i := 13) (v := ?_) (by (simp only [ea, eb, ec]); (try exact rfl)) (by kernel_rfl) (by kernel_rfl) (by kernel_rfl) (by intro _ _ _ h; exact h) (Or.inl ⟨by rfl, ?_⟩) (by assumption) ?_
     rotate_left
     · intro w hSw
       try dsimp only at hSw
       go_simp
       try with_reducible rfl
     try simp only [Act.put, sa, sb, sc]
     refine wpAnyH_done (by kernel_rfl) ?_ _
     go_wp2_with fail
     go_meet
     exact ⟨p2_0, p2_1, rfl, rfl, rfl, De2_54, Z2_0e2_54, Z2_1e2_54⟩
     go_simp
     generalize hA : World.alloc a2_45 (.cells #[.int .i64 0, .int .i64 0, .int .i64 0] 31) = a2_55
     obtain ⟨p2_0, hp⟩ : ∃ p, p = a2_45.heap.size := ⟨_, rfl⟩
     have ba : Below a2_45.heap.size a2_45 a2_55 := by rw [← hA]; exact Below.alloc (Below.refl _ _) (Nat.le_refl _) _
     have Z2_0a2_55 := Lib.hid (show a2_55.heap[p2_0]? = some (.cells #[.int .i64 0, .int .i64 0, .int .i64 0] 31 (0, 0)) from by rw [← hA, hp]; exact heap_alloc_new _ _)
     have tp2_0 : wm.heap.size ≤ p2_0 := by rw [hp]; exact Da2_45.out.size
     have n2_1_2_0 : p2_1 ≠ p2_0 := by have hh := box_lt Z2_1a2_45.out; rw [hp]; intro e; rw [e] at hh; exact Nat.lt_irrefl _ hh
     have Da2_55 : Hid (Below wm.heap.size wm a2_55) := Below.trans Da2_45.out (ba.mono Da2_45.out.size)
     have Z2_1a2_55 := Lib.hid ((ba.block p2_1 (box_lt Z2_1a2_45.out)).trans Z2_1a2_45.out)
     rw [← hp]
     clear hA hp ba
     refine hK.out _ _ ?_ (fun hHeld => ?_)
     · try dsimp only
       exact KS.out _ Da2_55.out
     clear hK K
     try simp only [Act.put, sa, sb, sc]
     refine wpAnyH_ready (rs := [3]) (by kernel_rfl) (by simp) ?_
     refine (AllReadyH.cons (by (simp only [ea, eb, ec]); (try exact rfl)) (fun K hK => ?_) AllReadyH.nil)
     go_simp
     go_at_call 35
     refine (toPose_blw q1 _).mono ?_
     rintro e u2_56 ⟨rfl, bb⟩
     have Du2_56 : Hid (Below wm.heap.size wm u2_56) := Below.trans Da2_55.out (bb.mono Da2_55.out.size)
     have Z2_1u2_56 := Lib.hid ((bb.block p2_1 (box_lt Z2_1a2_55.out)).trans Z2_1a2_55.out)
     have Z2_0u2_56 := Lib.hid ((bb.block p2_0 (box_lt Z2_0a2_55.out)).trans Z2_0a2_55.out)
     clear bb
     (first | refine hK.out _ _ ?_ (fun hHeld => ?_) | (go_wp2_with fail; refine hK.out _ _ ?_ (fun hHeld => ?_)))
     · try dsimp only
       exact KS.out _ Du2_56.out
     clear hK K
     try simp only [Act.put, sa, sb, sc]
     refine wpAnyH_ready (rs := [4]) (by kernel_rfl) (by simp) ?_
     refine (AllReadyH.cons (by (simp only [ea, eb, ec]); (try exact rfl)) (fun K hK => ?_) AllReadyH.nil)
     go_simp
     go_at_call 36
     refine (c2.out _ (HT.out _ (BM.out.trans (Du2_56.out.mono (BM.out.size))))).mono ?_
     rintro e u2_57 ⟨rfl, bb⟩
     have Du2_57 : Hid (Below wm.heap.size wm u2_57) := Below.trans Du2_56.out (bb.mono Du2_56.out.size)
     have Z2_1u2_57 := Lib.hid ((bb.block p2_1 (box_lt Z2_1u2_56.out)).trans Z2_1u2_56.out)
     have Z2_0u2_57 := Lib.hid ((bb.block p2_0 (box_lt Z2_0u2_56.out)).trans Z2_0u2_56.out)
     clear bb
     (first | refine hK.out _ _ ?_ (fun hHeld => ?_) | (go_wp2_with fail; refine hK.out _ _ ?_ (fun hHeld => ?_)))
     · try dsimp only
       exact KS.out _ Du2_57.out
     clear hK K
     try simp only [Act.put, sa, sb, sc]
     refine wpAnyH_take (i := 5) (v := ?_) (by (simp only [ea, eb, ec]); (try exact rfl)) (by kernel_rfl) (by kernel_rfl) (by kernel_rfl) (by intro _ _ _ h; exact h) (Or.inl ⟨by rfl, ?_⟩) (by assumption) ?_
     rotate_left
     · intro w hSw
       try dsimp only at hSw
       go_simp
       try with_reducible rfl
     try simp only [Act.put, sa, sb, sc]
     refine wpAnyH_take (i := 6) (v := ?_) (by (simp only [ea, eb, ec]); (try exact rfl)) (by kernel_rfl) (by kernel_rfl) (by kernel_rfl) (by intro _ _ _ h; exact h) (Or.inl ⟨by rfl, ?_⟩) (by assumption) ?_
     rotate_left
     · intro w hSw
       try dsimp only at hSw
       go_simp
       try with_reducible rfl
     try simp only [Act.put, sa, sb, sc]
     refine wpAnyH_take (i := 7) (v := ?_) (by (simp only [ea, eb, ec]); (try exact rfl)) (by kernel_rfl) (by kernel_rfl) (by kernel_rfl) (by intro _ _ _ h; exact h) (Or.inl ⟨by rfl, ?_⟩) (by assumption) ?_
     rotate_left
     · intro w hSw
       try dsimp only at hSw
       go_simp
       try with_reducible rfl
     try simp only [Act.put, sa, sb, sc]
     refine wpAnyH_take (i := 8) (v := ?_) (by (simp only [ea, eb, ec]); (try exact rfl)) (by kernel_rfl) (by kernel_rfl) (by kernel_rfl) (by intro _ _ _ h; exact h) (Or.inl ⟨by rfl, ?_⟩) (by assumption) ?_
     rotate_left
     · intro w hSw
       try dsimp only at hSw
       go_simp
       try with_reducible rfl
     try simp only [Act.put, sa, sb, sc]
     refine wpAnyH_ready (rs := [11]) (by kernel_rfl) (by simp) ?_
     refine AllReadyH.cons (by (simp only [ea, eb, ec]); (try exact rfl)) (fun K hK => ?_) AllReadyH.nil
     refine step_store_Co rfl _ _ rfl p2_0 (⟨0, 0, 0⟩ : Co) r0 _ rfl rfl Z2_0u2_57.out ?_
     intro e2_58 hE oE bE
     have De2_58 : Hid (Below wm.heap.size wm e2_58) := Below.trans Du2_57.out (bE.mono tp2_0)
     have Z2_0e2_58 := Lib.hid hE
     have Z2_1e2_58 := Lib.hid ((oE p2_1 (by first | assumption | exact Ne.symm (by assumption))).trans Z2_1u2_57.out)
     clear hE oE bE
     refine hK.out _ _ ?_ (fun hHeld => ?_)
     · try dsimp only
       exact KS.out _ De2_58.out
     clear hK K
     try simp only [Act.put, sa, sb, sc]
     refine wpAnyH_ready (rs := [12]) (by kernel_rfl) (by simp) ?_
     refine AllReadyH.cons (by (simp only [ea, eb, ec]); (try exact rfl)) (fun K hK => ?_) AllReadyH.nil
     refine step_store_Co rfl _ _ rfl p2_1 (⟨0, 0, 0⟩ : Co) r1 _ rfl rfl Z2_1e2_58.out ?_
     intro e2_59 hE oE bE
     have De2_59 : Hid (Below wm.heap.size wm e2_59) := Below.trans De2_58.out (bE.mono tp2_1)
     have Z2_1e2_59 := Lib.hid hE
     have Z2_0e2_59 := Lib.hid ((oE p2_0 (by first | assumption | exact Ne.symm (by assumption))).trans Z2_0e2_58.out)
     clear hE oE bE
     refine hK.out _ _ ?_ (fun hHeld => ?_)
     · try dsimp only
       exact KS.out _ De2_59.out
     clear hK K
     try simp only [Act.put, sa, sb, sc]
     refine wpAnyH_take (i := 13) (v := ?_) (by (simp only [ea, eb, ec]); (try exact rfl)) (by kernel_rfl) (by kernel_rfl) (by kernel_rfl) (by intro _ _ _ h; exact h) (Or.inl ⟨by rfl, ?_⟩) (by assumption) ?_
     rotate_left
     · intro w hSw
       try dsimp only at hSw
       go_simp
       try with_reducible rfl
     try simp only [Act.put, sa, sb, sc]
     refine wpAnyH_done (by kernel_rfl) ?_ _
     go_wp2_with fail
     go_meet
     exact ⟨p2_0, p2_1, rfl, rfl, rfl, De2_59, Z2_0e2_59, Z2_1e2_59⟩
     go_simp
     generalize hA : World.drew (World.alloc wm (.cells #[.int .i64 0, .int .i64 0, .int .i64 0] 31)) = a2_60
     obtain ⟨p2_0, hp⟩ : ∃ p, p = wm.heap.size := ⟨_, rfl⟩
     have ba : Below (World.drew wm).heap.size (World.drew wm) a2_60 := by rw [← hA]; exact (Below.alloc (Below.refl _ _) (Nat.le_refl _) _ : Below _ (World.drew wm) (World.alloc (World.drew wm) _))
     have Z2_0a2_60 := Lib.hid (show a2_60.heap[p2_0]? = some (.cells #[.int .i64 0, .int .i64 0, .int .i64 0] 31 (0, 0)) from by rw [← hA, hp]; exact heap_alloc_new wm _)
     have tp2_0 : wm.heap.size ≤ p2_0 := by rw [hp]; exact Nat.le_refl _
     have Da2_60 : Hid (Below wm.heap.size wm a2_60) := Below.trans D0.out (ba.mono D0.out.size)
     rw [← hp]
     clear hA hp ba
     refine hK.out _ _ ?_ (fun hHeld => ?_)
     · try dsimp only
       exact KS.out _ Da2_60.out
     clear hK K
     try simp only [Act.put, sa, sb, sc]
     refine wpAnyH_ready (rs := [1, 10]) (by kernel_rfl) (by simp) ?_
     refine (AllReadyH.cons (by (simp only [ea, eb, ec]); (try exact rfl)) (fun K hK => ?_) (AllReadyH.cons (by (simp only [ea, eb, ec]); (try exact rfl)) (fun K hK => ?_) AllReadyH.nil))
     go_simp
     go_at_call 35
     refine (toPose_blw q0 _).mono ?_
     rintro e u2_61 ⟨rfl, bb⟩
     have Du2_61 : Hid (Below wm.heap.size wm u2_61) := Below.trans Da2_60.out (bb.mono Da2_60.out.size)
     have Z2_0u2_61 := Lib.hid ((bb.block p2_0 (box_lt Z2_0a2_60.out)).trans Z2_0a2_60.out)
     clear bb
     (first | refine hK.out _ _ ?_ (fun hHeld => ?_) | (go_wp2_with fail; refine hK.out _ _ ?_ (fun hHeld => ?_)))
     · try dsimp only
       exact KS.out _ Du2_61.out
     clear hK K
     try simp only [Act.put, sa, sb, sc]
     refine wpAnyH_ready (rs := [3, 10]) (by kernel_rfl) (by simp) ?_
     refine (AllReadyH.cons (by (simp only [ea, eb, ec]); (try exact rfl)) (fun K hK => ?_) (AllReadyH.cons (by (simp only [ea, eb, ec]); (try exact rfl)) (fun K hK => ?_) AllReadyH.nil))
     go_simp
     go_at_call 35
     refine (toPose_blw q1 _).mono ?_
     rintro e u2_62 ⟨rfl, bb⟩
     have Du2_62 : Hid (Below wm.heap.size wm u2_62) := Below.trans Du2_61.out (bb.mono Du2_61.out.size)
     have Z2_0u2_62 := Lib.hid ((bb.block p2_0 (box_lt Z2_0u2_61.out)).trans Z2_0u2_61.out)
     clear bb
     (first | refine hK.out _ _ ?_ (fun hHeld => ?_) | (go_wp2_with fail; refine hK.out _ _ ?_ (fun hHeld => ?_)))
     · try dsimp only
       exact KS.out _ Du2_62.out
     clear hK K
     try simp only [Act.put, sa, sb, sc]
     refine wpAnyH_ready (rs := [4, 10]) (by kernel_rfl) (by simp) ?_
     refine (AllReadyH.cons (by (simp only [ea, eb, ec]); (try exact rfl)) (fun K hK => ?_) (AllReadyH.cons (by (simp only [ea, eb, ec]); (try exact rfl)) (fun K hK => ?_) AllReadyH.nil))
     go_simp
     go_at_call 36
     refine (c2.out _ (HT.out _ (BM.out.trans (Du2_62.out.mono (BM.out.size))))).mono ?_
     rintro e u2_63 ⟨rfl, bb⟩
     have Du2_63 : Hid (Below wm.heap.size wm u2_63) := Below.trans Du2_62.out (bb.mono Du2_62.out.size)
     have Z2_0u2_63 := Lib.hid ((bb.block p2_0 (box_lt Z2_0u2_62.out)).trans Z2_0u2_62.out)
     clear bb
     (first | refine hK.out _ _ ?_ (fun hHeld => ?_) | (go_wp2_with fail; refine hK.out _ _ ?_ (fun hHeld => ?_)))
     · try dsimp only
       exact KS.out _ Du2_63.out
     clear hK K
     try simp only [Act.put, sa, sb, sc]
     refine wpAnyH_take (i := 5) (v := ?_) (by (simp only [ea, eb, ec]); (try exact rfl)) (by kernel_rfl) (by kernel_rfl) (by kernel_rfl) (by intro _ _ _ h; exact h) (Or.inl ⟨by rfl, ?_⟩) (by assumption) ?_
     rotate_left
     · intro w hSw
       try dsimp only at hSw
       go_simp
       try with_reducible rfl
     try simp only [Act.put, sa, sb, sc]
     refine wpAnyH_take (i := 6) (v := ?_) (by (simp only [ea, eb, ec]); (try exact rfl)) (by kernel_rfl) (by kernel_rfl) (by kernel_rfl) (by intro _ _ _ h; exact h) (Or.inl ⟨by rfl, ?_⟩) (by assumption) ?_
     rotate_left
     · intro w hSw
       try dsimp only at hSw
       go_simp
       try with_reducible rfl
     try simp only [Act.put, sa, sb, sc]
     refine wpAnyH_take (i := 7) (v := ?_) (by (simp only [ea, eb, ec]); (try exact rfl)) (by kernel_rfl) (by kernel_rfl) (by kernel_rfl) (by intro _ _ _ h; exact h) (Or.inl ⟨by rfl, ?_⟩) (by assumption) ?_
     rotate_left
     · intro w hSw
       try dsimp only at hSw
       go_simp
       try with_reducible rfl
     try simp only [Act.put, sa, sb, sc]
     refine wpAnyH_take (i := 8) (v := ?_) (by (simp only [ea, eb, ec]); (try exact rfl)) (by kernel_rfl) (by kernel_rfl) (by kernel_rfl) (by intro _ _ _ h; exact h) (Or.inl ⟨by rfl, ?_⟩) (by assumption) ?_
     rotate_left
     · intro w hSw
       try dsimp only at hSw
       go_simp
       try with_reducible rfl
     try simp only [Act.put, sa, sb, sc]
     refine wpAnyH_ready (rs := [10]) (by kernel_rfl) (by simp) ?_
     refine (AllReadyH.cons (by (simp only [ea, eb, ec]); (try exact rfl)) (fun K hK => ?_) AllReadyH.nil)
     go_simp
     generalize hA : World.alloc u2_63 (.cells #[.int .i64 0, .int .i64 0, .int .i64 0] 31) = a2_64
     obtain ⟨p2_1, hp⟩ : ∃ p, p = u2_63.heap.size := ⟨_, rfl⟩
     have ba : Below u2_63.heap.size u2_63 a2_64 := by rw [← hA]; exact Below.alloc (Below.refl _ _) (Nat.le_refl _) _
     have Z2_1a2_64 := Lib.hid (show a2_64.heap[p2_1]? = some (.cells #[.int .i64 0, .int .i64 0, .int .i64 0] 31 (0, 0)) from by rw [← hA, hp]; exact heap_alloc_new _ _)
     have tp2_1 : wm.heap.size ≤ p2_1 := by rw [hp]; exact Du2_63.out.size
     have n2_0_2_1 : p2_0 ≠ p2_1 := by have hh := box_lt Z2_0u2_63.out; rw [hp]; intro e; rw [e] at hh; exact Nat.lt_irrefl _ hh
     have Da2_64 : Hid (Below wm.heap.size wm a2_64) := Below.trans Du2_63.out (ba.mono Du2_63.out.size)
     have Z2_0a2_64 := Lib.hid ((ba.block p2_0 (box_lt Z2_0u2_63.out)).trans Z2_0u2_63.out)
     rw [← hp]
     clear hA hp ba
     refine hK.out _ _ ?_ (fun hHeld => ?_)
     · try dsimp only
       exact KS.out _ Da2_64.out
     clear hK K
     try simp only [Act.put, sa, sb, sc]
     refine wpAnyH_ready (rs := [11]) (by kernel_rfl) (by simp) ?_
     refine AllReadyH.cons (by (simp only [ea, eb, ec]); (try exact rfl)) (fun K hK => ?_) AllReadyH.nil
     refine step_store_Co rfl _ _ rfl p2_0 (⟨0, 0, 0⟩ : Co) r0 _ rfl rfl Z2_0a2_64.out ?_
     intro e2_65 hE oE bE
     have De2_65 : Hid (Below wm.heap.size wm e2_65) := Below.trans Da2_64.out (bE.mono tp2_0)
     have Z2_0e2_65 := Lib.hid hE
     have Z2_1e2_65 := Lib.hid ((oE p2_1 (by first | assumption | exact Ne.symm (by assumption))).trans Z2_1a2_64.out)
     clear hE oE bE
     refine hK.out _ _ ?_ (fun hHeld => ?_)
     · try dsimp only
       exact KS.out _ De2_65.out
     clear hK K
     try simp only [Act.put, sa, sb, sc]
     refine wpAnyH_ready (rs := [12]) (by kernel_rfl) (by simp) ?_
     refine AllReadyH.cons (by (simp only [ea, eb, ec]); (try exact rfl)) (fun K hK => ?_) AllReadyH.nil
     refine step_store_Co rfl _ _ rfl p2_1 (⟨0, 0, 0⟩ : Co) r1 _ rfl rfl Z2_1e2_65.out ?_
     intro e2_66 hE oE bE
     have De2_66 : Hid (Below wm.heap.size wm e2_66) := Below.trans De2_65.out (bE.mono tp2_1)
     have Z2_1e2_66 := Lib.hid hE
     have Z2_0e2_66 := Lib.hid ((oE p2_0 (by first | assumption | exact Ne.symm (by assumption))).trans Z2_0e2_65.out)
     clear hE oE bE
     refine hK.out _ _ ?_ (fun hHeld => ?_)
     · try dsimp only
       exact KS.out _ De2_66.out
     clear hK K
     try simp only [Act.put, sa, sb, sc]
     refine wpAnyH_take (i := 13) (v := ?_) (by (simp only [ea, eb, ec]); (try exact rfl)) (by kernel_rfl) (by kernel_rfl) (by kernel_rfl) (by intro _ _ _ h; exact h) (Or.inl ⟨by rfl, ?_⟩) (by assumption) ?_
     rotate_left
     · intro w hSw
       try dsimp only at hSw
       go_simp
       try with_reducible rfl
     try simp only [Act.put, sa, sb, sc]
     refine wpAnyH_done (by kernel_rfl) ?_ _
     go_wp2_with fail
     go_meet
     exact ⟨p2_0, p2_1, rfl, rfl, rfl, De2_66, Z2_0e2_66, Z2_1e2_66⟩
     go_simp
     generalize hA : World.alloc u2_62 (.cells #[.int .i64 0, .int .i64 0, .int .i64 0] 31) = a2_67
     obtain ⟨p2_1, hp⟩ : ∃ p, p = u2_62.heap.size := ⟨_, rfl⟩
     have ba : Below u2_62.heap.size u2_62 a2_67 := by rw [← hA]; exact Below.alloc (Below.refl _ _) (Nat.le_refl _) _
     have Z2_1a2_67 := Lib.hid (show a2_67.heap[p2_1]? = some (.cells #[.int .i64 0, .int .i64 0, .int .i64 0] 31 (0, 0)) from by rw [← hA, hp]; exact heap_alloc_new _ _)
     have tp2_1 : wm.heap.size ≤ p2_1 := by rw [hp]; exact Du2_62.out.size
     have n2_0_2_1 : p2_0 ≠ p2_1 := by have hh := box_lt Z2_0u2_62.out; rw [hp]; intro e; rw [e] at hh; exact Nat.lt_irrefl _ hh
     have Da2_67 : Hid (Below wm.heap.size wm a2_67) := Below.trans Du2_62.out (ba.mono Du2_62.out.size)
     have Z2_0a2_67 := Lib.hid ((ba.block p2_0 (box_lt Z2_0u2_62.out)).trans Z2_0u2_62.out)
     rw [← hp]
     clear hA hp ba
     refine hK.out _ _ ?_ (fun hHeld => ?_)
     · try dsimp only
       exact KS.out _ Da2_67.out
     clear hK K
     try simp only [Act.put, sa, sb, sc]
     refine wpAnyH_ready (rs := [4]) (by kernel_rfl) (by simp) ?_
     refine (AllReadyH.cons (by (simp only [ea, eb, ec]); (try exact rfl)) (fun K hK => ?_) AllReadyH.nil)
     go_simp
     go_at_call 36
     refine (c2.out _ (HT.out _ (BM.out.trans (Da2_67.out.mono (BM.out.size))))).mono ?_
     rintro e u2_68 ⟨rfl, bb⟩
     have Du2_68 : Hid (Below wm.heap.size wm u2_68) := Below.trans Da2_67.out (bb.mono Da2_67.out.size)
     have Z2_0u2_68 := Lib.hid ((bb.block p2_0 (box_lt Z2_0a2_67.out)).trans Z2_0a2_67.out)
     have Z2_1u2_68 := Lib.hid ((bb.block p2_1 (box_lt Z2_1a2_67.out)).trans Z2_1a2_67.out)
     clear bb
     (first | refine hK.out _ _ ?_ (fun hHeld => ?_) | (go_wp2_with fail; refine hK.out _ _ ?_ (fun hHeld => ?_)))
     · try dsimp only
       exact KS.out _ Du2_68.out
     clear hK K
     try simp only [Act.put, sa, sb, sc]
     refine wpAnyH_take (i := 5) (v := ?_) (by (simp only [ea, eb, ec]); (try exact rfl)) (by kernel_rfl) (by kernel_rfl) (by kernel_rfl) (by intro _ _ _ h; exact h) (Or.inl ⟨by rfl, ?_⟩) (by assumption) ?_
     rotate_left
     · intro w hSw
       try dsimp only at hSw
       go_simp
       try with_reducible rfl
     try simp only [Act.put, sa, sb, sc]
     refine wpAnyH_take (i := 6) (v := ?_) (by (simp only [ea, eb, ec]); (try exact rfl)) (by kernel_rfl) (by kernel_rfl) (by kernel_rfl) (by intro _ _ _ h; exact h) (Or.inl ⟨by rfl, ?_⟩) (by assumption) ?_
     rotate_left
     · intro w hSw
       try dsimp only at hSw
       go_simp
       try with_reducible rfl
     try simp only [Act.put, sa, sb, sc]
     refine wpAnyH_take (i := 7) (v := ?_) (by (simp only [ea, eb, ec]); (try exact rfl)) (by kernel_rfl) (by kernel_rfl) (by kernel_rfl) (by intro _ _ _ h; exact h) (Or.inl ⟨by rfl, ?_⟩) (by assumption) ?_
     rotate_left
     · intro w hSw
       try dsimp only at hSw
       go_simp
       try with_reducible rfl
     try simp only [Act.put, sa, sb, sc]
     refine wpAnyH_take (i := 8) (v := ?_) (by (simp only [ea, eb, ec]); (try exact rfl)) (by kernel_rfl) (by kernel_rfl) (by kernel_rfl) (by intro _ _ _ h; exact h) (Or.inl ⟨by rfl, ?_⟩) (by assumption) ?_
     rotate_left
     · intro w hSw
       try dsimp only at hSw
       go_simp
       try with_reducible rfl
     try simp only [Act.put, sa, sb, sc]
     refine wpAnyH_ready (rs := [11]) (by kernel_rfl) (by simp) ?_
     refine AllReadyH.cons (by (simp only [ea, eb, ec]); (try exact rfl)) (fun K hK => ?_) AllReadyH.nil
     refine step_store_Co rfl _ _ rfl p2_0 (⟨0, 0, 0⟩ : Co) r0 _ rfl rfl Z2_0u2_68.out ?_
     intro e2_69 hE oE bE
     have De2_69 : Hid (Below wm.heap.size wm e2_69) := Below.trans Du2_68.out (bE.mono tp2_0)
     have Z2_0e2_69 := Lib.hid hE
     have Z2_1e2_69 := Lib.hid ((oE p2_1 (by first | assumption | exact Ne.symm (by assumption))).trans Z2_1u2_68.out)
     clear hE oE bE
     refine hK.out _ _ ?_ (fun hHeld => ?_)
     · try dsimp only
       exact KS.out _ De2_69.out
     clear hK K
     try simp only [Act.put, sa, sb, sc]
     refine wpAnyH_ready (rs := [12]) (by kernel_rfl) (by simp) ?_
     refine AllReadyH.cons (by (simp only [ea, eb, ec]); (try exact rfl)) (fun K hK => ?_) AllReadyH.nil
     refine step_store_Co rfl _ _ rfl p2_1 (⟨0, 0, 0⟩ : Co) r1 _ rfl rfl Z2_1e2_69.out ?_
     intro e2_70 hE oE bE
     have De2_70 : Hid (Below wm.heap.size wm e2_70) := Below.trans De2_69.out (bE.mono tp2_1)
     have Z2_1e2_70 := Lib.hid hE
     have Z2_0e2_70 := Lib.hid ((oE p2_0 (by first | assumption | exact Ne.symm (by assumption))).trans Z2_0e2_69.out)
     clear hE oE bE
     refine hK.out _ _ ?_ (fun hHeld => ?_)
     · try dsimp only
       exact KS.out _ De2_70.out
     clear hK K
     try simp only [Act.put, sa, sb, sc]
     refine wpAnyH_take (i := 13) (v := ?_) (by (simp only [ea, eb, ec]); (try exact rfl)) (by kernel_rfl) (by kernel_rfl) (by kernel_rfl) (by intro _ _ _ h; exact h) (Or.inl ⟨by rfl, ?_⟩) (by assumption) ?_
     rotate_left
     · intro w hSw
       try dsimp only at hSw
       go_simp
       try with_reducible rfl
     try simp only [Act.put, sa, sb, sc]
     refine wpAnyH_done (by kernel_rfl) ?_ _
     go_wp2_with fail
     go_meet
     exact ⟨p2_0, p2_1, rfl, rfl, rfl, De2_70, Z2_0e2_70, Z2_1e2_70⟩
     go_simp
     generalize hA : World.alloc u2_61 (.cells #[.int .i64 0, .int .i64 0, .int .i64 0] 31) = a2_71
     obtain ⟨p2_1, hp⟩ : ∃ p, p = u2_61.heap.size := ⟨_, rfl⟩
     have ba : Below u2_61.heap.size u2_61 a2_71 := by rw [← hA]; exact Below.alloc (Below.refl _ _) (Nat.le_refl _) _
     have Z2_1a2_71 := Lib.hid (show a2_71.heap[p2_1]? = some (.cells #[.int .i64 0, .int .i64 0, .int .i64 0] 31 (0, 0)) from by rw [← hA, hp]; exact heap_alloc_new _ _)
     have tp2_1 : wm.heap.size ≤ p2_1 := by rw [hp]; exact Du2_61.out.size
     have n2_0_2_1 : p2_0 ≠ p2_1 := by have hh := box_lt Z2_0u2_61.out; rw [hp]; intro e; rw [e] at hh; exact Nat.lt_irrefl _ hh
     have Da2_71 : Hid (Below wm.heap.size wm a2_71) := Below.trans Du2_61.out (ba.mono Du2_61.out.size)
     have Z2_0a2_71 := Lib.hid ((ba.block p2_0 (box_lt Z2_0u2_61.out)).trans Z2_0u2_61.out)
     rw [← hp]
     clear hA hp ba
     refine hK.out _ _ ?_ (fun hHeld => ?_)
     · try dsimp only
       exact KS.out _ Da2_71.out
     clear hK K
     try simp only [Act.put, sa, sb, sc]
     refine wpAnyH_ready (rs := [3]) (by kernel_rfl) (by simp) ?_
     refine (AllReadyH.cons (by (simp only [ea, eb, ec]); (try exact rfl)) (fun K hK => ?_) AllReadyH.nil)
     go_simp
     go_at_call 35
     refine (toPose_blw q1 _).mono ?_
     rintro e u2_72 ⟨rfl, bb⟩
     have Du2_72 : Hid (Below wm.heap.size wm u2_72) := Below.trans Da2_71.out (bb.mono Da2_71.out.size)
     have Z2_0u2_72 := Lib.hid ((bb.block p2_0 (box_lt Z2_0a2_71.out)).trans Z2_0a2_71.out)
     have Z2_1u2_72 := Lib.hid ((bb.block p2_1 (box_lt Z2_1a2_71.out)).trans Z2_1a2_71.out)
     clear bb
     (first | refine hK.out _ _ ?_ (fun hHeld => ?_) | (go_wp2_with fail; refine hK.out _ _ ?_ (fun hHeld => ?_)))
     · try dsimp only
       exact KS.out _ Du2_72.out
     clear hK K
     try simp only [Act.put, sa, sb, sc]
     refine wpAnyH_ready (rs := [4]) (by kernel_rfl) (by simp) ?_
     refine (AllReadyH.cons (by (simp only [ea, eb, ec]); (try exact rfl)) (fun K hK => ?_) AllReadyH.nil)
     go_simp
     go_at_call 36
     refine (c2.out _ (HT.out _ (BM.out.trans (Du2_72.out.mono (BM.out.size))))).mono ?_
     rintro e u2_73 ⟨rfl, bb⟩
     have Du2_73 : Hid (Below wm.heap.size wm u2_73) := Below.trans Du2_72.out (bb.mono Du2_72.out.size)
     have Z2_0u2_73 := Lib.hid ((bb.block p2_0 (box_lt Z2_0u2_72.out)).trans Z2_0u2_72.out)
     have Z2_1u2_73 := Lib.hid ((bb.block p2_1 (box_lt Z2_1u2_72.out)).trans Z2_1u2_72.out)
     clear bb
     (first | refine hK.out _ _ ?_ (fun hHeld => ?_) | (go_wp2_with fail; refine hK.out _ _ ?_ (fun hHeld => ?_)))
     · try dsimp only
       exact KS.out _ Du2_73.out
     clear hK K
     try simp only [Act.put, sa, sb, sc]
     refine wpAnyH_take (i := 5) (v := ?_) (by (simp only [ea, eb, ec]); (try exact rfl)) (by kernel_rfl) (by kernel_rfl) (by kernel_rfl) (by intro _ _ _ h; exact h) (Or.inl ⟨by rfl, ?_⟩) (by assumption) ?_
     rotate_left
     · intro w hSw
       try dsimp only at hSw
       go_simp
       try with_reducible rfl
     try simp only [Act.put, sa, sb, sc]
     refine wpAnyH_take (i := 6) (v := ?_) (by (simp only [ea, eb, ec]); (try exact rfl)) (by kernel_rfl) (by kernel_rfl) (by kernel_rfl) (by intro _ _ _ h; exact h) (Or.inl ⟨by rfl, ?_⟩) (by assumption) ?_
     rotate_left
     · intro w hSw
       try dsimp only at hSw
       go_simp
       try with_reducible rfl
     try simp only [Act.put, sa, sb, sc]
     refine wpAnyH_take (i := 7) (v := ?_) (by (simp only [ea, eb, ec]); (try exact rfl)) (by kernel_rfl) (by kernel_rfl) (by kernel_rfl) (by intro _ _ _ h; exact h) (Or.inl ⟨by rfl, ?_⟩) (by assumption) ?_
     rotate_left
     · intro w hSw
       try dsimp only at hSw
       go_simp
       try with_reducible rfl
     try simp only [Act.put, sa, sb, sc]
     refine wpAnyH_take (i := 8) (v := ?_) (by (simp only [ea, eb, ec]); (try exact rfl)) (by kernel_rfl) (by kernel_rfl) (by kernel_rfl) (by intro _ _ _ h; exact h) (Or.inl ⟨by rfl, ?_⟩) (by assumption) ?_
     rotate_left
     · intro w hSw
       try dsimp only at hSw
       go_simp
       try with_reducible rfl
     try simp only [Act.put, sa, sb, sc]
     refine wpAnyH_ready (rs := [11]) (by kernel_rfl) (by simp) ?_
     refine AllReadyH.cons (by (simp only [ea, eb, ec]); (try exact rfl)) (fun K hK => ?_) AllReadyH.nil
     refine step_store_Co rfl _ _ rfl p2_0 (⟨0, 0, 0⟩ : Co) r0 _ rfl rfl Z2_0u2_73.out ?_
     intro e2_74 hE oE bE
     have De2_74 : Hid (Below wm.heap.size wm e2_74) := Below.trans Du2_73.out (bE.mono tp2_0)
     have Z2_0e2_74 := Lib.hid hE
     have Z2_1e2_74 := Lib.hid ((oE p2_1 (by first | assumption | exact Ne.symm (by assumption))).trans Z2_1u2_73.out)
     clear hE oE bE
     refine hK.out _ _ ?_ (fun hHeld => ?_)
     · try dsimp only
       exact KS.out _ De2_74.out
     clear hK K
     try simp only [Act.put, sa, sb, sc]
     refine wpAnyH_ready (rs := [12]) (by kernel_rfl) (by simp) ?_
     refine AllReadyH.cons (by (simp only [ea, eb, ec]); (try exact rfl)) (fun K hK => ?_) AllReadyH.nil
     refine step_store_Co rfl _ _ rfl p2_1 (⟨0, 0, 0⟩ : Co) r1 _ rfl rfl Z2_1e2_74.out ?_
     intro e2_75 hE oE bE
     have De2_75 : Hid (Below wm.heap.size wm e2_75) := Below.trans De2_74.out (bE.mono tp2_1)
     have Z2_1e2_75 := Lib.hid hE
     have Z2_0e2_75 := Lib.hid ((oE p2_0 (by first | assumption | exact Ne.symm (by assumption))).trans Z2_0e2_74.out)
     clear hE oE bE
     refine hK.out _ _ ?_ (fun hHeld => ?_)
     · try dsimp only
       exact KS.out _ De2_75.out
     clear hK K
     try simp only [Act.put, sa, sb, sc]
     refine wpAnyH_take (i := 13) (v := ?_) (by (simp only [ea, eb, ec]); (try exact rfl)) (by kernel_rfl) (by kernel_rfl) (by kernel_rfl) (by intro _ _ _ h; exact h) (Or.inl ⟨by rfl, ?_⟩) (by assumption) ?_
     rotate_left
     · intro w hSw
       try dsimp only at hSw
       go_simp
       try with_reducible rfl
     try simp only [Act.put, sa, sb, sc]
     refine wpAnyH_done (by kernel_rfl) ?_ _
     go_wp2_with fail
     go_meet
     exact ⟨p2_0, p2_1, rfl, rfl, rfl, De2_75, Z2_0e2_75, Z2_1e2_75⟩
     go_simp
     generalize hA : World.alloc a2_60 (.cells #[.int .i64 0, .int .i64 0, .int .i64 0] 31) = a2_76
     obtain ⟨p2_1, hp⟩ : ∃ p, p = a2_60.heap.size := ⟨_, rfl⟩
     have ba : Below a2_60.heap.size a2_60 a2_76 := by rw [← hA]; exact Below.alloc (Below.refl _ _) (Nat.le_refl _) _
     have Z2_1a2_76 := Lib.hid (show a2_76.heap[p2_1]? = some (.cells #[.int .i64 0, .int .i64 0, .int .i64 0] 31 (0, 0)) from by rw [← hA, hp]; exact heap_alloc_new _ _)
     have tp2_1 : wm.heap.size ≤ p2_1 := by rw [hp]; exact Da2_60.out.size
     have n2_0_2_1 : p2_0 ≠ p2_1 := by have hh := box_lt Z2_0a2_60.out; rw [hp]; intro e; rw [e] at hh; exact Nat.lt_irrefl _ hh
     have Da2_76 : Hid (Below wm.heap.size wm a2_76) := Below.trans Da2_60.out (ba.mono Da2_60.out.size)
     have Z2_0a2_76 := Lib.hid ((ba.block p2_0 (box_lt Z2_0a2_60.out)).trans Z2_0a2_60.out)
     rw [← hp]
     clear hA hp ba
     refine hK.out _ _ ?_ (fun hHeld => ?_)
     · try dsimp only
       exact KS.out _ Da2_76.out
     clear hK K
     try simp only [Act.put, sa, sb, sc]
     refine wpAnyH_ready (rs := [1]) (by kernel_rfl) (by simp) ?_
     refine (AllReadyH.cons (by (simp only [ea, eb, ec]); (try exact rfl)) (fun K hK => ?_) AllReadyH.nil)
     go_simp
     go_at_call 35
     refine (toPose_blw q0 _).mono ?_
     rintro e u2_77 ⟨rfl, bb⟩
     have Du2_77 : Hid (Below wm.heap.size wm u2_77) := Below.trans Da2_76.out (bb.mono Da2_76.out.size)
     have Z2_0u2_77 := Lib.hid ((bb.block p2_0 (box_lt Z2_0a2_76.out)).trans Z2_0a2_76.out)
     have Z2_1u2_77 := Lib.hid ((bb.block p2_1 (box_lt Z2_1a2_76.out)).trans Z2_1a2_76.out)
     clear bb
     (first | refine hK.out _ _ ?_ (fun hHeld => ?_) | (go_wp2_with fail; refine hK.out _ _ ?_ (fun hHeld => ?_)))
     · try dsimp only
       exact KS.out _ Du2_77.out
     clear hK K
     try simp only [Act.put, sa, sb, sc]
     refine wpAnyH_ready (rs := [3]) (by kernel_rfl) (by simp) ?_
     refine (AllReadyH.cons (by (simp only [ea, eb, ec]); (try exact rfl)) (fun K hK => ?_) AllReadyH.nil)
     go_simp
     go_at_call 35
     refine (toPose_blw q1 _).mono ?_
     rintro e u2_78 ⟨rfl, bb⟩
     have Du2_78 : Hid (Below wm.heap.size wm u2_78) := Below.trans Du2_77.out (bb.mono Du2_77.out.size)
     have Z2_0u2_78 := Lib.hid ((bb.block p2_0 (box_lt Z2_0u2_77.out)).trans Z2_0u2_77.out)
     have Z2_1u2_78 := Lib.hid ((bb.block p2_1 (box_lt Z2_1u2_77.out)).trans Z2_1u2_77.out)
     clear bb
     (first | refine hK.out _ _ ?_ (fun hHeld => ?_) | (go_wp2_with fail; refine hK.out _ _ ?_ (fun hHeld => ?_)))
     · try dsimp only
       exact KS.out _ Du2_78.out
     clear hK K
     try simp only [Act.put, sa, sb, sc]
     refine wpAnyH_ready (rs := [4]) (by kernel_rfl) (by simp) ?_
     refine (AllReadyH.cons (by (simp only [ea, eb, ec]); (try exact rfl)) (fun K hK => ?_) AllReadyH.nil)
     go_simp
     go_at_call 36
     refine (c2.out _ (HT.out _ (BM.out.trans (Du2_78.out.mono (BM.out.size))))).mono ?_
     rintro e u2_79 ⟨rfl, bb⟩
     have Du2_79 : Hid (Below wm.heap.size wm u2_79) := Below.trans Du2_78.out (bb.mono Du2_78.out.size)
     have Z2_0u2_79 := Lib.hid ((bb.block p2_0 (box_lt Z2_0u2_78.out)).trans Z2_0u2_78.out)
     have Z2_1u2_79 := Lib.hid ((bb.block p2_1 (box_lt Z2_1u2_78.out)).trans Z2_1u2_78.out)
     clear bb
     (first | refine hK.out _ _ ?_ (fun hHeld => ?_) | (go_wp2_with fail; refine hK.out _ _ ?_ (fun hHeld => ?_)))
     · try dsimp only
       exact KS.out _ Du2_79.out
     clear hK K
     try simp only [Act.put, sa, sb, sc]
     refine wpAnyH_take (i := 5) (v := ?_) (by (simp only [ea, eb, ec]); (try exact rfl)) (by kernel_rfl) (by kernel_rfl) (by kernel_rfl) (by intro _ _ _ h; exact h) (Or.inl ⟨by rfl, ?_⟩) (by assumption) ?_
     rotate_left
     · intro w hSw
       try dsimp only at hSw
       go_simp
       try with_reducible rfl
     try simp only [Act.put, sa, sb, sc]
     refine wpAnyH_take (i := 6) (v := ?_) (by (simp only [ea, eb, ec]); (try exact rfl)) (by kernel_rfl) (by kernel_rfl) (by kernel_rfl) (by intro _ _ _ h; exact h) (Or.inl ⟨by rfl, ?_⟩) (by assumption) ?_
     rotate_left
     · intro w hSw
       try dsimp only at hSw
       go_simp
       try with_reducible rfl
     try simp only [Act.put, sa, sb, sc]
     refine wpAnyH_take (i := 7) (v := ?_) (by (simp only [ea, eb, ec]); (try exact rfl)) (by kernel_rfl) (by kernel_rfl) (by kernel_rfl) (by intro _ _ _ h; exact h) (Or.inl ⟨by rfl, ?_⟩) (by assumption) ?_
     rotate_left
     · intro w hSw
       try dsimp only at hSw
       go_simp
       try with_reducible rfl
     try simp only [Act.put, sa, sb, sc]
     refine wpAnyH_take (i := 8) (v := ?_) (by (simp only [ea, eb, ec]); (try exact rfl)) (by kernel_rfl) (by kernel_rfl) (by kernel_rfl) (by intro _ _ _ h; exact h) (Or.inl ⟨by rfl, ?_⟩) (by assumption) ?_
     rotate_left
     · intro w hSw
       try dsimp only at hSw
       go_simp
       try with_reducible rfl
     try simp only [Act.put, sa, sb, sc]
     refine wpAnyH_ready (rs := [11]) (by kernel_rfl) (by simp) ?_
     refine AllReadyH.cons (by (simp only [ea, eb, ec]); (try exact rfl)) (fun K hK => ?_) AllReadyH.nil
     refine step_store_Co rfl _ _ rfl p2_0 (⟨0, 0, 0⟩ : Co) r0 _ rfl rfl Z2_0u2_79.out ?_
     intro e2_80 hE oE bE
     have De2_80 : Hid (Below wm.heap.size wm e2_80) := Below.trans Du2_79.out (bE.mono tp2_0)
     have Z2_0e2_80 := Lib.hid hE
     have Z2_1e2_80 := Lib.hid ((oE p2_1 (by first | assumption | exact Ne.symm (by assumption))).trans Z2_1u2_79.out)
     clear hE oE bE
     refine hK.out _ _ ?_ (fun hHeld => ?_)
     · try dsimp only
       exact KS.out _ De2_80.out
     clear hK K
     try simp only [Act.put, sa, sb, sc]
     refine wpAnyH_ready (rs := [12]) (by kernel_rfl) (by simp) ?_
     refine AllReadyH.cons (by (simp only [ea, eb, ec]); (try exact rfl)) (fun K hK => ?_) AllReadyH.nil
     refine step_store_Co rfl _ _ rfl p2_1 (⟨0, 0, 0⟩ : Co) r1 _ rfl rfl Z2_1e2_80.out ?_
     intro e2_81 hE oE bE
     have De2_81 : Hid (Below wm.heap.size wm e2_81) := Below.trans De2_80.out (bE.mono tp2_1)
     have Z2_1e2_81 := Lib.hid hE
     have Z2_0e2_81 := Lib.hid ((oE p2_0 (by first | assumption | exact Ne.symm (by assumption))).trans Z2_0e2_80.out)
     clear hE oE bE
     refine hK.out _ _ ?_ (fun hHeld => ?_)
     · try dsimp only
       exact KS.out _ De2_81.out
     clear hK K
     try simp only [Act.put, sa, sb, sc]
     refine wpAnyH_take (i := 13) (v := ?_) (by (simp only [ea, eb, ec]); (try exact rfl)) (by kernel_rfl) (by kernel_rfl) (by kernel_rfl) (by intro _ _ _ h; exact h) (Or.inl ⟨by rfl, ?_⟩) (by assumption) ?_
     rotate_left
     · intro w hSw
       try dsimp only at hSw
       go_simp
       try with_reducible rfl
     try simp only [Act.put, sa, sb, sc]
     refine wpAnyH_done (by kernel_rfl) ?_ _
     go_wp2_with fail
     go_meet
     exact ⟨p2_0, p2_1, rfl, rfl, rfl, De2_81, Z2_0e2_81, Z2_1e2_81⟩
     go_simp
     generalize hA : World.drew (World.alloc wm (.cells #[.int .i64 0, .int .i64 0, .int .i64 0] 31)) = a2_82
     obtain ⟨p2_1, hp⟩ : ∃ p, p = wm.heap.size := ⟨_, rfl⟩
     have ba : Below (World.drew wm).heap.size (World.drew wm) a2_82 := by rw [← hA]; exact (Below.alloc (Below.refl _ _) (Nat.le_refl _) _ : Below _ (World.drew wm) (World.alloc (World.drew wm) _))
     have Z2_1a2_82 := Lib.hid (show a2_82.heap[p2_1]? = some (.cells #[.int .i64 0, .int .i64 0, .int .i64 0] 31 (0, 0)) from by rw [← hA, hp]; exact heap_alloc_new wm _)
     have tp2_1 : wm.heap.size ≤ p2_1 := by rw [hp]; exact Nat.le_refl _
     have Da2_82 : Hid (Below wm.heap.size wm a2_82) := Below.trans D0.out (ba.mono D0.out.size)
     rw [← hp]
     clear hA hp ba
     refine hK.out _ _ ?_ (fun hHeld => ?_)
     · try dsimp only
       exact KS.out _ Da2_82.out
     clear hK K
     try simp only [Act.put, sa, sb, sc]
     refine wpAnyH_ready (rs := [1, 9]) (by kernel_rfl) (by simp) ?_
     refine (AllReadyH.cons (by (simp only [ea, eb, ec]); (try exact rfl)) (fun K hK => ?_) (AllReadyH.cons (by (simp only [ea, eb, ec]); (try exact rfl)) (fun K hK => ?_) AllReadyH.nil))
     go_simp
     go_at_call 35
     refine (toPose_blw q0 _).mono ?_
     rintro e u2_83 ⟨rfl, bb⟩
     have Du2_83 : Hid (Below wm.heap.size wm u2_83) := Below.trans Da2_82.out (bb.mono Da2_82.out.size)
     have Z2_1u2_83 := Lib.hid ((bb.block p2_1 (box_lt Z2_1a2_82.out)).trans Z2_1a2_82.out)
     clear bb
     (first | refine hK.out _ _ ?_ (fun hHeld => ?_) | (go_wp2_with fail; refine hK.out _ _ ?_ (fun hHeld => ?_)))
     · try dsimp only
       exact KS.out _ Du2_83.out
     clear hK K
     try simp only [Act.put, sa, sb, sc]
     refine wpAnyH_ready (rs := [3, 9]) (by kernel_rfl) (by simp) ?_
     refine (AllReadyH.cons (by (simp only [ea, eb, ec]); (try exact rfl)) (fun K hK => ?_) (AllReadyH.cons (by (simp only [ea, eb, ec]); (try exact rfl)) (fun K hK => ?_) AllReadyH.nil))
     go_simp
     go_at_call 35
     refine (toPose_blw q1 _).mono ?_
     rintro e u2_84 ⟨rfl, bb⟩
     have Du2_84 : Hid (Below wm.heap.size wm u2_84) := Below.trans Du2_83.out (bb.mono Du2_83.out.size)
     have Z2_1u2_84 := Lib.hid ((bb.block p2_1 (box_lt Z2_1u2_83.out)).trans Z2_1u2_83.out)
     clear bb
     (first | refine hK.out _ _ ?_ (fun hHeld => ?_) | (go_wp2_with fail; refine hK.out _ _ ?_ (fun hHeld => ?_)))
     · try dsimp only
       exact KS.out _ Du2_84.out
     clear hK K
     try simp only [Act.put, sa, sb, sc]
     refine wpAnyH_ready (rs := [4, 9]) (by kernel_rfl) (by simp) ?_
     refine (AllReadyH.cons (by (simp only [ea, eb, ec]); (try exact rfl)) (fun K hK => ?_) (AllReadyH.cons (by (simp only [ea, eb, ec]); (try exact rfl)) (fun K hK => ?_) AllReadyH.nil))
     go_simp
     go_at_call 36
     refine (c2.out _ (HT.out _ (BM.out.trans (Du2_84.out.mono (BM.out.size))))).mono ?_
     rintro e u2_85 ⟨rfl, bb⟩
     have Du2_85 : Hid (Below wm.heap.size wm u2_85) := Below.trans Du2_84.out (bb.mono Du2_84.out.size)
     have Z2_1u2_85 := Lib.hid ((bb.block p2_1 (box_lt Z2_1u2_84.out)).trans Z2_1u2_84.out)
     clear bb
     (first | refine hK.out _ _ ?_ (fun hHeld => ?_) | (go_wp2_with fail; refine hK.out _ _ ?_ (fun hHeld => ?_)))
     · try dsimp only
       exact KS.out _ Du2_85.out
     clear hK K
     try simp only [Act.put, sa, sb, sc]
     refine wpAnyH_take (i := 5) (v := ?_) (by (simp only [ea, eb, ec]); (try exact rfl)) (by kernel_rfl) (by kernel_rfl) (by kernel_rfl) (by intro _ _ _ h; exact h) (Or.inl ⟨by rfl, ?_⟩) (by assumption) ?_
     rotate_left
     · intro w hSw
       try dsimp only at hSw
       go_simp
       try with_reducible rfl
     try simp only [Act.put, sa, sb, sc]
     refine wpAnyH_take (i := 6) (v := ?_) (by (simp only [ea, eb, ec]); (try exact rfl)) (by kernel_rfl) (by kernel_rfl) (by kernel_rfl) (by intro _ _ _ h; exact h) (Or.inl ⟨by rfl, ?_⟩) (by assumption) ?_
     rotate_left
     · intro w hSw
       try dsimp only at hSw
       go_simp
       try with_reducible rfl
     try simp only [Act.put, sa, sb, sc]
     refine wpAnyH_take (i := 7) (v := ?_) (by (simp only [ea, eb, ec]); (try exact rfl)) (by kernel_rfl) (by kernel_rfl) (by kernel_rfl) (by intro _ _ _ h; exact h) (Or.inl ⟨by rfl, ?_⟩) (by assumption) ?_
     rotate_left
     · intro w hSw
       try dsimp only at hSw
       go_simp
       try with_reducible rfl
     try simp only [Act.put, sa, sb, sc]
     refine wpAnyH_take (i := 8) (v := ?_) (by (simp only [ea, eb, ec]); (try exact rfl)) (by kernel_rfl) (by kernel_rfl) (by kernel_rfl) (by intro _ _ _ h; exact h) (Or.inl ⟨by rfl, ?_⟩) (by assumption) ?_
     rotate_left
     · intro w hSw
       try dsimp only at hSw
       go_simp
       try with_reducible rfl
     try simp only [Act.put, sa, sb, sc]
     refine wpAnyH_ready (rs := [9]) (by kernel_rfl) (by simp) ?_
     refine (AllReadyH.cons (by (simp only [ea, eb, ec]); (try exact rfl)) (fun K hK => ?_) AllReadyH.nil)
     go_simp
     generalize hA : World.alloc u2_85 (.cells #[.int .i64 0, .int .i64 0, .int .i64 0] 31) = a2_86
     obtain ⟨p2_0, hp⟩ : ∃ p, p = u2_85.heap.size := ⟨_, rfl⟩
     have ba : Below u2_85.heap.size u2_85 a2_86 := by rw [← hA]; exact Below.alloc (Below.refl _ _) (Nat.le_refl _) _
     have Z2_0a2_86 := Lib.hid (show a2_86.heap[p2_0]? = some (.cells #[.int .i64 0, .int .i64 0, .int .i64 0] 31 (0, 0)) from by rw [← hA, hp]; exact heap_alloc_new _ _)
     have tp2_0 : wm.heap.size ≤ p2_0 := by rw [hp]; exact Du2_85.out.size
     have n2_1_2_0 : p2_1 ≠ p2_0 := by have hh := box_lt Z2_1u2_85.out; rw [hp]; intro e; rw [e] at hh; exact Nat.lt_irrefl _ hh
     have Da2_86 : Hid (Below wm.heap.size wm a2_86) := Below.trans Du2_85.out (ba.mono Du2_85.out.size)
     have Z2_1a2_86 := Lib.hid ((ba.block p2_1 (box_lt Z2_1u2_85.out)).trans Z2_1u2_85.out)
     rw [← hp]
     clear hA hp ba
     refine hK.out _ _ ?_ (fun hHeld => ?_)
     · try dsimp only
       exact KS.out _ Da2_86.out
     clear hK K
     try simp only [Act.put, sa, sb, sc]
     refine wpAnyH_ready (rs := [11]) (by kernel_rfl) (by simp) ?_
     refine AllReadyH.cons (by (simp only [ea, eb, ec]); (try exact rfl)) (fun K hK => ?_) AllReadyH.nil
     refine step_store_Co rfl _ _ rfl p2_0 (⟨0, 0, 0⟩ : Co) r0 _ rfl rfl Z2_0a2_86.out ?_
     intro e2_87 hE oE bE
     have De2_87 : Hid (Below wm.heap.size wm e2_87) := Below.trans Da2_86.out (bE.mono tp2_0)
     have Z2_0e2_87 := Lib.hid hE
     have Z2_1e2_87 := Lib.hid ((oE p2_1 (by first | assumption | exact Ne.symm (by assumption))).trans Z2_1a2_86.out)
     clear hE oE bE
     refine hK.out _ _ ?_ (fun hHeld => ?_)
     · try dsimp only
       exact KS.out _ De2_87.out
     clear hK K
     try simp only [Act.put, sa, sb, sc]
     refine wpAnyH_ready (rs := [12]) (by kernel_rfl) (by simp) ?_
     refine AllReadyH.cons (by (simp only [ea, eb, ec]); (try exact rfl)) (fun K hK => ?_) AllReadyH.nil
     refine step_store_Co rfl _ _ rfl p2_1 (⟨0, 0, 0⟩ : Co) r1 _ rfl rfl Z2_1e2_87.out ?_
     intro e2_88 hE oE bE
     have De2_88 : Hid (Below wm.heap.size wm e2_88) := Below.trans De2_87.out (bE.mono tp2_1)
     have Z2_1e2_88 := Lib.hid hE
     have Z2_0e2_88 := Lib.hid ((oE p2_0 (by first | assumption | exact Ne.symm (by assumption))).trans Z2_0e2_87.out)
     clear hE oE bE
     refine hK.out _ _ ?_ (fun hHeld => ?_)
     · try dsimp only
       exact KS.out _ De2_88.out
     clear hK K
     try simp only [Act.put, sa, sb, sc]
     refine wpAnyH_take (i := 13) (v := ?_) (by (simp only [ea, eb, ec]); (try exact rfl)) (by kernel_rfl) (by kernel_rfl) (by kernel_rfl) (by intro _ _ _ h; exact h) (Or.inl ⟨by rfl, ?_⟩) (by assumption) ?_
     rotate_left
     · intro w hSw
       try dsimp only at hSw
       go_simp
       try with_reducible rfl
     try simp only [Act.put, sa, sb, sc]
     refine wpAnyH_done (by kernel_rfl) ?_ _
     go_wp2_with fail
     go_meet
     exact ⟨p2_0, p2_1, rfl, rfl, rfl, De2_88, Z2_0e2_88, Z2_1e2_88⟩
     go_simp
     generalize hA : World.alloc u2_84 (.cells #[.int .i64 0, .int .i64 0, .int .i64 0] 31) = a2_89
     obtain ⟨p2_0, hp⟩ : ∃ p, p = u2_84.heap.size := ⟨_, rfl⟩
     have ba : Below u2_84.heap.size u2_84 a2_89 := by rw [← hA]; exact Below.alloc (Below.refl _ _) (Nat.le_refl _) _
     have Z2_0a2_89 := Lib.hid (show a2_89.heap[p2_0]? = some (.cells #[.int .i64 0, .int .i64 0, .int .i64 0] 31 (0, 0)) from by rw [← hA, hp]; exact heap_alloc_new _ _)
     have tp2_0 : wm.heap.size ≤ p2_0 := by rw [hp]; exact Du2_84.out.size
     have n2_1_2_0 : p2_1 ≠ p2_0 := by have hh := box_lt Z2_1u2_84.out; rw [hp]; intro e; rw [e] at hh; exact Nat.lt_irrefl _ hh
     have Da2_89 : Hid (Below wm.heap.size wm a2_89) := Below.trans Du2_84.out (ba.mono Du2_84.out.size)
     have Z2_1a2_89 := Lib.hid ((ba.block p2_1 (box_lt Z2_1u2_84.out)).trans Z2_1u2_84.out)
     rw [← hp]
     clear hA hp ba
     refine hK.out _ _ ?_ (fun hHeld => ?_)
     · try dsimp only
       exact KS.out _ Da2_89.out
     clear hK K
     try simp only [Act.put, sa, sb, sc]
     refine wpAnyH_ready (rs := [4]) (by kernel_rfl) (by simp) ?_
     refine (AllReadyH.cons (by (simp only [ea, eb, ec]); (try exact rfl)) (fun K hK => ?_) AllReadyH.nil)
     go_simp
     go_at_call 36
     refine (c2.out _ (HT.out _ (BM.out.trans (Da2_89.out.mono (BM.out.size))))).mono ?_
     rintro e u2_90 ⟨rfl, bb⟩
     have Du2_90 : Hid (Below wm.heap.size wm u2_90) := Below.trans Da2_89.out (bb.mono Da2_89.out.size)
     have Z2_1u2_90 := Lib.hid ((bb.block p2_1 (box_lt Z2_1a2_89.out)).trans Z2_1a2_89.out)
     have Z2_0u2_90 := Lib.hid ((bb.block p2_0 (box_lt Z2_0a2_89.out)).trans Z2_0a2_89.out)
     clear bb
     (first | refine hK.out _ _ ?_ (fun hHeld => ?_) | (go_wp2_with fail; refine hK.out _ _ ?_ (fun hHeld => ?_)))
     · try dsimp only
       exact KS.out _ Du2_90.out
     clear hK K
     try simp only [Act.put, sa, sb, sc]
     refine wpAnyH_take (i := 5) (v := ?_) (by (simp only [ea, eb, ec]); (try exact rfl)) (by kernel_rfl) (by kernel_rfl) (by kernel_rfl) (by intro _ _ _ h; exact h) (Or.inl ⟨by rfl, ?_⟩) (by assumption) ?_
     rotate_left
     · intro w hSw
       try dsimp only at hSw
       go_simp
       try with_reducible rfl
     try simp only [Act.put, sa, sb, sc]
     refine wpAnyH_take (i := 6) (v := ?_) (by (simp only [ea, eb, ec]); (try exact rfl)) (by kernel_rfl) (by kernel_rfl) (by kernel_rfl) (by intro _ _ _ h; exact h) (Or.inl ⟨by rfl, ?_⟩) (by assumption) ?_
     rotate_left
     · intro w hSw
       try dsimp only at hSw
       go_simp
       try with_reducible rfl
     try simp only [Act.put, sa, sb, sc]
     refine wpAnyH_take (i := 7) (v := ?_) (by (simp only [ea, eb, ec]); (try exact rfl)) (by kernel_rfl) (by kernel_rfl) (by kernel_rfl) (by intro _ _ _ h; exact h) (Or.inl ⟨by rfl, ?_⟩) (by assumption) ?_
     rotate_left
     · intro w hSw
       try dsimp only at hSw
       go_simp
       try with_reducible rfl
     try simp only [Act.put, sa, sb, sc]
     refine wpAnyH_take (i := 8) (v := ?_) (by (simp only [ea, eb, ec]); (try exact rfl)) (by kernel_rfl) (by kernel_rfl) (by kernel_rfl) (by intro _ _ _ h; exact h) (Or.inl ⟨by rfl, ?_⟩) (by assumption) ?_
     rotate_left
     · intro w hSw
       try dsimp only at hSw
       go_simp
       try with_reducible rfl
     try simp only [Act.put, sa, sb, sc]
     refine wpAnyH_ready (rs := [11]) (by kernel_rfl) (by simp) ?_
     refine AllReadyH.cons (by (simp only [ea, eb, ec]); (try exact rfl)) (fun K hK => ?_) AllReadyH.nil
     refine step_store_Co rfl _ _ rfl p2_0 (⟨0, 0, 0⟩ : Co) r0 _ rfl rfl Z2_0u2_90.out ?_
     intro e2_91 hE oE bE
     have De2_91 : Hid (Below wm.heap.size wm e2_91) := Below.trans Du2_90.out (bE.mono tp2_0)
     have Z2_0e2_91 := Lib.hid hE
     have Z2_1e2_91 := Lib.hid ((oE p2_1 (by first | assumption | exact Ne.symm (by assumption))).trans Z2_1u2_90.out)
     clear hE oE bE
     refine hK.out _ _ ?_ (fun hHeld => ?_)
     · try dsimp only
       exact KS.out _ De2_91.out
     clear hK K
     try simp only [Act.put, sa, sb, sc]
     refine wpAnyH_ready (rs := [12]) (by kernel_rfl) (by simp) ?_
     refine AllReadyH.cons (by (simp only [ea, eb, ec]); (try exact rfl)) (fun K hK => ?_) AllReadyH.nil
     refine step_store_Co rfl _ _ rfl p2_1 (⟨0, 0, 0⟩ : Co) r1 _ rfl rfl Z2_1e2_91.out ?_
     intro e2_92 hE oE bE
     have De2_92 : Hid (Below wm.heap.size wm e2_92) := Below.trans De2_91.out (bE.mono tp2_1)
     have Z2_1e2_92 := Lib.hid hE
     have Z2_0e2_92 := Lib.hid ((oE p2_0 (by first | assumption | exact Ne.symm (by assumption))).trans Z2_0e2_91.out)
     clear hE oE bE
     refine hK.out _ _ ?_ (fun hHeld => ?_)
     · try dsimp only
       exact KS.out _ De2_92.out
     clear hK K
     try simp only [Act.put, sa, sb, sc]
     refine wpAnyH_take (i := 13) (v := ?_) (by (simp only [ea, eb, ec]); (try exact rfl)) (by kernel_rfl) (by kernel_rfl) (by kernel_rfl) (by intro _ _ _ h; exact h) (Or.inl ⟨by rfl, ?_⟩) (by assumption) ?_
     rotate_left
     · intro w hSw
       try dsimp only at hSw
       go_simp
       try with_reducible rfl
     try simp only [Act.put, sa, sb, sc]
     refine wpAnyH_done (by kernel_rfl) ?_ _
     go_wp2_with fail
     go_meet
     exact ⟨p2_0, p2_1, rfl, rfl, rfl, De2_92, Z2_0e2_92, Z2_1e2_92⟩
     go_simp
     generalize hA : World.alloc u2_83 (.cells #[.int .i64 0, .int .i64 0, .int .i64 0] 31) = a2_93
     obtain ⟨p2_0, hp⟩ : ∃ p, p = u2_83.heap.size := ⟨_, rfl⟩
     have ba : Below u2_83.heap.size u2_83 a2_93 := by rw [← hA]; exact Below.alloc (Below.refl _ _) (Nat.le_refl _) _
     have Z2_0a2_93 := Lib.hid (show a2_93.heap[p2_0]? = some (.cells #[.int .i64 0, .int .i64 0, .int .i64 0] 31 (0, 0)) from by rw [← hA, hp]; exact heap_alloc_new _ _)
     have tp2_0 : wm.heap.size ≤ p2_0 := by rw [hp]; exact Du2_83.out.size
     have n2_1_2_0 : p2_1 ≠ p2_0 := by have hh := box_lt Z2_1u2_83.out; rw [hp]; intro e; rw [e] at hh; exact Nat.lt_irrefl _ hh
     have Da2_93 : Hid (Below wm.heap.size wm a2_93) := Below.trans Du2_83.out (ba.mono Du2_83.out.size)
     have Z2_1a2_93 := Lib.hid ((ba.block p2_1 (box_lt Z2_1u2_83.out)).trans Z2_1u2_83.out)
     rw [← hp]
     clear hA hp ba
     refine hK.out _ _ ?_ (fun hHeld => ?_)
     · try dsimp only
       exact KS.out _ Da2_93.out
     clear hK K
     try simp only [Act.put, sa, sb, sc]
     refine wpAnyH_ready (rs := [3]) (by kernel_rfl) (by simp) ?_
     refine (AllReadyH.cons (by (simp only [ea, eb, ec]); (try exact rfl)) (fun K hK => ?_) AllReadyH.nil)
     go_simp
     go_at_call 35
     refine (toPose_blw q1 _).mono ?_
     rintro e u2_94 ⟨rfl, bb⟩
     have Du2_94 : Hid (Below wm.heap.size wm u2_94) := Below.trans Da2_93.out (bb.mono Da2_93.out.size)
     have Z2_1u2_94 := Lib.hid ((bb.block p2_1 (box_lt Z2_1a2_93.out)).trans Z2_1a2_93.out)
     have Z2_0u2_94 := Lib.hid ((bb.block p2_0 (box_lt Z2_0a2_93.out)).trans Z2_0a2_93.out)
     clear bb
     (first | refine hK.out _ _ ?_ (fun hHeld => ?_) | (go_wp2_with fail; refine hK.out _ _ ?_ (fun hHeld => ?_)))
     · try dsimp only
       exact KS.out _ Du2_94.out
     clear hK K
     try simp only [Act.put, sa, sb, sc]
     refine wpAnyH_ready (rs := [4]) (by kernel_rfl) (by simp) ?_
     refine (AllReadyH.cons (by (simp only [ea, eb, ec]); (try exact rfl)) (fun K hK => ?_) AllReadyH.nil)
     go_simp
     go_at_call 36
     refine (c2.out _ (HT.out _ (BM.out.trans (Du2_94.out.mono (BM.out.size))))).mono ?_
     rintro e u2_95 ⟨rfl, bb⟩
     have Du2_95 : Hid (Below wm.heap.size wm u2_95) := Below.trans Du2_94.out (bb.mono Du2_94.out.size)
     have Z2_1u2_95 := Lib.hid ((bb.block p2_1 (box_lt Z2_1u2_94.out)).trans Z2_1u2_94.out)
     have Z2_0u2_95 := Lib.hid ((bb.block p2_0 (box_lt Z2_0u2_94.out)).trans Z2_0u2_94.out)
     clear bb
     (first | refine hK.out _ _ ?_ (fun hHeld => ?_) | (go_wp2_with fail; refine hK.out _ _ ?_ (fun hHeld => ?_)))
     · try dsimp only
       exact KS.out _ Du2_95.out
     clear hK K
     try simp only [Act.put, sa, sb, sc]
     refine wpAnyH_take (i := 5) (v := ?_) (by (simp only [ea, eb, ec]); (try exact rfl)) (by kernel_rfl) (by kernel_rfl) (by kernel_rfl) (by intro _ _ _ h; exact h) (Or.inl ⟨by rfl, ?_⟩) (by assumption) ?_
     rotate_left
     · intro w hSw
       try dsimp only at hSw
       go_simp
       try with_reducible rfl
     try simp only [Act.put, sa, sb, sc]
     refine wpAnyH_take (i := 6) (v := ?_) (by (simp only [ea, eb, ec]); (try exact rfl)) (by kernel_rfl) (by kernel_rfl) (by kernel_rfl) (by intro _ _ _ h; exact h) (Or.inl ⟨by rfl, ?_⟩) (by assumption) ?_
     rotate_left
     · intro w hSw
       try dsimp only at hSw
       go_simp
       try with_reducible rfl
     try simp only [Act.put, sa, sb, sc]
     refine wpAnyH_take (i := 7) (v := ?_) (by (simp only [ea, eb, ec]); (try exact rfl)) (by kernel_rfl) (by kernel_rfl) (by kernel_rfl) (by intro _ _ _ h; exact h) (Or.inl ⟨by rfl, ?_⟩) (by assumption) ?_
     rotate_left
     · intro w hSw
       try dsimp only at hSw
       go_simp
       try with_reducible rfl
     try simp only [Act.put, sa, sb, sc]
     refine wpAnyH_take (i := 8) (v := ?_) (by (simp only [ea, eb, ec]); (try exact rfl)) (by kernel_rfl) (by kernel_rfl) (by kernel_rfl) (by intro _ _ _ h; exact h) (Or.inl ⟨by rfl, ?_⟩) (by assumption) ?_
     rotate_left
     · intro w hSw
       try dsimp only at hSw
       go_simp
       try with_reducible rfl
     try simp only [Act.put, sa, sb, sc]
     refine wpAnyH_ready (rs := [11]) (by kernel_rfl) (by simp) ?_
     refine AllReadyH.cons (by (simp only [ea, eb, ec]); (try exact rfl)) (fun K hK => ?_) AllReadyH.nil
     refine step_store_Co rfl _ _ rfl p2_0 (⟨0, 0, 0⟩ : Co) r0 _ rfl rfl Z2_0u2_95.out ?_
     intro e2_96 hE oE bE
     have De2_96 : Hid (Below wm.heap.size wm e2_96) := Below.trans Du2_95.out (bE.mono tp2_0)
     have Z2_0e2_96 := Lib.hid hE
     have Z2_1e2_96 := Lib.hid ((oE p2_1 (by first | assumption | exact Ne.symm (by assumption))).trans Z2_1u2_95.out)
     clear hE oE bE
     refine hK.out _ _ ?_ (fun hHeld => ?_)
     · try dsimp only
       exact KS.out _ De2_96.out
     clear hK K
     try simp only [Act.put, sa, sb, sc]
     refine wpAnyH_ready (rs := [12]) (by kernel_rfl) (by simp) ?_
     refine AllReadyH.cons (by (simp only [ea, eb, ec]); (try exact rfl)) (fun K hK => ?_) AllReadyH.nil
     refine step_store_Co rfl _ _ rfl p2_1 (⟨0, 0, 0⟩ : Co) r1 _ rfl rfl Z2_1e2_96.out ?_
     intro e2_97 hE oE bE
     have De2_97 : Hid (Below wm.heap.size wm e2_97) := Below.trans De2_96.out (bE.mono tp2_1)
     have Z2_1e2_97 := Lib.hid hE
     have Z2_0e2_97 := Lib.hid ((oE p2_0 (by first | assumption | exact Ne.symm (by assumption))).trans Z2_0e2_96.out)
     clear hE oE bE
     refine hK.out _ _ ?_ (fun hHeld => ?_)
     · try dsimp only
       exact KS.out _ De2_97.out
     clear hK K
     try simp only [Act.put, sa, sb, sc]
     refine wpAnyH_take (i := 13) (v := ?_) (by (simp only [ea, eb, ec]); (try exact rfl)) (by kernel_rfl) (by kernel_rfl) (by kernel_rfl) (by intro _ _ _ h; exact h) (Or.inl ⟨by rfl, ?_⟩) (by assumption) ?_
     rotate_left
     · intro w hSw
       try dsimp only at hSw
       go_simp
       try with_reducible rfl
     try simp only [Act.put, sa, sb, sc]
     refine wpAnyH_done (by kernel_rfl) ?_ _
     go_wp2_with fail
     go_meet
     exact ⟨p2_0, p2_1, rfl, rfl, rfl, De2_97, Z2_0e2_97, Z2_1e2_97⟩
     go_simp
     generalize hA : World.alloc a2_82 (.cells #[.int .i64 0, .int .i64 0, .int .i64 0] 31) = a2_98
     obtain ⟨p2_0, hp⟩ : ∃ p, p = a2_82.heap.size := ⟨_, rfl⟩
     have ba : Below a2_82.heap.size a2_82 a2_98 := by rw [← hA]; exact Below.alloc (Below.refl _ _) (Nat.le_refl _) _
     have Z2_0a2_98 := Lib.hid (show a2_98.heap[p2_0]? = some (.cells #[.int .i64 0, .int .i64 0, .int .i64 0] 31 (0, 0)) from by rw [← hA, hp]; exact heap_alloc_new _ _)
     have tp2_0 : wm.heap.size ≤ p2_0 := by rw [hp]; exact Da2_82.out.size
     have n2_1_2_0 : p2_1 ≠ p2_0 := by have hh := box_lt Z2_1a2_82.out; rw [hp]; intro e; rw [e] at hh; exact Nat.lt_irrefl _ hh
     have Da2_98 : Hid (Below wm.heap.size wm a2_98) := Below.trans Da2_82.out (ba.mono Da2_82.out.size)
     have Z2_1a2_98 := Lib.hid ((ba.block p2_1 (box_lt Z2_1a2_82.out)).trans Z2_1a2_82.out)
     rw [← hp]
     clear hA hp ba
     refine hK.out _ _ ?_ (fun hHeld => ?_)
     · try dsimp only
       exact KS.out _ Da2_98.out
     clear hK K
     try simp only [Act.put, sa, sb, sc]
     refine wpAnyH_ready (rs := [1]) (by kernel_rfl) (by simp) ?_
     refine (AllReadyH.cons (by (simp only [ea, eb, ec]); (try exact rfl)) (fun K hK => ?_) AllReadyH.nil)
     go_simp
     go_at_call 35
     refine (toPose_blw q0 _).mono ?_
     rintro e u2_99 ⟨rfl, bb⟩
     have Du2_99 : Hid (Below wm.heap.size wm u2_99) := Below.trans Da2_98.out (bb.mono Da2_98.out.size)
     have Z2_1u2_99 := Lib.hid ((bb.block p2_1 (box_lt Z2_1a2_98.out)).trans Z2_1a2_98.out)
     have Z2_0u2_99 := Lib.hid ((bb.block p2_0 (box_lt Z2_0a2_98.out)).trans Z2_0a2_98.out)
     clear bb
     (first | refine hK.out _ _ ?_ (fun hHeld => ?_) | (go_wp2_with fail; refine hK.out _ _ ?_ (fun hHeld => ?_)))
     · try dsimp only
       exact KS.out _ Du2_99.out
     clear hK K
     try simp only [Act.put, sa, sb, sc]
     refine wpAnyH_ready (rs := [3]) (by kernel_rfl) (by simp) ?_
     refine (AllReadyH.cons (by (simp only [ea, eb, ec]); (try exact rfl)) (fun K hK => ?_) AllReadyH.nil)
     go_simp
     go_at_call 35
     refine (toPose_blw q1 _).mono ?_
     rintro e u2_100 ⟨rfl, bb⟩
     have Du2_100 : Hid (Below wm.heap.size wm u2_100) := Below.trans Du2_99.out (bb.mono Du2_99.out.size)
     have Z2_1u2_100 := Lib.hid ((bb.block p2_1 (box_lt Z2_1u2_99.out)).trans Z2_1u2_99.out)
     have Z2_0u2_100 := Lib.hid ((bb.block p2_0 (box_lt Z2_0u2_99.out)).trans Z2_0u2_99.out)
     clear bb
     (first | refine hK.out _ _ ?_ (fun hHeld => ?_) | (go_wp2_with fail; refine hK.out _ _ ?_ (fun hHeld => ?_)))
     · try dsimp only
       exact KS.out _ Du2_100.out
     clear hK K
     try simp only [Act.put, sa, sb, sc]
     refine wpAnyH_ready (rs := [4]) (by kernel_rfl) (by simp) ?_
     refine (AllReadyH.cons (by (simp only [ea, eb, ec]); (try exact rfl)) (fun K hK => ?_) AllReadyH.nil)
     go_simp
     go_at_call 36
     refine (c2.out _ (HT.out _ (BM.out.trans (Du2_100.out.mono (BM.out.size))))).mono ?_
     rintro e u2_101 ⟨rfl, bb⟩
     have Du2_101 : Hid (Below wm.heap.size wm u2_101) := Below.trans Du2_100.out (bb.mono Du2_100.out.size)
     have Z2_1u2_101 := Lib.hid ((bb.block p2_1 (box_lt Z2_1u2_100.out)).trans Z2_1u2_100.out)
     have Z2_0u2_101 := Lib.hid ((bb.block p2_0 (box_lt Z2_0u2_100.out)).trans Z2_0u2_100.out)
     clear bb
     (first | refine hK.out _ _ ?_ (fun hHeld => ?_) | (go_wp2_with fail; refine hK.out _ _ ?_ (fun hHeld => ?_)))
     · try dsimp only
       exact KS.out _ Du2_101.out
     clear hK K
     try simp only [Act.put, sa, sb, sc]
     refine wpAnyH_take (i := 5) (v := ?_) (by (simp only [ea, eb, ec]); (try exact rfl)) (by kernel_rfl) (by kernel_rfl) (by kernel_rfl) (by intro _ _ _ h; exact h) (Or.inl ⟨by rfl, ?_⟩) (by assumption) ?_
     rotate_left
     · intro w hSw
       try dsimp only at hSw
       go_simp
       try with_reducible rfl
     try simp only [Act.put, sa, sb, sc]
     refine wpAnyH_take (i := 6) (v := ?_) (by (simp only [ea, eb, ec]); (try exact rfl)) (by kernel_rfl) (by kernel_rfl) (by kernel_rfl) (by intro _ _ _ h; exact h) (Or.inl ⟨by rfl, ?_⟩) (by assumption) ?_
     rotate_left
     · intro w hSw
       try dsimp only at hSw
       go_simp
       try with_reducible rfl
     try simp only [Act.put, sa, sb, sc]
     refine wpAnyH_take (i := 7) (v := ?_) (by (simp only [ea, eb, ec]); (try exact rfl)) (by kernel_rfl) (by kernel_rfl) (by kernel_rfl) (by intro _ _ _ h; exact h) (Or.inl ⟨by rfl, ?_⟩) (by assumption) ?_
     rotate_left
     · intro w hSw
       try dsimp only at hSw
       go_simp
       try with_reducible rfl
     try simp only [Act.put, sa, sb, sc]
     refine wpAnyH_take (i := 8) (v := ?_) (by (simp only [ea, eb, ec]); (try exact rfl)) (by kernel_rfl) (by kernel_rfl) (by kernel_rfl) (by intro _ _ _ h; exact h) (Or.inl ⟨by rfl, ?_⟩) (by assumption) ?_
     rotate_left
     · intro w hSw
       try dsimp only at hSw
       go_simp
       try with_reducible rfl
     try simp only [Act.put, sa, sb, sc]
     refine wpAnyH_ready (rs := [11]) (by kernel_rfl) (by simp) ?_
     refine AllReadyH.cons (by (simp only [ea, eb, ec]); (try exact rfl)) (fun K hK => ?_) AllReadyH.nil
     refine step_store_Co rfl _ _ rfl p2_0 (⟨0, 0, 0⟩ : Co) r0 _ rfl rfl Z2_0u2_101.out ?_
     intro e2_102 hE oE bE
     have De2_102 : Hid (Below wm.heap.size wm e2_102) := Below.trans Du2_101.out (bE.mono tp2_0)
     have Z2_0e2_102 := Lib.hid hE
     have Z2_1e2_102 := Lib.hid ((oE p2_1 (by first | assumption | exact Ne.symm (by assumption))).trans Z2_1u2_101.out)
     clear hE oE bE
     refine hK.out _ _ ?_ (fun hHeld => ?_)
     · try dsimp only
       exact KS.out _ De2_102.out
     clear hK K
     try simp only [Act.put, sa, sb, sc]
     refine wpAnyH_ready (rs := [12]) (by kernel_rfl) (by simp) ?_
     refine AllReadyH.cons (by (simp only [ea, eb, ec]); (try exact rfl)) (fun K hK => ?_) AllReadyH.nil
     refine step_store_Co rfl _ _ rfl p2_1 (⟨0, 0, 0⟩ : Co) r1 _ rfl rfl Z2_1e2_102.out ?_
     intro e2_103 hE oE bE
     have De2_103 : Hid (Below wm.heap.size wm e2_103) := Below.trans De2_102.out (bE.mono tp2_1)
     have Z2_1e2_103 := Lib.hid hE
     have Z2_0e2_103 := Lib.hid ((oE p2_0 (by first | assumption | exact Ne.symm (by assumption))).trans Z2_0e2_102.out)
     clear hE oE bE
     refine hK.out _ _ ?_ (fun hHeld => ?_)
     · try dsimp only
       exact KS.out _ De2_103.out
     clear hK K
     try simp only [Act.put, sa, sb, sc]
     refine wpAnyH_take (i := 13) (v := ?_) (by (simp only [ea, eb, ec]); (try exact rfl)) (by kernel_rfl) (by kernel_rfl) (by kernel_rfl) (by intro _ _ _ h; exact h) (Or.inl ⟨by rfl, ?_⟩) (by assumption) ?_
     rotate_left
     · intro w hSw
       try dsimp only at hSw
       go_simp
       try with_reducible rfl
     try simp only [Act.put, sa, sb, sc]
     refine wpAnyH_done (by kernel_rfl) ?_ _
     go_wp2_with fail
     go_meet
     exact ⟨p2_0, p2_1, rfl, rfl, rfl, De2_103, Z2_0e2_103, Z2_1e2_103⟩
    case rest =>
      obtain ⟨p2_0, p2_1, rfl, rfl, rfl, DC2, C2_0, C2_1⟩ := hcut
      obtain ⟨wm2, hwm⟩ : ∃ x, x = wc := ⟨_, rfl⟩
      rw [← hwm] at DC2 C2_0 C2_1
      rw [← hwm]
      clear hwm KS c2
      have X1_0 := Lib.hid ((DC2.out.block _ (box_lt C1_0.out)).trans C1_0.out)
      have X1_1 := Lib.hid ((DC2.out.block _ (box_lt C1_1.out)).trans C1_1.out)
      have EE : Hid (Below w.heap.size w wm2) := BM.out.trans (DC2.out.mono BM.out.size)
      clear DC2 BM C1_0 C1_1
      obtain ⟨⟨x0, x1, x2⟩, -, -⟩ := boxCo_at (q := r0) X1_0.out
      obtain ⟨⟨y0, y1, y2⟩, -, -⟩ := boxCo_at (q := r0) C2_0.out
      go_wp2_with fail
      refine (eqCourse_blw r0 _).mono ?_
      rintro e wq0 ⟨rfl, bG⟩
      have X1_1' := Lib.hid ((bG.block _ (box_lt X1_1.out)).trans X1_1.out)
      have C2_1' := Lib.hid ((bG.block _ (box_lt C2_1.out)).trans C2_1.out)
      have EE' : Hid (Below w.heap.size w wq0) := EE.out.trans (bG.mono EE.out.size)
      clear bG EE x0 x1 x2 y0 y1 y2 X1_0 C2_0 X1_1 C2_1
      have X1_1 := X1_1'
      have C2_1 := C2_1'
      clear X1_1' C2_1'
      have EE := EE'
      clear EE'
      obtain ⟨⟨x0, x1, x2⟩, -, -⟩ := boxCo_at (q := r1) X1_1.out
      obtain ⟨⟨y0, y1, y2⟩, -, -⟩ := boxCo_at (q := r1) C2_1.out
      go_wp2_with fail
      refine (eqCourse_blw r1 _).mono ?_
      rintro e wq1 ⟨rfl, bG⟩
      have EE' : Hid (Below w.heap.size w wq1) := EE.out.trans (bG.mono EE.out.size)
      clear bG EE x0 x1 x2 y0 y1 y2 X1_1 C2_1 
      have EE := EE'
      clear EE'
      go_wp2
      go_ret
      exact ⟨rfl, EE.out⟩

set_option maxRecDepth 100000 in
theorem walkFnExactCourseOf (q0 : Ps) (wq0 : WfP q0) (q1 : Ps) (wq1 : WfP q1) (w : World) :
    Calls Try.prog 9 #[(.agg #[.int .i64 q0.s, .int .i64 q0.h, .int .i64 q0.y, .int .i64 q0.p]), (.agg #[.int .i64 q1.s, .int .i64 q1.h, .int .i64 q1.y, .int .i64 q1.p])] w fun e w' => e = .returned (.bool true) ∧ Below w.heap.size w w' := by
  obtain ⟨r0, r1, r2, c1, c2⟩ := exCourseOf q0 q1
  exact courseOf_law q0 q1 w (fun _ => True) (fun _ _ => trivial)  r0 r1 r2  c1 c2
end Go.Proofs.Ytkdecpnbbpmooaa
