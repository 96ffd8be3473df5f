/- DeviationsOf: the helpers of both sides. -/
import Derived.Test.YtgokhbcifgikgabPosesOf
import Derived.Test.YtgokhbcifgikgabLow2
import Derived.WalkSpells
namespace Go.Proofs.Ytgokhbcifgikgab
open Go.ChangeShapes Go.WideShapes Go.ChangeAt Go.RowKit
set_option linter.unusedVariables false
set_option linter.unusedSimpArgs false

/-- r is the greater one of two numbers. -/
def Top (a b r : Int) : Prop := a ≤ r ∧ b ≤ r ∧ (r = a ∨ r = b)
def topI (a b : Int) : Int := if b < a then a else b
theorem top_topI (a b : Int) : Top a b (topI a b) := by unfold Top topI; split <;> omega
def absD (n : Int) : Int := topI n (-n)
theorem absD_neg (n : Int) : absD (-n) = absD n := by unfold absD topI; split <;> split <;> omega
/-- How far two poses are apart. -/
def devP (p q : Ps) : Int := topI (absD (p.s - q.s)) (absD (p.h - q.h))
theorem devP_swap (p q : Ps) : devP p q = devP q p := by
  unfold devP
  rw [← absD_neg (p.s - q.s), ← absD_neg (p.h - q.h), show -(p.s - q.s) = q.s - p.s by omega, show -(p.h - q.h) = q.h - p.h by omega]
theorem absD_bd (n B : Int) (h : -B ≤ n ∧ n ≤ B) : 0 ≤ absD n ∧ absD n ≤ B := by unfold absD topI; split <;> omega

set_option maxHeartbeats 1000000 in
theorem l00Max_any (a b r : Int) (h : r = topI a b) (w : World) :
    Calls Try.prog 60 #[.int .i64 a, .int .i64 b] w fun e w' => e = .returned (.int .i64 r) ∧ w' = w := by
  by_cases hb : b < a
  · obtain rfl : r = a := by rw [h]; unfold topI; rw [if_pos hb]
    clear h
    go_enter Try.func60, Try.ntmps60
    go_wp2
    go_ret
    exact ⟨rfl, rfl⟩
  · obtain rfl : r = b := by rw [h]; unfold topI; rw [if_neg hb]
    clear h
    go_enter Try.func60, Try.ntmps60
    go_wp2
    go_ret
    exact ⟨rfl, rfl⟩

set_option maxHeartbeats 1000000 in
theorem l02Abs_any (n r : Int) (h : r = absD n) (hn : -4000000 ≤ n ∧ n ≤ 4000000) (w : World) :
    Calls Try.prog 61 #[.int .i64 n] w fun e w' => e = .returned (.int .i64 r) ∧ w' = w := by
  have q1 : IntKind.i64.wrap (-n) = -n := IntWalk.i64_in _ (by omega)
  have c1 := Lib.hid (fun w => l00Max_any n (-n) r h w)
  clear h hn
  go_enter Try.func61, Try.ntmps61
  go_wp2_with fail
  refine (c1.out _).mono ?_
  rintro e w' ⟨rfl, rfl⟩
  go_wp2
  go_ret
  exact ⟨rfl, rfl⟩

set_option maxHeartbeats 1000000 in
theorem absolute_any (n r : Int) (h : r = absD n) (hn : -4000000 ≤ n ∧ n ≤ 4000000) (w : World) :
    Calls Try.prog 64 #[.int .i64 n] w fun e w' => e = .returned (.int .i64 r) ∧ w' = w := by
  have q1 : IntKind.i64.wrap (-n) = -n := IntWalk.i64_in _ (by omega)
  by_cases hlt : n < -n
  · obtain rfl : r = -n := by rw [h]; unfold absD topI; split <;> omega
    clear h hn
    go_enter Try.func64, Try.ntmps64
    go_wp2
    go_ret
    exact ⟨rfl, rfl⟩
  · obtain rfl : r = n := by rw [h]; unfold absD topI; split <;> omega
    clear h hn
    go_enter Try.func64, Try.ntmps64
    go_wp2
    go_ret
    exact ⟨rfl, rfl⟩

set_option maxHeartbeats 1000000 in
theorem l02Apart_any (p q : Ps) (r : Int) (h : r = devP p q) (hp : OkP p) (hq : OkP q) (w : World) :
    Calls Try.prog 42 #[(.agg #[.int .i64 p.s, .int .i64 p.h, .int .i64 p.y, .int .i64 p.p]), (.agg #[.int .i64 q.s, .int .i64 q.h, .int .i64 q.y, .int .i64 q.p])] w fun e w' => e = .returned (.int .i64 r) ∧ Below w.heap.size w w' := by
  obtain ⟨⟨_, _⟩, ⟨_, _⟩, _, _⟩ := hp
  obtain ⟨⟨_, _⟩, ⟨_, _⟩, _, _⟩ := hq
  have q1 : IntKind.i64.wrap (p.s - q.s) = p.s - q.s := IntWalk.i64_in _ (by omega)
  have q2 : IntKind.i64.wrap (p.h - q.h) = p.h - q.h := IntWalk.i64_in _ (by omega)
  have c1 := Lib.hid (fun w => l02Abs_any (p.s - q.s) _ rfl (by omega) w)
  have c2 := Lib.hid (fun w => l02Abs_any (p.h - q.h) _ rfl (by omega) w)
  have c3 := Lib.hid (fun w => l00Max_any (absD (p.s - q.s)) (absD (p.h - q.h)) r h w)
  clear h
  go_enter Try.func42, Try.ntmps42
  go_wp2
  have N2 : Hid (((w.alloc (.cells #[.int .i64 p.s, .int .i64 p.h, .int .i64 p.y, .int .i64 p.p] 28)).alloc (.cells #[.int .i64 q.s, .int .i64 q.h, .int .i64 q.y, .int .i64 q.p] 28)).heap[w.heap.size]? = some (.cells #[.int .i64 p.s, .int .i64 p.h, .int .i64 p.y, .int .i64 p.p] 28 (0, 0))) := heap_alloc2_old w _ _
  have M2 : Hid (((w.alloc (.cells #[.int .i64 p.s, .int .i64 p.h, .int .i64 p.y, .int .i64 p.p] 28)).alloc (.cells #[.int .i64 q.s, .int .i64 q.h, .int .i64 q.y, .int .i64 q.p] 28)).heap[w.heap.size + 1]? = some (.cells #[.int .i64 q.s, .int .i64 q.h, .int .i64 q.y, .int .i64 q.p] 28 (0, 0))) := heap_alloc2_new w _ _
  have B2 : Hid (Below w.heap.size w ((w.alloc (.cells #[.int .i64 p.s, .int .i64 p.h, .int .i64 p.y, .int .i64 p.p] 28)).alloc (.cells #[.int .i64 q.s, .int .i64 q.h, .int .i64 q.y, .int .i64 q.p] 28))) := by show Below _ _ _; go_grown
  obtain ⟨w2, hw2⟩ : ∃ x, x = ((w.alloc (.cells #[.int .i64 p.s, .int .i64 p.h, .int .i64 p.y, .int .i64 p.p] 28)).alloc (.cells #[.int .i64 q.s, .int .i64 q.h, .int .i64 q.y, .int .i64 q.p] 28)) := ⟨_, rfl⟩
  rw [← hw2] at N2 M2 B2
  rw [← hw2]
  clear hw2
  have KS : Hid (∀ w', Below w2.heap.size w2 w' → (w'.cell? ⟨w.heap.size, 0, none⟩ = some (.int .i64 p.s) ∧ w'.cell? ⟨w.heap.size, 1, none⟩ = some (.int .i64 p.h) ∧ w'.cell? ⟨w.heap.size + 1, 0, none⟩ = some (.int .i64 q.s) ∧ w'.cell? ⟨w.heap.size + 1, 1, none⟩ = some (.int .i64 q.h))) := by
    intro w' b
    have l1 := (Array.getElem?_eq_some_iff.1 M2.out).1
    obtain ⟨⟨a0, a1, _, _⟩, -⟩ := boxPs_at ((b.block w.heap.size (by omega)).trans N2.out)
    obtain ⟨⟨b0, b1, _, _⟩, -⟩ := boxPs_at ((b.block (w.heap.size + 1) l1).trans M2.out)
    exact ⟨a0, a1, b0, b1⟩
  go_region_held3 (fun w' => (w'.cell? ⟨w.heap.size, 0, none⟩ = some (.int .i64 p.s) ∧ w'.cell? ⟨w.heap.size, 1, none⟩ = some (.int .i64 p.h) ∧ w'.cell? ⟨w.heap.size + 1, 0, none⟩ = some (.int .i64 q.s) ∧ w'.cell? ⟨w.heap.size + 1, 1, none⟩ = some (.int .i64 q.h)))
    (exact KS.out _ (Below.refl _ _).drew)
    (first
      | (go_at_call 61; (first | with_reducible refine (c1.out _).mono ?_ | with_reducible refine (c2.out _).mono ?_); rintro e w' ⟨rfl, rfl⟩)
      | (go_at_call 60; refine (c3.out _).mono ?_; rintro e w' ⟨rfl, rfl⟩))
  go_wp2
  go_ret
  exact ⟨rfl, B2.out.drew⟩

set_option maxHeartbeats 1000000 in
theorem distance_any (p : Ps) (a b r : Int) (h : r = topI (absD (p.s - a)) (absD (p.h - b))) (hp : OkP p) (ha : OkOff a) (hb : OkOff b) (w : World) :
    Calls Try.prog 46 #[(.agg #[.int .i64 p.s, .int .i64 p.h, .int .i64 p.y, .int .i64 p.p]), .int .i64 a, .int .i64 b] w fun e w' => e = .returned (.int .i64 r) ∧ Below w.heap.size w w' := by
  obtain ⟨⟨_, _⟩, ⟨_, _⟩, _, _⟩ := hp
  obtain ⟨_, _⟩ := ha
  obtain ⟨_, _⟩ := hb
  have q1 : IntKind.i64.wrap (p.s - a) = p.s - a := IntWalk.i64_in _ (by omega)
  have q2 : IntKind.i64.wrap (p.h - b) = p.h - b := IntWalk.i64_in _ (by omega)
  have c1 := Lib.hid (fun w => absolute_any (p.s - a) _ rfl (by omega) w)
  have c2 := Lib.hid (fun w => absolute_any (p.h - b) _ rfl (by omega) w)
  obtain ⟨x, hx⟩ : ∃ x, x = absD (p.s - a) := ⟨_, rfl⟩
  obtain ⟨y, hy⟩ : ∃ x, x = absD (p.h - b) := ⟨_, rfl⟩
  rw [← hx] at c1 h
  rw [← hy] at c2 h
  clear hx hy
  rcases Int.lt_or_le x y with hxy | hxy
  · obtain rfl : r = y := by rw [h]; unfold topI; split <;> omega
    clear h
    go_enter Try.func46, Try.ntmps46
    go_wp2
    have N2 : Hid ((w.alloc (.cells #[.int .i64 p.s, .int .i64 p.h, .int .i64 p.y, .int .i64 p.p] 28)).heap[w.heap.size]? = some (.cells #[.int .i64 p.s, .int .i64 p.h, .int .i64 p.y, .int .i64 p.p] 28 (0, 0))) := heap_alloc_new w _
    have B2 : Hid (Below w.heap.size w (w.alloc (.cells #[.int .i64 p.s, .int .i64 p.h, .int .i64 p.y, .int .i64 p.p] 28))) := by show Below _ _ _; go_grown
    obtain ⟨w2, hw2⟩ : ∃ x, x = (w.alloc (.cells #[.int .i64 p.s, .int .i64 p.h, .int .i64 p.y, .int .i64 p.p] 28)) := ⟨_, rfl⟩
    rw [← hw2] at N2 B2
    rw [← hw2]
    clear hw2
    have KS : Hid (∀ w', Below w2.heap.size w2 w' → (w'.cell? ⟨w.heap.size, 0, none⟩ = some (.int .i64 p.s) ∧ w'.cell? ⟨w.heap.size, 1, none⟩ = some (.int .i64 p.h))) := by
      intro w' b
      have l1 := (Array.getElem?_eq_some_iff.1 N2.out).1
      obtain ⟨⟨a0, a1, _, _⟩, -⟩ := boxPs_at ((b.block w.heap.size l1).trans N2.out)
      exact ⟨a0, a1⟩
    go_region_held3 (fun w' => (w'.cell? ⟨w.heap.size, 0, none⟩ = some (.int .i64 p.s) ∧ w'.cell? ⟨w.heap.size, 1, none⟩ = some (.int .i64 p.h)))
      (exact KS.out _ (Below.refl _ _).drew)
      ((go_at_call 64; (first | with_reducible refine (c1.out _).mono ?_ | with_reducible refine (c2.out _).mono ?_); rintro e w' ⟨rfl, rfl⟩))
    go_wp2
    go_ret
    exact ⟨rfl, B2.out.drew⟩
  · obtain rfl : r = x := by rw [h]; unfold topI; split <;> omega
    clear h
    go_enter Try.func46, Try.ntmps46
    go_wp2
    have N2 : Hid ((w.alloc (.cells #[.int .i64 p.s, .int .i64 p.h, .int .i64 p.y, .int .i64 p.p] 28)).heap[w.heap.size]? = some (.cells #[.int .i64 p.s, .int .i64 p.h, .int .i64 p.y, .int .i64 p.p] 28 (0, 0))) := heap_alloc_new w _
    have B2 : Hid (Below w.heap.size w (w.alloc (.cells #[.int .i64 p.s, .int .i64 p.h, .int .i64 p.y, .int .i64 p.p] 28))) := by show Below _ _ _; go_grown
    obtain ⟨w2, hw2⟩ : ∃ x, x = (w.alloc (.cells #[.int .i64 p.s, .int .i64 p.h, .int .i64 p.y, .int .i64 p.p] 28)) := ⟨_, rfl⟩
    rw [← hw2] at N2 B2
    rw [← hw2]
    clear hw2
    have KS : Hid (∀ w', Below w2.heap.size w2 w' → (w'.cell? ⟨w.heap.size, 0, none⟩ = some (.int .i64 p.s) ∧ w'.cell? ⟨w.heap.size, 1, none⟩ = some (.int .i64 p.h))) := by
      intro w' b
      have l1 := (Array.getElem?_eq_some_iff.1 N2.out).1
      obtain ⟨⟨a0, a1, _, _⟩, -⟩ := boxPs_at ((b.block w.heap.size l1).trans N2.out)
      exact ⟨a0, a1⟩
    go_region_held3 (fun w' => (w'.cell? ⟨w.heap.size, 0, none⟩ = some (.int .i64 p.s) ∧ w'.cell? ⟨w.heap.size, 1, none⟩ = some (.int .i64 p.h)))
      (exact KS.out _ (Below.refl _ _).drew)
      ((go_at_call 64; (first | with_reducible refine (c1.out _).mono ?_ | with_reducible refine (c2.out _).mono ?_); rintro e w' ⟨rfl, rfl⟩))
    go_wp2
    go_ret
    exact ⟨rfl, B2.out.drew⟩
end Go.Proofs.Ytgokhbcifgikgab
