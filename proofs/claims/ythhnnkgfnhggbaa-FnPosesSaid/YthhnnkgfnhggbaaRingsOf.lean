/- The walks of RingsOf. -/
import Derived.Test.YthhnnkgfnhggbaaTurns
namespace Go.Proofs.Ythhnnkgfnhggbaa
open Go.ChangeShapes Go.WideShapes Go.ChangeAt Go.RowKit
set_option linter.unusedVariables false
set_option linter.unusedSimpArgs false

theorem OkA.parts {q : Ps} {cs : List Cv} (h : OkA q cs) : 1 ≤ cs.length ∧ cs.length ≤ 8 ∧ (∀ c ∈ cs, OkCv c) ∧ 0 ≤ sumR cs ∧ sumR cs ≤ 60 := by
  obtain ⟨⟨⟨h1, h2⟩, h3, h4⟩, _⟩ := (okA_iff q cs).mp h
  exact ⟨by omega, by omega, h3, (sumR_bd cs h3).1, h4⟩

theorem OkA.one {q : Ps} {cs : List Cv} (h : OkA q cs) : 1 ≤ sumR cs := by
  obtain ⟨h1, h2, h3, _⟩ := h.parts
  match cs, h1 with
  | c :: cs, _ =>
    have := (h3 c (by simp)).1
    have := (sumR_bd cs (fun d hd => h3 d (by simp [hd]))).1
    simp only [sumR]; omega

set_option maxHeartbeats 1000000 in
theorem l02Rings_any (A : Nat) (t : TypeId) (q : Ps) (v : Value) (cs : List Cv) (w : World) (hA : w.heap[A]? = some (.cells #[.int .i64 q.s, .int .i64 q.h, .int .i64 q.y, .int .i64 q.p, v] t (0, 0)))
    (hc : RdS 3 encCv w v cs) (h : OkA q cs) :
    Calls Try.prog 71 #[.pointer (some ⟨A, 0, none⟩)] w fun e w' => e = .returned (.int .i64 (sumR cs)) ∧ Below w.heap.size w w' := by
  have p := h.parts
  have c1 := Lib.hid (l02Turns_any A t q v cs w hA hc p.2.1 p.2.2.1)
  have hl := Lib.hid (turnsC_len cs p.2.2.1)
  clear hA hc h p
  go_enter Try.func71, Try.ntmps71
  go_wp2_with fail
  refine c1.out.mono ?_
  rintro e w1 ⟨v', rfl, o1, b1⟩
  have B1 := Lib.hid b1
  obtain ⟨a', cap', rfl⟩ := o1.form
  clear o1 b1
  go_wp2
  go_ret
  refine ⟨?_, B1.out⟩
  show Ending.returned (.int .i64 ((turnsC cs).length : Int)) = _
  rw [hl.out]


set_option maxHeartbeats 1000000 in
theorem implRingsOf_any (q : Ps) (v : Value) (cs : List Cv) (w : World) (hc : RdS 3 encCv w v cs) (lz : cs.length ≤ 1048576) (m : Int) (b : Bool) (hb : b = true ↔ OkA q cs) (hm : m = if b = true then sumR cs else 0) :
    Calls Try.prog 13 #[(.agg #[.int .i64 q.s, .int .i64 q.h, .int .i64 q.y, .int .i64 q.p, v])] w fun e w' => e = .returned (.tuple #[.int .i64 m, .bool b]) ∧ Below w.heap.size w w' := by
  have HC := Lib.hid hc
  obtain ⟨a, cap, rfl, _⟩ := hc
  have HB := Lib.hid hb
  clear hb
  go_enter Try.func13, Try.ntmps13
  go_wp2_with fail
  refine (implValidAxis_any q _ cs _ (HC.out.later (by go_grown)) lz b HB.out).mono ?_
  rintro e w1 ⟨rfl, b1⟩
  have n1 := (b1.block w.heap.size (by simp only [World.size_alloc]; omega)).trans (heap_alloc_new w _)
  obtain ⟨⟨a0, a1, a2, a3, a4⟩, l1⟩ := boxA_at n1
  have B1 : Hid (Below w.heap.size w w1) := Below.trans (by go_grown) (b1.mono (by simp only [World.size_alloc]; omega))
  clear b1 n1
  cases b with
  | false =>
    obtain rfl : m = 0 := by rw [hm]; simp
    clear hm
    go_wp2
    go_ret2
    exact ⟨rfl, B1.out⟩
  | true =>
    obtain rfl : m = sumR cs := by rw [hm]; simp
    have p := Lib.hid (OkA.parts (HB.out.mp rfl))
    clear hm
    go_wp2_with fail
    refine (rings_any _ cs _ (HC.out.later B1.out) p.out.1 p.out.2.1 p.out.2.2.1).mono ?_
    rintro e w2 ⟨rfl, b2⟩
    have B2 : Hid (Below w.heap.size w w2) := B1.out.trans (b2.mono B1.out.size)
    clear b2
    go_wp2
    go_ret2
    exact ⟨rfl, B2.out⟩

theorem ok_bool (P : Prop) : ∃ b : Bool, b = true ↔ P := by
  by_cases h : P
  · exact ⟨true, by simp [h]⟩
  · exact ⟨false, by simp [h]⟩

end Go.Proofs.Ythhnnkgfnhggbaa
