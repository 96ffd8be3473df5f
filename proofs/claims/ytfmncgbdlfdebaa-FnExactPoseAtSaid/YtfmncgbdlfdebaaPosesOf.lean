/- PosesOf on both sides. -/
import Derived.Test.YtfmncgbdlfdebaaImplPos
namespace Go.Proofs.Ytfmncgbdlfdebaa
open Go.ChangeShapes Go.WideShapes Go.ChangeAt Go.RowKit
set_option linter.unusedVariables false
set_option linter.unusedSimpArgs false

def allPs (q : Ps) (cs : List Cv) : List Ps := posesTo q (turnsC cs) ((turnsC cs).length + 1)
theorem allPs_len (q : Ps) (cs : List Cv) (h : OkA q cs) : (allPs q cs).length ≤ 61 := by
  have := turnsC_len cs h.parts.2.2.1
  have := h.parts.2.2.2.2
  rw [allPs, posesTo_length]; omega

set_option maxHeartbeats 1000000 in
theorem specPosesOf_any (q : Ps) (v : Value) (cs : List Cv) (w : World) (hc : RdS 3 encCv w v cs) (lz : cs.length ≤ 1048576) (b : Bool) (hb : b = true ↔ OkA q cs) (xs : List Ps) (hx : xs = if b = true then allPs q cs else []) :
    Calls Try.prog 32 #[(.agg #[.int .i64 q.s, .int .i64 q.h, .int .i64 q.y, .int .i64 q.p, v])] w fun e w' => ∃ v', e = .returned (.tuple #[v', .bool b]) ∧ OwnS 25 4 encPs w' w.heap.size v' xs ∧ Below w.heap.size w w' := by
  have HC := Lib.hid hc
  obtain ⟨a, cap, rfl, _⟩ := hc
  have HB := Lib.hid hb
  clear hb
  go_enter Try.func32, Try.ntmps32
  go_wp2_with fail
  refine (l02Is_any w.heap.size 39 q a cap cs _ (heap_alloc_new w _) (HC.out.later (by go_grown)) lz b HB.out).mono ?_
  rintro e w1 ⟨rfl, b1⟩
  have n1 := Lib.hid ((b1.block w.heap.size (by simp only [World.size_alloc]; omega)).trans (heap_alloc_new w _))
  have B1 : Hid (Below w.heap.size w w1) := Below.trans (by go_grown) (b1.mono (by simp only [World.size_alloc]; omega))
  clear b1
  cases b with
  | false =>
    obtain rfl : xs = [] := by rw [hx]; simp
    clear hx
    go_wp2
    go_ret2
    exact ⟨_, rfl, OwnS.nil _ _, B1.out⟩
  | true =>
    obtain rfl : xs = allPs q cs := by rw [hx]; simp
    have OA := Lib.hid (HB.out.mp rfl)
    clear hx HB
    go_wp2_with fail
    refine (l02Poses_any w.heap.size 39 q _ cs _ n1.out (HC.out.later B1.out) OA.out).mono ?_
    rintro e w2 ⟨v2, rfl, o2, b2⟩
    have B2 : Hid (Below w.heap.size w w2) := B1.out.trans (b2.mono B1.out.size)
    have O2 := Lib.hid (o2.mono B1.out.size)
    clear b2 o2
    go_wp2
    go_ret2
    exact ⟨_, rfl, O2.out, B2.out⟩

set_option maxHeartbeats 1000000 in
theorem implPosesOf_any (q : Ps) (v : Value) (cs : List Cv) (w : World) (hc : RdS 3 encCv w v cs) (lz : cs.length ≤ 1048576) (b : Bool) (hb : b = true ↔ OkA q cs) (xs : List Ps) (hx : xs = if b = true then allPs q cs else []) :
    Calls Try.prog 33 #[(.agg #[.int .i64 q.s, .int .i64 q.h, .int .i64 q.y, .int .i64 q.p, v])] w fun e w' => ∃ v', e = .returned (.tuple #[v', .bool b]) ∧ OwnS 25 4 encPs w' w.heap.size v' xs ∧ Below w.heap.size w w' := by
  cases b with
  | true =>
    obtain rfl : xs = allPs q cs := by rw [hx]; simp
    exact implPoses_yes q v cs w hc lz (hb.mp rfl)
  | false =>
    obtain rfl : xs = [] := by rw [hx]; simp
    have HC := Lib.hid hc
    obtain ⟨a, cap, rfl, _⟩ := hc
    have c1 := Lib.hid (fun w (hr : RdS 3 encCv w (.slice a cs.length cap) cs) => implRingsOf_any q _ cs w hr lz 0 false hb (by simp))
    clear hb hx
    go_enter Try.func33, Try.ntmps33
    go_wp2_with fail
    refine (c1.out _ (HC.out.later (by go_grown))).mono ?_
    rintro e w1 ⟨rfl, b1⟩
    have B1 : Hid (Below w.heap.size w w1) := Below.trans (by go_grown) (b1.mono (by simp only [World.size_alloc]; omega))
    clear b1
    go_wp2
    go_ret2
    exact ⟨_, rfl, OwnS.nil _ _, B1.out⟩

theorem exPosesOf (q : Ps) (cs : List Cv) (lz : cs.length ≤ 1048576) : ∃ (xs : List Ps) (b : Bool), xs.length ≤ 1048576 ∧
    Hid (∀ v w, RdS 3 encCv w v cs → Calls Try.prog 32 #[(.agg #[.int .i64 q.s, .int .i64 q.h, .int .i64 q.y, .int .i64 q.p, v])] w fun e w' => ∃ v', e = .returned (.tuple #[v', .bool b]) ∧ OwnS 25 4 encPs w' w.heap.size v' xs ∧ Below w.heap.size w w') ∧
    Hid (∀ v w, RdS 3 encCv w v cs → Calls Try.prog 33 #[(.agg #[.int .i64 q.s, .int .i64 q.h, .int .i64 q.y, .int .i64 q.p, v])] w fun e w' => ∃ v', e = .returned (.tuple #[v', .bool b]) ∧ OwnS 25 4 encPs w' w.heap.size v' xs ∧ Below w.heap.size w w') := by
  obtain ⟨b, hb⟩ := ok_bool (OkA q cs)
  refine ⟨_, b, ?_, fun v w h => specPosesOf_any q v cs w h lz b hb _ rfl, fun v w h => implPosesOf_any q v cs w h lz b hb _ rfl⟩
  split
  · rename_i h
    have := allPs_len q cs (hb.mp h)
    omega
  · simp
end Go.Proofs.Ytfmncgbdlfdebaa
