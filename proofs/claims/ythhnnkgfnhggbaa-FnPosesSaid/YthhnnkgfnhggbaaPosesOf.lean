/- PosesOf on both sides. -/
import Derived.Test.YthhnnkgfnhggbaaImplPos
namespace Go.Proofs.Ythhnnkgfnhggbaa
open Go.ChangeShapes Go.WideShapes Go.ChangeAt Go.RowKit
set_option linter.unusedVariables false
set_option linter.unusedSimpArgs false

def allPs (q : Ps) (cs : List Cv) : List Ps := posesTo q (turnsC cs) ((turnsC cs).length + 1)
theorem allPs_len (q : Ps) (cs : List Cv) (h : OkA q cs) : (allPs q cs).length ≤ 61 := by
  have := turnsC_len cs h.parts.2.2.1
  have := h.parts.2.2.2.2
  rw [allPs, posesTo_length]; omega


set_option maxHeartbeats 1000000 in
theorem implPosesOf_any (q : Ps) (v : Value) (cs : List Cv) (w : World) (hc : RdS 3 encCv w v cs) (lz : cs.length ≤ 1048576) (b : Bool) (hb : b = true ↔ OkA q cs) (xs : List Ps) (hx : xs = if b = true then allPs q cs else []) :
    Calls Try.prog 14 #[(.agg #[.int .i64 q.s, .int .i64 q.h, .int .i64 q.y, .int .i64 q.p, v])] w fun e w' => ∃ v', e = .returned (.tuple #[v', .bool b]) ∧ OwnS 25 4 encPs w' w.heap.size v' xs ∧ Below w.heap.size w w' := by
  cases b with
  | true =>
    obtain rfl : xs = allPs q cs := by rw [hx]; simp
    exact implPoses_yes q v cs w hc lz (hb.mp rfl)
  | false =>
    obtain rfl : xs = [] := by rw [hx]; simp
    have HC := Lib.hid hc
    obtain ⟨a, cap, rfl, _⟩ := hc
    have c1 := Lib.hid (fun w (hr : RdS 3 encCv w (.slice a cs.length cap) cs) => implRingsOf_any q _ cs w hr lz 0 false hb (by simp))
    clear hb hx
    go_enter Try.func14, Try.ntmps14
    go_wp2_with fail
    refine (c1.out _ (HC.out.later (by go_grown))).mono ?_
    rintro e w1 ⟨rfl, b1⟩
    have B1 : Hid (Below w.heap.size w w1) := Below.trans (by go_grown) (b1.mono (by simp only [World.size_alloc]; omega))
    clear b1
    go_wp2
    go_ret2
    exact ⟨_, rfl, OwnS.nil _ _, B1.out⟩

end Go.Proofs.Ythhnnkgfnhggbaa
