/- The laws' comparisons of poses and axes. -/
import Derived.Test.YthhnnkgfnhggbaaAxisO
import Derived.Test.YthhnnkgfnhggbaaRevS
import Derived.Deep.QuietTactic
import Derived.BigQuiet
namespace Go.Proofs.Ythhnnkgfnhggbaa
open Go.ChangeShapes Go.WideShapes Go.ChangeAt Go.RowKit
set_option linter.unusedVariables false
set_option linter.unusedSimpArgs false

theorem below_drewN' {w u : World} {B : Nat} (b : Below B w u) (n : Nat) : Below B w (u.drewN n) := ⟨b.os, b.tape, b.output, b.size, b.block⟩

set_option maxRecDepth 100000 in
set_option maxHeartbeats 4000000 in
theorem r8Poses_same (g1 g2 n c1 c2 : Nat) (xs : List Ps) (w : World) (ha : RdS 4 encPs w (.slice (some ⟨g1, 0, none⟩) n c1) xs) (hb : RdS 4 encPs w (.slice (some ⟨g2, 0, none⟩) n c2) xs) (hn : xs.length = n) (ln : n ≤ 1000) :
    Calls Try.prog 18 #[.slice (some ⟨g1, 0, none⟩) n c1, .slice (some ⟨g2, 0, none⟩) n c2] w fun e w' => e = .returned (.bool true) ∧ Below w.heap.size w w' := by
  have HA := Lib.hid ha
  have HB := Lib.hid hb
  have HN := Lib.hid hn
  have nn : ((n : Int) != (n : Int)) = false := by simp
  clear ha hb hn
  go_enter Try.func18, Try.ntmps18
  go_wp2
  go_loopw [5] (fun iv wr => ∃ k : Nat, k ≤ n ∧ iv = .int .i64 (k : Int) ∧ Hid (Below w.heap.size w wr)) (fun iv _ => n - (intOf iv).toNat)
  case atStart => exact ⟨0, by omega, by simp, Below.refl _ _⟩
  case round =>
    obtain ⟨k, hk, rfl, B⟩ := hrel
    by_cases hlt : k < n
    · obtain ⟨p, hp⟩ : ∃ x, xs[k]? = some x := ⟨_, List.getElem?_eq_getElem (by have := HN.out; omega)⟩
      obtain ⟨p0, p1, p2, p3⟩ := (HA.out.later B.out).at4g hp
      obtain ⟨q0, q1, q2, q3⟩ := (HB.out.later B.out).at4g hp
      have w1 : IntKind.i64.wrap ((k : Int) + 1) = ((k + 1 : Nat) : Int) := by push_cast; exact IntWalk.i64_in _ (by omega)
      have lk : (k : Int) < (n : Int) := by omega
      clear hp
      go_wp2_with fail
      go_quiet (fail)
      have B2 : Hid (Below w.heap.size w (wr.drewN nq)) := below_drewN' B.out _
      clear p0 p1 p2 p3 q0 q1 q2 q3 B
      go_wp2
      exact ⟨⟨k + 1, by omega, by push_cast; rfl, B2⟩, by simp only [intOf]; omega⟩
    · obtain rfl : k = n := by omega
      go_wp2
      go_ret
      exact ⟨rfl, B.out⟩

set_option maxRecDepth 100000 in
set_option maxHeartbeats 4000000 in
theorem r8Axes_same (q : Ps) (g1 g2 n c1 c2 : Nat) (cs : List Cv) (w : World) (ha : RdS 3 encCv w (.slice (some ⟨g1, 0, none⟩) n c1) cs) (hb : RdS 3 encCv w (.slice (some ⟨g2, 0, none⟩) n c2) cs) (hn : cs.length = n) (ln : n ≤ 1000) :
    Calls Try.prog 17 #[(.agg #[.int .i64 q.s, .int .i64 q.h, .int .i64 q.y, .int .i64 q.p, (.slice (some ⟨g1, 0, none⟩) n c1)]), (.agg #[.int .i64 q.s, .int .i64 q.h, .int .i64 q.y, .int .i64 q.p, (.slice (some ⟨g2, 0, none⟩) n c2)])] w fun e w' => e = .returned (.bool true) ∧ Below w.heap.size w w' := by
  have HA := Lib.hid ha
  have HB := Lib.hid hb
  have HN := Lib.hid hn
  have nn : ((n : Int) != (n : Int)) = false := by simp
  have N1 : Hid ((((w.alloc (.cells #[.int .i64 q.s, .int .i64 q.h, .int .i64 q.y, .int .i64 q.p, .slice (some ⟨g1, 0, none⟩) n c1] 28)).alloc (.cells #[.int .i64 q.s, .int .i64 q.h, .int .i64 q.y, .int .i64 q.p, .slice (some ⟨g2, 0, none⟩) n c2] 28))).heap[w.heap.size]? = some (.cells #[.int .i64 q.s, .int .i64 q.h, .int .i64 q.y, .int .i64 q.p, .slice (some ⟨g1, 0, none⟩) n c1] 28 (0, 0))) := heap_alloc2_old w _ _
  have N2 : Hid ((((w.alloc (.cells #[.int .i64 q.s, .int .i64 q.h, .int .i64 q.y, .int .i64 q.p, .slice (some ⟨g1, 0, none⟩) n c1] 28)).alloc (.cells #[.int .i64 q.s, .int .i64 q.h, .int .i64 q.y, .int .i64 q.p, .slice (some ⟨g2, 0, none⟩) n c2] 28))).heap[w.heap.size + 1]? = some (.cells #[.int .i64 q.s, .int .i64 q.h, .int .i64 q.y, .int .i64 q.p, .slice (some ⟨g2, 0, none⟩) n c2] 28 (0, 0))) := heap_alloc2_new w _ _
  have B0 : Hid (Below w.heap.size w ((w.alloc (.cells #[.int .i64 q.s, .int .i64 q.h, .int .i64 q.y, .int .i64 q.p, .slice (some ⟨g1, 0, none⟩) n c1] 28)).alloc (.cells #[.int .i64 q.s, .int .i64 q.h, .int .i64 q.y, .int .i64 q.p, .slice (some ⟨g2, 0, none⟩) n c2] 28))) := by show Below _ _ _; go_grown
  clear ha hb hn
  go_enter Try.func17, Try.ntmps17
  go_wp2
  generalize hx : (w.alloc (.cells #[.int .i64 q.s, .int .i64 q.h, .int .i64 q.y, .int .i64 q.p, .slice (some ⟨g1, 0, none⟩) n c1] 28)).alloc (.cells #[.int .i64 q.s, .int .i64 q.h, .int .i64 q.y, .int .i64 q.p, .slice (some ⟨g2, 0, none⟩) n c2] 28) = w1 at N1 N2 B0 ⊢
  clear hx
  have l1 := (Array.getElem?_eq_some_iff.1 N1.out).1
  have l2 := (Array.getElem?_eq_some_iff.1 N2.out).1
  go_loopw [5] (fun iv wr => ∃ k : Nat, k ≤ n ∧ iv = .int .i64 (k : Int) ∧ Hid (Below w1.heap.size w1 wr)) (fun iv _ => n - (intOf iv).toNat)
  case atStart => exact ⟨0, by omega, by simp, Below.refl _ _⟩
  case round =>
    obtain ⟨k, hk, rfl, B⟩ := hrel
    obtain ⟨⟨-, -, -, -, k4⟩, -⟩ := boxA_at ((B.out.block _ l1).trans N1.out)
    obtain ⟨⟨-, -, -, -, j4⟩, -⟩ := boxA_at ((B.out.block _ l2).trans N2.out)
    by_cases hlt : k < n
    · obtain ⟨c, hc⟩ : ∃ x, cs[k]? = some x := ⟨_, List.getElem?_eq_getElem (by have := HN.out; omega)⟩
      obtain ⟨p0, p1, p2⟩ := (HA.out.later (B0.out.trans (B.out.mono B0.out.size))).at3g hc
      obtain ⟨q0, q1, q2⟩ := (HB.out.later (B0.out.trans (B.out.mono B0.out.size))).at3g hc
      have w1 : IntKind.i64.wrap ((k : Int) + 1) = ((k + 1 : Nat) : Int) := by push_cast; exact IntWalk.i64_in _ (by omega)
      have lk : (k : Int) < (n : Int) := by omega
      clear hc
      go_wp2_with fail
      go_quiet (fail)
      have B2 : Hid (Below _ _ (wr.drewN nq)) := below_drewN' B.out _
      clear p0 p1 p2 q0 q1 q2 k4 j4 B
      go_wp2
      exact ⟨⟨k + 1, by omega, by push_cast; rfl, B2⟩, by simp only [intOf]; omega⟩
    · obtain rfl : k = n := by omega
      have BE : Hid (Below w.heap.size w wr) := B0.out.trans (B.out.mono B0.out.size)
      go_wp2
      go_ret
      exact ⟨rfl, BE.out⟩
end Go.Proofs.Ythhnnkgfnhggbaa
