/- What a plan costs: the program's side. -/
import Derived.Test.YtmdddjhlfpmgdacPopC
namespace Go.Proofs.Ytmdddjhlfpmgdac
open Go.ChangeShapes Go.WideShapes Go.ChangeAt Go.RowKit
set_option linter.unusedVariables false
set_option linter.unusedSimpArgs false

set_option maxHeartbeats 1000000 in
theorem count_any (s : Nat) (hs : s < 18446744073709551616) (w : World) : Calls Try.prog 80 #[.int .u64 s] w fun e w' => e = .returned (.int .i64 (bitsOf s : Nat)) ∧ w' = w := by
  have C := Lib.hid (fun w => onesCount_any s hs w)
  go_enter Try.func80, Try.ntmps80
  go_wp2_with fail
  refine (C.out _).mono ?_
  rintro e w' ⟨rfl, rfl⟩
  go_wp2_with fail
  go_ret
  exact ⟨rfl, rfl⟩

set_option maxRecDepth 100000 in
set_option maxHeartbeats 4000000 in
theorem stops_any (a b c d e : Nat) (ha : a < 2 ^ 60) (hb : b < 2 ^ 60) (hc : c < 2 ^ 60) (hd : d < 2 ^ 60) (he : e < 2 ^ 60) (w : World) : Calls Try.prog 79 #[.agg #[.int .u64 (a : Nat), .int .u64 (b : Nat), .int .u64 (c : Nat), .int .u64 (d : Nat), .int .u64 (e : Nat)]] w fun r w' => r = .returned (.int .u64 ((a ||| b ||| c ||| d ||| e : Nat) : Int)) ∧ Below w.heap.size w w' := by
  have q1 := bits_or_u64 0 a (by decide) ha
  rw [Nat.zero_or] at q1
  have q2 := bits_or_u64 a b ha hb
  have l2 : a ||| b < 2 ^ 60 := Nat.or_lt_two_pow ha hb
  have q3 := bits_or_u64 _ c l2 hc
  have l3 : a ||| b ||| c < 2 ^ 60 := Nat.or_lt_two_pow l2 hc
  have q4 := bits_or_u64 _ d l3 hd
  have l4 : a ||| b ||| c ||| d < 2 ^ 60 := Nat.or_lt_two_pow l3 hd
  have q5 := bits_or_u64 _ e l4 he
  have Q1 : Hid (bits BinOp.or IntKind.u64 0 (a : Int) = (a : Int)) := q1
  have Q2 := Lib.hid q2
  have Q3 := Lib.hid q3
  have Q4 := Lib.hid q4
  have Q5 := Lib.hid q5
  clear q1 q2 q3 q4 q5 l2 l3 l4 ha hb hc hd he
  have i0 : ∀ w, (Instr.index 87 (.agg #[.int .u64 (a : Nat), .int .u64 (b : Nat), .int .u64 (c : Nat), .int .u64 (d : Nat), .int .u64 (e : Nat)]) (.int .i64 0)).run Try.prog w = .ok (.int .u64 (a : Nat)) w := fun _ => by kernel_rfl
  have i1 : ∀ w, (Instr.index 87 (.agg #[.int .u64 (a : Nat), .int .u64 (b : Nat), .int .u64 (c : Nat), .int .u64 (d : Nat), .int .u64 (e : Nat)]) (.int .i64 1)).run Try.prog w = .ok (.int .u64 (b : Nat)) w := fun _ => by kernel_rfl
  have i2 : ∀ w, (Instr.index 87 (.agg #[.int .u64 (a : Nat), .int .u64 (b : Nat), .int .u64 (c : Nat), .int .u64 (d : Nat), .int .u64 (e : Nat)]) (.int .i64 2)).run Try.prog w = .ok (.int .u64 (c : Nat)) w := fun _ => by kernel_rfl
  have i3 : ∀ w, (Instr.index 87 (.agg #[.int .u64 (a : Nat), .int .u64 (b : Nat), .int .u64 (c : Nat), .int .u64 (d : Nat), .int .u64 (e : Nat)]) (.int .i64 3)).run Try.prog w = .ok (.int .u64 (d : Nat)) w := fun _ => by kernel_rfl
  have i4 : ∀ w, (Instr.index 87 (.agg #[.int .u64 (a : Nat), .int .u64 (b : Nat), .int .u64 (c : Nat), .int .u64 (d : Nat), .int .u64 (e : Nat)]) (.int .i64 4)).run Try.prog w = .ok (.int .u64 (e : Nat)) w := fun _ => by kernel_rfl
  go_enter Try.func79, Try.ntmps79
  go_wp2
  refine wp_loop_rounds 7 ?_
  rw [rounds_succ]
  go_wp2
  rw [rounds_succ]
  go_wp2
  rw [rounds_succ]
  go_wp2
  rw [rounds_succ]
  go_wp2
  rw [rounds_succ]
  go_wp2
  rw [rounds_succ]
  go_wp2
  go_ret
  refine ⟨?_, (Below.refl _ _).alloc (Nat.le_refl _) _⟩
  show Ending.returned (.int .u64 (bits BinOp.or IntKind.u64 (bits BinOp.or IntKind.u64 (bits BinOp.or IntKind.u64 (bits BinOp.or IntKind.u64 (bits BinOp.or IntKind.u64 0 (a : Int)) (b : Int)) (c : Int)) (d : Int)) (e : Int))) = _
  rw [Q1.out, Q2.out, Q3.out, Q4.out, Q5.out]

theorem bitsOf_le (x : Nat) (hx : x < 18446744073709551616) : bitsOf x ≤ 64 := by
  obtain ⟨p0, p1, p2, p3, p4, p5, p6, p7, hp, hP, -⟩ := sw_digs x (by omega)
  unfold bitsOf
  rw [hP]
  omega

end Go.Proofs.Ytmdddjhlfpmgdac
