/- What a plan costs: the number of the changes. -/
import Derived.Test.YtmdddjhlfpmgdacCostI
namespace Go.Proofs.Ytmdddjhlfpmgdac
open Go.ChangeShapes Go.WideShapes Go.ChangeAt Go.RowKit
set_option linter.unusedVariables false
set_option linter.unusedSimpArgs false

set_option maxRecDepth 100000 in
set_option maxHeartbeats 8000000 in
theorem counts_any (a b c d e : Nat) (ha : a < 2 ^ 60) (hb : b < 2 ^ 60) (hc : c < 2 ^ 60) (hd : d < 2 ^ 60) (he : e < 2 ^ 60) (w : World) : Calls Try.prog 77 #[.agg #[.int .u64 (a : Nat), .int .u64 (b : Nat), .int .u64 (c : Nat), .int .u64 (d : Nat), .int .u64 (e : Nat)]] w fun r w' => (∃ z : Value, r = .returned (.tuple #[.int .i64 ((bitsOf a + bitsOf b + bitsOf c + bitsOf d + bitsOf e : Nat) : Int), z])) ∧ Below w.heap.size w w' := by
  have ta : a < 18446744073709551616 := Nat.lt_trans ha (by decide)
  have tb : b < 18446744073709551616 := Nat.lt_trans hb (by decide)
  have tc : c < 18446744073709551616 := Nat.lt_trans hc (by decide)
  have td : d < 18446744073709551616 := Nat.lt_trans hd (by decide)
  have te : e < 18446744073709551616 := Nat.lt_trans he (by decide)
  have Ca := Lib.hid (fun w => count_any a ta w)
  have Cb := Lib.hid (fun w => count_any b tb w)
  have Cc := Lib.hid (fun w => count_any c tc w)
  have Cd := Lib.hid (fun w => count_any d td w)
  have Ce := Lib.hid (fun w => count_any e te w)
  have la := bitsOf_le a ta
  have lb := bitsOf_le b tb
  have lc := bitsOf_le c tc
  have ld := bitsOf_le d td
  have le := bitsOf_le e te
  generalize bitsOf a = na at *
  generalize bitsOf b = nb at *
  generalize bitsOf c = nc at *
  generalize bitsOf d = nd at *
  generalize bitsOf e = ne at *
  have i0 : ∀ w, (Instr.index 87 (.agg #[.int .u64 (a : Nat), .int .u64 (b : Nat), .int .u64 (c : Nat), .int .u64 (d : Nat), .int .u64 (e : Nat)]) (.int .i64 0)).run Try.prog w = .ok (.int .u64 (a : Nat)) w := fun _ => by kernel_rfl
  have i1 : ∀ w, (Instr.index 87 (.agg #[.int .u64 (a : Nat), .int .u64 (b : Nat), .int .u64 (c : Nat), .int .u64 (d : Nat), .int .u64 (e : Nat)]) (.int .i64 1)).run Try.prog w = .ok (.int .u64 (b : Nat)) w := fun _ => by kernel_rfl
  have i2 : ∀ w, (Instr.index 87 (.agg #[.int .u64 (a : Nat), .int .u64 (b : Nat), .int .u64 (c : Nat), .int .u64 (d : Nat), .int .u64 (e : Nat)]) (.int .i64 2)).run Try.prog w = .ok (.int .u64 (c : Nat)) w := fun _ => by kernel_rfl
  have i3 : ∀ w, (Instr.index 87 (.agg #[.int .u64 (a : Nat), .int .u64 (b : Nat), .int .u64 (c : Nat), .int .u64 (d : Nat), .int .u64 (e : Nat)]) (.int .i64 3)).run Try.prog w = .ok (.int .u64 (d : Nat)) w := fun _ => by kernel_rfl
  have i4 : ∀ w, (Instr.index 87 (.agg #[.int .u64 (a : Nat), .int .u64 (b : Nat), .int .u64 (c : Nat), .int .u64 (d : Nat), .int .u64 (e : Nat)]) (.int .i64 4)).run Try.prog w = .ok (.int .u64 (e : Nat)) w := fun _ => by kernel_rfl
  obtain ⟨S, z0, z1, z2, z3, z4, z5, zt⟩ : ∃ S : Nat → Int, S 0 = 0 ∧ Hid (wrap64 (na : Int) = S 1) ∧ Hid (wrap64 (S 1 + (nb : Int)) = S 2) ∧ Hid (wrap64 (S 2 + (nc : Int)) = S 3) ∧ Hid (wrap64 (S 3 + (nd : Int)) = S 4) ∧ Hid (wrap64 (S 4 + (ne : Int)) = S 5) ∧ Hid (S 5 = ((na + nb + nc + nd + ne : Nat) : Int)) := by
    refine ⟨fun k => match k with | 0 => 0 | 1 => na | 2 => (na + nb : Nat) | 3 => (na + nb + nc : Nat) | 4 => (na + nb + nc + nd : Nat) | _ => (na + nb + nc + nd + ne : Nat), rfl, ?_, ?_, ?_, ?_, ?_, Lib.hid rfl⟩
    · show _ = _
      show wrap64 (na : Int) = (na : Int)
      unfold wrap64; omega
    · show _ = _
      show wrap64 ((na : Int) + (nb : Int)) = ((na + nb : Nat) : Int)
      unfold wrap64; omega
    · show _ = _
      show wrap64 (((na + nb : Nat) : Int) + (nc : Int)) = ((na + nb + nc : Nat) : Int)
      unfold wrap64; omega
    · show _ = _
      show wrap64 (((na + nb + nc : Nat) : Int) + (nd : Int)) = ((na + nb + nc + nd : Nat) : Int)
      unfold wrap64; omega
    · show _ = _
      show wrap64 (((na + nb + nc + nd : Nat) : Int) + (ne : Int)) = ((na + nb + nc + nd + ne : Nat) : Int)
      unfold wrap64; omega
  clear ha hb hc hd he ta tb tc td te la lb lc ld le
  go_enter Try.func77, Try.ntmps77
  go_wp2
  go_loop [4, 5, 9] (fun sv mv iv => ∃ k : Nat, k ≤ 5 ∧ iv = .int .i64 k ∧ sv = .int .i64 (S k) ∧ ∃ z : Int, mv = .int .i64 z) (fun _ _ iv => 6 - (intOf iv).toNat)
  case atStart => exact ⟨0, Nat.zero_le _, rfl, by rw [z0], _, rfl⟩
  case round =>
    obtain ⟨k, hk, rfl, rfl, z, rfl⟩ := hrel
    have hk5 : k = 0 ∨ k = 1 ∨ k = 2 ∨ k = 3 ∨ k = 4 ∨ k = 5 := by omega
    rcases hk5 with rfl | rfl | rfl | rfl | rfl | rfl
    · go_wp2_with fail
      refine (Ca.out _).mono ?_
      rintro r1 w1 ⟨rfl, rfl⟩
      go_wp2_with fail
      refine (Ca.out _).mono ?_
      rintro r1 w1 ⟨rfl, rfl⟩
      try rw [z1.out]
      go_wp2_with fail
      exact ⟨⟨1, by omega, rfl, rfl, _, rfl⟩, by show 6 - 1 < 6 - 0; omega⟩
    · go_wp2_with fail
      refine (Cb.out _).mono ?_
      rintro r1 w1 ⟨rfl, rfl⟩
      go_wp2_with fail
      refine (Cb.out _).mono ?_
      rintro r1 w1 ⟨rfl, rfl⟩
      rw [z2.out]
      go_wp2_with fail
      exact ⟨⟨2, by omega, rfl, rfl, _, rfl⟩, by show 6 - 2 < 6 - 1; omega⟩
    · go_wp2_with fail
      refine (Cc.out _).mono ?_
      rintro r1 w1 ⟨rfl, rfl⟩
      go_wp2_with fail
      refine (Cc.out _).mono ?_
      rintro r1 w1 ⟨rfl, rfl⟩
      rw [z3.out]
      go_wp2_with fail
      exact ⟨⟨3, by omega, rfl, rfl, _, rfl⟩, by show 6 - 3 < 6 - 2; omega⟩
    · go_wp2_with fail
      refine (Cd.out _).mono ?_
      rintro r1 w1 ⟨rfl, rfl⟩
      go_wp2_with fail
      refine (Cd.out _).mono ?_
      rintro r1 w1 ⟨rfl, rfl⟩
      rw [z4.out]
      go_wp2_with fail
      exact ⟨⟨4, by omega, rfl, rfl, _, rfl⟩, by show 6 - 4 < 6 - 3; omega⟩
    · go_wp2_with fail
      refine (Ce.out _).mono ?_
      rintro r1 w1 ⟨rfl, rfl⟩
      go_wp2_with fail
      refine (Ce.out _).mono ?_
      rintro r1 w1 ⟨rfl, rfl⟩
      rw [z5.out]
      go_wp2_with fail
      exact ⟨⟨5, by omega, rfl, rfl, _, rfl⟩, by show 6 - 5 < 6 - 4; omega⟩
    · go_wp2_with fail
      go_ret2
      refine ⟨⟨.int .i64 z, ?_⟩, (Below.refl _ _).alloc (Nat.le_refl _) _⟩
      show Ending.returned (.tuple #[.int .i64 (S 5), .int .i64 z]) = _
      rw [zt.out]
      push_cast
      rfl
end Go.Proofs.Ytmdddjhlfpmgdac
