/- math/bits.OnesCount64, exactly. -/
import Derived.Test.YtmdddjhlfpmgdacChgI
import Derived.Test.YtmdddjhlfpmgdacPopM
namespace Go.Proofs.Ytmdddjhlfpmgdac
open Go.ChangeShapes Go.WideShapes Go.ChangeAt Go.RowKit
set_option linter.unusedVariables false
set_option linter.unusedSimpArgs false

set_option maxHeartbeats 8000000 in
theorem onesCount_raw (s a1 a2 a3 b1 b2 b3 b4 : Nat) (Q1 : Hid (IntKind.u64.wrap (bits BinOp.and IntKind.u64 ((s : Int) / 2) 6148914691236517205 + bits BinOp.and IntKind.u64 (s : Int) 6148914691236517205) = (a1 : Int)))
    (Q2 : Hid (IntKind.u64.wrap (bits BinOp.and IntKind.u64 ((a1 : Int) / 4) 3689348814741910323 + bits BinOp.and IntKind.u64 (a1 : Int) 3689348814741910323) = (a2 : Int)))
    (Q3 : Hid (bits BinOp.and IntKind.u64 (IntKind.u64.wrap ((a2 : Int) / 16 + (a2 : Int))) 1085102592571150095 = (a3 : Int)))
    (R1 : Hid (IntKind.u64.wrap ((a3 : Int) + (a3 : Int) / 256) = (b1 : Int)))
    (R2 : Hid (IntKind.u64.wrap ((b1 : Int) + (b1 : Int) / 65536) = (b2 : Int)))
    (R3 : Hid (IntKind.u64.wrap ((b2 : Int) + (b2 : Int) / 4294967296) = (b3 : Int)))
    (R4 : Hid (bits BinOp.and IntKind.i64 (wrap64 (b3 : Int)) 127 = (b4 : Int))) (w : World) :
    Calls Try.prog 111 #[.int .u64 s] w fun e w' => (∃ z : Int, e = .returned (.int .i64 z) ∧ z = b4) ∧ w' = w := by
  go_enter Try.func111, Try.ntmps111
  go_wp2
  go_ret
  refine ⟨⟨_, rfl, ?_⟩, rfl⟩
  rw [Q1.out, Q2.out, Q3.out, R1.out, R2.out, R3.out, R4.out]

set_option maxHeartbeats 2000000 in
theorem onesCount_any (s : Nat) (hs : s < 18446744073709551616) (w : World) : Calls Try.prog 111 #[.int .u64 s] w fun e w' => e = .returned (.int .i64 (bitsOf s : Nat)) ∧ w' = w := by
  obtain ⟨p0, p1, p2, p3, p4, p5, p6, p7, hp, hP, g1, g2, g3⟩ := sw_digs s (by omega)
  obtain ⟨a1, h1⟩ : ∃ z, z = sw1 0x5555555555555555 s := ⟨_, rfl⟩
  rw [← h1] at g1 g2 g3
  obtain ⟨a2, h2⟩ : ∃ z, z = sw2 0x3333333333333333 a1 := ⟨_, rfl⟩
  rw [← h2] at g2 g3
  obtain ⟨a3, h3⟩ : ∃ z, z = sw3 0x0f0f0f0f0f0f0f0f a2 := ⟨_, rfl⟩
  rw [← h3] at g3
  obtain ⟨k1, k2, k3, k4, k5⟩ := sw_sum p0 p1 p2 p3 p4 p5 p6 p7 a3 hp g3
  have j2 : a3 + a3 / 256 < 18446744073709551616 := Nat.lt_trans k2 (by decide)
  have j3 : (a3 + a3 / 256) + (a3 + a3 / 256) / 65536 < 18446744073709551616 := Nat.lt_trans k3 (by decide)
  have j4 : ((a3 + a3 / 256) + (a3 + a3 / 256) / 65536) + ((a3 + a3 / 256) + (a3 + a3 / 256) / 65536) / 4294967296 < 18446744073709551616 := Nat.lt_trans k4 (by decide)
  have r5 : (((a3 + a3 / 256) + (a3 + a3 / 256) / 65536) + ((a3 + a3 / 256) + (a3 + a3 / 256) / 65536) / 4294967296) % 128 = bitsOf s := k5.trans hP.symm
  have main := onesCount_raw s a1 a2 a3 _ _ _ _ (Lib.hid (q1_nat s a1 hs g1 h1)) (Lib.hid (q2_nat a1 a2 g1 (Nat.lt_trans g2 (by decide)) h2)) (Lib.hid (q3_nat a2 a3 g2 h3)) (Lib.hid (r_nat a3 256 256 rfl j2)) (Lib.hid (r_nat _ 65536 65536 rfl j3)) (Lib.hid (r_nat _ 4294967296 4294967296 rfl j4)) (Lib.hid (and127_nat _ (Nat.lt_of_lt_of_le k4 (by decide)))) w
  rw [r5] at main
  exact main.mono (fun e w' ⟨⟨z, h, hz⟩, hw⟩ => ⟨by rw [h, hz], hw⟩)
end Go.Proofs.Ytmdddjhlfpmgdac
