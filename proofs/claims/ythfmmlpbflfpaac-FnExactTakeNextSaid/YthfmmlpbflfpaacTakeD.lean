/- The next lot is taken off a depot: the program's side. (Written by tools/mktake.py.) -/
import Derived.Test.YthfmmlpbflfpaacPopI
import Derived.Test.YthfmmlpbflfpaacTakeX
namespace Go.Proofs.Ythfmmlpbflfpaac
open Go.ChangeShapes Go.WideShapes Go.ChangeAt Go.RowKit
set_option linter.unusedVariables false
set_option linter.unusedSimpArgs false

theorem isStruct_depot : ∃ F, Try.prog.underlying 55 = some (.struct F) := und_depot
/-- What taking does to a depot's stacks. -/
def TakeD (t : Nat → List Int) (q : Nat → Pl) (b : Bool) (q' : Nat → Pl) : Prop := ((nxS t 4).2 < 0 ∧ b = false ∧ q' = q) ∨ ∃ i : Nat, i < 4 ∧ (nxS t 4).2 = (i : Int) ∧ 0 < (t i).length ∧ ((topOf (t i) ≠ (nxS t 4).1 ∧ b = false ∧ q' = q) ∨ (topOf (t i) = (nxS t 4).1 ∧ b = true ∧ q' = upd q i (pil (t i).dropLast)))

set_option maxRecDepth 100000 in
set_option maxHeartbeats 16000000 in
theorem takeNext_any (D : Nat) (h n : Int) (q : Nat → Pl) (t : Nat → List Int) (hq : ∀ i, i < 4 → q i = pil (t i)) (ok : ∀ i, i < 4 → PileOk (q i) (t i)) (pos : ∀ i, i < 4 → ∀ z ∈ t i, 0 ≤ z) (w : World) (ty : TypeId) (hD : w.heap[D]? = some (.cells #[.int .i64 h, .int .i64 n, .int .i64 (q 0).a, .int .i64 (q 0).b, .int .i64 (q 0).c, .int .i64 (q 0).d, .int .i64 (q 0).n, .int .i64 (q 1).a, .int .i64 (q 1).b, .int .i64 (q 1).c, .int .i64 (q 1).d, .int .i64 (q 1).n, .int .i64 (q 2).a, .int .i64 (q 2).b, .int .i64 (q 2).c, .int .i64 (q 2).d, .int .i64 (q 2).n, .int .i64 (q 3).a, .int .i64 (q 3).b, .int .i64 (q 3).c, .int .i64 (q 3).d, .int .i64 (q 3).n] ty (0, 0))) :
    Calls Try.prog 17 #[.pointer (some ⟨D, 0, none⟩)] w fun e w' => ∃ b q', TakeD t q b q' ∧ e = .returned (.bool b) ∧ w'.heap[D]? = some (.cells #[.int .i64 h, .int .i64 n, .int .i64 (q' 0).a, .int .i64 (q' 0).b, .int .i64 (q' 0).c, .int .i64 (q' 0).d, .int .i64 (q' 0).n, .int .i64 (q' 1).a, .int .i64 (q' 1).b, .int .i64 (q' 1).c, .int .i64 (q' 1).d, .int .i64 (q' 1).n, .int .i64 (q' 2).a, .int .i64 (q' 2).b, .int .i64 (q' 2).c, .int .i64 (q' 2).d, .int .i64 (q' 2).n, .int .i64 (q' 3).a, .int .i64 (q' 3).b, .int .i64 (q' 3).c, .int .i64 (q' 3).d, .int .i64 (q' 3).n] ty (0, 0)) ∧ w.grownBy w' (some D) := by
  have NX := nxS_ok t 4 (fun i hi z hz => (ok i hi).hb z hz)
  obtain ⟨lo, hlo⟩ : ∃ lo, lo = (nxS t 4).1 := ⟨_, rfl⟩
  obtain ⟨A, hA⟩ : ∃ A, A = (nxS t 4).2 := ⟨_, rfl⟩
  obtain ⟨R, hR⟩ : ∃ R, Kept R (nxS t 4).1 := ⟨_, rfl⟩
  have C1 := Lib.hid (fun w => dNext_any h n q t ok pos R A hR hA w)
  have TP := Lib.hid (fun i (hi : i < 4) w => (show Calls Try.prog 31 #[.agg #[.int .i64 (q i).a, .int .i64 (q i).b, .int .i64 (q i).c, .int .i64 (q i).d, .int .i64 (q i).n]] w fun e w' => e = .returned (.int .i64 (topOf (t i))) ∧ Below w.heap.size w w' by rw [hq i hi]; exact top_any (t i) (ok i hi).l4 w))
  have PP := Lib.hid (fun i (hi : i < 4) (h0 : t i ≠ []) (w : World) hD => pop_any D h n q (t i) i w ty hi h0 (ok i hi).l4 (hq i hi) hD)
  have HD := Lib.hid hD
  have lD := (Array.getElem?_eq_some_iff.1 hD).1
  obtain ⟨F, hu⟩ := isStruct_depot
  rw [← hlo] at hR
  have cases1 : (A < 0 ∧ A = -1) ∨ ∃ i : Nat, i < 4 ∧ A = (i : Int) ∧ 0 < (t i).length ∧ R = lo := by
    rcases NX with ⟨h1, -⟩ | ⟨i, h1, h2, h3, h4, -⟩
    · rw [hA, h1]; exact .inl ⟨by decide, rfl⟩
    · refine .inr ⟨i, h1, by rw [hA]; exact h2, List.length_pos_of_mem h3, ?_⟩
      unfold Kept at hR
      rw [hR, if_neg (by rw [hlo]; omega)]
  have CS := Lib.hid cases1
  have HLO := Lib.hid hlo
  have HA := Lib.hid hA
  clear hq ok pos hD NX hlo hA hR cases1
  go_enter Try.func17, Try.ntmps17
  go_wp2_with (first | (refine wpList_load_row rfl 55 _ rfl D rfl ty #[.int .i64 h, .int .i64 n, .int .i64 (q 0).a, .int .i64 (q 0).b, .int .i64 (q 0).c, .int .i64 (q 0).d, .int .i64 (q 0).n, .int .i64 (q 1).a, .int .i64 (q 1).b, .int .i64 (q 1).c, .int .i64 (q 1).d, .int .i64 (q 1).n, .int .i64 (q 2).a, .int .i64 (q 2).b, .int .i64 (q 2).c, .int .i64 (q 2).d, .int .i64 (q 2).n, .int .i64 (q 3).a, .int .i64 (q 3).b, .int .i64 (q 3).c, .int .i64 (q 3).d, .int .i64 (q 3).n] (0, 0) (.struct F) HD.out hu rfl infoD_depot ?_) | fail)
  refine (C1.out _).mono ?_
  rintro e w1 ⟨rfl, b1⟩
  have B1 := Lib.hid b1
  have D1 := Lib.hid ((b1.block D lD).trans HD.out)
  clear b1 C1
  rcases CS.out with ⟨a0, rfl⟩ | ⟨i, hi, hAi, h0, rfl⟩
  · clear PP TP CS
    go_wp2
    go_ret
    exact ⟨false, q, .inl ⟨by rw [← HA.out]; decide, rfl, rfl⟩, rfl, D1.out, ⟨B1.out.os, B1.out.tape, B1.out.output, B1.out.size, fun k hk _ => B1.out.block k hk⟩⟩
  rcases (show i = 0 ∨ i = 1 ∨ i = 2 ∨ i = 3 by omega) with rfl | rfl | rfl | rfl
  · obtain rfl : A = 0 := hAi
    have T := Lib.hid (TP.out 0 (by omega))
    have P := Lib.hid (PP.out 0 (by omega) (fun e => by rw [e] at h0; simp at h0))
    have c0 := cell_of_row w1 D 2 _ _ _ D1.out
    have c1 := cell_of_row w1 D 3 _ _ _ D1.out
    have c2 := cell_of_row w1 D 4 _ _ _ D1.out
    have c3 := cell_of_row w1 D 5 _ _ _ D1.out
    have c4 := cell_of_row w1 D 6 _ _ _ D1.out
    clear PP TP CS
    go_wp2_with fail
    refine (T.out _).mono ?_
    rintro e w2 ⟨rfl, b2⟩
    have D2 := Lib.hid ((b2.block D (by have := B1.out.size; omega)).trans D1.out)
    have B2 : Hid (Below w.heap.size w w2) := B1.out.trans (b2.mono B1.out.size)
    clear b2 c0 c1 c2 c3 c4
    by_cases ht : topOf (t 0) = R
    · have d1 : (topOf (t 0) == R) = true := by simpa using ht
      have HT := Lib.hid ht
      clear ht
      go_wp2_with fail
      refine (P.out _ D2.out).mono ?_
      rintro e w3 ⟨rfl, h3, g3⟩
      have H3 := Lib.hid h3
      have G3 : Hid (w.grownBy w3 (some D)) := ⟨g3.os.trans B2.out.os, g3.tape.trans B2.out.tape, g3.output.trans B2.out.output, Nat.le_trans B2.out.size g3.size, fun k hk hne => (g3.block k (Nat.lt_of_lt_of_le hk B2.out.size) hne).trans (B2.out.block k hk)⟩
      clear h3 g3
      go_wp2
      go_ret
      exact ⟨true, upd q 0 (pil (t 0).dropLast), .inr ⟨0, by omega, by rw [← HA.out]; rfl, h0, .inr ⟨by rw [HT.out, HLO.out], rfl, rfl⟩⟩, rfl, H3.out, G3.out⟩
    · have d1 : (topOf (t 0) == R) = false := by simpa using ht
      have HT := Lib.hid ht
      clear ht
      go_wp2
      go_ret
      exact ⟨false, q, .inr ⟨0, by omega, by rw [← HA.out]; rfl, h0, .inl ⟨by rw [← HLO.out]; exact HT.out, rfl, rfl⟩⟩, rfl, D2.out, ⟨B2.out.os, B2.out.tape, B2.out.output, B2.out.size, fun k hk _ => B2.out.block k hk⟩⟩
  · obtain rfl : A = 1 := hAi
    have T := Lib.hid (TP.out 1 (by omega))
    have P := Lib.hid (PP.out 1 (by omega) (fun e => by rw [e] at h0; simp at h0))
    have c0 := cell_of_row w1 D 7 _ _ _ D1.out
    have c1 := cell_of_row w1 D 8 _ _ _ D1.out
    have c2 := cell_of_row w1 D 9 _ _ _ D1.out
    have c3 := cell_of_row w1 D 10 _ _ _ D1.out
    have c4 := cell_of_row w1 D 11 _ _ _ D1.out
    clear PP TP CS
    go_wp2_with fail
    refine (T.out _).mono ?_
    rintro e w2 ⟨rfl, b2⟩
    have D2 := Lib.hid ((b2.block D (by have := B1.out.size; omega)).trans D1.out)
    have B2 : Hid (Below w.heap.size w w2) := B1.out.trans (b2.mono B1.out.size)
    clear b2 c0 c1 c2 c3 c4
    by_cases ht : topOf (t 1) = R
    · have d1 : (topOf (t 1) == R) = true := by simpa using ht
      have HT := Lib.hid ht
      clear ht
      go_wp2_with fail
      refine (P.out _ D2.out).mono ?_
      rintro e w3 ⟨rfl, h3, g3⟩
      have H3 := Lib.hid h3
      have G3 : Hid (w.grownBy w3 (some D)) := ⟨g3.os.trans B2.out.os, g3.tape.trans B2.out.tape, g3.output.trans B2.out.output, Nat.le_trans B2.out.size g3.size, fun k hk hne => (g3.block k (Nat.lt_of_lt_of_le hk B2.out.size) hne).trans (B2.out.block k hk)⟩
      clear h3 g3
      go_wp2
      go_ret
      exact ⟨true, upd q 1 (pil (t 1).dropLast), .inr ⟨1, by omega, by rw [← HA.out]; rfl, h0, .inr ⟨by rw [HT.out, HLO.out], rfl, rfl⟩⟩, rfl, H3.out, G3.out⟩
    · have d1 : (topOf (t 1) == R) = false := by simpa using ht
      have HT := Lib.hid ht
      clear ht
      go_wp2
      go_ret
      exact ⟨false, q, .inr ⟨1, by omega, by rw [← HA.out]; rfl, h0, .inl ⟨by rw [← HLO.out]; exact HT.out, rfl, rfl⟩⟩, rfl, D2.out, ⟨B2.out.os, B2.out.tape, B2.out.output, B2.out.size, fun k hk _ => B2.out.block k hk⟩⟩
  · obtain rfl : A = 2 := hAi
    have T := Lib.hid (TP.out 2 (by omega))
    have P := Lib.hid (PP.out 2 (by omega) (fun e => by rw [e] at h0; simp at h0))
    have c0 := cell_of_row w1 D 12 _ _ _ D1.out
    have c1 := cell_of_row w1 D 13 _ _ _ D1.out
    have c2 := cell_of_row w1 D 14 _ _ _ D1.out
    have c3 := cell_of_row w1 D 15 _ _ _ D1.out
    have c4 := cell_of_row w1 D 16 _ _ _ D1.out
    clear PP TP CS
    go_wp2_with fail
    refine (T.out _).mono ?_
    rintro e w2 ⟨rfl, b2⟩
    have D2 := Lib.hid ((b2.block D (by have := B1.out.size; omega)).trans D1.out)
    have B2 : Hid (Below w.heap.size w w2) := B1.out.trans (b2.mono B1.out.size)
    clear b2 c0 c1 c2 c3 c4
    by_cases ht : topOf (t 2) = R
    · have d1 : (topOf (t 2) == R) = true := by simpa using ht
      have HT := Lib.hid ht
      clear ht
      go_wp2_with fail
      refine (P.out _ D2.out).mono ?_
      rintro e w3 ⟨rfl, h3, g3⟩
      have H3 := Lib.hid h3
      have G3 : Hid (w.grownBy w3 (some D)) := ⟨g3.os.trans B2.out.os, g3.tape.trans B2.out.tape, g3.output.trans B2.out.output, Nat.le_trans B2.out.size g3.size, fun k hk hne => (g3.block k (Nat.lt_of_lt_of_le hk B2.out.size) hne).trans (B2.out.block k hk)⟩
      clear h3 g3
      go_wp2
      go_ret
      exact ⟨true, upd q 2 (pil (t 2).dropLast), .inr ⟨2, by omega, by rw [← HA.out]; rfl, h0, .inr ⟨by rw [HT.out, HLO.out], rfl, rfl⟩⟩, rfl, H3.out, G3.out⟩
    · have d1 : (topOf (t 2) == R) = false := by simpa using ht
      have HT := Lib.hid ht
      clear ht
      go_wp2
      go_ret
      exact ⟨false, q, .inr ⟨2, by omega, by rw [← HA.out]; rfl, h0, .inl ⟨by rw [← HLO.out]; exact HT.out, rfl, rfl⟩⟩, rfl, D2.out, ⟨B2.out.os, B2.out.tape, B2.out.output, B2.out.size, fun k hk _ => B2.out.block k hk⟩⟩
  · obtain rfl : A = 3 := hAi
    have T := Lib.hid (TP.out 3 (by omega))
    have P := Lib.hid (PP.out 3 (by omega) (fun e => by rw [e] at h0; simp at h0))
    have c0 := cell_of_row w1 D 17 _ _ _ D1.out
    have c1 := cell_of_row w1 D 18 _ _ _ D1.out
    have c2 := cell_of_row w1 D 19 _ _ _ D1.out
    have c3 := cell_of_row w1 D 20 _ _ _ D1.out
    have c4 := cell_of_row w1 D 21 _ _ _ D1.out
    clear PP TP CS
    go_wp2_with fail
    refine (T.out _).mono ?_
    rintro e w2 ⟨rfl, b2⟩
    have D2 := Lib.hid ((b2.block D (by have := B1.out.size; omega)).trans D1.out)
    have B2 : Hid (Below w.heap.size w w2) := B1.out.trans (b2.mono B1.out.size)
    clear b2 c0 c1 c2 c3 c4
    by_cases ht : topOf (t 3) = R
    · have d1 : (topOf (t 3) == R) = true := by simpa using ht
      have HT := Lib.hid ht
      clear ht
      go_wp2_with fail
      refine (P.out _ D2.out).mono ?_
      rintro e w3 ⟨rfl, h3, g3⟩
      have H3 := Lib.hid h3
      have G3 : Hid (w.grownBy w3 (some D)) := ⟨g3.os.trans B2.out.os, g3.tape.trans B2.out.tape, g3.output.trans B2.out.output, Nat.le_trans B2.out.size g3.size, fun k hk hne => (g3.block k (Nat.lt_of_lt_of_le hk B2.out.size) hne).trans (B2.out.block k hk)⟩
      clear h3 g3
      go_wp2
      go_ret
      exact ⟨true, upd q 3 (pil (t 3).dropLast), .inr ⟨3, by omega, by rw [← HA.out]; rfl, h0, .inr ⟨by rw [HT.out, HLO.out], rfl, rfl⟩⟩, rfl, H3.out, G3.out⟩
    · have d1 : (topOf (t 3) == R) = false := by simpa using ht
      have HT := Lib.hid ht
      clear ht
      go_wp2
      go_ret
      exact ⟨false, q, .inr ⟨3, by omega, by rw [← HA.out]; rfl, h0, .inl ⟨by rw [← HLO.out]; exact HT.out, rfl, rfl⟩⟩, rfl, D2.out, ⟨B2.out.os, B2.out.tape, B2.out.output, B2.out.size, fun k hk _ => B2.out.block k hk⟩⟩
end Go.Proofs.Ythfmmlpbflfpaac
