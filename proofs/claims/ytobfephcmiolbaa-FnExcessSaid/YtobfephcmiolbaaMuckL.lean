/- The least allowance on both sides. -/
import Derived.Test.YtobfephcmiolbaaMuckB
namespace Go.Proofs.Ytobfephcmiolbaa
open Go.ChangeShapes Go.WideShapes Go.ChangeAt Go.RowKit
set_option linter.unusedVariables false
set_option linter.unusedSimpArgs false

theorem least1_any (L1 L2 : Nat) (v : Value) (zs : List Int) (lim al : Int) (w : World) (h1 : w.cell? ⟨L1, 0, none⟩ = some v) (h2 : w.cell? ⟨L2, 0, none⟩ = some (.int .i64 lim)) (h : RdI w v zs) (hb : Bal zs) (ha : Bnd al) (hl : Bnd lim) (b : Bool) (hB : alarmB zs lim al = b) :
    Calls Try.prog 49 #[.int .i64 al, .pointer (some ⟨L1, 0, none⟩), .pointer (some ⟨L2, 0, none⟩)] w fun e w' => e = .returned (.bool (!b)) ∧ Below w.heap.size w w' := by
  obtain ⟨f, r, b', hA⟩ := alarm_ex zs al lim
  obtain rfl : b' = b := by rw [← hB]; exact (alarmB_of hA).symm
  have C := Lib.hid (implAlarm_yes v zs al lim w h hb ha hl f r b' hA)
  obtain ⟨a, cap, rfl, ra⟩ := h
  generalize zs.length = n at *
  clear ra hb ha hl hB hA
  go_enter Try.func49, Try.ntmps49
  go_wp2_with fail
  refine C.out.mono ?_
  rintro e w1 ⟨rfl, b1⟩
  have B1 := Lib.hid b1
  clear b1 C
  go_wp2
  go_ret
  exact ⟨rfl, B1.out⟩

set_option maxRecDepth 100000 in
set_option maxHeartbeats 4000000 in
theorem searchLeast_any (L1 L2 : Nat) (v : Value) (zs : List Int) (lim : Int) (w : World) (h1 : w.cell? ⟨L1, 0, none⟩ = some v) (h2 : w.cell? ⟨L2, 0, none⟩ = some (.int .i64 lim)) (h : RdI w v zs) (hb : Bal zs) (hl : Bnd lim) (r : Int) (hr : Srch (alarmB zs lim) 0 1000000 r) :
    Calls Try.prog 48 #[.int .i64 1000000, .func (.func 49) #[] #[.pointer (some ⟨L1, 0, none⟩), .pointer (some ⟨L2, 0, none⟩)]] w fun e w' => e = .returned (.int .i64 r) ∧ Below w.heap.size w w' := by
  have l1 := World.block_lt_of_cell? w _ h1
  have l2 := World.block_lt_of_cell? w _ h2
  have C := Lib.hid (fun (w' : World) (bb : Below w.heap.size w w') (al : Int) (ha : Bnd al) (b : Bool) (hB : alarmB zs lim al = b) => least1_any L1 L2 v zs lim al w' ((bb.cell (p := ⟨L1, 0, none⟩) l1).trans h1) ((bb.cell (p := ⟨L2, 0, none⟩) l2).trans h2) (h.later bb) hb ha hl b hB)
  have HR := Lib.hid hr
  clear hr h1 h2 h hb hl l1 l2
  go_enter Try.func48, Try.ntmps48
  go_wp2
  go_loopw [5, 6] (fun iv jv wr => ∃ (i j : Int), 0 ≤ i ∧ i ≤ j ∧ j ≤ 1000000 ∧ iv = .int .i64 i ∧ jv = .int .i64 j ∧ Hid (Srch (alarmB zs lim) i j r) ∧ Hid (Below w.heap.size w wr)) (fun iv jv _ => (intOf jv - intOf iv).toNat)
  case atStart => exact ⟨0, 1000000, by omega, by omega, by omega, rfl, rfl, HR, Below.refl _ _⟩
  case round =>
    obtain ⟨i, j, h0, h1, h2, rfl, rfl, hs, B⟩ := hrel
    by_cases hlt : i < j
    · have q1 : IntKind.i64.wrap (i + j) = i + j := IntWalk.i64_in _ (by omega)
      have ST := Lib.hid (hs.out.step hlt)
      obtain ⟨hh, e1⟩ : ∃ hh, hh = (i + j) / 2 := ⟨_, rfl⟩
      have b0 : 0 ≤ hh := by omega
      have b1 : i ≤ hh := by omega
      have b2 : hh < j := by omega
      rw [← e1] at ST
      have E1 := Lib.hid e1
      have sz := B.out.size
      clear e1 hs
      go_wp2_with fail
      rw [← E1.out]
      rcases ST.out with ⟨hf, hs'⟩ | ⟨hf, hs'⟩
      · have HS := Lib.hid hs'
        refine (C.out _ B.out hh ⟨b0, by omega⟩ true hf).mono ?_
        rintro e w' ⟨rfl, b⟩
        have B' : Hid (Below w.heap.size w w') := B.out.trans (b.mono sz)
        clear hf hs' ST b B
        go_wp2
        exact ⟨⟨hh + 1, j, by omega, by omega, by omega, by go_num, rfl, HS, B'⟩, by simp only [intOf]; omega⟩
      · have HS := Lib.hid hs'
        refine (C.out _ B.out hh ⟨b0, by omega⟩ false hf).mono ?_
        rintro e w' ⟨rfl, b⟩
        have B' : Hid (Below w.heap.size w w') := B.out.trans (b.mono sz)
        clear hf hs' ST b B
        go_wp2
        exact ⟨⟨i, hh, by omega, by omega, by omega, rfl, rfl, HS, B'⟩, by simp only [intOf]; omega⟩
    · obtain rfl : i = j := by omega
      have e := hs.out.last
      have HE := Lib.hid e
      clear e hs
      go_wp2
      go_ret
      exact ⟨by rw [HE.out]; rfl, B.out⟩

set_option maxHeartbeats 4000000 in
theorem implLeast_yes (v : Value) (zs : List Int) (lim : Int) (w : World) (h : RdI w v zs) (hb : Bal zs) (hl : Bnd lim) (r : Int) (hr : Srch (alarmB zs lim) 0 1000000 r) :
    Calls Try.prog 25 #[v, .int .i64 lim] w fun e w' => e = .returned (.tuple #[.int .i64 r, .bool true]) ∧ Below w.heap.size w w' := by
  have C1 := Lib.hid (fun w h => isBalance_any v zs w h (by have := hb.1; omega) true (by simpa using hb))
  have C2 := Lib.hid (fun w => isWeight_any lim w true (by simpa [Bnd] using hl))
  have C3 := Lib.hid (fun L1 L2 w h1 h2 h => searchLeast_any L1 L2 v zs lim w h1 h2 h hb hl r hr)
  have H := Lib.hid h
  obtain ⟨a, cap, rfl, ra⟩ := h
  generalize zs.length = n at *
  clear ra hb hl hr
  have c1 : ((w.alloc (.cells #[.slice a n cap] 25)).alloc (.cells #[.int .i64 lim] 2)).cell? ⟨w.heap.size, 0, none⟩ = some (.slice a n cap) := cell_of_row _ w.heap.size 0 _ 25 (0, 0) (box2_0 w _ _)
  have c2 : ((w.alloc (.cells #[.slice a n cap] 25)).alloc (.cells #[.int .i64 lim] 2)).cell? ⟨w.heap.size + 1, 0, none⟩ = some (.int .i64 lim) := cell_of_row _ (w.heap.size + 1) 0 _ 2 (0, 0) (box2_1 w _ _)
  have K1 := Lib.hid c1
  have K2 := Lib.hid c2
  clear c1 c2
  go_enter Try.func25, Try.ntmps25
  go_wp2_with fail
  refine (C1.out _ (H.out.later (by go_grown))).mono ?_
  rintro e w' ⟨rfl, rfl⟩
  go_wp2_with fail
  refine (C2.out _).mono ?_
  rintro e w' ⟨rfl, rfl⟩
  go_wp2_with fail
  refine (C3.out _ _ _ K1.out K2.out (H.out.later (by go_grown))).mono ?_
  rintro e w1 ⟨rfl, b1⟩
  have B1 : Hid (Below w.heap.size w w1) := Below.trans (by go_grown) (b1.mono (by simp; omega))
  clear b1 C1 C2 C3 K1 K2
  go_wp2
  go_ret2
  exact ⟨rfl, B1.out⟩

theorem implLeast_no (v : Value) (zs : List Int) (lim : Int) (w : World) (h : RdI w v zs) (lz : zs.length ≤ 1099511627776) (hb : ¬ (Bal zs ∧ Bnd lim)) :
    Calls Try.prog 25 #[v, .int .i64 lim] w fun e w' => e = .returned (.tuple #[.int .i64 0, .bool false]) ∧ Below w.heap.size w w' := by
  have H := Lib.hid h
  obtain ⟨a, cap, rfl, ra⟩ := h
  by_cases h1 : Bal zs
  · have h2 : ¬ Bnd lim := fun h => hb ⟨h1, h⟩
    have C1 := Lib.hid (fun w h => isBalance_any (.slice a zs.length cap) zs w h (by omega) true (by simpa using h1))
    have C2 := Lib.hid (fun w => isWeight_any lim w false (by simpa [Bnd] using h2))
    generalize zs.length = n at *
    clear hb h1 h2 ra lz
    go_enter Try.func25, Try.ntmps25
    go_wp2_with fail
    refine (C1.out _ (H.out.later (by go_grown))).mono ?_
    rintro e w' ⟨rfl, rfl⟩
    go_wp2_with fail
    refine (C2.out _).mono ?_
    rintro e w' ⟨rfl, rfl⟩
    go_wp2
    go_ret2
    exact ⟨rfl, by go_grown⟩
  · have C1 := Lib.hid (fun w h => isBalance_any (.slice a zs.length cap) zs w h (by omega) false (by simpa using h1))
    generalize zs.length = n at *
    clear hb h1 ra lz
    go_enter Try.func25, Try.ntmps25
    go_wp2_with fail
    refine (C1.out _ (H.out.later (by go_grown))).mono ?_
    rintro e w' ⟨rfl, rfl⟩
    go_wp2
    go_ret2
    exact ⟨rfl, by go_grown⟩

set_option maxRecDepth 100000 in
set_option maxHeartbeats 4000000 in
theorem specLeast_yes (v : Value) (zs : List Int) (lim : Int) (w : World) (h : RdI w v zs) (hb : Bal zs) (hl : Bnd lim) (r : Int) (hr : Srch (alarmB zs lim) 0 1000000 r) :
    Calls Try.prog 36 #[v, .int .i64 lim] w fun e w' => e = .returned (.tuple #[.int .i64 r, .bool true]) ∧ Below w.heap.size w w' := by
  have C1 := Lib.hid (fun w h => l06Balance_any v zs w h (by have := hb.1; omega) true (by simpa using hb))
  have C2 := Lib.hid (fun w => l06Bound_any lim w true (by simpa using hl))
  have C3 := Lib.hid (fun (al : Int) (w : World) h (ha : Bnd al) f r b hA => l06Alarm_any v zs al lim w h hb ha f r b hA)
  have H := Lib.hid h
  have HR := Lib.hid hr
  obtain ⟨a, cap, rfl, ra⟩ := h
  generalize zs.length = n at *
  clear ra hb hl hr
  go_enter Try.func36, Try.ntmps36
  go_wp2_with fail
  refine (C1.out _ H.out).mono ?_
  rintro e w' ⟨rfl, rfl⟩
  go_wp2_with fail
  refine (C2.out _).mono ?_
  rintro e w' ⟨rfl, rfl⟩
  go_wp2
  go_loopw [6, 7] (fun iv jv wr => ∃ (i j : Int), 0 ≤ i ∧ i ≤ j ∧ j ≤ 1000000 ∧ iv = .int .i64 i ∧ jv = .int .i64 j ∧ Hid (Srch (alarmB zs lim) i j r) ∧ Hid (Below w.heap.size w wr)) (fun iv jv _ => (intOf jv - intOf iv).toNat)
  case atStart => exact ⟨0, 1000000, by omega, by omega, by omega, rfl, rfl, HR, Below.refl _ _⟩
  case round =>
    obtain ⟨i, j, h0, h1, h2, rfl, rfl, hs, B⟩ := hrel
    by_cases hlt : i < j
    · have q1 : IntKind.i64.wrap (i + j) = i + j := IntWalk.i64_in _ (by omega)
      have ST := Lib.hid (hs.out.step hlt)
      obtain ⟨hh, e1⟩ : ∃ hh, hh = (i + j) / 2 := ⟨_, rfl⟩
      have b0 : 0 ≤ hh := by omega
      have b1 : i ≤ hh := by omega
      have b2 : hh < j := by omega
      rw [← e1] at ST
      have E1 := Lib.hid e1
      have E2 : Hid ((i + j).tdiv 2 = hh) := by show _ = _; rw [E1.out, Int.tdiv_eq_ediv_of_nonneg (by omega)]
      have sz := B.out.size
      obtain ⟨f, r', b', hA⟩ := alarm_ex zs hh lim
      have AB := alarmB_of hA
      have C4 := Lib.hid (fun w h => C3.out hh w h ⟨b0, by omega⟩ f r' b' hA)
      rw [AB] at ST
      clear e1 hs hA AB
      go_wp2_with fail
      first | rw [← E1.out] | rw [E2.out]
      refine (C4.out _ (H.out.later B.out)).mono ?_
      rintro e w' ⟨rfl, b⟩
      have B' : Hid (Below w.heap.size w w') := B.out.trans (b.mono sz)
      rcases ST.out with ⟨hf, hs'⟩ | ⟨hf, hs'⟩
      · have HS := Lib.hid hs'
        subst hf
        clear hs' ST b B
        go_wp2
        exact ⟨⟨hh + 1, j, by omega, by omega, by omega, by go_num, rfl, HS, B'⟩, by simp only [intOf]; omega⟩
      · have HS := Lib.hid hs'
        subst hf
        clear hs' ST b B
        go_wp2
        exact ⟨⟨i, hh, by omega, by omega, by omega, rfl, rfl, HS, B'⟩, by simp only [intOf]; omega⟩
    · obtain rfl : i = j := by omega
      have e := hs.out.last
      have HE := Lib.hid e
      clear e hs
      go_wp2
      go_ret2
      exact ⟨by rw [HE.out]; rfl, B.out⟩

theorem specLeast_no (v : Value) (zs : List Int) (lim : Int) (w : World) (h : RdI w v zs) (lz : zs.length ≤ 1099511627776) (hb : ¬ (Bal zs ∧ Bnd lim)) :
    Calls Try.prog 36 #[v, .int .i64 lim] w fun e w' => e = .returned (.tuple #[.int .i64 0, .bool false]) ∧ Below w.heap.size w w' := by
  have H := Lib.hid h
  obtain ⟨a, cap, rfl, ra⟩ := h
  by_cases h1 : Bal zs
  · have h2 : ¬ Bnd lim := fun h => hb ⟨h1, h⟩
    have C1 := Lib.hid (fun w h => l06Balance_any (.slice a zs.length cap) zs w h (by omega) true (by simpa using h1))
    have C2 := Lib.hid (fun w => l06Bound_any lim w false (by simpa using h2))
    generalize zs.length = n at *
    clear hb h1 h2 ra lz
    go_enter Try.func36, Try.ntmps36
    go_wp2_with fail
    refine (C1.out _ H.out).mono ?_
    rintro e w' ⟨rfl, rfl⟩
    go_wp2_with fail
    refine (C2.out _).mono ?_
    rintro e w' ⟨rfl, rfl⟩
    go_wp2
    go_ret2
    exact ⟨rfl, Below.refl _ _⟩
  · have C1 := Lib.hid (fun w h => l06Balance_any (.slice a zs.length cap) zs w h (by omega) false (by simpa using h1))
    generalize zs.length = n at *
    clear hb h1 ra lz
    go_enter Try.func36, Try.ntmps36
    go_wp2_with fail
    refine (C1.out _ H.out).mono ?_
    rintro e w' ⟨rfl, rfl⟩
    go_wp2
    go_ret2
    exact ⟨rfl, Below.refl _ _⟩

theorem exLeastAllowance (zs : List Int) (lim : Int) (lz : zs.length ≤ 1048576) : ∃ (r : Int) (b : Bool),
    Hid (∀ (w : World) (v : Value), (fun _ => True) w → RdI w v zs → Calls Try.prog 36 #[v, .int .i64 lim] w fun e w' => e = .returned (.tuple #[.int .i64 r, .bool b]) ∧ Below w.heap.size w w') ∧
    Hid (∀ (w : World) (v : Value), (fun _ => True) w → RdI w v zs → Calls Try.prog 25 #[v, .int .i64 lim] w fun e w' => e = .returned (.tuple #[.int .i64 r, .bool b]) ∧ Below w.heap.size w w') := by
  by_cases hb : Bal zs ∧ Bnd lim
  · obtain ⟨r, hr⟩ := srch_ex (alarmB zs lim) 1000000 0 1000000 (by omega) (by omega)
    exact ⟨r, true, fun w v _ h => specLeast_yes v zs lim w h hb.1 hb.2 r hr, fun w v _ h => implLeast_yes v zs lim w h hb.1 hb.2 r hr⟩
  · exact ⟨0, false, fun w v _ h => specLeast_no v zs lim w h (by omega) hb, fun w v _ h => implLeast_no v zs lim w h (by omega) hb⟩
end Go.Proofs.Ytobfephcmiolbaa
