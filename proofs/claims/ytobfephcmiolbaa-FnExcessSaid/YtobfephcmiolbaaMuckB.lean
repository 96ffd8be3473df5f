/- Alarms on the specification's side. -/
import Derived.Test.YtobfephcmiolbaaMuckA
namespace Go.Proofs.Ytobfephcmiolbaa
open Go.ChangeShapes Go.WideShapes Go.ChangeAt Go.RowKit
set_option linter.unusedVariables false
set_option linter.unusedSimpArgs false

set_option maxRecDepth 100000 in
set_option maxHeartbeats 8000000 in
theorem l06Alarm_any (v : Value) (zs : List Int) (al lim : Int) (w : World) (h : RdI w v zs) (hb : Bal zs) (ha : Bnd al) (f r : Int) (b : Bool) (hA : IsAlarm zs al lim f r b) :
    Calls Try.prog 56 #[v, .int .i64 al, .int .i64 lim] w fun e w' => e = .returned (.tuple #[.int .i64 f, .int .i64 r, .bool b]) ∧ Below w.heap.size w w' := by
  have C1 := Lib.hid (fun w h => l06Sums_any v zs al w h hb ha)
  have H := Lib.hid h
  obtain ⟨a, cap, rfl, ra⟩ := h
  obtain ⟨n, hn⟩ : ∃ n, n = zs.length := ⟨_, rfl⟩
  have ln : n ≤ 60 := by have := hb.1; omega
  have HA := Lib.hid hA
  have HN := Lib.hid hn
  rw [← hn] at C1
  rw [← hn] at H
  rw [← hn]
  clear ra hn hb ha hA
  go_enter Try.func56, Try.ntmps56
  go_wp2_with fail
  refine (C1.out _ H.out).mono ?_
  rintro e w1 ⟨u, rfl, o1, b1⟩
  have B1 := Lib.hid b1
  obtain ⟨bu, cu, hform, hrow⟩ := o1.rd
  rw [sumsTo_len] at hform
  subst hform
  have ROW := Lib.hid hrow
  have SG := Lib.hid (fun i h => sumsTo_get zs al n i h)
  clear o1 b1 hrow C1 H
  go_wp2
  go_loop [10, 11] (fun fv iv => ∃ k : Nat, k ≤ n ∧ iv = .int .i64 k ∧ fv = .int .i64 (fromAt zs al k) ∧ Hid (∀ j, j < k → sumAt zs al (j + 1) ≤ lim)) (fun _ iv => n - (intOf iv).toNat)
  case atStart => exact ⟨0, by omega, rfl, rfl, fun j h => absurd h (by omega)⟩
  case round =>
    obtain ⟨k, hk, rfl, rfl, hc⟩ := hrel
    by_cases hlt : k < n
    · obtain ⟨ba, oa, rfl, ca'⟩ := ROW.out.resolve_left (by intro h; have := sumsTo_len zs al n; rw [h] at this; simp at this; omega)
      have c1 := ca' k _ (SG.out k hlt)
      have FS : fromAt zs al (k + 1) = if sumAt zs al (k + 1) = 0 then k + 1 else fromAt zs al k := rfl
      have FL := fromAt_le zs al k
      obtain ⟨s, hs⟩ : ∃ s, s = sumAt zs al (k + 1) := ⟨_, rfl⟩
      obtain ⟨F, hF⟩ : ∃ F, F = fromAt zs al k := ⟨_, rfl⟩
      rw [← hs, ← hF] at FS
      rw [← hs] at c1
      rw [← hF] at FL ⊢
      have FF := Lib.hid FS
      have HS := Lib.hid hs
      have HF := Lib.hid hF
      clear ca' hs hF FS
      by_cases g : lim < s
      · have hA' := IsAlarm.raised (zs := zs) (al := al) (lim := lim) k (by have := HN.out; omega) (by rw [← HS.out]; exact g) hc.out
        rw [← HF.out] at hA'
        obtain ⟨e1, e2, e3⟩ := alarm_uniq HA.out hA'
        have E1 := Lib.hid e1
        have E2 := Lib.hid e2
        have E3 := Lib.hid e3
        clear hA' e1 e2 e3 hc
        go_wp2
        go_ret3
        exact ⟨by rw [E1.out, E2.out, E3.out]; rfl, B1.out⟩
      · have hc' : Hid (∀ j, j < k + 1 → sumAt zs al (j + 1) ≤ lim) := fun j hj => by
          by_cases e : j = k
          · subst e; rw [← HS.out]; omega
          · exact hc.out j (by omega)
        clear hc
        by_cases g0 : s = 0
        · have e1 : ((F : Nat) : Int) = F := rfl
          have d0 : (s == 0) = true := by simpa using g0
          have F1 : Hid (((k : Int) + 1) = ((fromAt zs al (k + 1) : Nat) : Int)) := by show _ = _; rw [FF.out, if_pos g0]; push_cast; rfl
          clear g0 e1
          go_wp2
          exact ⟨⟨k + 1, by omega, by go_num, by rw [← F1.out], hc'⟩, by simp only [intOf]; omega⟩
        · have d0 : (s == 0) = false := by simpa using g0
          have F1 : Hid ((F : Int) = ((fromAt zs al (k + 1) : Nat) : Int)) := by show _ = _; rw [FF.out, if_neg g0]
          clear g0
          go_wp2
          exact ⟨⟨k + 1, by omega, by go_num, by rw [← F1.out], hc'⟩, by simp only [intOf]; omega⟩
    · obtain rfl : k = n := by omega
      have hA' := IsAlarm.calm (zs := zs) (al := al) (lim := lim) (fun i hi => hc.out i (by have := HN.out; omega))
      obtain ⟨e1, e2, e3⟩ := alarm_uniq HA.out hA'
      have E1 := Lib.hid e1
      have E2 := Lib.hid e2
      have E3 := Lib.hid e3
      clear hA' e1 e2 e3 hc
      go_wp2
      go_ret3
      exact ⟨by rw [E1.out, E2.out, E3.out]; rfl, B1.out⟩

theorem specAlarm_yes (v : Value) (zs : List Int) (al lim : Int) (w : World) (h : RdI w v zs) (hb : Bal zs) (ha : Bnd al) (hl : Bnd lim) (f r : Int) (b : Bool) (hA : IsAlarm zs al lim f r b) :
    Calls Try.prog 34 #[v, .int .i64 al, .int .i64 lim] w fun e w' => e = .returned (.tuple #[.int .i64 f, .int .i64 r, .bool b]) ∧ Below w.heap.size w w' := by
  have C1 := Lib.hid (fun w h => l06Balance_any v zs w h (by have := hb.1; omega) true (by simpa using hb))
  have C2 := Lib.hid (fun w => l06Bound_any al w true (by simpa using ha))
  have C3 := Lib.hid (fun w => l06Bound_any lim w true (by simpa using hl))
  have C4 := Lib.hid (fun w h => l06Alarm_any v zs al lim w h hb ha f r b hA)
  have H := Lib.hid h
  obtain ⟨a, cap, rfl, ra⟩ := id H.out
  generalize zs.length = n at *
  clear h hb ha hl hA ra
  go_enter Try.func34, Try.ntmps34
  go_wp2_with fail
  refine (C1.out _ H.out).mono ?_
  rintro e w' ⟨rfl, rfl⟩
  go_wp2_with fail
  refine (C2.out _).mono ?_
  rintro e w' ⟨rfl, rfl⟩
  go_wp2_with fail
  refine (C3.out _).mono ?_
  rintro e w' ⟨rfl, rfl⟩
  go_wp2_with fail
  refine (C4.out _ H.out).mono ?_
  rintro e w1 ⟨rfl, b1⟩
  have B1 := Lib.hid b1
  clear b1
  go_wp2
  go_ret3
  exact ⟨rfl, B1.out⟩

theorem specAlarm_no (v : Value) (zs : List Int) (al lim : Int) (w : World) (h : RdI w v zs) (lz : zs.length ≤ 1099511627776) (hb : ¬ (Bal zs ∧ Bnd al ∧ Bnd lim)) :
    Calls Try.prog 34 #[v, .int .i64 al, .int .i64 lim] w fun e w' => e = .returned (.tuple #[.int .i64 0, .int .i64 0, .bool false]) ∧ Below w.heap.size w w' := by
  obtain ⟨b1, h1⟩ : ∃ b : Bool, b = true ↔ Bal zs := ok_bool' _
  obtain ⟨b2, h2⟩ : ∃ b : Bool, b = true ↔ Bnd al := ok_bool' _
  obtain ⟨b3, h3⟩ : ∃ b : Bool, b = true ↔ Bnd lim := ok_bool' _
  have C1 := Lib.hid (fun w h => l06Balance_any v zs w h (by omega) b1 h1)
  have C2 := Lib.hid (fun w => l06Bound_any al w b2 h2)
  have C3 := Lib.hid (fun w => l06Bound_any lim w b3 h3)
  have H := Lib.hid h
  obtain ⟨a, cap, rfl, ra⟩ := id H.out
  have hn : ¬ (b1 = true ∧ b2 = true ∧ b3 = true) := by rw [h1, h2, h3]; exact hb
  generalize zs.length = n at *
  clear h hb ra h1 h2 h3 lz
  cases b1 with
  | false =>
    clear hn
    go_enter Try.func34, Try.ntmps34
    go_wp2_with fail
    refine (C1.out _ H.out).mono ?_
    rintro e w' ⟨rfl, rfl⟩
    go_wp2
    go_ret3
    exact ⟨rfl, Below.refl _ _⟩
  | true =>
  cases b2 with
  | false =>
    clear hn
    go_enter Try.func34, Try.ntmps34
    go_wp2_with fail
    refine (C1.out _ H.out).mono ?_
    rintro e w' ⟨rfl, rfl⟩
    go_wp2_with fail
    refine (C2.out _).mono ?_
    rintro e w' ⟨rfl, rfl⟩
    go_wp2
    go_ret3
    exact ⟨rfl, Below.refl _ _⟩
  | true =>
  cases b3 with
  | false =>
    clear hn
    go_enter Try.func34, Try.ntmps34
    go_wp2_with fail
    refine (C1.out _ H.out).mono ?_
    rintro e w' ⟨rfl, rfl⟩
    go_wp2_with fail
    refine (C2.out _).mono ?_
    rintro e w' ⟨rfl, rfl⟩
    go_wp2_with fail
    refine (C3.out _).mono ?_
    rintro e w' ⟨rfl, rfl⟩
    go_wp2
    go_ret3
    exact ⟨rfl, Below.refl _ _⟩
  | true => exact absurd ⟨rfl, rfl, rfl⟩ hn

theorem exAlarmOf (zs : List Int) (al lim : Int) (lz : zs.length ≤ 1048576) : ∃ (f r : Int) (b : Bool),
    Hid (∀ (w : World) (v : Value), (fun _ => True) w → RdI w v zs → Calls Try.prog 34 #[v, .int .i64 al, .int .i64 lim] w fun e w' => e = .returned (.tuple #[.int .i64 f, .int .i64 r, .bool b]) ∧ Below w.heap.size w w') ∧
    Hid (∀ (w : World) (v : Value), (fun _ => True) w → RdI w v zs → Calls Try.prog 23 #[v, .int .i64 al, .int .i64 lim] w fun e w' => e = .returned (.tuple #[.int .i64 f, .int .i64 r, .bool b]) ∧ Below w.heap.size w w') := by
  by_cases hb : Bal zs ∧ Bnd al ∧ Bnd lim
  · obtain ⟨f, r, b, hA⟩ := alarm_ex zs al lim
    exact ⟨f, r, b, fun w v _ h => specAlarm_yes v zs al lim w h hb.1 hb.2.1 hb.2.2 f r b hA, fun w v _ h => implAlarm_yes v zs al lim w h hb.1 hb.2.1 hb.2.2 f r b hA⟩
  · exact ⟨0, 0, false, fun w v _ h => specAlarm_no v zs al lim w h (by omega) hb, fun w v _ h => implAlarm_no v zs al lim w h (by omega) hb⟩
end Go.Proofs.Ytobfephcmiolbaa
