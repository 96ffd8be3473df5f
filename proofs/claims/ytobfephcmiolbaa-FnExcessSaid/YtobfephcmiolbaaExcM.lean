/- FnExcess: the least allowance is the least one without an alarm, and no rings have a greater excess than the told ones. -/
import Derived.Test.YtobfephcmiolbaaMuckL
import Derived.Test.YtobfephcmiolbaaMuckE
import Derived.Test.YtobfephcmiolbaaR8K
import Derived.Deep.DeepCutAuto
namespace Go.Proofs.Ytobfephcmiolbaa
open Go.ChangeShapes Go.WideShapes Go.ChangeAt Go.RowKit
set_option linter.unusedVariables false
set_option linter.unusedSimpArgs false

set_option maxRecDepth 100000 in
set_option maxHeartbeats 16000000 in
theorem walkFnExcess (w : World) (a0 : Option Addr) (len0 cap0 : Nat) (z0 : List Int) (w0 : IsRow .u8 w a0 len0 cap0 z0) (a1 : Option Addr) (len1 cap1 : Nat) (z1 : List Int) (w1 : IsRow .u8 w a1 len1 cap1 z1) :
    Calls Try.prog 5 #[.slice a0 len0 cap0, .slice a1 len1 cap1] w fun e w' => e = .returned (.bool true) ∧ Below w.heap.size w w' := by
  have l0 := w0.len_le
  have l1 := w1.len_le
  obtain ⟨r0, hr0⟩ := w0.rdB
  by_cases h : ¬ ((len0 : Int) ≤ 48 ∧ (len1 : Int) ≤ 48)
  · go_enter Try.func5, Try.ntmps5
    go_wp2_with fail
    refine (r8Long8_any a0 a1 len0 len1 cap0 cap1 (by omega) (by omega) true ⟨(fun _ => h), (fun _ => rfl)⟩ w).mono ?_
    rintro e w' ⟨rfl, rfl⟩
    go_wp2
    go_ret
    exact ⟨rfl, Below.refl _ _⟩
  · have h' : len0 ≤ 48 ∧ len1 ≤ 48 := by omega
    have LG := Lib.hid (fun w => r8Long8_any a0 a1 len0 len1 cap0 cap1 (by omega) (by omega) false ⟨(fun e => by cases e), (fun g => absurd (by omega) g)⟩ w)
    have BL := Lib.hid (r8Balance_any w (.slice a0 len0 cap0) (z0.take len0) r0 (by rw [hr0]; omega))
    have A1 := Lib.hid (fun w' (hb : IsRow .u8 w' a1 len1 cap1 z1) => r8At_any a1 len1 cap1 z1 w' hb (by omega) 0 (by omega) 12 (by omega) (by omega))
    have A2 := Lib.hid (fun w' (hb : IsRow .u8 w' a1 len1 cap1 z1) => r8At_any a1 len1 cap1 z1 w' hb (by omega) 1 (by omega) 30 (by omega) (by omega))
    have W1 := Lib.hid w1
    clear h h' w0 r0 hr0 w1
    go_enter Try.func5, Try.ntmps5
    go_wp2_with fail
    refine (LG.out _).mono ?_
    rintro e w' ⟨rfl, rfl⟩
    go_wp2_with fail
    refine BL.out.mono ?_
    rintro e w2 ⟨u, xs, rfl, o2, b2, dr⟩
    have O2 := Lib.hid o2.rd
    have B2 := Lib.hid b2
    have HBL := Lib.hid dr.bal
    have DR := Lib.hid dr
    have W2 : Hid (IsRow .u8 w2 a1 len1 cap1 z1) := W1.out.later8 b2
    obtain ⟨bu, cu, hform, -⟩ := o2.rd
    subst hform
    clear o2 b2 dr BL LG W1
    go_wp2_with fail
    refine (A1.out _ W2.out).mono ?_
    rintro e w' ⟨al, rfl, al0, al1, rfl⟩
    go_wp2_with fail
    refine (A2.out _ W2.out).mono ?_
    rintro e w' ⟨lim, rfl, lm0, lm1, rfl⟩
    clear A1 A2 W2
    have ha : Bnd al := ⟨by omega, by omega⟩
    have hl : Bnd lim := ⟨by omega, by omega⟩
    obtain ⟨r, hr⟩ := srch_ex (alarmB xs lim) 1000000 0 1000000 (by omega) (by omega)
    have rb := hr.range
    obtain ⟨ed1, ed2⟩ := hr.edge (fun c e hc => by omega) (alarmB_all HBL.out.2 lm0)
    obtain ⟨f1, r1, b1, hA1⟩ := alarm_ex xs r lim
    obtain rfl : b1 = false := by rw [← alarmB_of hA1]; exact ed1
    have CL := Lib.hid (fun w h => implLeast_yes (.slice bu xs.length cu) xs lim w h HBL.out hl r hr)
    have CA := Lib.hid (fun w h => implAlarm_yes (.slice bu xs.length cu) xs r lim w h HBL.out ⟨by omega, by omega⟩ hl f1 r1 false hA1)
    have CA2 : Hid (0 < r → ∃ f2 r2, ∀ w, RdI w (.slice bu xs.length cu) xs → Calls Try.prog 23 #[.slice bu xs.length cu, .int .i64 (r - 1), .int .i64 lim] w fun e w' => e = .returned (.tuple #[.int .i64 f2, .int .i64 r2, .bool true]) ∧ Below w.heap.size w w') := by
      intro hpos
      obtain ⟨f2, r2, b2, hA2⟩ := alarm_ex xs (r - 1) lim
      obtain rfl : b2 = true := by rw [← alarmB_of hA2]; exact ed2 (r - 1) (by omega) (by omega)
      exact ⟨f2, r2, fun w h => implAlarm_yes (.slice bu xs.length cu) xs (r - 1) lim w h HBL.out ⟨by omega, by omega⟩ hl f2 r2 true hA2⟩
    have CG : Hid (0 < xs.length → ∃ f u m, IsBest xs al xs.length f u m ∧ ∀ w, RdI w (.slice bu xs.length cu) xs → Calls Try.prog 26 #[.slice bu xs.length cu, .int .i64 al] w fun e w' => e = .returned (.tuple #[.int .i64 f, .int .i64 u, .int .i64 m, .bool true]) ∧ Below w.heap.size w w') := by
      intro hpos
      obtain ⟨f, u, m, hB⟩ := best_ex xs al hpos
      exact ⟨f, u, m, hB, fun w h => implGreatest_yes _ xs al w h HBL.out ha hpos f u m hB⟩
    have CN : Hid (¬ 0 < xs.length → ∀ w, RdI w (.slice bu xs.length cu) xs → Calls Try.prog 26 #[.slice bu xs.length cu, .int .i64 al] w fun e w' => e = .returned (.tuple #[.int .i64 0, .int .i64 0, .int .i64 0, .bool false]) ∧ Below w.heap.size w w') :=
      fun hn w h => implGreatest_no _ xs al w h (by omega) (fun c => hn c.2.2)
    obtain ⟨n, hn⟩ : ∃ n, n = xs.length := ⟨_, rfl⟩
    have ln : n ≤ 9 := by have := DR.out.1; omega
    have HN := Lib.hid hn
    rw [← hn] at O2 CL CA CA2 CG CN
    rw [← hn]
    have PB := Lib.hid (fun k hk => pre_bd HBL.out.2 ha k hk)
    have XB := Lib.hid (fun (k : Nat) x (hx : xs[k]? = some x) => HBL.out.2.at hx)
    rw [← hn] at PB
    obtain ⟨rb0, rb1⟩ := rb
    clear hn ha hl DR hr ed1 ed2 hA1
    go_wp2_with fail
    refine (CL.out _ O2.out).mono ?_
    rintro e w3 ⟨rfl, b3⟩
    have O3 := Lib.hid (O2.out.later b3)
    have B3 : Hid (Below w.heap.size w w3) := B2.out.trans (b3.mono B2.out.size)
    clear b3 O2 B2 CL
    go_wp2_with fail
    refine (CA.out _ O3.out).mono ?_
    rintro e w4 ⟨rfl, b4⟩
    have O4 := Lib.hid (O3.out.later b4)
    have B4 : Hid (Below w.heap.size w w4) := B3.out.trans (b4.mono B3.out.size)
    have r0' : ¬ r < 0 := by omega
    clear b4 O3 B3 CA
    -- behind the second alarm
    go_upto_if 57 with (fail)
    go_cut [] (fun wx => Hid (Below w.heap.size w wx) ∧ Hid (RdI wx (.slice bu n cu) xs))
    case first =>
      by_cases hpos : 0 < r
      · obtain ⟨f2, r2, c⟩ := CA2.out hpos
        have C := Lib.hid c
        have q1 : IntKind.i64.wrap (r - 1) = r - 1 := IntWalk.i64_in _ (by omega)
        have dp : decide (0 < r) = true := by simpa using hpos
        clear c CA2 CG CN PB XB
        go_wp2_with fail
        refine (C.out _ O4.out).mono ?_
        rintro e w5 ⟨rfl, b5⟩
        have O5 := Lib.hid (O4.out.later b5)
        have B5 : Hid (Below w.heap.size w w5) := B4.out.trans (b5.mono B4.out.size)
        clear b5 O4 B4 C
        go_wp2_with fail
        go_meet
        exact ⟨B5, O5⟩
      · have dp : decide (0 < r) = false := by simpa using hpos
        clear CA2 CG CN PB XB
        go_wp2_with fail
        go_meet
        exact ⟨B4, O4⟩
    case rest =>
      obtain ⟨B5, O5⟩ := hcut
      clear O4 B4 CA2
      by_cases hn0 : 0 < n
      · obtain ⟨f, u, m, hB, c⟩ := CG.out hn0
        have C := Lib.hid c
        have HBE := Lib.hid hB
        have dn : decide ((0 : Int) < (n : Int)) = true := decide_eq_true (by omega)
        have dn' : decide (0 < n) = true := decide_eq_true (by omega)
        have fu := hB.le
        have un := hB.lt
        have em := hB.eq
        have m1 := PB.out (u + 1) (by omega)
        have m2 := PB.out f (by omega)
        have mb : -1000000000 ≤ m ∧ m ≤ 1000000000 := by omega
        clear c CG CN hB em m1 m2
        go_wp2_with fail
        refine (C.out _ O5.out).mono ?_
        rintro e w6 ⟨rfl, b6⟩
        have O6 := Lib.hid (O5.out.later b6)
        have B6 : Hid (Below w.heap.size w w6) := B5.out.trans (b6.mono B5.out.size)
        clear b6 O5 B5 C
        go_wp2
        go_loop [20, 21] (fun fv iv => ∃ (i : Nat) (b : Bool), i ≤ n ∧ iv = .int .i64 i ∧ fv = .bool b ∧ Hid (b = true ↔ f < i)) (fun _ iv => n - (intOf iv).toNat)
        case atStart => exact ⟨0, false, by omega, rfl, rfl, by show _ ↔ _; simp⟩
        case round =>
          obtain ⟨i, b, hi, rfl, rfl, hb⟩ := hrel
          by_cases hlt : i < n
          · have F0 : Hid (b = true ↔ (f < i ∨ f = i ∧ u < i)) := by
              show _ ↔ _
              rw [hb.out]; omega
            clear hb
            go_wp2
            go_loop [20, 22, 23] (fun fv sv kv => ∃ (k : Nat) (b : Bool) (s : Int), i ≤ k ∧ k ≤ n ∧ kv = .int .i64 k ∧ fv = .bool b ∧ sv = .int .i64 s ∧ Hid (s = pre xs al k - pre xs al i) ∧ Hid (b = true ↔ (f < i ∨ f = i ∧ u < k))) (fun _ _ kv => n - (intOf kv).toNat)
            case atStart => exact ⟨i, b, 0, by omega, by omega, rfl, rfl, rfl, by show _ = _; omega, F0⟩
            case round =>
              obtain ⟨k, b, s, hik, hk, rfl, rfl, rfl, hs, hb⟩ := hrel
              clear F0
              by_cases hkl : k < n
              · obtain ⟨x, hx⟩ : ∃ x, xs[k]? = some x := ⟨_, List.getElem?_eq_getElem (by have := HN.out; omega)⟩
                have xb := XB.out k x hx
                obtain ⟨a', c', hv, hrow⟩ := O6.out
                rw [← HN.out] at hv
                simp only [Value.slice.injEq] at hv
                obtain ⟨ea, -, -⟩ := hv
                obtain ⟨ba, oa, eb, ca'⟩ := hrow.resolve_left (by intro h; have := HN.out; rw [h] at this; simp at this; omega)
                rw [eb] at ea
                subst ea
                have x1 := ca' k x hx
                have p1 := PB.out k (by omega)
                have p2 := PB.out i (by omega)
                have hs' := hs.out
                have NS : Hid (s + (x - al) = pre xs al (k + 1) - pre xs al i) := by show _ = _; rw [pre_succ hx]; omega
                have sb : -1000000000 ≤ s ∧ s ≤ 1000000000 := by omega
                have q1 : IntKind.i64.wrap (x - al) = x - al := IntWalk.i64_in _ (by omega)
                have q2 : IntKind.i64.wrap (s + (x - al)) = s + (x - al) := IntWalk.i64_in _ (by omega)
                have le := HBE.out.most i k hik hkl
                have ns := NS.out
                have g1 : ¬ m < s + (x - al) := by omega
                have dm : decide (m < s + (x - al)) = false := by simpa using g1
                have key : Hid ((f < i ∨ f = i ∧ u < k + 1) ↔ ((f < i ∨ f = i ∧ u < k) ∨ (f = i ∧ u = k))) := by show _ ↔ _; omega
                have uq : Hid ((f = i ∧ u = k) → s + (x - al) = m) := by
                  rintro ⟨rfl, rfl⟩
                  rw [ns]; exact HBE.out.eq.symm
                have lx : Hid (s + (x - al) = m → ¬ (i < f ∨ i = f ∧ k < u)) := fun e c => by
                  have := HBE.out.first i k hik hkl c
                  omega
                clear hx ca' hrow eb hs xb hs' p1 p2 le ns g1
                obtain ⟨t, ht⟩ : ∃ t, t = s + (x - al) := ⟨_, rfl⟩
                rw [← ht] at NS uq lx dm
                have q3 : IntKind.i64.wrap (s + (x - al)) = t := by rw [q2, ht]
                clear q2 ht
                by_cases ge : t = m
                · have de : (t == m) = true := by simpa using ge
                  cases b with
                  | true =>
                    have B1 : Hid (true = true ↔ (f < i ∨ f = i ∧ u < k + 1)) := by
                      show _ ↔ _
                      rw [key.out]; exact ⟨fun _ => .inl (hb.out.mp rfl), fun _ => rfl⟩
                    clear hb key uq lx ge
                    go_wp2
                    exact ⟨⟨k + 1, true, t, by omega, by omega, by go_num, rfl, rfl, NS, B1⟩, by simp only [intOf]; omega⟩
                  | false =>
                    have nb : ¬ (f < i ∨ f = i ∧ u < k) := fun h => by have := hb.out.mpr h; simp at this
                    have eq2 : f = i ∧ u = k := by have := lx.out ge; omega
                    obtain ⟨rfl, rfl⟩ := eq2
                    have di : ((f : Int) != f) = false := by simp
                    have dk : ((u : Int) != u) = false := by simp
                    clear hb key uq lx ge nb
                    go_wp2
                    exact ⟨⟨u + 1, true, t, by omega, by omega, by go_num, rfl, rfl, NS, by show _ ↔ _; simp⟩, by simp only [intOf]; omega⟩
                · have de : (t == m) = false := by simpa using ge
                  have B1 : Hid (b = true ↔ (f < i ∨ f = i ∧ u < k + 1)) := by
                    show _ ↔ _
                    rw [hb.out, key.out]
                    constructor
                    · exact fun h => .inl h
                    · rintro (h | h)
                      · exact h
                      · exact absurd (uq.out h) ge
                  clear hb key uq lx ge
                  go_wp2
                  exact ⟨⟨k + 1, b, t, by omega, by omega, by go_num, rfl, rfl, NS, B1⟩, by simp only [intOf]; omega⟩
              · obtain rfl : k = n := by omega
                have B1 : Hid (b = true ↔ f < i + 1) := by show _ ↔ _; rw [hb.out]; omega
                clear hb hs
                go_wp2
                exact ⟨⟨i + 1, b, by omega, by go_num, rfl, B1⟩, by simp only [intOf]; omega⟩
          · obtain rfl : i = n := by omega
            obtain rfl : b = true := hb.out.mpr (by omega)
            go_wp2
            go_ret
            exact ⟨rfl, B6.out⟩
      · obtain rfl : n = 0 := by omega
        have C := Lib.hid (CN.out (by omega))
        clear CG CN PB XB
        go_wp2_with fail
        refine (C.out _ O5.out).mono ?_
        rintro e w6 ⟨rfl, b6⟩
        have B6 : Hid (Below w.heap.size w w6) := B5.out.trans (b6.mono B5.out.size)
        clear b6 O5 B5 C
        go_wp2
        refine wp_loop_rounds 1 ?_
        rw [rounds_succ]
        go_wp2
        go_ret
        exact ⟨rfl, B6.out⟩
end Go.Proofs.Ytobfephcmiolbaa
