/- FnSumAlarms: the greatest excesses that end with each ring are the cumulative sums. -/
import Derived.Test.YtobfephcmiolbaaMuckB
import Derived.Test.YtobfephcmiolbaaR8K
namespace Go.Proofs.Ytobfephcmiolbaa
open Go.ChangeShapes Go.WideShapes Go.ChangeAt Go.RowKit
set_option linter.unusedVariables false
set_option linter.unusedSimpArgs false

theorem sumAt_most (zs : List Int) (al : Int) (i : Nat) : (∀ t, t ≤ i → pre zs al i - pre zs al t ≤ sumAt zs al i) ∧ ∃ t, t ≤ i ∧ sumAt zs al i = pre zs al i - pre zs al t := by
  induction i with
  | zero =>
    refine ⟨fun t ht => ?_, 0, by omega, by simp [sumAt]⟩
    obtain rfl : t = 0 := by omega
    simp [sumAt]
  | succ i ih =>
    obtain ⟨h1, t, ht, h2⟩ := ih
    have s0 := sumAt_nonneg zs al i
    have e1 : pre zs al (i + 1) = pre zs al i + (zs.getD i 0 - al) := rfl
    have e2 : sumAt zs al (i + 1) = if sumAt zs al i + zs.getD i 0 - al < 0 then 0 else sumAt zs al i + zs.getD i 0 - al := rfl
    by_cases g : sumAt zs al i + zs.getD i 0 - al < 0
    · rw [if_pos g] at e2
      refine ⟨fun u hu => ?_, i + 1, by omega, by omega⟩
      by_cases eu : u = i + 1
      · subst eu; omega
      · have := h1 u (by omega); omega
    · rw [if_neg g] at e2
      refine ⟨fun u hu => ?_, t, by omega, by omega⟩
      by_cases eu : u = i + 1
      · subst eu; omega
      · have := h1 u (by omega); omega

theorem sumAt_from (zs : List Int) (al : Int) (k : Nat) : sumAt zs al k = pre zs al k - pre zs al (fromAt zs al k) := by
  induction k with
  | zero => simp [sumAt, fromAt]
  | succ k ih =>
    have e1 : pre zs al (k + 1) = pre zs al k + (zs.getD k 0 - al) := rfl
    have e2 : sumAt zs al (k + 1) = if sumAt zs al k + zs.getD k 0 - al < 0 then 0 else sumAt zs al k + zs.getD k 0 - al := rfl
    have e3 : fromAt zs al (k + 1) = if sumAt zs al (k + 1) = 0 then k + 1 else fromAt zs al k := rfl
    by_cases g : sumAt zs al (k + 1) = 0
    · rw [e3, if_pos g]; omega
    · rw [e3, if_neg g]
      by_cases c : sumAt zs al k + zs.getD k 0 - al < 0
      · rw [if_pos c] at e2; exact absurd e2 g
      · rw [if_neg c] at e2; omega

/-- The greatest excess of the rings from one of k to i + 1 on up to ring i; that of no ring is 0. -/
def IsMost (zs : List Int) (al : Int) (i k : Nat) (m : Int) : Prop := (∀ t, k ≤ t → t ≤ i + 1 → pre zs al (i + 1) - pre zs al t ≤ m) ∧ ∃ t, k ≤ t ∧ t ≤ i + 1 ∧ m = pre zs al (i + 1) - pre zs al t

theorem isMost_start (zs : List Int) (al : Int) (i : Nat) : IsMost zs al i (i + 1) 0 := by
  refine ⟨fun t h1 h2 => ?_, i + 1, by omega, by omega, by omega⟩
  obtain rfl : t = i + 1 := by omega
  omega
theorem isMost_step {zs : List Int} {al : Int} {i k : Nat} {m s r : Int} (h : IsMost zs al i (k + 1) m) (hk : k ≤ i) (hs : s = pre zs al (i + 1) - pre zs al k) (hr : r = if m > s then m else s) : IsMost zs al i k r := by
  obtain ⟨h1, t, h2, h3, h4⟩ := h
  by_cases g : m > s
  · rw [if_pos g] at hr
    subst hr
    refine ⟨fun u hu hu2 => ?_, t, by omega, h3, h4⟩
    by_cases e : u = k
    · subst e; omega
    · exact h1 u (by omega) hu2
  · rw [if_neg g] at hr
    subst hr
    refine ⟨fun u hu hu2 => ?_, k, by omega, by omega, hs⟩
    by_cases e : u = k
    · subst e; omega
    · have := h1 u (by omega) hu2; omega
theorem isMost_sum {zs : List Int} {al : Int} {i : Nat} {m : Int} (h : IsMost zs al i 0 m) : m = sumAt zs al (i + 1) := by
  obtain ⟨h1, t, h2, h3, h4⟩ := h
  obtain ⟨k1, u, k2, k3⟩ := sumAt_most zs al (i + 1)
  have := h1 u (by omega) k2
  have := k1 t h3
  omega

/-- The first of k rings with a sum above the limit; -1 if there is none. -/
def FirstTo (zs : List Int) (al lim : Int) (k : Nat) (f : Int) : Prop := (f = -1 ∧ ∀ j, j < k → sumAt zs al (j + 1) ≤ lim) ∨ ∃ i : Nat, f = i ∧ i < k ∧ lim < sumAt zs al (i + 1) ∧ ∀ j, j < i → sumAt zs al (j + 1) ≤ lim

set_option maxRecDepth 100000 in
set_option maxHeartbeats 16000000 in
theorem walkFnSumAlarms (w : World) (a0 : Option Addr) (len0 cap0 : Nat) (z0 : List Int) (w0 : IsRow .u8 w a0 len0 cap0 z0) (a1 : Option Addr) (len1 cap1 : Nat) (z1 : List Int) (w1 : IsRow .u8 w a1 len1 cap1 z1) :
    Calls Try.prog 4 #[.slice a0 len0 cap0, .slice a1 len1 cap1] w fun e w' => e = .returned (.bool true) ∧ Below w.heap.size w w' := by
  have l0 := w0.len_le
  have l1 := w1.len_le
  obtain ⟨r0, hr0⟩ := w0.rdB
  by_cases h : ¬ ((len0 : Int) ≤ 48 ∧ (len1 : Int) ≤ 48)
  · go_enter Try.func4, Try.ntmps4
    go_wp2_with fail
    refine (r8Long8_any a0 a1 len0 len1 cap0 cap1 (by omega) (by omega) true ⟨(fun _ => h), (fun _ => rfl)⟩ w).mono ?_
    rintro e w' ⟨rfl, rfl⟩
    go_wp2
    go_ret
    exact ⟨rfl, Below.refl _ _⟩
  · have h' : len0 ≤ 48 ∧ len1 ≤ 48 := by omega
    have LG := Lib.hid (fun w => r8Long8_any a0 a1 len0 len1 cap0 cap1 (by omega) (by omega) false ⟨(fun e => by cases e), (fun g => absurd (by omega) g)⟩ w)
    have BL := Lib.hid (r8Balance_any w (.slice a0 len0 cap0) (z0.take len0) r0 (by rw [hr0]; omega))
    have A1 := Lib.hid (fun w' (hb : IsRow .u8 w' a1 len1 cap1 z1) => r8At_any a1 len1 cap1 z1 w' hb (by omega) 0 (by omega) 12 (by omega) (by omega))
    have A2 := Lib.hid (fun w' (hb : IsRow .u8 w' a1 len1 cap1 z1) => r8At_any a1 len1 cap1 z1 w' hb (by omega) 1 (by omega) 30 (by omega) (by omega))
    have W1 := Lib.hid w1
    clear h h' w0 r0 hr0 w1
    go_enter Try.func4, Try.ntmps4
    go_wp2_with fail
    refine (LG.out _).mono ?_
    rintro e w' ⟨rfl, rfl⟩
    go_wp2_with fail
    refine BL.out.mono ?_
    rintro e w2 ⟨u, xs, rfl, o2, b2, dr⟩
    have hb := dr.bal
    have O2 := Lib.hid o2.rd
    have B2 := Lib.hid b2
    have DR := Lib.hid dr
    have HBL := Lib.hid hb
    have W2 : Hid (IsRow .u8 w2 a1 len1 cap1 z1) := W1.out.later8 b2
    obtain ⟨bu, cu, hform, hrow⟩ := o2.rd
    subst hform
    have ROW := Lib.hid hrow
    clear o2 b2 dr BL LG W1 hb hrow
    go_wp2_with fail
    refine (A1.out _ W2.out).mono ?_
    rintro e w' ⟨al, rfl, al0, al1, rfl⟩
    go_wp2_with fail
    refine (A2.out _ W2.out).mono ?_
    rintro e w' ⟨lim, rfl, lm0, lm1, rfl⟩
    clear A1 A2 W2
    have ha : Bnd al := ⟨by omega, by omega⟩
    have hl : Bnd lim := ⟨by omega, by omega⟩
    obtain ⟨f, r, b, hA⟩ := alarm_ex xs al lim
    have CS := Lib.hid (fun w h => sums_yes (.slice bu xs.length cu) xs al w h HBL.out ha)
    have CA := Lib.hid (fun w h => implAlarm_yes (.slice bu xs.length cu) xs al lim w h HBL.out ha hl f r b hA)
    have HA := Lib.hid hA
    obtain ⟨n, hn⟩ : ∃ n, n = xs.length := ⟨_, rfl⟩
    have ln : n ≤ 9 := by have := DR.out.1; omega
    have HN := Lib.hid hn
    rw [← hn] at O2 CS CA
    rw [← hn]
    have PB := Lib.hid (fun k hk => pre_bd HBL.out.2 ha k hk)
    have XB := Lib.hid (fun (k : Nat) x (hx : xs[k]? = some x) => HBL.out.2.at hx)
    rw [← hn] at PB
    clear hn hA ha hl DR
    go_wp2_with fail
    refine (CS.out _ O2.out).mono ?_
    rintro e w3 ⟨v, rfl, o3, b3⟩
    have O3 := Lib.hid (O2.out.later b3)
    have R3 := Lib.hid o3.rd
    obtain ⟨bv, cv, hform, hrow3⟩ := o3.rd
    rw [sumsTo_len] at hform
    subst hform
    have B3 : Hid (Below w.heap.size w w3) := B2.out.trans (b3.mono B2.out.size)
    have B23 := Lib.hid b3
    clear o3 b3 hrow3 O2 CS
    go_wp2_with fail
    refine (CA.out _ O3.out).mono ?_
    rintro e w4 ⟨rfl, b4⟩
    have B4 : Hid (Below w.heap.size w w4) := B3.out.trans (b4.mono B3.out.size)
    have O4 := Lib.hid (O3.out.later b4)
    have R4 := Lib.hid (R3.out.later b4)
    clear b4 O3 R3 B3 CA B23 B2 ROW
    have d1 : ((n : Int) != n) = false := by simp
    go_wp2
    go_loop [13, 14] (fun fv iv => ∃ (k : Nat) (f : Int), k ≤ n ∧ -1 ≤ f ∧ f ≤ 100 ∧ iv = .int .i64 k ∧ fv = .int .i64 f ∧ Hid (FirstTo xs al lim k f)) (fun _ iv => n - (intOf iv).toNat)
    case atStart => exact ⟨0, -1, by omega, by omega, by omega, rfl, rfl, .inl ⟨rfl, fun j h => absurd h (by omega)⟩⟩
    case round =>
      obtain ⟨k, fk, hk, f0, f1, rfl, rfl, hf⟩ := hrel
      by_cases hlt : k < n
      · have S0 := Lib.hid (isMost_start xs al k)
        have Z0 : Hid ((0 : Int) = pre xs al (k + 1) - pre xs al (k + 1)) := by show _ = _; omega
        go_wp2
        go_loop [15, 16, 17] (fun mv sv kv => ∃ (j : Nat) (c m s : Int), j ≤ k + 1 ∧ -1 ≤ c ∧ c ≤ k ∧ mv = .int .i64 m ∧ sv = .int .i64 s ∧ kv = .int .i64 c ∧ Hid (c + 1 = j) ∧ Hid (s = pre xs al (k + 1) - pre xs al j) ∧ Hid (IsMost xs al k j m)) (fun _ _ kv => (intOf kv + 1).toNat)
        case atStart => exact ⟨k + 1, k, 0, 0, by omega, by omega, by omega, rfl, rfl, rfl, by show _ = _; push_cast; omega, Z0, S0⟩
        case round =>
          obtain ⟨j, c, m, s, hj, c0, c1, rfl, rfl, rfl, hc, hs, hm⟩ := hrel
          clear S0 Z0
          have pk := PB.out (k + 1) (by omega)
          have pj := PB.out j (by omega)
          have hs' := hs.out
          have mb : -1000000000 ≤ m ∧ m ≤ 1000000000 := by
            obtain ⟨-, t, t1, t2, t3⟩ := hm.out
            have := PB.out t (by omega)
            omega
          have sb : -1000000000 ≤ s ∧ s ≤ 1000000000 := by omega
          clear pk pj hs'
          by_cases hpos : 0 ≤ c
          · obtain ⟨t, rfl⟩ := Int.eq_ofNat_of_zero_le hpos
            obtain ⟨x, hx⟩ : ∃ x, xs[t]? = some x := ⟨_, List.getElem?_eq_getElem (by have := HN.out; omega)⟩
            have xb := XB.out t x hx
            obtain ⟨a', c', hv, hrow⟩ := O4.out
            rw [← HN.out] at hv
            simp only [Value.slice.injEq] at hv
            obtain ⟨ea, -, -⟩ := hv
            obtain ⟨ba, oa, eb, ca'⟩ := hrow.resolve_left (by intro h; have := HN.out; rw [h] at this; simp at this; omega)
            rw [eb] at ea
            subst ea
            have x1 := ca' t x hx
            have jt : j = t + 1 := by have := hc.out; omega
            have NS : Hid (s + (x - al) = pre xs al (k + 1) - pre xs al t) := by show _ = _; have e := pre_succ (al := al) hx; rw [← jt] at e; have := hs.out; omega
            have q1 : IntKind.i64.wrap (x - al) = x - al := IntWalk.i64_in _ (by omega)
            have q2 : IntKind.i64.wrap (s + (x - al)) = s + (x - al) := IntWalk.i64_in _ (by omega)
            have q3 : IntKind.i64.wrap ((t : Int) - 1) = (t : Int) - 1 := IntWalk.i64_in _ (by omega)
            have tn : t < n := by omega
            obtain ⟨r', hr'⟩ : ∃ r', r' = if m > s + (x - al) then m else s + (x - al) := ⟨_, rfl⟩
            have M1 := Lib.hid (isMost_step (by rw [← jt]; exact hm.out) (by omega) NS.out hr')
            have R8 := Lib.hid (fun w => r8Most2_any m (s + (x - al)) w r' hr')
            have C1 : Hid ((t : Int) - 1 + 1 = (t : Int)) := by show _ = _; omega
            clear hx ca' hrow eb jt hc hs hm xb hr'
            go_wp2_with fail
            refine (R8.out _).mono ?_
            rintro e w' ⟨rfl, rfl⟩
            go_wp2
            exact ⟨⟨t, (t : Int) - 1, r', _, by omega, by omega, by omega, rfl, rfl, rfl, C1, NS, M1⟩, by simp only [intOf]; omega⟩
          · obtain rfl : j = 0 := by have := hc.out; omega
            have em := isMost_sum hm.out
            obtain ⟨a', c', hv, hrow⟩ := R4.out
            rw [sumsTo_len] at hv
            simp only [Value.slice.injEq] at hv
            obtain ⟨ea, -, -⟩ := hv
            obtain ⟨ba, oa, eb, ca'⟩ := hrow.resolve_left (by intro h; have := sumsTo_len xs al n; rw [h] at this; simp at this; omega)
            rw [eb] at ea
            subst ea
            have x1 := ca' k _ (sumsTo_get xs al n k hlt)
            rw [← em] at x1
            have EM := Lib.hid em
            have dm : ((m : Int) != m) = false := by simp
            clear em ca' hrow eb hc hs hm
            by_cases g : lim < m
            · have d2 : decide (lim < m) = true := by simpa using g
              by_cases gf : fk < 0
              · have d3 : decide (fk < 0) = true := by simpa using gf
                have F1 : Hid (FirstTo xs al lim (k + 1) k) := by
                  rcases hf.out with ⟨e, h⟩ | ⟨i, e, -⟩
                  · exact Or.inr ⟨k, rfl, by omega, by rw [← EM.out]; exact g, h⟩
                  · omega
                clear hf g gf
                go_wp2
                exact ⟨⟨k + 1, k, by omega, by omega, by omega, by go_num, rfl, F1⟩, by simp only [intOf]; omega⟩
              · have d3 : decide (fk < 0) = false := by simpa using gf
                have F1 : Hid (FirstTo xs al lim (k + 1) fk) := by
                  rcases hf.out with ⟨e, h⟩ | ⟨i, e, e1, e2⟩
                  · omega
                  · exact Or.inr ⟨i, e, by omega, e2⟩
                clear hf g gf
                go_wp2
                exact ⟨⟨k + 1, fk, by omega, by omega, by omega, by go_num, rfl, F1⟩, by simp only [intOf]; omega⟩
            · have d2 : decide (lim < m) = false := by simpa using g
              have F1 : Hid (FirstTo xs al lim (k + 1) fk) := by
                rcases hf.out with ⟨e, h⟩ | ⟨i, e, e1, e2⟩
                · refine Or.inl ⟨e, fun j hj => ?_⟩
                  by_cases ej : j = k
                  · subst ej; rw [← EM.out]; omega
                  · exact h j (by omega)
                · exact Or.inr ⟨i, e, by omega, e2⟩
              clear hf g
              go_wp2
              exact ⟨⟨k + 1, fk, by omega, by omega, by omega, by go_num, rfl, F1⟩, by simp only [intOf]; omega⟩
      · obtain rfl : k = n := by omega
        rcases hf.out with ⟨rfl, h⟩ | ⟨i, rfl, hi, h1, h2⟩
        · obtain ⟨rfl, rfl, rfl⟩ := alarm_uniq HA.out (.calm fun i hi => h i (by have := HN.out; omega))
          clear hf h HA
          go_wp2
          go_ret
          exact ⟨rfl, B4.out⟩
        · obtain ⟨rfl, rfl, rfl⟩ := alarm_uniq HA.out (.raised i (by have := HN.out; omega) h1 h2)
          have SF := sumAt_from xs al (i + 1)
          have s0 : ¬ sumAt xs al (i + 1) = 0 := by omega
          have ef : fromAt xs al (i + 1) = fromAt xs al i := by
            have e3 : fromAt xs al (i + 1) = if sumAt xs al (i + 1) = 0 then i + 1 else fromAt xs al i := rfl
            rw [e3, if_neg s0]
          rw [ef] at SF
          have fl := fromAt_le xs al i
          obtain ⟨a', c', hv, hrow⟩ := R4.out
          rw [sumsTo_len] at hv
          simp only [Value.slice.injEq] at hv
          obtain ⟨ea, -, -⟩ := hv
          obtain ⟨ba, oa, eb, ca'⟩ := hrow.resolve_left (by intro h; have := sumsTo_len xs al k; rw [h] at this; simp at this; omega)
          rw [eb] at ea
          subst ea
          have x1 := ca' i _ (sumsTo_get xs al k i hi)
          obtain ⟨F, hF⟩ : ∃ F, F = fromAt xs al i := ⟨_, rfl⟩
          obtain ⟨S, hS⟩ : ∃ S, S = sumAt xs al (i + 1) := ⟨_, rfl⟩
          rw [← hF] at SF fl
          rw [← hS] at SF x1 h1
          have HF := Lib.hid hF
          have HSF := Lib.hid SF
          have i0 : ¬ (i : Int) < 0 := by omega
          have di : ((i : Int) != i) = false := by simp
          have df : ¬ (i : Int) < (F : Int) := by omega
          have dz : decide (0 ≤ (i : Int)) = true := decide_eq_true (by omega)
          have f0' : ¬ (F : Int) < 0 := by omega
          rw [← HF.out]
          clear hf h2 HA s0 ef ca' hrow eb hS SF hF
          go_wp2
          go_loop [18, 19] (fun sv tv => ∃ (t : Nat) (s : Int), F ≤ t ∧ t ≤ i + 1 ∧ -1000000000 ≤ s ∧ s ≤ 1000000000 ∧ sv = .int .i64 s ∧ tv = .int .i64 t ∧ Hid (s = pre xs al t - pre xs al F)) (fun _ tv => (i + 1 : Nat) - (intOf tv).toNat)
          case atStart => exact ⟨F, 0, by omega, by omega, by omega, by omega, rfl, rfl, by show _ = _; omega⟩
          case round =>
            obtain ⟨t, s, t0, t1, sb0, sb1, rfl, rfl, hs⟩ := hrel
            by_cases htl : t ≤ i
            · obtain ⟨x, hx⟩ : ∃ x, xs[t]? = some x := ⟨_, List.getElem?_eq_getElem (by have := HN.out; omega)⟩
              have xb := XB.out t x hx
              have p1 := PB.out (t + 1) (by omega)
              have p2 := PB.out F (by omega)
              obtain ⟨a', c', hv, hrow⟩ := O4.out
              rw [← HN.out] at hv
              simp only [Value.slice.injEq] at hv
              obtain ⟨ea, -, -⟩ := hv
              obtain ⟨bb, ob, eb, cb'⟩ := hrow.resolve_left (by intro h; have := HN.out; rw [h] at this; simp at this; omega)
              rw [eb] at ea
              subst ea
              have x2 := cb' t x hx
              have NS : Hid (s + (x - al) = pre xs al (t + 1) - pre xs al F) := by show _ = _; rw [pre_succ hx]; have := hs.out; omega
              have ns := NS.out
              have q1 : IntKind.i64.wrap (x - al) = x - al := IntWalk.i64_in _ (by omega)
              have q2 : IntKind.i64.wrap (s + (x - al)) = s + (x - al) := IntWalk.i64_in _ (by omega)
              have nb : -1000000000 ≤ s + (x - al) ∧ s + (x - al) ≤ 1000000000 := by omega
              have tn : t < k := by omega
              clear hx cb' hrow eb hs xb ns p1 p2
              go_wp2
              exact ⟨⟨t + 1, _, by omega, by omega, nb.1, nb.2, rfl, by go_num, NS⟩, by simp only [intOf]; omega⟩
            · obtain rfl : t = i + 1 := by omega
              obtain rfl : s = S := by rw [hs.out, HSF.out]
              have d4 : decide (lim < s) = true := by simpa using h1
              have d5 : ((s : Int) == s) = true := by simp
              have ii : i < k := hi
              clear hs h1
              go_wp2
              go_ret
              exact ⟨rfl, B4.out⟩
end Go.Proofs.Ytobfephcmiolbaa
