/- Alarms on both sides. -/
import Derived.Test.YtobfephcmiolbaaMuckT
import Derived.Deep.RegionHeld3
namespace Go.Proofs.Ytobfephcmiolbaa
open Go.ChangeShapes Go.WideShapes Go.ChangeAt Go.RowKit
set_option linter.unusedVariables false
set_option linter.unusedSimpArgs false

theorem alarm1_any (L : Nat) (lim x : Int) (w : World) (hL : w.cell? ⟨L, 0, none⟩ = some (.int .i64 lim)) (b : Bool) (hb : decide (lim < x) = b) :
    Calls Try.prog 45 #[.int .i64 x, .pointer (some ⟨L, 0, none⟩)] w fun e w' => e = .returned (.bool b) ∧ w = w' := by
  go_enter Try.func45, Try.ntmps45
  go_wp2
  go_ret
  exact ⟨by simp [hb], rfl⟩

/-- What IndexFunc answers. -/
def FirstAbove (S : List Int) (lim r : Int) : Prop := (r = -1 ∧ ∀ (i : Nat) x, S[i]? = some x → x ≤ lim) ∨ ∃ i : Nat, r = i ∧ i < S.length ∧ (∀ x, S[i]? = some x → lim < x) ∧ ∀ (j : Nat) x, j < i → S[j]? = some x → x ≤ lim

set_option maxRecDepth 100000 in
set_option maxHeartbeats 4000000 in
theorem indexAbove_any (L : Nat) (lim : Int) (v : Value) (S : List Int) (w : World) (h : RdI w v S) (lS : S.length ≤ 1099511627776) (hL : w.cell? ⟨L, 0, none⟩ = some (.int .i64 lim)) :
    Calls Try.prog 44 #[v, .func (.func 45) #[] #[.pointer (some ⟨L, 0, none⟩)]] w fun e w' => ∃ r, e = .returned (.int .i64 r) ∧ FirstAbove S lim r ∧ w = w' := by
  have C := Lib.hid (fun x b hb => alarm1_any L lim x w hL b hb)
  obtain ⟨a, cap, rfl, ra⟩ := h
  obtain ⟨n, hn⟩ : ∃ n, n = S.length := ⟨_, rfl⟩
  rw [← hn] at lS
  rw [← hn]
  have RA := Lib.hid ra
  have HN := Lib.hid hn
  clear ra hn hL
  go_enter Try.func44, Try.ntmps44
  go_wp2
  go_loop [8] (fun i => ∃ k : Nat, k ≤ n ∧ i = .int .i64 k ∧ Hid (∀ (j : Nat) x, j < k → S[j]? = some x → x ≤ lim)) (fun i => n - (intOf i).toNat)
  case atStart => exact ⟨0, by omega, rfl, fun j x h => absurd h (by omega)⟩
  case round =>
    obtain ⟨k, hk, rfl, ha⟩ := hrel
    by_cases hlt : k < n
    · obtain ⟨x, hx⟩ : ∃ x, S[k]? = some x := ⟨_, List.getElem?_eq_getElem (by have := HN.out; omega)⟩
      obtain ⟨ba, oa, rfl, ca'⟩ := RA.out.resolve_left (by intro h; have := HN.out; rw [h] at this; simp at this; omega)
      have c1 := ca' k x hx
      have HX := Lib.hid hx
      clear ca' hx
      by_cases g : lim < x
      · have R : Hid (FirstAbove S lim k) := Or.inr ⟨k, rfl, by have := HN.out; omega, fun y hy => by rw [HX.out] at hy; rw [← Option.some.inj hy]; exact g, ha.out⟩
        go_wp2_with fail
        refine (C.out x true (by simpa using g)).mono ?_
        rintro e w' ⟨rfl, rfl⟩
        clear ha g
        go_wp2
        go_ret
        exact ⟨_, rfl, R.out, rfl⟩
      · have ha' : Hid (∀ (j : Nat) x, j < k + 1 → S[j]? = some x → x ≤ lim) := fun j y hj hy => by
          by_cases e : j = k
          · subst e; rw [HX.out] at hy; rw [← Option.some.inj hy]; omega
          · exact ha.out j y (by omega) hy
        go_wp2_with fail
        refine (C.out x false (by simpa using g)).mono ?_
        rintro e w' ⟨rfl, rfl⟩
        clear ha g
        go_wp2
        exact ⟨⟨k + 1, by omega, by go_num, ha'⟩, by simp only [intOf]; omega⟩
    · obtain rfl : k = n := by omega
      have R : Hid (FirstAbove S lim (-1)) := Or.inl ⟨rfl, fun i x hx => ha.out i x (by have := (List.getElem?_eq_some_iff.1 hx).1; have := HN.out; omega) hx⟩
      go_wp2
      go_ret
      exact ⟨_, rfl, R.out, rfl⟩

theorem firstAbove_sums {zs : List Int} {al lim r : Int} (h : FirstAbove (sumsTo zs al zs.length) lim r) :
    (r = -1 ∧ IsAlarm zs al lim 0 0 false) ∨ ∃ i : Nat, r = i ∧ i < zs.length ∧ IsAlarm zs al lim (fromAt zs al i) i true := by
  rcases h with ⟨rfl, h⟩ | ⟨i, rfl, hi, h1, h2⟩
  · exact .inl ⟨rfl, .calm fun i hi => h i _ (sumsTo_get zs al _ i hi)⟩
  · rw [sumsTo_len] at hi
    exact .inr ⟨i, rfl, hi, .raised i hi (h1 _ (sumsTo_get zs al _ i hi)) fun j hj => h2 j _ hj (sumsTo_get zs al _ j (by omega))⟩

theorem alarm_uniq {zs : List Int} {al lim f r f' r' : Int} {b b' : Bool} (h : IsAlarm zs al lim f r b) (h' : IsAlarm zs al lim f' r' b') : f = f' ∧ r = r' ∧ b = b' := by
  cases h with
  | calm h =>
    cases h' with
    | calm h' => exact ⟨rfl, rfl, rfl⟩
    | raised i hi h1 h2 => have := h i hi; omega
  | raised i hi h1 h2 =>
    cases h' with
    | calm h' => have := h' i hi; omega
    | raised j hj k1 k2 =>
      have e : i = j := by
        rcases Nat.lt_trichotomy i j with g | g | g
        · have := k2 i g; omega
        · exact g
        · have := h2 j g; omega
      subst e
      exact ⟨rfl, rfl, rfl⟩

set_option maxRecDepth 100000 in
set_option maxHeartbeats 8000000 in
theorem implAlarm_yes (v : Value) (zs : List Int) (al lim : Int) (w : World) (h : RdI w v zs) (hb : Bal zs) (ha : Bnd al) (hl : Bnd lim) (f r : Int) (b : Bool) (hA : IsAlarm zs al lim f r b) :
    Calls Try.prog 23 #[v, .int .i64 al, .int .i64 lim] w fun e w' => e = .returned (.tuple #[.int .i64 f, .int .i64 r, .bool b]) ∧ Below w.heap.size w w' := by
  have C1 := Lib.hid (fun w h => sums_yes v zs al w h hb ha)
  have C2 := Lib.hid (fun w => isWeight_any lim w true (by simpa [Bnd] using hl))
  have H := Lib.hid h
  obtain ⟨a, cap, rfl, ra⟩ := h
  obtain ⟨n, hn⟩ : ∃ n, n = zs.length := ⟨_, rfl⟩
  have ln : n ≤ 60 := by have := hb.1; omega
  have HA := Lib.hid hA
  have HN := Lib.hid hn
  rw [← hn] at C1
  rw [← hn] at H
  rw [← hn]
  clear ra hn hb ha hl hA
  go_enter Try.func23, Try.ntmps23
  go_wp2_with fail
  refine (C1.out _ (H.out.later (by go_grown))).mono ?_
  rintro e w1 ⟨u, rfl, o1, b1⟩
  have n1 := (b1.block w.heap.size (by simp only [World.size_alloc]; omega)).trans (heap_alloc_new w _)
  have cL : w1.cell? ⟨w.heap.size, 0, none⟩ = some (.int .i64 lim) := cell_of_row w1 w.heap.size 0 _ 2 (0, 0) n1
  have B1 : Hid (Below w.heap.size w w1) := Below.trans (by go_grown) (b1.mono (by simp only [World.size_alloc]; omega))
  have RU := Lib.hid o1.rd
  obtain ⟨bu, cu, hform, hrow⟩ := o1.rd
  rw [sumsTo_len] at hform
  subst hform
  have ROW := Lib.hid hrow
  have C3 := Lib.hid (indexAbove_any w.heap.size lim (.slice bu n cu) (sumsTo zs al n) w1 RU.out (by rw [sumsTo_len]; omega) cL)
  have SG := Lib.hid (fun i h => sumsTo_get zs al n i h)
  clear o1 b1 n1 hrow C1 H
  go_wp2_with fail
  refine C3.out.mono ?_
  rintro e w' ⟨x, rfl, hx, rfl⟩
  have FA := Lib.hid (firstAbove_sums (by rw [← HN.out]; exact hx))
  clear hx C3
  rcases FA.out with ⟨rfl, hc⟩ | ⟨i, rfl, hi, hc⟩
  · obtain ⟨rfl, rfl, rfl⟩ := alarm_uniq HA.out hc
    clear hc FA HA
    go_wp2_with fail
    refine (C2.out _).mono ?_
    rintro e w' ⟨rfl, rfl⟩
    go_wp2
    go_ret3
    exact ⟨rfl, B1.out⟩
  · obtain ⟨rfl, rfl, rfl⟩ := alarm_uniq HA.out hc
    have hin : i < n := by have := HN.out; omega
    have i0 : ¬ ((i : Int) < 0) := by omega
    clear hc FA HA
    go_wp2_with fail
    refine (C2.out _).mono ?_
    rintro e w' ⟨rfl, rfl⟩
    go_wp2
    obtain ⟨F, hF⟩ : ∃ F, F = fromAt zs al i := ⟨_, rfl⟩
    have HF0 := Lib.hid hF
    go_loop [12] (fun bv => ∃ b : Nat, b ≤ i ∧ bv = .int .i64 b ∧ Hid (F = fromAt zs al b)) (fun bv => (intOf bv).toNat)
    case atStart => exact ⟨i, by omega, rfl, hF⟩
    case round =>
      obtain ⟨b, hbi, rfl, hf⟩ := hrel
      clear hF
      by_cases h0 : b = 0
      · subst h0
        have hf' : F = 0 := by rw [hf.out]; rfl
        have HF := Lib.hid hf'
        clear hf hf'
        go_wp2
        go_ret3
        exact ⟨by simp [← HF0.out, HF.out], B1.out⟩
      · obtain ⟨c, rfl⟩ : ∃ c, b = c + 1 := ⟨b - 1, by omega⟩
        obtain ⟨ba, oa, rfl, ca'⟩ := ROW.out.resolve_left (by intro h; have := sumsTo_len zs al n; rw [h] at this; simp at this; omega)
        have c1 := ca' c _ (SG.out c (by omega))
        have q1 : IntKind.i64.wrap (((c + 1 : Nat) : Int) - 1) = (c : Int) := by rw [IntWalk.i64_in _ (by omega)]; push_cast; omega
        have cn : c < n := by omega
        have s0 := sumAt_nonneg zs al (c + 1)
        have FS : fromAt zs al (c + 1) = if sumAt zs al (c + 1) = 0 then c + 1 else fromAt zs al c := rfl
        obtain ⟨s, hs⟩ : ∃ s, s = sumAt zs al (c + 1) := ⟨_, rfl⟩
        rw [← hs] at c1 s0 FS
        have d1 : decide ((0 : Int) < ((c + 1 : Nat) : Int)) = true := decide_eq_true (by omega)
        have FF := Lib.hid FS
        clear ca' hs h0 FS
        by_cases g : 0 < s
        · have hf' : Hid (F = fromAt zs al c) := by show _ = _; rw [hf.out, FF.out, if_neg (by omega)]
          have d2 : decide (0 < s) = true := by simpa using g
          clear hf FF g
          go_wp2
          exact ⟨⟨c, by omega, by go_num, hf'⟩, by simp only [intOf]; omega⟩
        · have hf' : F = c + 1 := by rw [hf.out, FF.out, if_pos (by omega)]
          have d2 : decide (0 < s) = false := by simpa using g
          have HF := Lib.hid hf'
          clear hf FF g hf'
          go_wp2
          go_ret3
          exact ⟨by simp [← HF0.out, HF.out], B1.out⟩

set_option maxHeartbeats 4000000 in
theorem implAlarm_no (v : Value) (zs : List Int) (al lim : Int) (w : World) (h : RdI w v zs) (lz : zs.length ≤ 1099511627776) (hb : ¬ (Bal zs ∧ Bnd al ∧ Bnd lim)) :
    Calls Try.prog 23 #[v, .int .i64 al, .int .i64 lim] w fun e w' => e = .returned (.tuple #[.int .i64 0, .int .i64 0, .bool false]) ∧ Below w.heap.size w w' := by
  have H := Lib.hid h
  obtain ⟨a, cap, rfl, ra⟩ := h
  by_cases h1 : Bal zs ∧ Bnd al
  · have h2 : ¬ Bnd lim := fun h => hb ⟨h1.1, h1.2, h⟩
    have C1 := Lib.hid (fun w h => sums_yes (.slice a zs.length cap) zs al w h h1.1 h1.2)
    have C2 := Lib.hid (fun w => isWeight_any lim w false (by simpa [Bnd] using h2))
    have ln := h1.1.1
    obtain ⟨n, hn⟩ : ∃ n, n = zs.length := ⟨_, rfl⟩
    rw [← hn] at C1 H ln
    rw [← hn]
    clear hb h1 h2 ra lz hn
    go_enter Try.func23, Try.ntmps23
    go_wp2_with fail
    refine (C1.out _ (H.out.later (by go_grown))).mono ?_
    rintro e w1 ⟨u, rfl, o1, b1⟩
    have n1 := (b1.block w.heap.size (by simp only [World.size_alloc]; omega)).trans (heap_alloc_new w _)
    have cL : w1.cell? ⟨w.heap.size, 0, none⟩ = some (.int .i64 lim) := cell_of_row w1 w.heap.size 0 _ 2 (0, 0) n1
    have B1 : Hid (Below w.heap.size w w1) := Below.trans (by go_grown) (b1.mono (by simp only [World.size_alloc]; omega))
    have RU := Lib.hid o1.rd
    obtain ⟨bu, cu, hform, -⟩ := o1.rd
    rw [sumsTo_len] at hform
    subst hform
    have C3 := Lib.hid (fun lx => indexAbove_any w.heap.size lim _ _ w1 RU.out lx cL)
    rw [sumsTo_len] at C3
    clear o1 b1 n1 C1 H
    go_wp2_with fail
    refine (C3.out (by omega)).mono ?_
    rintro e w' ⟨x, rfl, hx, rfl⟩
    clear hx C3
    go_wp2_with fail
    refine (C2.out _).mono ?_
    rintro e w' ⟨rfl, rfl⟩
    go_wp2
    go_ret3
    exact ⟨rfl, B1.out⟩
  · have C1 := Lib.hid (fun w h => sums_no (.slice a zs.length cap) zs al w h lz h1)
    generalize zs.length = n at *
    clear hb h1 ra lz
    go_enter Try.func23, Try.ntmps23
    go_wp2_with fail
    refine (C1.out _ (H.out.later (by go_grown))).mono ?_
    rintro e w1 ⟨rfl, hw⟩
    subst hw
    have cL := cell_of_row (w.alloc (.cells #[.int .i64 lim] 2)) w.heap.size 0 _ 2 (0, 0) (heap_alloc_new w _)
    have C3 := Lib.hid (indexAbove_any w.heap.size lim (.slice none 0 0) [] (w.alloc (.cells #[.int .i64 lim] 2)) ⟨none, 0, rfl, .inl rfl⟩ (by simp) cL)
    clear C1 cL
    go_wp2_with fail
    refine C3.out.mono ?_
    rintro e w' ⟨x, rfl, hx, rfl⟩
    clear hx C3
    go_wp2
    go_ret3
    exact ⟨rfl, by go_grown⟩
end Go.Proofs.Ytobfephcmiolbaa
