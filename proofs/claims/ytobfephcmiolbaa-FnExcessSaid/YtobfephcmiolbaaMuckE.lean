/- The greatest excess on both sides. -/
import Derived.Test.YtobfephcmiolbaaMuckG
namespace Go.Proofs.Ytobfephcmiolbaa
open Go.ChangeShapes Go.WideShapes Go.ChangeAt Go.RowKit
set_option linter.unusedVariables false
set_option linter.unusedSimpArgs false

set_option maxHeartbeats 4000000 in
theorem implGreatest_yes (v : Value) (zs : List Int) (al : Int) (w : World) (h : RdI w v zs) (hb : Bal zs) (ha : Bnd al) (h0 : 0 < zs.length) (f u : Nat) (m : Int) (hB : IsBest zs al zs.length f u m) :
    Calls Try.prog 26 #[v, .int .i64 al] w fun e w' => e = .returned (.tuple #[.int .i64 f, .int .i64 u, .int .i64 m, .bool true]) ∧ Below w.heap.size w w' := by
  have C1 := Lib.hid (excesses_yes v zs al w h hb ha)
  have C2 := Lib.hid (fun B v w h => greatestWin_any B v zs al w h hb ha h0 f u m hB)
  obtain ⟨a, cap, rfl, ra⟩ := h
  obtain ⟨n, hn⟩ : ∃ n, n = zs.length := ⟨_, rfl⟩
  have ln : n ≤ 60 := by have := hb.1; omega
  have n1 : ¬ ((n : Int) = 0) := by omega
  have n2 : ((n : Int) == 0) = false := by simpa using n1
  have LE : Hid ((exL zs al).length = n) := by show _ = _; rw [exL_len]; exact hn.symm
  rw [← hn] at C1
  rw [← hn]
  clear ra hn hb ha hB h0 n1
  go_enter Try.func26, Try.ntmps26
  go_wp2_with fail
  refine C1.out.mono ?_
  rintro e w1 ⟨x, rfl, o1, b1⟩
  obtain ⟨bu, cu, hform, -⟩ := o1.rd
  rw [LE.out] at hform
  subst hform
  have O1 := Lib.hid o1
  have B1 := Lib.hid b1
  have z1 := b1.size
  clear o1 b1 C1
  go_wp2_with fail
  refine (C2.out _ _ _ O1.out).mono ?_
  rintro e w2 ⟨rfl, b2⟩
  have B2 : Hid (Below w.heap.size w w2) := B1.out.trans (b2.mono z1)
  clear b2 C2
  go_wp2
  go_quiet (fail)
  go_wp2
  refine bodyPost_ret (v := .tuple #[.int .i64 f, .int .i64 u, .int .i64 m, .bool true]) (by simp [results, Try.results26, go_sem]; try rfl) rfl ⟨rfl, ?_⟩
  have BB := B2.out
  have zz := BB.size
  exact Below.trans (BB.alloc zz _) ⟨rfl, rfl, rfl, Nat.le_refl _, fun _ _ => rfl⟩

theorem implGreatest_no (v : Value) (zs : List Int) (al : Int) (w : World) (h : RdI w v zs) (lz : zs.length ≤ 1099511627776) (hb : ¬ (Bal zs ∧ Bnd al ∧ 0 < zs.length)) :
    Calls Try.prog 26 #[v, .int .i64 al] w fun e w' => e = .returned (.tuple #[.int .i64 0, .int .i64 0, .int .i64 0, .bool false]) ∧ Below w.heap.size w w' := by
  by_cases h1 : Bal zs ∧ Bnd al
  · have e : zs = [] := by
      have : ¬ 0 < zs.length := fun h => hb ⟨h1.1, h1.2, h⟩
      exact List.eq_nil_of_length_eq_zero (by omega)
    subst e
    have C1 := Lib.hid (excesses_yes v [] al w h h1.1 h1.2)
    obtain ⟨a, cap, rfl, ra⟩ := h
    clear ra hb h1 lz
    go_enter Try.func26, Try.ntmps26
    go_wp2_with fail
    refine C1.out.mono ?_
    rintro e w1 ⟨x, rfl, o1, b1⟩
    obtain ⟨bu, cu, rfl, -⟩ := o1.rd
    have B1 := Lib.hid b1
    clear o1 b1 C1
    go_wp2
    refine bodyPost_ret (v := .tuple #[.int .i64 0, .int .i64 0, .int .i64 0, .bool false]) (by simp [results, Try.results26, go_sem]; try rfl) rfl ⟨rfl, B1.out⟩
  · have C1 := Lib.hid (excesses_no v zs al w h lz h1)
    obtain ⟨a, cap, rfl, ra⟩ := h
    generalize zs.length = n at *
    clear ra hb h1 lz
    go_enter Try.func26, Try.ntmps26
    go_wp2_with fail
    refine C1.out.mono ?_
    rintro e w1 ⟨rfl, rfl⟩
    go_wp2
    refine bodyPost_ret (v := .tuple #[.int .i64 0, .int .i64 0, .int .i64 0, .bool false]) (by simp [results, Try.results26, go_sem]; try rfl) rfl ⟨rfl, Below.refl _ _⟩

/-- What the specification has found ahead of the rings from i to k. -/
structure Scan (zs : List Int) (al : Int) (n i k f u : Nat) (m : Int) : Prop where
  le : f ≤ u
  lt : u < n
  eq : m = pre zs al (u + 1) - pre zs al f
  most : ∀ f' u', f' ≤ u' → u' < n → (f' < i ∨ f' = i ∧ u' < k) → pre zs al (u' + 1) - pre zs al f' ≤ m
  first : ∀ f' u', f' ≤ u' → u' < n → (f' < f ∨ f' = f ∧ u' < u) → pre zs al (u' + 1) - pre zs al f' < m
  ord : (f < i ∨ f = i ∧ u < k) ∨ (f = 0 ∧ u = 0)

theorem scan_zero {zs : List Int} {al x : Int} {n : Nat} (hn : 0 < n) (hx : zs[0]? = some x) : Scan zs al n 0 0 0 0 (x - al) := by
  have e : pre zs al (0 + 1) = x - al := by rw [pre_succ hx]; simp [pre]
  have e0 : pre zs al 0 = 0 := rfl
  exact ⟨by omega, hn, by omega, fun f' u' h1 h2 h3 => by omega, fun f' u' h1 h2 h3 => by omega, .inr ⟨rfl, rfl⟩⟩

theorem scan_more {zs : List Int} {al m s : Int} {n i k f u : Nat} (h : Scan zs al n i k f u m) (hik : i ≤ k) (hk : k < n) (hs : s = pre zs al (k + 1) - pre zs al i) (hm : m < s) : Scan zs al n i (k + 1) i k s := by
  refine ⟨hik, hk, hs, fun f' u' h1 h2 h3 => ?_, fun f' u' h1 h2 h3 => ?_, .inl (.inr ⟨rfl, by omega⟩)⟩
  · by_cases e : f' = i ∧ u' = k
    · obtain ⟨rfl, rfl⟩ := e; omega
    · have := h.most f' u' h1 h2 (by omega); omega
  · have := h.most f' u' h1 h2 h3; omega

theorem scan_keep {zs : List Int} {al m s : Int} {n i k f u : Nat} (h : Scan zs al n i k f u m) (hs : s = pre zs al (k + 1) - pre zs al i) (hm : ¬ m < s) : Scan zs al n i (k + 1) f u m := by
  refine ⟨h.le, h.lt, h.eq, fun f' u' h1 h2 h3 => ?_, h.first, by have := h.ord; omega⟩
  by_cases e : f' = i ∧ u' = k
  · obtain ⟨rfl, rfl⟩ := e; omega
  · exact h.most f' u' h1 h2 (by omega)

theorem scan_row {zs : List Int} {al m : Int} {n i f u : Nat} (h : Scan zs al n i n f u m) : Scan zs al n (i + 1) (i + 1) f u m :=
  ⟨h.le, h.lt, h.eq, fun f' u' h1 h2 h3 => h.most f' u' h1 h2 (by omega), h.first, by have := h.ord; omega⟩

theorem scan_all {zs : List Int} {al m : Int} {n f u : Nat} (h : Scan zs al n n n f u m) : IsBest zs al n f u m :=
  ⟨h.le, h.lt, h.eq, fun f' u' h1 h2 => h.most f' u' h1 h2 (by omega), h.first⟩

theorem scan_bd {zs : List Int} {al m : Int} {i k f u : Nat} (h : Scan zs al zs.length i k f u m) (hb : Bal zs) (ha : Bnd al) : -1000000000 ≤ m ∧ m ≤ 1000000000 ∧ f ≤ 60 ∧ u ≤ 60 := by
  have h3 := pre_bd hb.2 ha (u + 1) (by have := h.lt; omega)
  have h4 := pre_bd hb.2 ha f (by have := h.lt; have := h.le; omega)
  have := hb.1
  have := h.eq; have := h.le; have := h.lt
  omega

set_option maxRecDepth 100000 in
set_option maxHeartbeats 8000000 in
theorem specGreatest_yes (v : Value) (zs : List Int) (al : Int) (w : World) (h : RdI w v zs) (hb : Bal zs) (ha : Bnd al) (h0 : 0 < zs.length) (f u : Nat) (m : Int) (hB : IsBest zs al zs.length f u m) :
    Calls Try.prog 35 #[v, .int .i64 al] w fun e w' => e = .returned (.tuple #[.int .i64 f, .int .i64 u, .int .i64 m, .bool true]) ∧ Below w.heap.size w w' := by
  have C1 := Lib.hid (fun w h => l06Balance_any v zs w h (by have := hb.1; omega) true (by simpa using hb))
  have C2 := Lib.hid (fun w => l06Bound_any al w true (by simpa using ha))
  have H := Lib.hid h
  obtain ⟨a, cap, rfl, ra⟩ := h
  obtain ⟨x0, hx0⟩ : ∃ x, zs[0]? = some x := ⟨_, List.getElem?_eq_getElem h0⟩
  have xb := hb.2.at hx0
  obtain ⟨n, hn⟩ : ∃ n, n = zs.length := ⟨_, rfl⟩
  have ln : n ≤ 60 := by have := hb.1; omega
  have n1 : 1 ≤ n := by omega
  have n2 : ((n : Int) == 0) = false := by have : ¬ ((n : Int) = 0) := by omega
                                           simpa using this
  have S0 := Lib.hid (scan_zero (al := al) (n := n) (by omega) hx0)
  have HBD := Lib.hid (fun i k f u m (h : Scan zs al zs.length i k f u m) => scan_bd h hb ha)
  have HPB := Lib.hid (fun k hk => pre_bd hb.2 ha k hk)
  have HXB := Lib.hid (fun (k : Nat) x (hx : zs[k]? = some x) => hb.2.at hx)
  rw [← hn] at HBD HPB
  have HBE := Lib.hid hB
  rw [← hn] at HBE
  rw [← hn] at H C1
  rw [← hn]
  obtain ⟨ba, oa, rfl, ca⟩ := ra.resolve_left (by intro h; rw [h] at h0; simp at h0)
  have c0 := ca 0 x0 hx0
  rw [Nat.add_zero] at c0
  have CA := Lib.hid ca
  have HN := Lib.hid hn
  obtain ⟨a0, a1⟩ := ha
  have q0 : IntKind.i64.wrap (x0 - al) = x0 - al := IntWalk.i64_in _ (by omega)
  clear ra hn hb hB h0 hx0 ca
  go_enter Try.func35, Try.ntmps35
  go_wp2_with fail
  refine (C1.out _ H.out).mono ?_
  rintro e w' ⟨rfl, rfl⟩
  go_wp2_with fail
  refine (C2.out _).mono ?_
  rintro e w' ⟨rfl, rfl⟩
  go_wp2
  clear c0 q0 xb
  go_loop [8, 9, 10, 11] (fun fv uv mv iv => ∃ (i f' u' : Nat) (m' : Int), i ≤ n ∧ fv = .int .i64 f' ∧ uv = .int .i64 u' ∧ mv = .int .i64 m' ∧ iv = .int .i64 i ∧ Hid (Scan zs al n i i f' u' m')) (fun _ _ _ iv => n - (intOf iv).toNat)
  case atStart => exact ⟨0, 0, 0, _, by omega, rfl, rfl, rfl, rfl, S0⟩
  case round =>
    obtain ⟨i, f', u', m', hi, rfl, rfl, rfl, rfl, SC⟩ := hrel
    clear S0
    by_cases hlt : i < n
    · go_wp2
      go_loop [8, 9, 10, 12, 13] (fun fv uv mv sv kv => ∃ (k f' u' : Nat) (m' s : Int), i ≤ k ∧ k ≤ n ∧ fv = .int .i64 f' ∧ uv = .int .i64 u' ∧ mv = .int .i64 m' ∧ sv = .int .i64 s ∧ kv = .int .i64 k ∧ Hid (s = pre zs al k - pre zs al i) ∧ Hid (Scan zs al n i k f' u' m')) (fun _ _ _ _ kv => n - (intOf kv).toNat)
      case atStart => exact ⟨i, f', u', m', 0, by omega, by omega, rfl, rfl, rfl, rfl, rfl, by show (0 : Int) = _; omega, SC⟩
      case round =>
        obtain ⟨k, f', u', m', s, hik, hk, rfl, rfl, rfl, rfl, rfl, hs, SK⟩ := hrel
        clear SC
        by_cases hkl : k < n
        · obtain ⟨x, hx⟩ : ∃ x, zs[k]? = some x := ⟨_, List.getElem?_eq_getElem (by have := HN.out; omega)⟩
          have xb := HXB.out k x hx
          have c1 := CA.out k x hx
          have p1 := HPB.out k hk
          have p2 := HPB.out i (by omega)
          have hs' := hs.out
          have bd := HBD.out _ _ _ _ _ SK.out
          have sb : -1000000000 ≤ s ∧ s ≤ 1000000000 := by omega
          have NS : Hid (s + (x - al) = pre zs al (k + 1) - pre zs al i) := by show _ = _; rw [pre_succ hx]; omega
          have q1 : IntKind.i64.wrap (x - al) = x - al := IntWalk.i64_in _ (by omega)
          have q2 : IntKind.i64.wrap (s + (x - al)) = s + (x - al) := IntWalk.i64_in _ (by omega)
          clear hx p1 p2 hs' hs xb
          by_cases g : m' < s + (x - al)
          · have S1 := Lib.hid (scan_more SK.out hik hkl NS.out g)
            have d : decide (m' < s + (x - al)) = true := by simpa using g
            clear SK g
            go_wp2
            exact ⟨⟨k + 1, i, k, _, _, by omega, by omega, rfl, rfl, rfl, rfl, by go_num, NS, S1⟩, by simp only [intOf]; omega⟩
          · have S1 := Lib.hid (scan_keep SK.out NS.out g)
            have d : decide (m' < s + (x - al)) = false := by simpa using g
            clear SK g
            go_wp2
            exact ⟨⟨k + 1, f', u', m', _, by omega, by omega, rfl, rfl, rfl, rfl, by go_num, NS, S1⟩, by simp only [intOf]; omega⟩
        · obtain rfl : k = n := by omega
          have S1 := Lib.hid (scan_row SK.out)
          clear SK hs
          go_wp2
          exact ⟨⟨i + 1, f', u', m', by omega, rfl, rfl, rfl, by go_num, S1⟩, by simp only [intOf]; omega⟩
    · obtain rfl : i = n := by omega
      obtain ⟨rfl, rfl, rfl⟩ := HBE.out.uniq (scan_all SC.out)
      clear SC
      go_wp2
      refine bodyPost_ret (v := .tuple #[.int .i64 f, .int .i64 u, .int .i64 m, .bool true]) (by simp [results, Try.results35, go_sem]; try rfl) rfl ⟨rfl, Below.refl _ _⟩

theorem specGreatest_no (v : Value) (zs : List Int) (al : Int) (w : World) (h : RdI w v zs) (lz : zs.length ≤ 1099511627776) (hb : ¬ (Bal zs ∧ Bnd al ∧ 0 < zs.length)) :
    Calls Try.prog 35 #[v, .int .i64 al] w fun e w' => e = .returned (.tuple #[.int .i64 0, .int .i64 0, .int .i64 0, .bool false]) ∧ Below w.heap.size w w' := by
  obtain ⟨b1, h1⟩ : ∃ b : Bool, b = true ↔ Bal zs := ok_bool' _
  obtain ⟨b2, h2⟩ : ∃ b : Bool, b = true ↔ Bnd al := ok_bool' _
  have C1 := Lib.hid (fun w h => l06Balance_any v zs w h (by omega) b1 h1)
  have C2 := Lib.hid (fun w => l06Bound_any al w b2 h2)
  have H := Lib.hid h
  obtain ⟨a, cap, rfl, ra⟩ := id H.out
  have hn : ¬ (b1 = true ∧ b2 = true ∧ 0 < zs.length) := by rw [h1, h2]; exact hb
  generalize zs.length = n at *
  clear h hb ra h1 h2
  cases b1 with
  | false =>
    clear hn
    go_enter Try.func35, Try.ntmps35
    go_wp2_with fail
    refine (C1.out _ H.out).mono ?_
    rintro e w' ⟨rfl, rfl⟩
    go_wp2
    refine bodyPost_ret (v := .tuple #[.int .i64 0, .int .i64 0, .int .i64 0, .bool false]) (by simp [results, Try.results35, go_sem]; try rfl) rfl ⟨rfl, Below.refl _ _⟩
  | true =>
  cases b2 with
  | false =>
    clear hn
    go_enter Try.func35, Try.ntmps35
    go_wp2_with fail
    refine (C1.out _ H.out).mono ?_
    rintro e w' ⟨rfl, rfl⟩
    go_wp2_with fail
    refine (C2.out _).mono ?_
    rintro e w' ⟨rfl, rfl⟩
    go_wp2
    refine bodyPost_ret (v := .tuple #[.int .i64 0, .int .i64 0, .int .i64 0, .bool false]) (by simp [results, Try.results35, go_sem]; try rfl) rfl ⟨rfl, Below.refl _ _⟩
  | true =>
    obtain rfl : n = 0 := by
      have : ¬ 0 < n := fun h => hn ⟨rfl, rfl, h⟩
      omega
    clear hn
    go_enter Try.func35, Try.ntmps35
    go_wp2_with fail
    refine (C1.out _ H.out).mono ?_
    rintro e w' ⟨rfl, rfl⟩
    go_wp2_with fail
    refine (C2.out _).mono ?_
    rintro e w' ⟨rfl, rfl⟩
    go_wp2
    refine bodyPost_ret (v := .tuple #[.int .i64 0, .int .i64 0, .int .i64 0, .bool false]) (by simp [results, Try.results35, go_sem]; try rfl) rfl ⟨rfl, Below.refl _ _⟩

theorem exGreatestExcess (zs : List Int) (al : Int) (lz : zs.length ≤ 1048576) : ∃ (f u m : Int) (b : Bool),
    Hid (∀ (w : World) (v : Value), (fun _ => True) w → RdI w v zs → Calls Try.prog 35 #[v, .int .i64 al] w fun e w' => e = .returned (.tuple #[.int .i64 f, .int .i64 u, .int .i64 m, .bool b]) ∧ Below w.heap.size w w') ∧
    Hid (∀ (w : World) (v : Value), (fun _ => True) w → RdI w v zs → Calls Try.prog 26 #[v, .int .i64 al] w fun e w' => e = .returned (.tuple #[.int .i64 f, .int .i64 u, .int .i64 m, .bool b]) ∧ Below w.heap.size w w') := by
  by_cases hb : Bal zs ∧ Bnd al ∧ 0 < zs.length
  · obtain ⟨f, u, m, hB⟩ := best_ex zs al hb.2.2
    exact ⟨f, u, m, true, fun w v _ h => specGreatest_yes v zs al w h hb.1 hb.2.1 hb.2.2 f u m hB, fun w v _ h => implGreatest_yes v zs al w h hb.1 hb.2.1 hb.2.2 f u m hB⟩
  · exact ⟨0, 0, 0, false, fun w v _ h => specGreatest_no v zs al w h (by omega) hb, fun w v _ h => implGreatest_no v zs al w h (by omega) hb⟩
end Go.Proofs.Ytobfephcmiolbaa
