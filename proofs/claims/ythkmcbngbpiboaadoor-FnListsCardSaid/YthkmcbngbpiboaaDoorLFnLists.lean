/- The law of lists and their texts. -/
import Derived.Test.YthkmcbngbpiboaaDoorB10L
import Derived.Test.YthkmcbngbpiboaaDoorLListText
import Derived.Test.YthkmcbngbpiboaaDoorLReadList
namespace Go.Proofs.YthkmcbngbpiboaaDoor
open Go.ChangeShapes Go.WideShapes Go.ChangeAt Go.RowKit
set_option linter.unusedVariables false
set_option linter.unusedSimpArgs false

set_option maxHeartbeats 1000000 in
theorem numsEq_any (a b : Value) (xs ys : List Int) (w : World) (ha : RdI w a xs) (hb : RdI w b ys) (lx : xs.length ≤ 4611686018427387904) (ly : ys.length ≤ 4611686018427387904) (r : Bool) (hr : r = true ↔ xs = ys) :
    Calls Tryd.prog 27 #[a, b] w fun e w' => e = .returned (.bool r) ∧ ∃ n, w' = w.drewN n := by
  obtain ⟨pa, ca, rfl, ra⟩ := ha
  obtain ⟨pb, cb, rfl, rb⟩ := hb
  have HR := Lib.hid hr
  have RA := Lib.hid ra
  have RB := Lib.hid rb
  clear hr ra rb
  by_cases hl : (xs.length : Int) = ys.length
  · obtain ⟨n, hn⟩ : ∃ n, n = xs.length := ⟨_, rfl⟩
    have hn' : n = ys.length := by omega
    rw [← hn, ← hn']
    rw [← hn] at lx
    have HN := Lib.hid hn
    have HN' := Lib.hid hn'
    clear hl hn hn' ly
    go_enter Tryd.func27, Tryd.ntmps27
    go_wp2
    go_loopw [5] (fun i wr => ∃ k m : Nat, k ≤ n ∧ i = .int .i64 k ∧ wr = w.drewN m ∧ Hid (xs.take k = ys.take k)) (fun i _ => n - (intOf i).toNat)
    case atStart => exact ⟨0, 0, by omega, rfl, rfl, rfl⟩
    case round =>
      obtain ⟨k, m, hk, rfl, rfl, ht⟩ := hrel
      by_cases hlt : k < n
      · obtain ⟨x, hx⟩ : ∃ x, xs[k]? = some x := ⟨_, List.getElem?_eq_getElem (by have := HN.out; omega)⟩
        obtain ⟨y, hy⟩ : ∃ y, ys[k]? = some y := ⟨_, List.getElem?_eq_getElem (by have := HN'.out; omega)⟩
        obtain ⟨ba, oa, rfl, ca'⟩ := RA.out.resolve_left (by intro h; have := HN.out; rw [h] at this; simp at this; omega)
        obtain ⟨bb, ob, rfl, cb'⟩ := RB.out.resolve_left (by intro h; have := HN'.out; rw [h] at this; simp at this; omega)
        have c1 := ca' k x hx
        have c2 := cb' k y hy
        have HX := Lib.hid hx
        have HY := Lib.hid hy
        clear ca' cb' hx hy
        by_cases hxy : x = y
        · subst hxy
          have ht' : Hid (xs.take (k + 1) = ys.take (k + 1)) := by
            show _ = _
            rw [List.take_add_one, List.take_add_one, HX.out, HY.out, ht.out]
          clear ht HX HY
          go_wp2
          go_quiet (fail)
          go_wp2
          exact ⟨⟨k + 1, _, by omega, by go_num, rfl, ht'⟩, by simp only [intOf]; omega⟩
        · obtain rfl : r = false := by
            cases r with
            | false => rfl
            | true =>
              have := HR.out.mp rfl
              rw [this] at HX
              exact absurd (Option.some.inj (HX.out.symm.trans HY.out)) hxy
          have hx1 : ((x != y) : Bool) = true := by simpa using hxy
          clear hxy ht HX HY
          go_wp2
          go_quiet (fail)
          go_wp2
          go_ret
          exact ⟨rfl, by rw [World.drewN_drewN]; exact ⟨_, rfl⟩⟩
      · obtain rfl : k = n := by omega
        obtain rfl : r = true := HR.out.mpr (by
          have e := ht.out
          rw [List.take_of_length_le (by have := HN.out; omega), List.take_of_length_le (by have := HN'.out; omega)] at e
          exact e)
        go_wp2
        go_ret
        exact ⟨rfl, _, rfl⟩
  · obtain rfl : r = false := by
      cases r with
      | false => rfl
      | true => exact absurd (by rw [HR.out.mp rfl]) hl
    have hx1 : (((xs.length : Int) != ys.length) : Bool) = true := by simpa using hl
    clear hl
    go_enter Tryd.func27, Tryd.ntmps27
    go_wp2
    go_ret
    exact ⟨rfl, 0, rfl⟩

/-- The check number behind the first k bytes. -/
def chkTo (n : Int) (s : ByteArray) : Nat → Int
  | 0 => n
  | k + 1 => if h : k < s.size then (257 * chkTo n s k + (s[k].toNat : Int) + 1) % 99991 else chkTo n s k

theorem chkTo_bd (n : Int) (h0 : 0 ≤ n) (h1 : n ≤ 99990) (s : ByteArray) (k : Nat) : 0 ≤ chkTo n s k ∧ chkTo n s k ≤ 99990 := by
  induction k with
  | zero => exact ⟨h0, h1⟩
  | succ k ih =>
    simp only [chkTo]
    split
    · omega
    · exact ih

theorem chkTo_succ (n : Int) (s : ByteArray) (k : Nat) (h : k < s.size) : chkTo n s (k + 1) = (257 * chkTo n s k + (s[k].toNat : Int) + 1) % 99991 := by
  simp [chkTo, h]

set_option maxHeartbeats 1000000 in
theorem implCheck_yes (n : Int) (s : ByteArray) (h0 : 0 ≤ n) (h1 : n ≤ 99990) (hs : s.size ≤ 1099511627776) (w : World) :
    Calls Tryd.prog 26 #[.int .i64 n, .string s] w fun e w' => e = .returned (.tuple #[.int .i64 (chkTo n s s.size), .bool true]) ∧ w = w' := by
  go_enter Tryd.func26, Tryd.ntmps26
  go_wp2
  go_loop [6, 14] (fun v i => ∃ (k : Nat) (c : Int), k ≤ s.size ∧ i = .int .i64 k ∧ v = .int .i64 c ∧ 0 ≤ c ∧ c ≤ 99990 ∧ Hid (c = chkTo n s k)) (fun _ i => s.size - (intOf i).toNat)
  case atStart => exact ⟨0, n, by omega, rfl, rfl, h0, h1, rfl⟩
  case round =>
    obtain ⟨k, c, hk, rfl, rfl, c0, c1, hc⟩ := hrel
    by_cases hlt : k < s.size
    · have hb := s[k].toNat_lt
      have hn := chkTo_succ n s k hlt
      rw [← hc.out] at hn
      have HN : Hid _ := hn.symm
      clear hn
      go_wp2
      exact ⟨⟨k + 1, _, by omega, by go_num, rfl, by omega, by omega, HN⟩, by simp only [intOf]; omega⟩
    · obtain rfl : k = s.size := by omega
      have e := hc.out
      subst e
      go_wp2
      go_ret2
      exact ⟨rfl, rfl⟩

theorem chkTo_fold (n : Int) (s : ByteArray) : ∀ k, k ≤ s.size → chkTo n s k = (s.data.toList.take k).foldl (fun c b => (257 * c + (b.toNat : Int) + 1) % 99991) n := by
  intro k
  induction k with
  | zero => intro _; rfl
  | succ k ih =>
    intro hk
    rw [chkTo_succ n s k (by omega), ih (by omega), List.take_add_one, byte_of s k (by omega), List.foldl_append]
    rfl
theorem chkTo_all (n : Int) (s : ByteArray) : chkTo n s s.size = s.data.toList.foldl (fun c b => (257 * c + (b.toNat : Int) + 1) % 99991) n := by
  rw [chkTo_fold n s s.size (Nat.le_refl _), List.take_of_length_le (by simp)]
theorem chkTo_cut (n : Int) (s : ByteArray) (c : Nat) (hc : c ≤ s.size) : chkTo (chkTo n (s.extract 0 c) (s.extract 0 c).size) (s.extract c s.size) (s.extract c s.size).size = chkTo n s s.size := by
  rw [chkTo_all, chkTo_all, chkTo_all, ext_bytes, ext_bytes, ← List.foldl_append]
  congr 1
  rw [List.drop_zero, Nat.sub_zero]
  have e : (s.data.toList.drop c).take (s.size - c) = s.data.toList.drop c := List.take_of_length_le (by rw [List.length_drop]; simp)
  rw [e, List.take_append_drop]
theorem wordsL_split (c : UInt8) (b : List UInt8) : ∀ a : List UInt8, wordsL c (a ++ c :: b) = wordsL c a ++ wordsL c b := by
  intro a
  induction a with
  | nil => show wordsL c (c :: b) = [] :: wordsL c b; rw [wordsL, if_pos (by simp)]
  | cons x a ih =>
    show wordsL c (x :: (a ++ c :: b)) = _
    by_cases hx : (x == c) = true
    · rw [wordsL, if_pos hx, ih, wordsL, if_pos hx]; rfl
    · rw [wordsL, if_neg hx, ih, wordsL, if_neg hx]
      obtain ⟨w, ws, e⟩ := List.exists_cons_of_ne_nil (wordsL_ne c a)
      rw [e]
      rfl
theorem no44 (m : Int) : (44 : UInt8) ∉ Lib.itoa m := by
  intro h
  by_cases hm : m < 0
  · have e : Lib.itoa m = 45 :: Lib.decDigits m.natAbs := by unfold Lib.itoa; rw [if_pos hm]
    rw [e, List.mem_cons] at h
    rcases h with h | h
    · cases h
    · have := decDigits_digit _ _ h; simp at this
  · have e : Lib.itoa m = Lib.decDigits m.toNat := by unfold Lib.itoa; rw [if_neg hm]
    rw [e] at h
    have := decDigits_digit _ _ h; simp at this
theorem itoa_dash (m : Int) : Lib.itoa m ≠ [45] := by
  intro h
  by_cases hm : m < 0
  · have e : Lib.itoa m = 45 :: Lib.decDigits m.natAbs := by unfold Lib.itoa; rw [if_pos hm]
    rw [e] at h
    have := decDigits_ne m.natAbs
    simp at h
    exact this h
  · have e : Lib.itoa m = Lib.decDigits m.toNat := by unfold Lib.itoa; rw [if_neg hm]
    rw [e] at h
    have := decDigits_digit m.toNat 45 (by rw [h]; simp)
    simp at this
theorem words_join (xs : List Int) : ∀ k, 1 ≤ k → k ≤ xs.length → wordsL 44 (joinTo [44] xs k) = (xs.take k).map Lib.itoa := by
  intro k
  induction k with
  | zero => intro h _; omega
  | succ k ih =>
    intro _ hk
    obtain ⟨x, hx⟩ : ∃ x, xs[k]? = some x := ⟨_, List.getElem?_eq_getElem (by omega)⟩
    rw [List.take_add_one, hx, List.map_append]
    by_cases k0 : k = 0
    · subst k0
      have e : joinTo [44] xs 1 = Lib.itoa x := by simp [joinTo, List.getD, hx]
      rw [e, wordsL_none 44 _ (no44 x)]
      rfl
    · rw [joinTo_step (by omega) hx, List.singleton_append, wordsL_split, ih (by omega) (by omega), wordsL_none 44 _ (no44 x)]
      rfl
theorem listText_of {xs : List Int} (h : DrawnL xs) : LTextRes xs (listL xs) true :=
  .inl ⟨⟨by have := h.2.1; omega, fun x hx => by have := h.2.2 x hx; omega⟩, rfl, rfl⟩
theorem words_list {xs : List Int} (h : DrawnL xs) : wordsL 44 (listL xs) = xs.map Lib.itoa := by
  have p := List.length_pos_iff.2 h.1
  unfold listL
  rw [if_neg h.1, words_join xs xs.length (by omega) (Nat.le_refl _), List.take_of_length_le (Nat.le_refl _)]
theorem readsMap {xs : List Int} (h : ∀ x ∈ xs, ValI x) : Reads (xs.map Lib.itoa) xs := by
  refine ⟨by simp, fun i w x hw hx => ?_⟩
  rw [List.getElem?_map, hx] at hw
  simp only [Option.map_some, Option.some.injEq] at hw
  exact ⟨h x (List.mem_of_getElem? hx), hw.symm⟩
theorem readList_of {xs : List Int} (h : DrawnL xs) : RLRes ⟨(listL xs).toArray⟩ xs true := by
  have hw := words_list h
  refine .inr ⟨fun e => ?_, .inl ⟨?_, ?_, rfl⟩⟩
  · have e1 : listL xs = [45] := by have := congrArg (fun b : ByteArray => b.data.toList) e; simpa using this
    rw [e1] at hw
    have e2 : wordsL 44 [45] = [[45]] := by rfl
    rw [e2] at hw
    obtain ⟨x, r, rfl⟩ := List.exists_cons_of_ne_nil h.1
    simp only [List.map_cons, List.cons.injEq] at hw
    exact itoa_dash x hw.1.symm
  · show (wordsL 44 (listL xs).toArray.toList).length ≤ 64
    rw [List.toList_toArray, hw, List.length_map]
    have := h.2.1; omega
  · show Reads (wordsL 44 (listL xs).toArray.toList) xs
    rw [List.toList_toArray, hw]
    exact readsMap (fun x hx => by have := h.2.2 x hx; unfold ValI; omega)
theorem listL_size {xs : List Int} (h : DrawnL xs) : 0 < (listL xs).length ∧ (listL xs).length ≤ 1000 := by
  have hne : listL xs ≠ [] := by
    intro e
    have hw := words_list h
    rw [e] at hw
    obtain ⟨x, r, rfl⟩ := List.exists_cons_of_ne_nil h.1
    simp only [List.map_cons] at hw
    have e2 : wordsL 44 [] = [[]] := rfl
    rw [e2] at hw
    simp only [List.cons.injEq] at hw
    exact itoa_ne x hw.1.symm
  refine ⟨List.length_pos_iff.2 hne, ?_⟩
  unfold listL
  rw [if_neg h.1]
  have := joinTo_len [44] (by simp) xs (fun x hx => by have := h.2.2 x hx; omega) xs.length (Nat.le_refl _)
  have := h.2.1
  omega
theorem IsRow.laterB {k : IntKind} {w w' : World} {a : Option Addr} {len cap : Nat} {zs : List Int} (h : IsRow k w a len cap zs) (hb : Below w.heap.size w w') : IsRow k w' a len cap zs := by
  rcases h with h | ⟨x, h0, h1, h2, h3, h4, h5⟩
  · exact .inl h
  · exact .inr ⟨x, h0, h1, h2, h3, fun i hi => (hb.cell (World.block_lt_of_cell? w _ (h4 i hi))).trans (h4 i hi), h5⟩
set_option maxRecDepth 100000 in
set_option maxHeartbeats 8000000 in
theorem lists_law (w : World) (a0 : Option Addr) (len0 cap0 : Nat) (z0 : List Int) (w0 : IsRow .u8 w a0 len0 cap0 z0) (a1 : Option Addr) (len1 cap1 : Nat) (z1 : List Int) (w1 : IsRow .u8 w a1 len1 cap1 z1) (T : TSp w) (l0 : len0 ≤ 1048576) (l1 : len1 ≤ 1048576) :
    Calls Tryd.prog 7 #[.slice a0 len0 cap0, .slice a1 len1 cap1] w fun e w' => e = .returned (.bool true) ∧ Below w.heap.size w w' := by
  have HT := Lib.hid T
  have cl := Lib.hid (fun w => b10Long_any a0 a1 len0 len1 cap0 cap1 false (by simp; omega) w)
  obtain ⟨rb, rl⟩ := w0.rdB
  have CB := Lib.hid (b10List_any w _ _ rb (by omega))
  have A0 := Lib.hid (fun w h => b10At_any a1 len1 cap1 z1 w h l1 0 (by omega) 256 (by omega) (by omega))
  have A1 := Lib.hid (fun w h n hn hn2 => b10At_any a1 len1 cap1 z1 w h l1 1 (by omega) n hn hn2)
  have W1 := Lib.hid w1
  clear T w0 w1 l0 l1 rb rl
  go_enter Tryd.func7, Tryd.ntmps7
  go_wp2_with fail
  refine (cl.out _).mono ?_
  rintro e w' ⟨rfl, rfl⟩
  go_wp2_with fail
  refine CB.out.mono ?_
  rintro e x1 ⟨u, xs, rfl, o1, b1, dr⟩
  have O1 := Lib.hid o1
  have B1 := Lib.hid b1
  have CT := Lib.hid (fun v w h hT => implLText_any v xs w h (by have := dr.2.1; omega) _ true (listText_of dr) hT)
  have SZ := listL_size dr
  have CR := Lib.hid (fun w hT => implReadL_any ⟨(listL xs).toArray⟩ (by show (listL xs).toArray.size ≤ _; rw [List.size_toArray]; omega) xs true (readList_of dr) w hT)
  obtain ⟨A, hA⟩ : ∃ A : ByteArray, A = ⟨(listL xs).toArray⟩ := ⟨_, rfl⟩
  rw [← hA] at CT CR
  have sA : 0 < A.size ∧ A.size ≤ 1000 := by rw [hA]; show 0 < (listL xs).toArray.size ∧ (listL xs).toArray.size ≤ 1000; rw [List.size_toArray]; exact SZ
  obtain ⟨sA0, sA1⟩ := sA
  have DR := Lib.hid dr
  clear o1 b1 CB cl hA SZ dr
  go_wp2_with fail
  refine (CT.out _ _ O1.out.rd (HT.out.1.1.later B1.out)).mono ?_
  rintro e x2 ⟨rfl, b2⟩
  have O2 := Lib.hid (O1.out.below b2 fun k e => (O1.out.lt k e).2)
  have B2 := Lib.hid (B1.out.trans (b2.mono B1.out.size))
  clear b2 CT O1 B1
  go_wp2_with fail
  refine (CR.out _ (HT.out.later B2.out)).mono ?_
  rintro e x3 ⟨v3, rfl, o3, b3⟩
  have O3 := Lib.hid (O2.out.below b3 fun k e => (O2.out.lt k e).2)
  have B3 := Lib.hid (B2.out.trans (b3.mono B2.out.size))
  have R3 := Lib.hid o3.rd
  have W3 := Lib.hid (W1.out.laterB B3.out)
  clear b3 CR O2 B2 o3
  go_wp2_with fail
  refine (A0.out _ W3.out).mono ?_
  rintro e x4 ⟨st, rfl, st0, st1, rfl⟩
  have q1 : IntKind.i64.wrap ((A.size : Int) + 1) = (A.size : Int) + 1 := IntWalk.i64_in _ (by omega)
  go_wp2_with fail
  refine (A1.out _ W3.out ((A.size : Int) + 1) (by omega) (by omega)).mono ?_
  rintro e x4 ⟨ct, rfl, ct0, ct1, rfl⟩
  obtain ⟨c, rfl⟩ : ∃ c : Nat, ct = (c : Int) := ⟨ct.toNat, by omega⟩
  have cA : c ≤ A.size := by omega
  clear A0 A1 W3 q1 ct0 ct1
  obtain ⟨chA, hchA⟩ : ∃ x, x = chkTo st A A.size := ⟨_, rfl⟩
  obtain ⟨ch1, hch1⟩ : ∃ x, x = chkTo st (A.extract 0 c) (A.extract 0 c).size := ⟨_, rfl⟩
  have K1 : Hid (∀ w, Calls Tryd.prog 26 #[.int .i64 st, .string A] w fun e w' => e = .returned (.tuple #[.int .i64 chA, .bool true]) ∧ w = w') := fun w => by
    rw [hchA]; exact implCheck_yes st A st0 (by omega) (by omega) w
  have K2 : Hid (∀ w, Calls Tryd.prog 26 #[.int .i64 st, .string (A.extract 0 c)] w fun e w' => e = .returned (.tuple #[.int .i64 ch1, .bool true]) ∧ w = w') := fun w => by
    rw [hch1]; exact implCheck_yes st (A.extract 0 c) st0 (by omega) (by rw [ByteArray.size_extract]; omega) w
  have K3 : Hid (∀ w, Calls Tryd.prog 26 #[.int .i64 ch1, .string (A.extract c A.size)] w fun e w' => e = .returned (.tuple #[.int .i64 chA, .bool true]) ∧ w = w') := fun w => by
    have hb := chkTo_bd st st0 (by omega) (A.extract 0 c) (A.extract 0 c).size
    rw [← hch1] at hb
    have cc := chkTo_cut st A c cA
    rw [← hch1, ← hchA] at cc
    rw [← cc]
    exact implCheck_yes ch1 (A.extract c A.size) hb.1 hb.2 (by rw [ByteArray.size_extract]; omega) w
  have D0 := DR.out
  obtain ⟨x0, xr, rfl⟩ := List.exists_cons_of_ne_nil D0.1
  have v0 := D0.2.2 x0 (by simp)
  have KD := Lib.hid (fun w hT => decimal_any x0 (by omega) (by omega) w hT)
  obtain ⟨Z, hZ⟩ : ∃ A : ByteArray, A = ⟨(Lib.itoa x0).toArray⟩ := ⟨_, rfl⟩
  rw [← hZ] at KD
  have KR : Hid (∀ (w : World), TErr w → Calls Tryd.prog 14 #[.string Z] w fun e w' => e = .returned (.tuple #[.int .i64 x0, .bool true]) ∧ Below w.heap.size w w') := fun w hT => by
    rw [hZ]
    exact readDecimal_any ⟨(Lib.itoa x0).toArray⟩ (by show (Lib.itoa x0).toArray.size ≤ _; rw [List.size_toArray]; have := Lib.itoa_length_le x0 (by omega) (by omega); omega) x0 true (.inl ⟨x0, ⟨by omega, by omega⟩, by simp, rfl, rfl⟩) w hT
  have LX : (x0 :: xr).length ≤ 9 := D0.2.1
  have NE := Lib.hid (fun w ha hb => numsEq_any v3 u (x0 :: xr) (x0 :: xr) w ha hb (by omega) (by omega) true (by simp))
  have RU := Lib.hid O3.out.rd
  obtain ⟨au, cu, rfl, ru⟩ := O3.out.rd
  obtain ⟨bu, ou, rfl, cu0⟩ := ru.resolve_left (by simp)
  have e0 := cu0 0 x0 rfl
  rw [Nat.add_zero] at e0
  have lbu : bu < x3.heap.size := World.block_lt_of_cell? x3 _ e0
  obtain ⟨nx, hnx⟩ : ∃ n, n = (x0 :: xr).length := ⟨_, rfl⟩
  have pn : 0 < nx := by rw [hnx]; simp
  rw [← hnx] at NE RU LX ⊢
  clear hchA hch1 hZ D0 v0 ru cu0 hnx O3
  go_wp2_with fail
  refine (K1.out _).mono ?_
  rintro e x5 ⟨rfl, rfl⟩
  go_wp2_with fail
  refine (K2.out _).mono ?_
  rintro e x5 ⟨rfl, rfl⟩
  go_wp2_with fail
  refine (K3.out _).mono ?_
  rintro e x5 ⟨rfl, rfl⟩
  clear K1 K2 K3
  go_wp2_with fail
  refine (KD.out _ (HT.out.1.1.later B3.out)).mono ?_
  rintro e x6 ⟨rfl, b6⟩
  have B6 := Lib.hid (B3.out.trans (b6.mono B3.out.size))
  have R6 := Lib.hid (R3.out.later b6)
  have U6 := Lib.hid (RU.out.later b6)
  have e6 := (b6.cell (p := ⟨bu, ou, none⟩) lbu).trans e0
  clear b6 KD e0
  go_wp2_with fail
  refine (KR.out _ (HT.out.1.later B6.out)).mono ?_
  rintro e x7 ⟨rfl, b7⟩
  have B7 := Lib.hid (B6.out.trans (b7.mono B6.out.size))
  have R7 := Lib.hid (R6.out.later b7)
  have U7 := Lib.hid (U6.out.later b7)
  have e7 := (b7.cell (p := ⟨bu, ou, none⟩) (World.block_lt_of_cell? x6 _ e6)).trans e6
  clear b7 KR e6
  go_wp2_with fail
  refine (NE.out _ R7.out U7.out).mono ?_
  rintro e x8 ⟨rfl, n8, rfl⟩
  have e8 : (x7.drewN n8).cell? ⟨bu, ou, none⟩ = some (.int .i64 x0) := e7
  go_wp2
  go_ret
  exact ⟨rfl, below_drewN B7.out n8⟩
theorem walkFnLists (w : World) (a0 : Option Addr) (len0 cap0 : Nat) (z0 : List Int) (w0 : IsRow .u8 w a0 len0 cap0 z0) (a1 : Option Addr) (len1 cap1 : Nat) (z1 : List Int) (w1 : IsRow .u8 w a1 len1 cap1 z1) (T : TSp w) :
    Calls Tryd.prog 7 #[.slice a0 len0 cap0, .slice a1 len1 cap1] w fun e w' => e = .returned (.bool true) ∧ Below w.heap.size w w' := by
  by_cases l0 : len0 ≤ 1048576 ∧ len1 ≤ 1048576
  · exact lists_law w a0 len0 cap0 z0 w0 a1 len1 cap1 z1 w1 T l0.1 l0.2
  · have cl := Lib.hid (fun w => b10Long_any a0 a1 len0 len1 cap0 cap1 true (by simp; omega) w)
    clear T w0 w1 l0
    go_enter Tryd.func7, Tryd.ntmps7
    go_wp2_with fail
    refine (cl.out _).mono ?_
    rintro e w' ⟨rfl, rfl⟩
    go_wp2
    go_ret
    exact ⟨rfl, Below.refl _ _⟩
end Go.Proofs.YthkmcbngbpiboaaDoor
