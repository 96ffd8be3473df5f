/- Texts of lists, on both sides, and the law's walk. -/
import Derived.Test.YthkmcbngbpiboaaDoorJoin
import Derived.Test.YthkmcbngbpiboaaDoorLists
namespace Go.Proofs.YthkmcbngbpiboaaDoor
open Go.ChangeShapes Go.WideShapes Go.ChangeAt Go.RowKit
set_option linter.unusedVariables false
set_option linter.unusedSimpArgs false

theorem bool_ofL (P : Prop) : ∃ b : Bool, b = true ↔ P := by
  by_cases h : P
  · exact ⟨true, by simp [h]⟩
  · exact ⟨false, by simp [h]⟩
def ListOk (xs : List Int) : Prop := xs.length ≤ 64 ∧ AllVal xs
/-- The text of a list. -/
def listL (xs : List Int) : List UInt8 := if xs = [] then [45] else joinTo [44] xs xs.length
def LTextRes (xs : List Int) (l : List UInt8) (b : Bool) : Prop := (ListOk xs ∧ l = listL xs ∧ b = true) ∨ (¬ ListOk xs ∧ l = [] ∧ b = false)
theorem lTextRes_of (xs : List Int) : ∃ l b, LTextRes xs l b := by
  by_cases h : ListOk xs
  · exact ⟨_, _, .inl ⟨h, rfl, rfl⟩⟩
  · exact ⟨_, _, .inr ⟨h, rfl, rfl⟩⟩
theorem joinTo_step {sep : List UInt8} {xs : List Int} {k : Nat} {x : Int} (hk : 1 ≤ k) (hx : xs[k]? = some x) : joinTo sep xs (k + 1) = joinTo sep xs k ++ (sep ++ Lib.itoa x) := by
  simp only [joinTo]
  rw [if_neg (by omega)]
  simp [List.getD, hx]

set_option maxRecDepth 100000 in
set_option maxHeartbeats 8000000 in
theorem l01Text_any (v : Value) (xs : List Int) (w : World) (hr : RdI w v xs) (ok : ListOk xs) :
    Calls Tryd.prog 47 #[v] w fun e w' => e = .returned (.string ⟨(listL xs).toArray⟩) ∧ Below w.heap.size w w' := by
  obtain ⟨a, cap, rfl, rd⟩ := hr
  obtain ⟨n, hn⟩ : ∃ n, n = xs.length := ⟨_, rfl⟩
  have ln : n ≤ 64 := by rw [hn]; exact ok.1
  rw [← hn]
  have HN := Lib.hid hn
  by_cases h0 : n = 0
  · have e0 : xs = [] := List.eq_nil_of_length_eq_zero (by omega)
    subst h0
    subst e0
    clear rd ok hn
    go_enter Tryd.func47, Tryd.ntmps47
    go_wp2
    go_ret
    exact ⟨rfl, Below.refl _ _⟩
  · have hne : xs ≠ [] := by intro e; rw [e] at hn; simp at hn; omega
    obtain ⟨ba, oa, rfl, ca⟩ := rd.resolve_left hne
    have hz : ((n : Int) == 0) = false := by simp; omega
    have np : 0 < n := by omega
    obtain ⟨x0, hx0⟩ : ∃ x, xs[0]? = some x := ⟨_, List.getElem?_eq_getElem (by omega)⟩
    have c0 : w.cell? ⟨ba, oa, none⟩ = some (.int .i64 x0) := ca 0 x0 hx0
    have v0 := ok.2.at hx0
    have lb : ba < w.heap.size := World.block_lt_of_cell? w _ c0
    have C0 := Lib.hid (fun w => l01Dec_any x0 (by omega) (by omega) w)
    have CA := Lib.hid ca
    have OK := Lib.hid ok
    have HX := Lib.hid (fun x hx => (show -9223372036854775808 ≤ x ∧ x ≤ 9223372036854775807 from by have := ok.2 x hx; omega))
    have J1 : Hid (joinTo [44] xs 1 = Lib.itoa x0) := by show _ = _; simp [joinTo, List.getD, hx0]
    have LL : Hid (listL xs = joinTo [44] xs n) := by show _ = _; unfold listL; rw [if_neg hne, hn]
    clear ca ok hx0 v0 hne hn rd
    rw [LL.out]
    clear LL
    go_enter Tryd.func47, Tryd.ntmps47
    go_wp2_with fail
    refine (C0.out _).mono ?_
    rintro e w1 ⟨rfl, b1⟩
    have B1 := Lib.hid b1
    rw [← J1.out]
    clear b1 C0 J1 c0
    go_wp2
    go_loopw [3, 4] (fun t i wr => ∃ k : Nat, 1 ≤ k ∧ k ≤ n ∧ i = .int .i64 (k : Int) ∧ t = .string ⟨(joinTo [44] xs k).toArray⟩ ∧ Hid (Below w.heap.size w wr)) (fun _ i _ => n - (intOf i).toNat)
    case atStart => exact ⟨1, by omega, by omega, by simp, rfl, B1⟩
    case round =>
      obtain ⟨k, k1, kn, rfl, rfl, BK⟩ := hrel
      clear B1
      have sz := BK.out.size
      have JL : Hid ((joinTo [44] xs k).length ≤ 22 * k) := joinTo_len [44] (by simp) xs HX.out k (by rw [← HN.out]; exact kn)
      by_cases hlt : k < n
      · obtain ⟨x, hx⟩ : ∃ x, xs[k]? = some x := ⟨_, List.getElem?_eq_getElem (by have := HN.out; omega)⟩
        have cx : wr.cell? ⟨ba, oa + k, none⟩ = some (.int .i64 x) := (BK.out.cell (p := ⟨ba, oa + k, none⟩) lb).trans (CA.out k x hx)
        have vx := OK.out.2.at hx
        have q1 : IntKind.i64.wrap ((k : Int) + 1) = ((k + 1 : Nat) : Int) := by push_cast; exact IntWalk.i64_in _ (by omega)
        have C := Lib.hid (fun w => l01Dec_any x (by omega) (by omega) w)
        obtain ⟨A, hA⟩ : ∃ A : ByteArray, A = ⟨(joinTo [44] xs k).toArray⟩ := ⟨_, rfl⟩
        obtain ⟨D, hD⟩ : ∃ A : ByteArray, A = ⟨(Lib.itoa x).toArray⟩ := ⟨_, rfl⟩
        have sA : A.size ≤ 22 * k := by rw [hA]; exact JL.out
        have sD : D.size ≤ 21 := by rw [hD]; exact Lib.itoa_length_le x (by omega) (by omega)
        have JS : Hid ((⟨(joinTo [44] xs (k + 1)).toArray⟩ : ByteArray) = A ++ ((⟨#[44]⟩ : ByteArray) ++ D)) := by
          show _ = _
          rw [joinTo_step k1 hx, hA, hD, show (⟨#[44]⟩ : ByteArray) = ⟨([44] : List UInt8).toArray⟩ from rfl, str_app, str_app]
        have s1 : ((⟨#[44]⟩ : ByteArray) ++ D).size = 1 + D.size := by rw [ByteArray.size_append]; rfl
        have k2 : ¬ 9223372036854775807 < 1 + D.size := by omega
        have k3 : ¬ 9223372036854775807 < A.size + (1 + D.size) := by omega
        rw [← hD] at C
        rw [← hA]
        clear hA hD hx vx JL
        go_wp2_with fail
        refine (C.out _).mono ?_
        rintro e w2 ⟨rfl, b2⟩
        have B2 : Hid (Below w.heap.size w w2) := BK.out.trans (b2.mono sz)
        clear b2 C cx BK
        go_wp2
        exact ⟨⟨k + 1, by omega, by omega, by push_cast; rfl, by rw [JS.out], B2⟩, by simp only [intOf]; omega⟩
      · obtain rfl : k = n := by omega
        go_wp2
        go_ret
        exact ⟨rfl, BK.out⟩

set_option maxHeartbeats 4000000 in
theorem specLText_any (v : Value) (xs : List Int) (w : World) (hr : RdI w v xs) (lx : xs.length ≤ 1048576) (l : List UInt8) (b : Bool) (h : LTextRes xs l b) :
    Calls Tryd.prog 15 #[v] w fun e w' => e = .returned (.tuple #[.string ⟨l.toArray⟩, .bool b]) ∧ Below w.heap.size w w' := by
  obtain ⟨c, hc⟩ := bool_ofL (ListOk xs)
  have C1 := Lib.hid (l01List_any v xs w hr (by omega) c hc)
  have HR := Lib.hid hr
  by_cases ok : ListOk xs
  · obtain rfl : c = true := hc.mpr ok
    obtain ⟨rfl, rfl⟩ : l = listL xs ∧ b = true := by
      rcases h with h | h
      · exact h.2
      · exact absurd ok h.1
    have C2 := Lib.hid (l01Text_any v xs w hr ok)
    clear hc ok h hr
    go_enter Tryd.func15, Tryd.ntmps15
    go_wp2_with fail
    refine C1.out.mono ?_
    rintro e w1 ⟨rfl, rfl⟩
    go_wp2_with fail
    refine C2.out.mono ?_
    rintro e w2 ⟨rfl, b2⟩
    have B2 := Lib.hid b2
    clear b2 C1 C2 HR
    go_wp2
    go_ret2
    exact ⟨rfl, B2.out⟩
  · obtain rfl : c = false := by
      cases c with
      | false => rfl
      | true => exact absurd (hc.mp rfl) ok
    obtain ⟨rfl, rfl⟩ : l = [] ∧ b = false := by
      rcases h with h | h
      · exact absurd h.1 ok
      · exact h.2
    clear hc ok h hr
    go_enter Tryd.func15, Tryd.ntmps15
    go_wp2_with fail
    refine C1.out.mono ?_
    rintro e w1 ⟨rfl, rfl⟩
    clear C1 HR
    go_wp2
    go_ret2
    exact ⟨rfl, Below.refl _ _⟩

set_option maxHeartbeats 4000000 in
theorem implLText_any (v : Value) (xs : List Int) (w : World) (hr : RdI w v xs) (lx : xs.length ≤ 1048576) (l : List UInt8) (b : Bool) (h : LTextRes xs l b) (hT : TDec w) :
    Calls Tryd.prog 17 #[v] w fun e w' => e = .returned (.tuple #[.string ⟨l.toArray⟩, .bool b]) ∧ Below w.heap.size w w' := by
  obtain ⟨c, hc⟩ := bool_ofL (ListOk xs)
  have C1 := Lib.hid (isList_any v xs w hr (by omega) c hc)
  by_cases ok : ListOk xs
  · obtain rfl : c = true := hc.mpr ok
    obtain ⟨rfl, rfl⟩ : l = listL xs ∧ b = true := by
      rcases h with h | h
      · exact h.2
      · exact absurd ok h.1
    have C2 := Lib.hid (joinInts_any v xs [44] (by simp) w hr lx (fun x hx => by have := ok.2 x hx; omega) hT)
    obtain ⟨a, cap, rfl, -⟩ := hr
    obtain ⟨n, hn⟩ : ∃ n, n = xs.length := ⟨_, rfl⟩
    have HN := Lib.hid hn
    rw [← hn] at C1 C2 lx ⊢
    clear hc ok h hT hn
    by_cases h0 : n = 0
    · have e0 : xs = [] := List.eq_nil_of_length_eq_zero (by have := HN.out; omega)
      subst h0
      subst e0
      clear C2
      go_enter Tryd.func17, Tryd.ntmps17
      go_wp2_with fail
      refine C1.out.mono ?_
      rintro e w1 ⟨rfl, rfl⟩
      clear C1
      go_wp2
      go_ret2
      exact ⟨rfl, Below.refl _ _⟩
    · have hz : ((n : Int) == 0) = false := by simp; omega
      have LL : listL xs = joinTo [44] xs n := by
        unfold listL
        rw [if_neg (by intro e; have := HN.out; rw [e] at this; simp at this; omega), HN.out]
      rw [LL]
      clear LL
      go_enter Tryd.func17, Tryd.ntmps17
      go_wp2_with fail
      refine C1.out.mono ?_
      rintro e w1 ⟨rfl, rfl⟩
      go_wp2_with fail
      refine C2.out.mono ?_
      rintro e w2 ⟨rfl, b2⟩
      have B2 := Lib.hid b2
      clear b2 C1 C2
      go_wp2
      go_ret2
      exact ⟨rfl, B2.out⟩
  · obtain rfl : c = false := by
      cases c with
      | false => rfl
      | true => exact absurd (hc.mp rfl) ok
    obtain ⟨rfl, rfl⟩ : l = [] ∧ b = false := by
      rcases h with h | h
      · exact absurd h.1 ok
      · exact h.2
    clear hc ok h hT hr
    go_enter Tryd.func17, Tryd.ntmps17
    go_wp2_with fail
    refine C1.out.mono ?_
    rintro e w1 ⟨rfl, rfl⟩
    clear C1
    go_wp2
    go_ret2
    exact ⟨rfl, Below.refl _ _⟩

set_option maxHeartbeats 4000000 in
theorem listText_law (a : Option Addr) (len cap : Nat) (zs : List Int) (hl : (len : Int) ≤ 1048576) (hz : zs.length = len) (w : World) (h : RdI w (.slice a len cap) zs) (hT : TDec w) :
    Calls Tryd.prog 5 #[.slice a len cap] w fun e w' => e = .returned (.bool true) ∧ Below w.heap.size w w' := by
  obtain ⟨l, b, hr⟩ := lTextRes_of zs
  have CS := Lib.hid (fun v w h => specLText_any v zs w h (by omega) l b hr)
  have CI := Lib.hid (fun v w h hT => implLText_any v zs w h (by omega) l b hr hT)
  have H := Lib.hid h
  have HZ := Lib.hid hz
  have HT := Lib.hid hT
  obtain ⟨A, hA⟩ : ∃ A : ByteArray, A = ⟨l.toArray⟩ := ⟨_, rfl⟩
  rw [← hA] at CS CI
  clear h hz hT hr hA
  go_enter Tryd.func5, Tryd.ntmps5
  go_wp2_with fail
  refine (toInts_any _ zs w H.out (by have := HZ.out; omega)).mono ?_
  rintro e x1 ⟨v1, rfl, o1, e1⟩
  have O1 := Lib.hid o1
  have E1 := Lib.hid e1
  have hsz1 := e1.size
  clear o1 e1
  go_wp2_with fail
  refine (CS.out v1 x1 O1.out.rd).mono ?_
  rintro e y1 ⟨rfl, b1⟩
  have E1' : Hid (Below w.heap.size w y1) := E1.out.trans (b1.mono hsz1)
  have H1 : Hid (RdI y1 (.slice a len cap) zs) := H.out.later E1'.out
  have hsy := E1'.out.size
  clear b1 O1 E1 CS
  go_wp2_with fail
  refine (toInts_any _ zs y1 H1.out (by have := HZ.out; omega)).mono ?_
  rintro e x2 ⟨v2, rfl, o2, e2⟩
  have O2 := Lib.hid o2
  have E2 : Hid (Below w.heap.size w x2) := E1'.out.trans (e2.mono hsy)
  have hsz2 := E2.out.size
  clear o2 e2 E1'
  have H2 : Hid (RdI x2 (.slice a len cap) zs) := H.out.later E2.out
  go_wp2_with fail
  refine (CI.out v2 x2 O2.out.rd (HT.out.later E2.out)).mono ?_
  rintro e x3 ⟨rfl, e3⟩
  have H3 : Hid (RdI x3 (.slice a len cap) zs) := H2.out.later e3
  have O2' : Hid (RdI x3 v2 zs) := O2.out.rd.later e3
  have E3 : Hid (Below w.heap.size w x3) := E2.out.trans (e3.mono hsz2)
  have hsz3 := E3.out.size
  clear e3 CI O2 E2 H2 H1
  go_wp2_with fail
  refine (toInts_any _ zs x3 H3.out (by have := HZ.out; omega)).mono ?_
  rintro e x4 ⟨v4, rfl, o4, e4⟩
  have O4 := Lib.hid o4
  have O2'' : Hid (RdI x4 v2 zs) := O2'.out.later e4
  have E4 : Hid (Below w.heap.size w x4) := E3.out.trans (e4.mono hsz3)
  clear o4 e4
  go_wp2_with fail
  refine (eqInts_any v2 v4 zs zs x4 O2''.out O4.out.rd (by have := HZ.out; omega) (by have := HZ.out; omega) true (by simp)).mono ?_
  rintro e x5 ⟨rfl, n', rfl⟩
  go_wp2_with fail
  go_ret
  exact ⟨rfl, below_drewN E4.out n'⟩
theorem walkFnExactListText (w : World) (a0 : Option Addr) (len0 cap0 : Nat) (z0 : List Int) (w0 : IsRow .i64 w a0 len0 cap0 z0) (hT : TDec w) :
    Calls Tryd.prog 5 #[.slice a0 len0 cap0] w fun e w' => e = .returned (.bool true) ∧ Below w.heap.size w w' := by
  obtain ⟨hr, hz⟩ := w0.rd
  by_cases hl : (len0 : Int) ≤ 1048576
  · exact listText_law a0 len0 cap0 _ hl hz w hr hT
  · have hm := w0.len_le
    have hl' : 1048576 < (len0 : Int) := by omega
    clear hl hr hz w0 hT
    go_enter Tryd.func5, Tryd.ntmps5
    go_wp2
    go_ret
    exact ⟨rfl, Below.refl _ _⟩
end Go.Proofs.YthkmcbngbpiboaaDoor
