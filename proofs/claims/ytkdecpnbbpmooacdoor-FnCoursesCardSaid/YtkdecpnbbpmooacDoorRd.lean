/- Numbers read from their texts: the program. -/
import Derived.Test.YtkdecpnbbpmooacDoorDec2
import Derived.Stop.LaidErr
import Derived.Lib.AtoiErrMem
namespace Go.Proofs.YtkdecpnbbpmooacDoor
open Go.ChangeShapes Go.WideShapes Go.ChangeAt Go.RowKit
set_option linter.unusedVariables false
set_option linter.unusedSimpArgs false

theorem gES : Tryd.prog.globalNamed "strconv.ErrSyntax" = some 1 := by kernel_rfl
theorem gER : Tryd.prog.globalNamed "strconv.ErrRange" = some 2 := by kernel_rfl
theorem gESType : (Tryd.prog.globals[1]?).map (·.type) = some 95 := by kernel_rfl
theorem gERType : (Tryd.prog.globals[2]?).map (·.type) = some 95 := by kernel_rfl
theorem cellsES : Tryd.prog.cellsOf 162 = 1 := by kernel_rfl
theorem cellsStr : Tryd.prog.cellsOf 9 = 1 := by kernel_rfl
theorem starES : "*" ++ "errors.errorString" = "*errors.errorString" := by decide
theorem rowES (u : TypeId) (h : Tryd.prog.typeName? 3 u = some "*errors.errorString") : u = 160 :=
  typeName_ptr_named (nm := "errors.errorString") (by rw [starES]; kernel_rfl) (by kernel_rfl) (by decide) u (by rw [starES]; exact h)

/-- What the reading of numbers takes from package-level variables. -/
def TErr (w : World) : Prop := TDec w ∧ (∃ tp p, w.var? Tryd.prog "strconv.ErrSyntax" = some #[.iface tp p]) ∧ (∃ tp p, w.var? Tryd.prog "strconv.ErrRange" = some #[.iface tp p]) ∧ 1 < w.heap.size ∧ 2 < w.heap.size
theorem TErr.later {w w' : World} (h : TErr w) (b : Below w.heap.size w w') : TErr w' := by
  obtain ⟨h1, ⟨t1, p1, e1⟩, ⟨t2, p2, e2⟩, h4, h5⟩ := h
  exact ⟨h1.later b, ⟨t1, p1, var?_below b gES h4 e1⟩, ⟨t2, p2, var?_below b gER h5 e2⟩, Nat.lt_of_lt_of_le h4 b.size, Nat.lt_of_lt_of_le h5 b.size⟩
theorem TErr.of1 {W : World} {a b c : String × DataW Unit} {rest : List (String × DataW Unit)} (h : laidMet Tryd.prog (a :: b :: ("internal/strconv.uint64pow10", Rows.laid_internal_strconv_uint64pow10) :: c :: ("strconv.ErrRange", Rows.laid_strconv_ErrRange) :: ("strconv.ErrSyntax", Rows.laid_strconv_ErrSyntax) :: rest) W) : TErr W := by
  have h5 := laid_tail (laid_tail (laid_tail (laid_tail h)))
  have h6 := laid_tail h5
  obtain ⟨a1, s1, e1, -, -, -⟩ := laid_sentinel h6 gES gESType Tryd.underlying95 rowES Tryd.underlying160 Tryd.underlying162 rfl rfl Tryd.underlying9 cellsES cellsStr
  obtain ⟨a2, s2, e2, -, -, -⟩ := laid_sentinel h5 gER gERType Tryd.underlying95 rowES Tryd.underlying160 Tryd.underlying162 rfl rfl Tryd.underlying9 cellsES cellsStr
  have c1 := World.var?_cell gES e1 0
  have c2 := World.var?_cell gER e2 0
  exact ⟨TDec.of1 h, ⟨_, _, e1⟩, ⟨_, _, e2⟩, World.block_lt_of_cell? W _ (by simpa using c1), World.block_lt_of_cell? W _ (by simpa using c2)⟩

theorem bool_ofD (P : Prop) : ∃ b : Bool, b = true ↔ P := by
  by_cases h : P
  · exact ⟨true, by simp [h]⟩
  · exact ⟨false, by simp [h]⟩
theorem isValue_any (n : Int) (b : Bool) (hb : b = true ↔ ValI n) (w : World) :
    Calls Tryd.prog 54 #[.int .i64 n] w fun e w' => e = .returned (.bool b) ∧ w = w' := by
  have HB := Lib.hid hb
  clear hb
  go_enter Tryd.func54, Tryd.ntmps54
  go_wp2_with fail
  refine (within_any n (-1000000000) 1000000000 b HB.out w).mono ?_
  rintro e w' ⟨rfl, rfl⟩
  go_wp2
  go_ret
  exact ⟨rfl, rfl⟩

theorem toList_ne {a b : ByteArray} (h : ¬ a = b) : (a.toList == b.toList) = false := by
  rw [beq_eq_false_iff_ne]
  intro e
  rw [ByteArray.toList_eq, ByteArray.toList_eq] at e
  exact h (by apply ByteArray.ext; exact Array.toList_inj.1 e)
theorem str_eq_iff (l : List UInt8) (s : ByteArray) : (⟨l.toArray⟩ : ByteArray) = s ↔ s.data.toList = l := by
  constructor
  · intro h; subst h; rfl
  · intro h; apply ByteArray.ext; apply Array.toList_inj.1; rw [h]

set_option maxRecDepth 100000 in
set_option maxHeartbeats 4000000 in
theorem readDecimal_any (s : ByteArray) (hs : s.size ≤ 1048576) (n : Int) (b : Bool) (h : DecRes s.data.toList n b) (w : World) (hT : TErr w) :
    Calls Tryd.prog 28 #[.string s] w fun e w' => e = .returned (.tuple #[.int .i64 n, .bool b]) ∧ Below w.heap.size w w' := by
  have HT := Lib.hid hT
  cases hp : Lib.parseIntB 64 s.data.toList with
  | ok v =>
    have hbd := Lib.parseIntB_bounds hp
    have hv0 : -9223372036854775808 ≤ v := by have := hbd.1; simpa using this
    have hv1 : v ≤ 9223372036854775807 := by have := hbd.2; have e : ((2 ^ (64 - 1) : Nat) : Int) = 9223372036854775808 := by decide
                                             omega
    have C := Lib.hid (Tryd.strconv_ParseInt_10_at64_ok s (by omega) v hp w)
    obtain ⟨b1, h1⟩ := bool_ofD (ValI v)
    have H1 := Lib.hid h1
    have HD := Lib.hid h
    have HP := Lib.hid hp
    have CD := Lib.hid (fun w hT => decimal_any v hv0 hv1 w hT)
    obtain ⟨A, hA⟩ : ∃ A : ByteArray, A = ⟨(Lib.itoa v).toArray⟩ := ⟨_, rfl⟩
    rw [← hA] at CD
    have HA := Lib.hid hA
    clear hT hp hbd h h1 hA
    go_enter Tryd.func28, Tryd.ntmps28
    go_wp2_with fail
    refine C.out.mono ?_
    rintro e w1 ⟨rfl, hw⟩
    have B1 : Hid (Below w.heap.size w w1) := by
      rcases hw with rfl | ⟨t, rfl⟩
      · exact Below.refl _ _
      · exact Lib.bytesWorld_below _ _ _
    clear hw C
    go_wp2_with fail
    refine (isValue_any v b1 H1.out _).mono ?_
    rintro e w2 ⟨rfl, rfl⟩
    cases b1 with
    | false =>
      obtain ⟨rfl, rfl⟩ := decRes_no HD.out (fun m hm e => by
        have hp := HP.out
        rw [e, parse_itoa m hm] at hp
        have : m = v := by simpa using hp
        subst this
        exact absurd (H1.out.mpr hm) (by simp))
      clear HD H1 HP HA
      go_wp2
      go_ret2
      exact ⟨rfl, B1.out⟩
    | true =>
      have hv : ValI v := H1.out.mp (by simp)
      go_wp2_with fail
      refine (CD.out _ (HT.out.later B1.out).1).mono ?_
      rintro e w2 ⟨rfl, b2⟩
      have B2 : Hid (Below w.heap.size w w2) := B1.out.trans (b2.mono B1.out.size)
      clear b2 CD B1
      by_cases he : A = s
      · obtain ⟨rfl, rfl⟩ := decRes_yes HD.out v hv (by rw [← he, HA.out])
        subst he
        clear HD H1 HP HA
        go_wp2
        go_ret2
        exact ⟨rfl, B2.out⟩
      · obtain ⟨rfl, rfl⟩ := decRes_no HD.out (fun m hm e => by
          have hp := HP.out
          rw [e, parse_itoa m hm] at hp
          have : m = v := by simpa using hp
          subst this
          exact he (by rw [HA.out]; exact (str_eq_iff _ _).mpr e))
        have n1 : (A.toList == s.toList) = false := toList_ne he
        clear HD H1 HP HA
        go_wp2
        go_ret2
        exact ⟨rfl, B2.out⟩
  | «syntax» =>
    obtain ⟨-, ⟨tp, p, hv⟩, -⟩ := hT
    obtain ⟨rfl, rfl⟩ := decRes_no h (fun m hm e => by rw [e, parse_itoa m hm] at hp; cases hp)
    have C := Lib.hid (Tryd.strconv_ParseInt_10_at64_syntax_var s (by omega) hp tp p w hv)
    clear hp h hv
    go_enter Tryd.func28, Tryd.ntmps28
    go_wp2_with fail
    refine C.out.mono ?_
    rintro e w1 ⟨N, rfl, -, -, b1⟩
    have B1 := Lib.hid b1
    clear b1 C
    go_wp2
    go_ret2
    exact ⟨rfl, B1.out⟩
  | range =>
    obtain ⟨-, -, ⟨tp, p, hv⟩, -⟩ := hT
    obtain ⟨rfl, rfl⟩ := decRes_no h (fun m hm e => by rw [e, parse_itoa m hm] at hp; cases hp)
    have C := Lib.hid (Tryd.strconv_ParseInt_10_at64_range_var s (by omega) hp tp p w hv)
    clear hp h hv
    go_enter Tryd.func28, Tryd.ntmps28
    go_wp2_with fail
    refine C.out.mono ?_
    rintro e w1 ⟨N, rfl, -, -, b1⟩
    have B1 := Lib.hid b1
    clear b1 C
    go_wp2
    go_ret2
    exact ⟨rfl, B1.out⟩
end Go.Proofs.YtkdecpnbbpmooacDoor
