/- The decimal texts of numbers, and the numbers of texts: the laws' walks. -/
import Derived.Test.YthkmcbngbpiboaaDoorRd2
namespace Go.Proofs.YthkmcbngbpiboaaDoor
open Go.ChangeShapes Go.WideShapes Go.ChangeAt Go.RowKit
set_option linter.unusedVariables false
set_option linter.unusedSimpArgs false

/-- .. of a row that lists no table between. -/
theorem TErr.of2 {W : World} {a b : String × DataW Unit} {rest : List (String × DataW Unit)} (h : laidMet Tryd.prog (a :: b :: ("internal/strconv.uint64pow10", Rows.laid_internal_strconv_uint64pow10) :: ("strconv.ErrRange", Rows.laid_strconv_ErrRange) :: ("strconv.ErrSyntax", Rows.laid_strconv_ErrSyntax) :: rest) W) : TErr W := by
  have h5 := laid_tail (laid_tail (laid_tail h))
  have h6 := laid_tail h5
  obtain ⟨a1, s1, e1, -, -, -⟩ := laid_sentinel h6 gES gESType Tryd.underlying71 rowES Tryd.underlying194 Tryd.underlying196 rfl rfl Tryd.underlying9 cellsES cellsStr
  obtain ⟨a2, s2, e2, -, -, -⟩ := laid_sentinel h5 gER gERType Tryd.underlying71 rowES Tryd.underlying194 Tryd.underlying196 rfl rfl Tryd.underlying9 cellsES cellsStr
  have c1 := World.var?_cell gES e1 0
  have c2 := World.var?_cell gER e2 0
  exact ⟨TDec.of1 h, ⟨_, _, e1⟩, ⟨_, _, e2⟩, World.block_lt_of_cell? W _ (by simpa using c1), World.block_lt_of_cell? W _ (by simpa using c2)⟩

set_option maxHeartbeats 1000000 in
theorem specDecimal_any (n : Int) (h0 : -9223372036854775808 ≤ n) (h1 : n ≤ 9223372036854775807) (w : World) :
    Calls Tryd.prog 11 #[.int .i64 n] w fun e w' => e = .returned (.string ⟨(Lib.itoa n).toArray⟩) ∧ Below w.heap.size w w' := by
  have C := Lib.hid (l01Dec_any n h0 h1 w)
  clear h0 h1
  go_enter Tryd.func11, Tryd.ntmps11
  go_wp2_with fail
  refine C.out.mono ?_
  rintro e w1 ⟨rfl, b1⟩
  have B := Lib.hid b1
  clear b1 C
  go_wp2
  go_ret
  exact ⟨rfl, B.out⟩
set_option maxHeartbeats 2000000 in
theorem walkFnExactDecimal (n : Int) (w0 : (Lit.int .i64 n).wf = true) (w : World) (hT : TDec w) :
    Calls Tryd.prog 3 #[.int .i64 n] w fun e w' => e = .returned (.bool true) ∧ Below w.heap.size w w' := by
  obtain ⟨b0, b1⟩ := bounds_i64 w0
  have C1 := Lib.hid (fun w => specDecimal_any n b0 b1 w)
  have C2 := Lib.hid (fun w hT => decimal_any n b0 b1 w hT)
  have HT := Lib.hid hT
  obtain ⟨A, hA⟩ : ∃ A : ByteArray, A = ⟨(Lib.itoa n).toArray⟩ := ⟨_, rfl⟩
  rw [← hA] at C1 C2
  clear hT w0 b0 b1 hA
  go_enter Tryd.func3, Tryd.ntmps3
  go_wp2_with fail
  refine (C1.out _).mono ?_
  rintro e w1 ⟨rfl, b1⟩
  have B1 := Lib.hid b1
  clear b1
  go_wp2_with fail
  refine (C2.out _ (HT.out.later B1.out)).mono ?_
  rintro e w2 ⟨rfl, b2⟩
  have B2 := Lib.hid (B1.out.trans (b2.mono B1.out.size))
  clear b2 B1 C1 C2
  go_wp2
  go_ret
  exact ⟨rfl, B2.out⟩

set_option maxHeartbeats 1000000 in
theorem specReadDec_any (s : ByteArray) (hs : s.size ≤ 1048576) (n : Int) (b : Bool) (h : DecRes s.data.toList n b) (w : World) :
    Calls Tryd.prog 13 #[.string s] w fun e w' => e = .returned (.tuple #[.int .i64 n, .bool b]) ∧ Below w.heap.size w w' := by
  have C := Lib.hid (l01Value_any s hs n b h w)
  clear h hs
  go_enter Tryd.func13, Tryd.ntmps13
  go_wp2_with fail
  refine C.out.mono ?_
  rintro e w1 ⟨rfl, b1⟩
  have B := Lib.hid b1
  clear b1 C
  go_wp2
  go_ret2
  exact ⟨rfl, B.out⟩
set_option maxHeartbeats 2000000 in
theorem walkFnExactReadDecimal (s : ByteArray) (hs : s.size ≤ maxLen) (w : World) (hT : TErr w) :
    Calls Tryd.prog 4 #[.string s] w fun e w' => e = .returned (.bool true) ∧ Below w.heap.size w w' := by
  obtain ⟨n, b, h⟩ := decRes_of s.data.toList
  unfold maxLen at hs
  by_cases hl : (1048576 : Int) < (s.size : Int)
  · clear h hT
    go_enter Tryd.func4, Tryd.ntmps4
    go_wp2
    go_ret
    exact ⟨rfl, Below.refl _ _⟩
  · have C1 := Lib.hid (fun w => specReadDec_any s (by omega) n b h w)
    have C2 := Lib.hid (fun w hT => readDecimal_any s (by omega) n b h w hT)
    have HT := Lib.hid hT
    clear h hT
    go_enter Tryd.func4, Tryd.ntmps4
    go_wp2_with fail
    refine (C1.out _).mono ?_
    rintro e w1 ⟨rfl, b1⟩
    have B1 := Lib.hid b1
    clear b1
    go_wp2_with fail
    refine (C2.out _ (HT.out.later B1.out)).mono ?_
    rintro e w2 ⟨rfl, b2⟩
    have B2 := Lib.hid (B1.out.trans (b2.mono B1.out.size))
    clear b2 B1 C1 C2
    go_wp2
    go_ret
    exact ⟨rfl, B2.out⟩
end Go.Proofs.YthkmcbngbpiboaaDoor
