/- Valid yards: the program's side. -/
import Derived.Test.YthfmmlpbflfpaacYardM
import Derived.Test.YthfmmlpbflfpaacSetI
import Derived.Test.YthfmmlpbflfpaacSortY
namespace Go.Proofs.Ythfmmlpbflfpaac
open Go.ChangeShapes Go.WideShapes Go.ChangeAt Go.RowKit
set_option linter.unusedVariables false
set_option linter.unusedSimpArgs false

theorem isLot_any (x : Int) (b : Bool) (hb : b = true ↔ 0 ≤ x ∧ x ≤ 99) (w : World) : Calls Try.prog 43 #[.int .i64 x] w fun e w' => e = .returned (.bool b) ∧ Below w.heap.size w w' := by
  have C := Lib.hid (fun w => within_any x 0 99 b hb w)
  clear hb
  go_enter Try.func43, Try.ntmps43
  go_wp2_with fail
  refine (C.out _).mono ?_
  rintro e w' ⟨rfl, rfl⟩
  go_wp2
  go_ret
  exact ⟨rfl, Below.refl _ _⟩


set_option maxHeartbeats 2000000 in
theorem every_isLot (v : Value) (zs : List Int) (w : World) (h : RdI w v zs) (lz : zs.length ≤ 1099511627776) (b : Bool) (hb : b = true ↔ ∀ x ∈ zs, 0 ≤ x ∧ x ≤ 99) :
    Calls Try.prog 49 #[v, .func (Fn.func 43) #[] #[]] w fun e w' => e = .returned (.bool b) ∧ Below w.heap.size w w' := by
  obtain ⟨a, cap, rfl, ra⟩ := h
  obtain ⟨n, hn⟩ : ∃ n, n = zs.length := ⟨_, rfl⟩
  rw [← hn] at lz
  rw [← hn]
  have RA := Lib.hid ra
  have HN := Lib.hid hn
  have HB := Lib.hid hb
  have CC := Lib.hid (fun (x : Int) (b : Bool) (hb : b = true ↔ 0 ≤ x ∧ x ≤ 99) (wr : World) (B : Below w.heap.size w wr) => isLot_any x b hb wr)
  clear ra hn hb
  go_enter Try.func49, Try.ntmps49
  go_wp2
  go_loopw [6, 9] (fun _ i wr => ∃ k : Nat, k ≤ n ∧ i = .int .i64 k ∧ Hid (∀ x ∈ zs.take k, 0 ≤ x ∧ x ≤ 99) ∧ Hid (Below w.heap.size w wr)) (fun _ i _ => n - (intOf i).toNat)
  case atStart => exact ⟨0, by omega, rfl, fun x hx => by simp at hx, Below.refl _ _⟩
  case round =>
    obtain ⟨k, hk, rfl, ha, B⟩ := hrel
    have sz := B.out.size
    by_cases hlt : k < n
    · obtain ⟨x, hx⟩ : ∃ x, zs[k]? = some x := ⟨_, List.getElem?_eq_getElem (by have := HN.out; omega)⟩
      obtain ⟨ba, oa, rfl, ca'⟩ := RA.out.resolve_left (by intro h; have := HN.out; rw [h] at this; simp at this; omega)
      have la := block_lt_of_cell (ca' k x hx)
      have c1 : wr.cell? ⟨ba, oa + k, none⟩ = some (.int .i64 x) := (B.out.cell (p := ⟨ba, oa + k, none⟩) la).trans (ca' k x hx)
      have HX := Lib.hid hx
      clear ca' hx la
      by_cases hv : 0 ≤ x ∧ x ≤ 99
      · have C := Lib.hid (CC.out x true (by simpa using hv) wr B.out)
        go_wp2_with fail
        refine C.out.mono ?_
        rintro e w2 ⟨rfl, b2⟩
        have B2 : Hid (Below w.heap.size w w2) := B.out.trans (b2.mono sz)
        have A2 : Hid (∀ x ∈ zs.take (k + 1), 0 ≤ x ∧ x ≤ 99) := by
          intro y hy
          rw [List.take_add_one, HX.out] at hy
          rcases List.mem_append.mp hy with hy | hy
          · exact ha.out y hy
          · have : y = x := by simpa using hy
            subst this; exact hv
        clear b2 B c1 C ha hv CC
        go_wp2
        exact ⟨⟨k + 1, by omega, by go_num, A2, B2⟩, by simp only [intOf]; omega⟩
      · have C := Lib.hid (CC.out x false (by simpa using hv) wr B.out)
        obtain rfl : b = false := b_false HB.out (fun hA => hv (hA x (List.mem_of_getElem? HX.out)))
        go_wp2_with fail
        refine C.out.mono ?_
        rintro e w2 ⟨rfl, b2⟩
        have B2 : Hid (Below w.heap.size w w2) := B.out.trans (b2.mono sz)
        clear b2 B c1 C ha hv CC
        go_wp2
        go_ret
        exact ⟨rfl, B2.out⟩
    · obtain rfl : k = n := by omega
      obtain rfl : b = true := HB.out.mpr (by have := ha.out; rwa [List.take_of_length_le (by have := HN.out; omega)] at this)
      clear CC ha
      go_wp2
      go_ret
      exact ⟨rfl, B.out⟩


set_option maxHeartbeats 1000000 in
theorem isSet_isLot (v : Value) (zs : List Int) (w : World) (h : RdI w v zs) (lz : zs.length ≤ 1099511627776) (b : Bool) (hb : b = true ↔ (∀ x ∈ zs, 0 ≤ x ∧ x ≤ 99) ∧ Up zs) :
    Calls Try.prog 42 #[v, .func (Fn.func 43) #[] #[]] w fun e w' => e = .returned (.bool b) ∧ Below w.heap.size w w' := by
  obtain ⟨b1, h1⟩ := ok_boolS (∀ x ∈ zs, 0 ≤ x ∧ x ≤ 99)
  obtain ⟨b2, h2⟩ := ok_boolS (Up zs)
  obtain rfl : b = (b1 && b2) := by rw [Bool.eq_iff_iff, hb, Bool.and_eq_true, h1, h2]
  have C1 := Lib.hid (every_isLot v zs w h lz b1 h1)
  have C2 := Lib.hid (fun w h => everyTwo_up v zs w h lz b2 h2)
  have H := Lib.hid h
  obtain ⟨a, cap, rfl, ra⟩ := h
  generalize zs.length = n at *
  clear hb h1 h2 ra lz
  go_enter Try.func42, Try.ntmps42
  go_wp2_with fail
  refine C1.out.mono ?_
  rintro e w1 ⟨rfl, B1⟩
  have BB := Lib.hid B1
  clear B1
  cases b1
  · go_wp2
    go_ret
    exact ⟨rfl, BB.out⟩
  · go_wp2_with fail
    refine (C2.out _ (H.out.later BB.out)).mono ?_
    rintro e w2 ⟨rfl, B2⟩
    have B3 : Hid (Below w.heap.size w w2) := BB.out.trans (B2.mono BB.out.size)
    clear B2
    go_wp2
    go_ret
    exact ⟨by simp, B3.out⟩


theorem withinI_any (n lo hi : Int) (b : Bool) (hb : b = true ↔ lo ≤ n ∧ n ≤ hi) (w : World) :
    Calls Try.prog 37 #[.int .i64 n, .int .i64 lo, .int .i64 hi] w fun e w' => e = .returned (.bool b) ∧ w = w' := by
  by_cases h1 : lo ≤ n
  · by_cases h2 : n ≤ hi
    · obtain rfl : b = true := hb.mpr ⟨h1, h2⟩
      clear hb
      go_enter Try.func37, Try.ntmps37
      go_wp2
      go_ret
      exact ⟨rfl, rfl⟩
    · obtain rfl : b = false := by cases b with | false => rfl | true => exact absurd (hb.mp rfl).2 h2
      clear hb
      go_enter Try.func37, Try.ntmps37
      go_wp2
      go_ret
      exact ⟨rfl, rfl⟩
  · obtain rfl : b = false := by cases b with | false => rfl | true => exact absurd (hb.mp rfl).1 h1
    clear hb
    go_enter Try.func37, Try.ntmps37
    go_wp2
    go_ret
    exact ⟨rfl, rfl⟩

/-- A sorted list rises exactly if no number is in it twice. -/
theorem up_asc (zs : List Int) : Up (asc zs) ↔ zs.Nodup := by
  rw [← (asc_perm zs).nodup_iff]
  have s := asc_sorted zs
  generalize asc zs = S at *
  constructor
  · intro h
    rw [List.nodup_iff_pairwise_ne, List.pairwise_iff_getElem]
    intro i j hi hj hij e
    have := up_lt h hij (List.getElem?_eq_getElem hi) (List.getElem?_eq_getElem hj)
    omega
  · intro h i x y hx hy
    rw [List.nodup_iff_pairwise_ne, List.pairwise_iff_getElem] at h
    rw [List.pairwise_iff_getElem] at s
    obtain ⟨hi, e1⟩ := List.getElem?_eq_some_iff.1 hx
    obtain ⟨hj, e2⟩ := List.getElem?_eq_some_iff.1 hy
    have a := h i (i + 1) hi hj (by omega)
    have b := s i (i + 1) hi hj (by omega)
    rw [e1, e2] at a b
    omega
end Go.Proofs.Ythfmmlpbflfpaac
