/- The predicates of a head, and every, isSet of them. (Written by tools/mkhead.py.) -/
import Derived.Test.YtmdddjhlfpmgdacSetI
namespace Go.Proofs.Ytmdddjhlfpmgdac
open Go.ChangeShapes Go.WideShapes Go.ChangeAt Go.RowKit
set_option linter.unusedVariables false
set_option linter.unusedSimpArgs false

theorem rings_any (g : Hd) (n0 n1 n2 : Nat) (w : World) : Calls Try.prog 120 #[(.agg #[.slice g.ca n0 g.cc, .slice g.ha n1 g.hc, .slice g.sa n2 g.sc, .int .i64 g.p, .int .i64 g.q])] w fun e w' => e = .returned (.int .i64 n1) ∧ Below w.heap.size w w' := by
  go_enter Try.func120, Try.ntmps120
  go_wp2
  go_ret
  exact ⟨rfl, by go_grown⟩

set_option maxHeartbeats 1000000 in
theorem hasRing_any (g : Hd) (n0 n1 n2 : Nat) (l1 : n1 ≤ 1099511627776) (x : Int) (b : Bool) (hb : b = true ↔ 0 ≤ x ∧ x ≤ (n1 : Int) - 1) (w : World) : Calls Try.prog 107 #[(.agg #[.slice g.ca n0 g.cc, .slice g.ha n1 g.hc, .slice g.sa n2 g.sc, .int .i64 g.p, .int .i64 g.q]), .int .i64 x] w fun e w' => e = .returned (.bool b) ∧ Below w.heap.size w w' := by
  have C1 := Lib.hid (fun w => rings_any g n0 n1 n2 w)
  have C := Lib.hid (fun w => within_any x 0 ((n1 : Int) - 1) b hb w)
  have q1 : IntKind.i64.wrap ((n1 : Int) - 1) = (n1 : Int) - 1 := IntWalk.i64_in _ (by omega)
  clear hb
  go_enter Try.func107, Try.ntmps107
  go_wp2_with fail
  refine (C1.out _).mono ?_
  rintro e w1 ⟨rfl, b1⟩
  have B1 : Hid (Below w.heap.size w w1) := Below.trans (by go_grown) (b1.mono (by simp only [World.size_alloc]; omega))
  clear b1
  go_wp2_with fail
  refine (C.out _).mono ?_
  rintro e w' ⟨rfl, rfl⟩
  go_wp2
  go_ret
  exact ⟨rfl, B1.out⟩

set_option maxHeartbeats 2000000 in
theorem every_hasRing (g : Hd) (n0 n1 n2 : Nat) (l1 : n1 ≤ 1099511627776) (v : Value) (zs : List Int) (w : World) (h : RdI w v zs) (lz : zs.length ≤ 1099511627776) (b : Bool) (hb : b = true ↔ ∀ x ∈ zs, 0 ≤ x ∧ x ≤ (n1 : Int) - 1) :
    Calls Try.prog 104 #[v, .func (Fn.func 107) #[(.agg #[.slice g.ca n0 g.cc, .slice g.ha n1 g.hc, .slice g.sa n2 g.sc, .int .i64 g.p, .int .i64 g.q])] #[]] w fun e w' => e = .returned (.bool b) ∧ Below w.heap.size w w' := by
  obtain ⟨a, cap, rfl, ra⟩ := h
  obtain ⟨n, hn⟩ : ∃ n, n = zs.length := ⟨_, rfl⟩
  rw [← hn] at lz
  rw [← hn]
  have RA := Lib.hid ra
  have HN := Lib.hid hn
  have HB := Lib.hid hb
  have CC := Lib.hid (fun (x : Int) (b : Bool) (hb : b = true ↔ 0 ≤ x ∧ x ≤ (n1 : Int) - 1) (wr : World) (B : Below w.heap.size w wr) => hasRing_any g n0 n1 n2 l1 x b hb wr)
  clear ra hn hb
  go_enter Try.func104, Try.ntmps104
  go_wp2
  go_loopw [6, 9] (fun _ i wr => ∃ k : Nat, k ≤ n ∧ i = .int .i64 k ∧ Hid (∀ x ∈ zs.take k, 0 ≤ x ∧ x ≤ (n1 : Int) - 1) ∧ Hid (Below w.heap.size w wr)) (fun _ i _ => n - (intOf i).toNat)
  case atStart => exact ⟨0, by omega, rfl, fun x hx => by simp at hx, Below.refl _ _⟩
  case round =>
    obtain ⟨k, hk, rfl, ha, B⟩ := hrel
    have sz := B.out.size
    by_cases hlt : k < n
    · obtain ⟨x, hx⟩ : ∃ x, zs[k]? = some x := ⟨_, List.getElem?_eq_getElem (by have := HN.out; omega)⟩
      obtain ⟨ba, oa, rfl, ca'⟩ := RA.out.resolve_left (by intro h; have := HN.out; rw [h] at this; simp at this; omega)
      have la := block_lt_of_cell (ca' k x hx)
      have c1 : wr.cell? ⟨ba, oa + k, none⟩ = some (.int .i64 x) := (B.out.cell (p := ⟨ba, oa + k, none⟩) la).trans (ca' k x hx)
      have HX := Lib.hid hx
      clear ca' hx la
      by_cases hv : 0 ≤ x ∧ x ≤ (n1 : Int) - 1
      · have C := Lib.hid (CC.out x true (by simpa using hv) wr B.out)
        go_wp2_with fail
        refine C.out.mono ?_
        rintro e w2 ⟨rfl, b2⟩
        have B2 : Hid (Below w.heap.size w w2) := B.out.trans (b2.mono sz)
        have A2 : Hid (∀ x ∈ zs.take (k + 1), 0 ≤ x ∧ x ≤ (n1 : Int) - 1) := by
          intro y hy
          rw [List.take_add_one, HX.out] at hy
          rcases List.mem_append.mp hy with hy | hy
          · exact ha.out y hy
          · have : y = x := by simpa using hy
            subst this; exact hv
        clear b2 B c1 C ha hv CC
        go_wp2
        exact ⟨⟨k + 1, by omega, by go_num, A2, B2⟩, by simp only [intOf]; omega⟩
      · have C := Lib.hid (CC.out x false (by simpa using hv) wr B.out)
        obtain rfl : b = false := b_false HB.out (fun hA => hv (hA x (List.mem_of_getElem? HX.out)))
        go_wp2_with fail
        refine C.out.mono ?_
        rintro e w2 ⟨rfl, b2⟩
        have B2 : Hid (Below w.heap.size w w2) := B.out.trans (b2.mono sz)
        clear b2 B c1 C ha hv CC
        go_wp2
        go_ret
        exact ⟨rfl, B2.out⟩
    · obtain rfl : k = n := by omega
      obtain rfl : b = true := HB.out.mpr (by have := ha.out; rwa [List.take_of_length_le (by have := HN.out; omega)] at this)
      clear CC ha
      go_wp2
      go_ret
      exact ⟨rfl, B.out⟩

set_option maxHeartbeats 1000000 in
theorem isSet_hasRing (g : Hd) (n0 n1 n2 : Nat) (l1 : n1 ≤ 1099511627776) (v : Value) (zs : List Int) (w : World) (h : RdI w v zs) (lz : zs.length ≤ 1099511627776) (b : Bool) (hb : b = true ↔ (∀ x ∈ zs, 0 ≤ x ∧ x ≤ (n1 : Int) - 1) ∧ Up zs) :
    Calls Try.prog 106 #[v, .func (Fn.func 107) #[(.agg #[.slice g.ca n0 g.cc, .slice g.ha n1 g.hc, .slice g.sa n2 g.sc, .int .i64 g.p, .int .i64 g.q])] #[]] w fun e w' => e = .returned (.bool b) ∧ Below w.heap.size w w' := by
  obtain ⟨b1, h1⟩ := ok_boolS (∀ x ∈ zs, 0 ≤ x ∧ x ≤ (n1 : Int) - 1)
  obtain ⟨b2, h2⟩ := ok_boolS (Up zs)
  obtain rfl : b = (b1 && b2) := by rw [Bool.eq_iff_iff, hb, Bool.and_eq_true, h1, h2]
  have C1 := Lib.hid (every_hasRing g n0 n1 n2 l1 v zs w h lz b1 h1)
  have C2 := Lib.hid (fun w h => everyTwo_up v zs w h lz b2 h2)
  have H := Lib.hid h
  obtain ⟨a, cap, rfl, ra⟩ := h
  generalize zs.length = n at *
  clear hb h1 h2 ra lz
  go_enter Try.func106, Try.ntmps106
  go_wp2_with fail
  refine C1.out.mono ?_
  rintro e w1 ⟨rfl, B1⟩
  have BB := Lib.hid B1
  clear B1
  cases b1
  · go_wp2
    go_ret
    exact ⟨rfl, BB.out⟩
  · go_wp2_with fail
    refine (C2.out _ (H.out.later BB.out)).mono ?_
    rintro e w2 ⟨rfl, B2⟩
    have B3 : Hid (Below w.heap.size w w2) := BB.out.trans (B2.mono BB.out.size)
    clear B2
    go_wp2
    go_ret
    exact ⟨by simp, B3.out⟩

theorem isTrack_any (x : Int) (b : Bool) (hb : b = true ↔ 1 ≤ x ∧ x ≤ 100) (w : World) : Calls Try.prog 116 #[.int .i64 x] w fun e w' => e = .returned (.bool b) ∧ Below w.heap.size w w' := by
  have C := Lib.hid (fun w => within_any x 1 100 b hb w)
  clear hb
  go_enter Try.func116, Try.ntmps116
  go_wp2_with fail
  refine (C.out _).mono ?_
  rintro e w' ⟨rfl, rfl⟩
  go_wp2
  go_ret
  exact ⟨rfl, Below.refl _ _⟩

theorem isLimit_any (x : Int) (b : Bool) (hb : b = true ↔ 1 ≤ x ∧ x ≤ 1000000) (w : World) : Calls Try.prog 117 #[.int .i64 x] w fun e w' => e = .returned (.bool b) ∧ Below w.heap.size w w' := by
  have C := Lib.hid (fun w => within_any x 1 1000000 b hb w)
  clear hb
  go_enter Try.func117, Try.ntmps117
  go_wp2_with fail
  refine (C.out _).mono ?_
  rintro e w' ⟨rfl, rfl⟩
  go_wp2
  go_ret
  exact ⟨rfl, Below.refl _ _⟩

theorem isHardness_any (x : Int) (b : Bool) (hb : b = true ↔ 0 ≤ x ∧ x ≤ 100) (w : World) : Calls Try.prog 105 #[.int .i64 x] w fun e w' => e = .returned (.bool b) ∧ Below w.heap.size w w' := by
  have C := Lib.hid (fun w => within_any x 0 100 b hb w)
  clear hb
  go_enter Try.func105, Try.ntmps105
  go_wp2_with fail
  refine (C.out _).mono ?_
  rintro e w' ⟨rfl, rfl⟩
  go_wp2
  go_ret
  exact ⟨rfl, Below.refl _ _⟩

theorem isPrice_any (x : Int) (b : Bool) (hb : b = true ↔ 0 ≤ x ∧ x ≤ 10000) (w : World) : Calls Try.prog 108 #[.int .i64 x] w fun e w' => e = .returned (.bool b) ∧ Below w.heap.size w w' := by
  have C := Lib.hid (fun w => within_any x 0 10000 b hb w)
  clear hb
  go_enter Try.func108, Try.ntmps108
  go_wp2_with fail
  refine (C.out _).mono ?_
  rintro e w' ⟨rfl, rfl⟩
  go_wp2
  go_ret
  exact ⟨rfl, Below.refl _ _⟩

set_option maxHeartbeats 2000000 in
theorem every_isHardness (v : Value) (zs : List Int) (w : World) (h : RdI w v zs) (lz : zs.length ≤ 1099511627776) (b : Bool) (hb : b = true ↔ ∀ x ∈ zs, 0 ≤ x ∧ x ≤ 100) :
    Calls Try.prog 104 #[v, .func (Fn.func 105) #[] #[]] w fun e w' => e = .returned (.bool b) ∧ Below w.heap.size w w' := by
  obtain ⟨a, cap, rfl, ra⟩ := h
  obtain ⟨n, hn⟩ : ∃ n, n = zs.length := ⟨_, rfl⟩
  rw [← hn] at lz
  rw [← hn]
  have RA := Lib.hid ra
  have HN := Lib.hid hn
  have HB := Lib.hid hb
  have CC := Lib.hid (fun (x : Int) (b : Bool) (hb : b = true ↔ 0 ≤ x ∧ x ≤ 100) (wr : World) (B : Below w.heap.size w wr) => isHardness_any x b hb wr)
  clear ra hn hb
  go_enter Try.func104, Try.ntmps104
  go_wp2
  go_loopw [6, 9] (fun _ i wr => ∃ k : Nat, k ≤ n ∧ i = .int .i64 k ∧ Hid (∀ x ∈ zs.take k, 0 ≤ x ∧ x ≤ 100) ∧ Hid (Below w.heap.size w wr)) (fun _ i _ => n - (intOf i).toNat)
  case atStart => exact ⟨0, by omega, rfl, fun x hx => by simp at hx, Below.refl _ _⟩
  case round =>
    obtain ⟨k, hk, rfl, ha, B⟩ := hrel
    have sz := B.out.size
    by_cases hlt : k < n
    · obtain ⟨x, hx⟩ : ∃ x, zs[k]? = some x := ⟨_, List.getElem?_eq_getElem (by have := HN.out; omega)⟩
      obtain ⟨ba, oa, rfl, ca'⟩ := RA.out.resolve_left (by intro h; have := HN.out; rw [h] at this; simp at this; omega)
      have la := block_lt_of_cell (ca' k x hx)
      have c1 : wr.cell? ⟨ba, oa + k, none⟩ = some (.int .i64 x) := (B.out.cell (p := ⟨ba, oa + k, none⟩) la).trans (ca' k x hx)
      have HX := Lib.hid hx
      clear ca' hx la
      by_cases hv : 0 ≤ x ∧ x ≤ 100
      · have C := Lib.hid (CC.out x true (by simpa using hv) wr B.out)
        go_wp2_with fail
        refine C.out.mono ?_
        rintro e w2 ⟨rfl, b2⟩
        have B2 : Hid (Below w.heap.size w w2) := B.out.trans (b2.mono sz)
        have A2 : Hid (∀ x ∈ zs.take (k + 1), 0 ≤ x ∧ x ≤ 100) := by
          intro y hy
          rw [List.take_add_one, HX.out] at hy
          rcases List.mem_append.mp hy with hy | hy
          · exact ha.out y hy
          · have : y = x := by simpa using hy
            subst this; exact hv
        clear b2 B c1 C ha hv CC
        go_wp2
        exact ⟨⟨k + 1, by omega, by go_num, A2, B2⟩, by simp only [intOf]; omega⟩
      · have C := Lib.hid (CC.out x false (by simpa using hv) wr B.out)
        obtain rfl : b = false := b_false HB.out (fun hA => hv (hA x (List.mem_of_getElem? HX.out)))
        go_wp2_with fail
        refine C.out.mono ?_
        rintro e w2 ⟨rfl, b2⟩
        have B2 : Hid (Below w.heap.size w w2) := B.out.trans (b2.mono sz)
        clear b2 B c1 C ha hv CC
        go_wp2
        go_ret
        exact ⟨rfl, B2.out⟩
    · obtain rfl : k = n := by omega
      obtain rfl : b = true := HB.out.mpr (by have := ha.out; rwa [List.take_of_length_le (by have := HN.out; omega)] at this)
      clear CC ha
      go_wp2
      go_ret
      exact ⟨rfl, B.out⟩

end Go.Proofs.Ytmdddjhlfpmgdac
