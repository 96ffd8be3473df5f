/- Plans of a head: the program's check. (Written by tools/mkplani.py.) -/
import Derived.Test.YtmdddjhlfpmgdacPlanM
import Derived.Test.YtmdddjhlfpmgdacWearI
import Derived.Test.YtmdddjhlfpmgdacContI
import Derived.Deep.RegionHeld3
namespace Go.Proofs.Ytmdddjhlfpmgdac
open Go.ChangeShapes Go.WideShapes Go.ChangeAt Go.RowKit
set_option linter.unusedVariables false
set_option linter.unusedSimpArgs false

set_option maxHeartbeats 2000000 in
theorem every_hasCutter (g : Hd) (n0 n1 n2 : Nat) (l0 : n0 ≤ 1099511627776) (v : Value) (zs : List Int) (w : World) (h : RdI w v zs) (lz : zs.length ≤ 1099511627776) (b : Bool) (hb : b = true ↔ ∀ x ∈ zs, 0 ≤ x ∧ x ≤ (n0 : Int) - 1) :
    Calls Try.prog 104 #[v, .func (Fn.func 110) #[(.agg #[.slice g.ca n0 g.cc, .slice g.ha n1 g.hc, .slice g.sa n2 g.sc, .int .i64 g.p, .int .i64 g.q])] #[]] w fun e w' => e = .returned (.bool b) ∧ Below w.heap.size w w' := by
  obtain ⟨a, cap, rfl, ra⟩ := h
  obtain ⟨n, hn⟩ : ∃ n, n = zs.length := ⟨_, rfl⟩
  rw [← hn] at lz
  rw [← hn]
  have RA := Lib.hid ra
  have HN := Lib.hid hn
  have HB := Lib.hid hb
  have CC := Lib.hid (fun (x : Int) (b : Bool) (hb : b = true ↔ 0 ≤ x ∧ x ≤ (n0 : Int) - 1) (wr : World) (B : Below w.heap.size w wr) => hasCutter_any g n0 n1 n2 l0 x b hb wr)
  clear ra hn hb
  go_enter Try.func104, Try.ntmps104
  go_wp2
  go_loopw [6, 9] (fun _ i wr => ∃ k : Nat, k ≤ n ∧ i = .int .i64 k ∧ Hid (∀ x ∈ zs.take k, 0 ≤ x ∧ x ≤ (n0 : Int) - 1) ∧ Hid (Below w.heap.size w wr)) (fun _ i _ => n - (intOf i).toNat)
  case atStart => exact ⟨0, by omega, rfl, fun x hx => by simp at hx, Below.refl _ _⟩
  case round =>
    obtain ⟨k, hk, rfl, ha, B⟩ := hrel
    have sz := B.out.size
    by_cases hlt : k < n
    · obtain ⟨x, hx⟩ : ∃ x, zs[k]? = some x := ⟨_, List.getElem?_eq_getElem (by have := HN.out; omega)⟩
      obtain ⟨ba, oa, rfl, ca'⟩ := RA.out.resolve_left (by intro h; have := HN.out; rw [h] at this; simp at this; omega)
      have la := block_lt_of_cell (ca' k x hx)
      have c1 : wr.cell? ⟨ba, oa + k, none⟩ = some (.int .i64 x) := (B.out.cell (p := ⟨ba, oa + k, none⟩) la).trans (ca' k x hx)
      have HX := Lib.hid hx
      clear ca' hx la
      by_cases hv : 0 ≤ x ∧ x ≤ (n0 : Int) - 1
      · have C := Lib.hid (CC.out x true (by simpa using hv) wr B.out)
        go_wp2_with fail
        refine C.out.mono ?_
        rintro e w2 ⟨rfl, b2⟩
        have B2 : Hid (Below w.heap.size w w2) := B.out.trans (b2.mono sz)
        have A2 : Hid (∀ x ∈ zs.take (k + 1), 0 ≤ x ∧ x ≤ (n0 : Int) - 1) := by
          intro y hy
          rw [List.take_add_one, HX.out] at hy
          rcases List.mem_append.mp hy with hy | hy
          · exact ha.out y hy
          · have : y = x := by simpa using hy
            subst this; exact hv
        clear b2 B c1 C ha hv CC
        go_wp2
        exact ⟨⟨k + 1, by omega, by go_num, A2, B2⟩, by simp only [intOf]; omega⟩
      · have C := Lib.hid (CC.out x false (by simpa using hv) wr B.out)
        obtain rfl : b = false := b_false HB.out (fun hA => hv (hA x (List.mem_of_getElem? HX.out)))
        go_wp2_with fail
        refine C.out.mono ?_
        rintro e w2 ⟨rfl, b2⟩
        have B2 : Hid (Below w.heap.size w w2) := B.out.trans (b2.mono sz)
        clear b2 B c1 C ha hv CC
        go_wp2
        go_ret
        exact ⟨rfl, B2.out⟩
    · obtain rfl : k = n := by omega
      obtain rfl : b = true := HB.out.mpr (by have := ha.out; rwa [List.take_of_length_le (by have := HN.out; omega)] at this)
      clear CC ha
      go_wp2
      go_ret
      exact ⟨rfl, B.out⟩

set_option maxHeartbeats 1000000 in
theorem isSet_hasCutter (g : Hd) (n0 n1 n2 : Nat) (l0 : n0 ≤ 1099511627776) (v : Value) (zs : List Int) (w : World) (h : RdI w v zs) (lz : zs.length ≤ 1099511627776) (b : Bool) (hb : b = true ↔ (∀ x ∈ zs, 0 ≤ x ∧ x ≤ (n0 : Int) - 1) ∧ Up zs) :
    Calls Try.prog 106 #[v, .func (Fn.func 110) #[(.agg #[.slice g.ca n0 g.cc, .slice g.ha n1 g.hc, .slice g.sa n2 g.sc, .int .i64 g.p, .int .i64 g.q])] #[]] w fun e w' => e = .returned (.bool b) ∧ Below w.heap.size w w' := by
  obtain ⟨b1, h1⟩ := ok_boolS (∀ x ∈ zs, 0 ≤ x ∧ x ≤ (n0 : Int) - 1)
  obtain ⟨b2, h2⟩ := ok_boolS (Up zs)
  obtain rfl : b = (b1 && b2) := by rw [Bool.eq_iff_iff, hb, Bool.and_eq_true, h1, h2]
  have C1 := Lib.hid (every_hasCutter g n0 n1 n2 l0 v zs w h lz b1 h1)
  have C2 := Lib.hid (fun w h => everyTwo_up v zs w h lz b2 h2)
  have H := Lib.hid h
  obtain ⟨a, cap, rfl, ra⟩ := h
  generalize zs.length = n at *
  clear hb h1 h2 ra lz
  go_enter Try.func106, Try.ntmps106
  go_wp2_with fail
  refine C1.out.mono ?_
  rintro e w1 ⟨rfl, B1⟩
  have BB := Lib.hid B1
  clear B1
  cases b1
  · go_wp2
    go_ret
    exact ⟨rfl, BB.out⟩
  · go_wp2_with fail
    refine (C2.out _ (H.out.later BB.out)).mono ?_
    rintro e w2 ⟨rfl, B2⟩
    have B3 : Hid (Below w.heap.size w w2) := BB.out.trans (B2.mono BB.out.size)
    clear B2
    go_wp2
    go_ret
    exact ⟨by simp, B3.out⟩

theorem isSafe_any (g : Hd) (n0 n1 n2 : Nat) (l2 : n2 ≤ 1048576) (x : Int) (w : World) (h : RdHd w n0 n1 n2 g) (b : Bool) (hb : b = true ↔ x ∈ g.s) :
    Calls Try.prog 109 #[(.agg #[.slice g.ca n0 g.cc, .slice g.ha n1 g.hc, .slice g.sa n2 g.sc, .int .i64 g.p, .int .i64 g.q]), .int .i64 x] w fun e w' => e = .returned (.bool b) ∧ Below w.heap.size w w' := by
  have e2 := h.len.2.2
  have C := Lib.hid (fun w h => contains_any (.slice g.sa n2 g.sc) g.s w h (by omega) x b hb)
  have H := Lib.hid h.r2
  clear h hb e2
  go_enter Try.func109, Try.ntmps109
  go_wp2_with fail
  refine (C.out _ (H.out.later (by go_grown))).mono ?_
  rintro e w' ⟨rfl, rfl⟩
  go_wp2
  go_ret
  exact ⟨rfl, by go_grown⟩

theorem stopBefore_any (r s : Int) (a c : Option Addr) (n m p q : Nat) (b : Bool) (hb : b = decide (r < s)) (w : World) :
    Calls Try.prog 76 #[.agg #[.int .i64 r, .slice a n p], .agg #[.int .i64 s, .slice c m q]] w fun e w' => e = .returned (.bool b) ∧ Below w.heap.size w w' := by
  have HB := Lib.hid hb
  clear hb
  go_enter Try.func76, Try.ntmps76
  go_wp2
  go_ret
  exact ⟨by simp [HB.out], by go_grown⟩

set_option maxRecDepth 100000 in
set_option maxHeartbeats 4000000 in
theorem everyTwo_stops (v : Value) (xs : List Su) (w : World) (h : RdSt w v xs) (lz : xs.length ≤ 1048576) (b : Bool) (hb : b = true ↔ UpSu xs) :
    Calls Try.prog 75 #[v, .func (Fn.func 76) #[] #[]] w fun e w' => e = .returned (.bool b) ∧ Below w.heap.size w w' := by
  have H := Lib.hid h
  obtain ⟨a, cap, rfl, -⟩ := id h.rows
  obtain ⟨n, hn⟩ : ∃ n, n = xs.length := ⟨_, rfl⟩
  rw [← hn] at lz H
  rw [← hn]
  have HN := Lib.hid hn
  have HB := Lib.hid hb
  clear h hn hb
  go_enter Try.func75, Try.ntmps75
  go_wp2
  go_loopw [5] (fun i wr => ∃ k : Nat, 1 ≤ k ∧ k ≤ n + 1 ∧ i = .int .i64 k ∧ Hid (∀ (i : Nat) x y, i + 1 < k → xs[i]? = some x → xs[i + 1]? = some y → x.r < y.r) ∧ Hid (Below w.heap.size w wr)) (fun i _ => n + 1 - (intOf i).toNat)
  case atStart => exact ⟨1, by omega, by omega, rfl, fun i x y h => by omega, Below.refl _ _⟩
  case round =>
    obtain ⟨k, k1, hk, rfl, ha, B⟩ := hrel
    have sz := B.out.size
    by_cases hlt : k < n
    · obtain ⟨j, hj⟩ : ∃ j, k = j + 1 := ⟨k - 1, by omega⟩
      obtain ⟨x, hx⟩ : ∃ x, xs[j]? = some x := ⟨_, List.getElem?_eq_getElem (by have := HN.out; omega)⟩
      obtain ⟨y, hy⟩ : ∃ y, xs[k]? = some y := ⟨_, List.getElem?_eq_getElem (by have := HN.out; omega)⟩
      obtain ⟨ba, oa, rfl, a0, a1, -, la⟩ := (H.out.later B.out).at hx
      obtain ⟨bb, ob, eb, b0, b1, -, lb⟩ := (H.out.later B.out).at hy
      simp only [Option.some.injEq, Addr.mk.injEq, and_true] at eb
      obtain ⟨rfl, rfl⟩ := eb
      have HX := Lib.hid hx
      have HY := Lib.hid hy
      have HJ := Lib.hid hj
      have q1 : IntKind.i64.wrap ((k : Int) - 1) = (j : Int) := by rw [IntWalk.i64_in _ (by omega)]; omega
      have jn : j < n := by omega
      obtain ⟨bv, hbv⟩ : ∃ bv : Bool, bv = decide (x.r < y.r) := ⟨_, rfl⟩
      have C := Lib.hid (fun w => stopBefore_any x.r y.r x.a y.a x.t.length y.t.length x.c y.c bv hbv w)
      obtain ⟨nx, hnx⟩ : ∃ nx, nx = x.t.length := ⟨_, rfl⟩
      obtain ⟨ny, hny⟩ : ∃ ny, ny = y.t.length := ⟨_, rfl⟩
      rw [← hnx, ← hny] at C
      rw [← hnx] at a1
      rw [← hny] at b1
      have BV := Lib.hid hbv
      have KS : Hid (∀ w', Below wr.heap.size wr w' → (w'.cell? ⟨ba, oa + j * 2, none⟩ = some (.int .i64 x.r) ∧ w'.cell? ⟨ba, oa + j * 2 + 1, none⟩ = some (.slice x.a nx x.c) ∧ w'.cell? ⟨ba, oa + k * 2, none⟩ = some (.int .i64 y.r) ∧ w'.cell? ⟨ba, oa + k * 2 + 1, none⟩ = some (.slice y.a ny y.c))) :=
        fun w' b => ⟨(b.cell (p := ⟨ba, oa + j * 2, none⟩) la).trans a0, (b.cell (p := ⟨ba, oa + j * 2 + 1, none⟩) la).trans a1, (b.cell (p := ⟨ba, oa + k * 2, none⟩) lb).trans b0, (b.cell (p := ⟨ba, oa + k * 2 + 1, none⟩) lb).trans b1⟩
      clear hx hy hj hbv hnx hny a0 a1 b0 b1 la lb
      go_wp2
      go_region_held3 (fun w' => (w'.cell? ⟨ba, oa + j * 2, none⟩ = some (.int .i64 x.r) ∧ w'.cell? ⟨ba, oa + j * 2 + 1, none⟩ = some (.slice x.a nx x.c) ∧ w'.cell? ⟨ba, oa + k * 2, none⟩ = some (.int .i64 y.r) ∧ w'.cell? ⟨ba, oa + k * 2 + 1, none⟩ = some (.slice y.a ny y.c)))
        (first | exact KS.out _ D1.out | exact KS.out _ (Below.refl _ _).drew)
        ((go_at_call 76; refine (C.out _).mono ?_; rintro e w1 ⟨rfl, b1⟩; have D1 : Hid (Below wr.heap.size wr w1) := (Below.refl _ _).drew.trans b1))
      rename_i hHeld
      have B2 : Hid (Below w.heap.size w w1) := B.out.trans (D1.out.mono sz)
      clear hHeld D1 KS C B b1
      cases bv with
      | true =>
        have A1 : Hid (∀ (i : Nat) x y, i + 1 < k + 1 → xs[i]? = some x → xs[i + 1]? = some y → x.r < y.r) := fun i x' y' hi hx' hy' => by
          by_cases e : i = j
          · subst e
            rw [HX.out] at hx'
            rw [← HJ.out, HY.out] at hy'
            rw [← Option.some.inj hx', ← Option.some.inj hy']
            have := BV.out
            simpa using this.symm
          · exact ha.out i x' y' (by have := HJ.out; omega) hx' hy'
        clear ha
        go_wp2
        exact ⟨⟨k + 1, by omega, by omega, by go_num, A1, B2⟩, by simp only [intOf]; omega⟩
      | false =>
        obtain rfl : b = false := b_false HB.out (fun hA => by have e := hA j x y HX.out (by rw [← HJ.out]; exact HY.out); have := BV.out; simp at this; omega)
        clear ha
        go_wp2
        go_ret
        exact ⟨rfl, B2.out⟩
    · obtain rfl : b = true := HB.out.mpr (fun i x y hx hy => ha.out i x y (by have := (List.getElem?_eq_some_iff.1 hy).1; have := HN.out; omega) hx hy)
      clear ha
      go_wp2
      go_ret
      exact ⟨rfl, B.out⟩

set_option maxRecDepth 100000 in
set_option maxHeartbeats 4000000 in
theorem canStop_any (g : Hd) (n0 n1 n2 : Nat) (l0 : n0 ≤ 1048576) (l2 : n2 ≤ 1048576) (x : Su) (m : Nat) (w : World) (h : RdHd w n0 n1 n2 g) (hx : RdI w (.slice x.a m x.c) x.t) (lm : m ≤ 1048576) (b : Bool) (hb : b = true ↔ OkSu g x) :
    Calls Try.prog 74 #[(.agg #[.slice g.ca n0 g.cc, .slice g.ha n1 g.hc, .slice g.sa n2 g.sc, .int .i64 g.p, .int .i64 g.q]), .agg #[.int .i64 x.r, .slice x.a m x.c]] w fun e w' => e = .returned (.bool b) ∧ Below w.heap.size w w' := by
  have e0 := h.len.1
  have em : m = x.t.length := by obtain ⟨_, _, e, _⟩ := hx; simp only [Value.slice.injEq] at e; exact e.2.1
  obtain ⟨b1, h1⟩ := ok_boolS (x.r ∈ g.s)
  obtain ⟨b2, h2⟩ := ok_boolS ((∀ y ∈ x.t, 0 ≤ y ∧ y ≤ (n0 : Int) - 1) ∧ Up x.t)
  have C1 := Lib.hid (fun w h => isSafe_any g n0 n1 n2 l2 x.r w h b1 h1)
  have C2 := Lib.hid (fun w h => isSet_hasCutter g n0 n1 n2 (by omega) (.slice x.a m x.c) x.t w h (by omega) b2 h2)
  have HB : Hid (b = true ↔ (b1 = true ∧ ¬ m = 0 ∧ b2 = true)) := by
    show _ ↔ _
    rw [hb, h1, h2, em, e0]
    unfold OkSu RisesIn
    simp [List.length_eq_zero_iff]
  have H := Lib.hid h
  have HX := Lib.hid hx
  clear h hx hb h1 h2 e0 em
  go_enter Try.func74, Try.ntmps74
  go_wp2_with fail
  generalize hx : (w.alloc (.cells #[.slice g.ca n0 g.cc, .slice g.ha n1 g.hc, .slice g.sa n2 g.sc, .int .i64 g.p, .int .i64 g.q] 33)).alloc (.cells #[.int .i64 x.r, .slice x.a m x.c] 80) = w0
  have B0 : Hid (Below w.heap.size w w0) := by show Below _ _ _; rw [← hx]; exact ((Below.refl _ _).alloc (Nat.le_refl _) _).alloc (by simp) _
  have N0 : Hid (w0.heap[w.heap.size]? = some (.cells #[.slice g.ca n0 g.cc, .slice g.ha n1 g.hc, .slice g.sa n2 g.sc, .int .i64 g.p, .int .i64 g.q] 33 (0, 0))) := by show _ = _; rw [← hx]; exact box2_0 w _ _
  have M0 : Hid (w0.heap[w.heap.size + 1]? = some (.cells #[.int .i64 x.r, .slice x.a m x.c] 80 (0, 0))) := by show _ = _; rw [← hx]; exact box2_1 w _ _
  have z0 : w.heap.size + 2 ≤ w0.heap.size := by rw [← hx]; simp
  clear hx
  refine (C1.out _ (H.out.later B0.out)).mono ?_
  rintro e w1 ⟨rfl, c1⟩
  have N1 := (c1.block w.heap.size (by omega)).trans N0.out
  have M1 := (c1.block (w.heap.size + 1) (by omega)).trans M0.out
  have B1 : Hid (Below w.heap.size w w1) := B0.out.trans (c1.mono B0.out.size)
  obtain ⟨⟨p0, p1, p2, p3, p4⟩, -, -⟩ := boxedHd_at N1
  have k1 := cell_of_row w1 (w.heap.size + 1) 1 _ _ _ M1
  simp at k1
  clear c1 N0 M0 B0 C1 N1 M1
  cases b1
  · obtain rfl : b = false := b_false HB.out (fun h => by simp at h)
    go_wp2
    go_ret
    exact ⟨rfl, B1.out⟩
  by_cases hm0 : m = 0
  · obtain rfl : b = false := b_false HB.out (fun h => h.2.1 hm0)
    subst hm0
    go_wp2
    go_ret
    exact ⟨rfl, B1.out⟩
  have g0 : decide (0 < m) = true := by simp; omega
  have g1 : decide ((0 : Int) < (m : Int)) = true := by simp; omega
  go_wp2_with fail
  refine (C2.out _ (HX.out.later B1.out)).mono ?_
  rintro e w2 ⟨rfl, c2⟩
  have B2 : Hid (Below w.heap.size w w2) := B1.out.trans (c2.mono B1.out.size)
  obtain rfl : b = b2 := by
    rw [Bool.eq_iff_iff, HB.out]
    exact ⟨fun h => h.2.2, fun h => ⟨by trivial, hm0, h⟩⟩
  clear c2 B1 p0 p1 p2 p3 p4 k1
  go_wp2
  go_ret
  exact ⟨by simp, B2.out⟩
end Go.Proofs.Ytmdddjhlfpmgdac
