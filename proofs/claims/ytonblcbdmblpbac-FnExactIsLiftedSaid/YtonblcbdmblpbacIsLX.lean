/- IsLifted on both sides. (Written by tools/mkislift.py.) -/
import Derived.Test.YtonblcbdmblpbacLiftX
import Derived.BigQuiet
namespace Go.Proofs.Ytonblcbdmblpbac
open Go.ChangeShapes Go.WideShapes Go.ChangeAt Go.RowKit
set_option linter.unusedVariables false
set_option linter.unusedSimpArgs false

/-- The first k points are lifted by their needs. -/
def LiftedTo (ns us : List Int) (k : Nat) : Prop := ∀ i x, i < k → ns[i]? = some x → x ≤ liftAt us i
def IsL (ns us : List Int) : Prop := OkRow 12 ns ∧ OkRow 6 us ∧ ns.length = us.length ∧ LiftedTo ns us ns.length
theorem LiftedTo.zero (ns us : List Int) : LiftedTo ns us 0 := by intro i x h; omega
theorem LiftedTo.succ {ns us : List Int} {k : Nat} {x : Int} (h : LiftedTo ns us k) (hx : ns[k]? = some x) (g : x ≤ liftAt us k) : LiftedTo ns us (k + 1) := by
  intro i y hi hy
  by_cases e : i = k
  · subst e
    obtain rfl := Option.some.inj (hx.symm.trans hy)
    exact g
  · exact h i y (by omega) hy

set_option maxRecDepth 100000 in
set_option maxHeartbeats 4000000 in
theorem specIsL_any (v u : Value) (ns us : List Int) (w : World) (h : RdI w v ns) (k : RdI w u us) (lz : ns.length ≤ 1099511627776) (lu : us.length ≤ 1099511627776) (b : Bool) (hb : b = true ↔ IsL ns us) :
    Calls Try.prog 13 #[v, u] w fun e w' => e = .returned (.bool b) ∧ Below w.heap.size w w' := by
  obtain ⟨b1, h1⟩ := bool_iz (OkRow 12 ns)
  obtain ⟨b2, h2⟩ := bool_iz (OkRow 6 us)
  have C1 := Lib.hid (l07Row_any v ns 12 w h lz b1 h1)
  have C2 := Lib.hid (l07Row_any u us 6 w k lu b2 h2)
  have C3 := Lib.hid (fun (ok : b2 = true) => l07Lifts_any u us w k (h2.mp ok))
  have HB := Lib.hid hb
  have H1 := Lib.hid h1
  have H2 := Lib.hid h2
  obtain ⟨a, cap, rfl, ra⟩ := h
  obtain ⟨a2, cap2, rfl, -⟩ := k
  obtain ⟨n, hn⟩ : ∃ n, n = ns.length := ⟨_, rfl⟩
  obtain ⟨m, hm⟩ : ∃ m, m = us.length := ⟨_, rfl⟩
  rw [← hn] at C1
  rw [← hm] at C2 C3
  rw [← hn, ← hm]
  have RA := Lib.hid ra
  have HN := Lib.hid hn
  have HM := Lib.hid hm
  clear ra hb h1 h2 lz lu hn hm
  go_enter Try.func13, Try.ntmps13
  go_wp2_with fail
  refine C1.out.mono ?_
  rintro e w1 ⟨rfl, rfl⟩
  cases b1 with
  | false =>
    obtain rfl : b = false := b_false HB.out (fun h => by have := H1.out.mpr h.1; simp at this)
    clear HB H1 H2 C1 C2 C3 HN HM
    go_wp2
    go_ret
    exact ⟨rfl, Below.refl _ _⟩
  | true =>
    go_wp2_with fail
    refine C2.out.mono ?_
    rintro e w1 ⟨rfl, rfl⟩
    cases b2 with
    | false =>
      obtain rfl : b = false := b_false HB.out (fun h => by have := H2.out.mpr h.2.1; simp at this)
      clear HB H1 H2 C1 C2 C3 HN HM
      go_wp2
      go_ret
      exact ⟨rfl, Below.refl _ _⟩
    | true =>
      have n12 : n ≤ 12 := by have := (H1.out.mp (by simp)).1; have := HN.out; omega
      by_cases g : n = m
      · subst g
        have C3' := Lib.hid (C3.out (by simp))
        clear C3 C1 C2
        have gn : (((n : Int) != (n : Int)) : Bool) = false := by simp
        go_wp2_with fail
        refine C3'.out.mono ?_
        rintro e w1 ⟨v, rfl, o1, b1⟩
        obtain ⟨g, c, hv, hc⟩ : ∃ (ad : Option Addr) (c : Nat), v = .slice ad (liftL us).length c ∧ ∀ i q, (liftL us)[i]? = some q → ∃ bb oo, ad = some ⟨bb, oo, none⟩ ∧ w1.cell? ⟨bb, oo + i, none⟩ = some (.int .i64 q) := by
          obtain ⟨ad, c, e, h⟩ := o1.rd
          refine ⟨ad, c, e, fun i q hq => ?_⟩
          obtain ⟨bb, oo, e2, h⟩ := h.resolve_left (by intro h; rw [h] at hq; simp at hq)
          exact ⟨bb, oo, e2, h i q hq⟩
        subst hv
        rw [liftL_len, ← HM.out]
        have HC := Lib.hid hc
        have B1 := Lib.hid b1
        clear hc o1 b1 C3'
        go_wp2
        go_loopw [6] (fun i wr => ∃ j : Nat, j ≤ n ∧ i = .int .i64 j ∧ Hid (LiftedTo ns us j) ∧ Hid (Below w1.heap.size w1 wr)) (fun i _ => n - (intOf i).toNat)
        case atStart => exact ⟨0, by omega, rfl, LiftedTo.zero ns us, Below.refl _ _⟩
        case round =>
          obtain ⟨j, hj, rfl, hl, hbl⟩ := hrel
          by_cases hlt : j < n
          · obtain ⟨x, hx⟩ : ∃ x, ns[j]? = some x := ⟨_, List.getElem?_eq_getElem (by have := HN.out; omega)⟩
            obtain ⟨ba, oa, rfl, ca'⟩ := RA.out.resolve_left (by intro h; have := HN.out; rw [h] at this; simp at this; omega)
            have la : ba < w.heap.size := World.block_lt_of_cell? w _ (ca' j x hx)
            have sz := B1.out.size
            have c1 := (hbl.out.cell (p := ⟨ba, oa + j, none⟩) (by show ba < _; omega)).trans ((B1.out.cell (p := ⟨ba, oa + j, none⟩) la).trans (ca' j x hx))
            obtain ⟨q, hq⟩ : ∃ q, liftAt us j = q := ⟨_, rfl⟩
            obtain ⟨bb, oo, rfl, c2'⟩ := HC.out j q (by rw [liftL_get (by have := HM.out; omega), hq])
            have lb : bb < w1.heap.size := World.block_lt_of_cell? w1 _ c2'
            have c2 := (hbl.out.cell (p := ⟨bb, oo + j, none⟩) lb).trans c2'
            have HX := Lib.hid hx
            have HQ := Lib.hid hq
            clear ca' hx c2' hq la lb sz
            by_cases gg : q < x
            · obtain rfl : b = false := b_false HB.out (fun h => by have := h.2.2.2 j x (by have := HN.out; omega) HX.out; rw [HQ.out] at this; omega)
              clear HB hl
              go_wp2
              go_quiet (fail)
              go_wp2
              go_ret
              exact ⟨rfl, B1.out.trans ((below_drewN hbl.out _).mono B1.out.size)⟩
            · have S := Lib.hid (hl.out.succ HX.out (by rw [HQ.out]; omega))
              clear hl
              go_wp2
              go_quiet (fail)
              go_wp2
              exact ⟨⟨j + 1, by omega, by go_num, S, (below_drewN hbl.out _)⟩, by simp only [intOf]; omega⟩
          · obtain rfl : j = n := by omega
            obtain rfl : b = true := HB.out.mpr ⟨H1.out.mp (by simp), H2.out.mp (by simp), by have := HN.out; have := HM.out; omega, by rw [← HN.out]; exact hl.out⟩
            clear HB hl
            go_wp2
            go_ret
            exact ⟨rfl, B1.out.trans (hbl.out.mono B1.out.size)⟩
      · have gn : (((n : Int) != (m : Int)) : Bool) = true := by simp; omega
        have gn2 : (((m : Int) != (n : Int)) : Bool) = true := by simp; omega
        obtain rfl : b = false := b_false HB.out (fun h => g (by have := h.2.2.1; have := HN.out; have := HM.out; omega))
        clear HB H1 H2 C1 C2 C3 HN HM g
        go_wp2
        go_ret
        exact ⟨rfl, Below.refl _ _⟩

set_option maxRecDepth 100000 in
set_option maxHeartbeats 4000000 in
theorem implIsL_any (v u : Value) (ns us : List Int) (w : World) (h : RdI w v ns) (k : RdI w u us) (lz : ns.length ≤ 1099511627776) (lu : us.length ≤ 1099511627776) (b : Bool) (hb : b = true ↔ IsL ns us) :
    Calls Try.prog 14 #[v, u] w fun e w' => e = .returned (.bool b) ∧ Below w.heap.size w w' := by
  obtain ⟨b1, h1⟩ := bool_iz (OkRow 12 ns)
  obtain ⟨b2, h2⟩ := bool_iz (OkRow 6 us)
  have C1 := Lib.hid (isRow_isNeed v ns w h lz b1 h1)
  have C2 := Lib.hid (isRow_isUnits u us w k lu b2 h2)
  have C3 := Lib.hid (fun (ok : b2 = true) => lifts_any u us w k (h2.mp ok))
  have HB := Lib.hid hb
  have H1 := Lib.hid h1
  have H2 := Lib.hid h2
  obtain ⟨a, cap, rfl, ra⟩ := h
  obtain ⟨a2, cap2, rfl, -⟩ := k
  obtain ⟨n, hn⟩ : ∃ n, n = ns.length := ⟨_, rfl⟩
  obtain ⟨m, hm⟩ : ∃ m, m = us.length := ⟨_, rfl⟩
  rw [← hn] at C1
  rw [← hm] at C2 C3
  rw [← hn, ← hm]
  have RA := Lib.hid ra
  have HN := Lib.hid hn
  have HM := Lib.hid hm
  clear ra hb h1 h2 lz lu hn hm
  go_enter Try.func14, Try.ntmps14
  go_wp2_with fail
  refine C1.out.mono ?_
  rintro e w1 ⟨rfl, rfl⟩
  cases b1 with
  | false =>
    obtain rfl : b = false := b_false HB.out (fun h => by have := H1.out.mpr h.1; simp at this)
    clear HB H1 H2 C1 C2 C3 HN HM
    go_wp2
    go_ret
    exact ⟨rfl, Below.refl _ _⟩
  | true =>
    go_wp2_with fail
    refine C2.out.mono ?_
    rintro e w1 ⟨rfl, rfl⟩
    cases b2 with
    | false =>
      obtain rfl : b = false := b_false HB.out (fun h => by have := H2.out.mpr h.2.1; simp at this)
      clear HB H1 H2 C1 C2 C3 HN HM
      go_wp2
      go_ret
      exact ⟨rfl, Below.refl _ _⟩
    | true =>
      have n12 : n ≤ 12 := by have := (H1.out.mp (by simp)).1; have := HN.out; omega
      by_cases g : n = m
      · subst g
        have C3' := Lib.hid (C3.out (by simp))
        clear C3 C1 C2
        have gn : (((n : Int) != (n : Int)) : Bool) = false := by simp
        go_wp2_with fail
        refine C3'.out.mono ?_
        rintro e w1 ⟨v, rfl, o1, b1⟩
        obtain ⟨g, c, hv, hc⟩ : ∃ (ad : Option Addr) (c : Nat), v = .slice ad (liftL us).length c ∧ ∀ i q, (liftL us)[i]? = some q → ∃ bb oo, ad = some ⟨bb, oo, none⟩ ∧ w1.cell? ⟨bb, oo + i, none⟩ = some (.int .i64 q) := by
          obtain ⟨ad, c, e, h⟩ := o1.rd
          refine ⟨ad, c, e, fun i q hq => ?_⟩
          obtain ⟨bb, oo, e2, h⟩ := h.resolve_left (by intro h; rw [h] at hq; simp at hq)
          exact ⟨bb, oo, e2, h i q hq⟩
        subst hv
        rw [liftL_len, ← HM.out]
        have HC := Lib.hid hc
        have B1 := Lib.hid b1
        clear hc o1 b1 C3'
        go_wp2
        go_loopw [5, 6, 25] (fun _ _ i wr => ∃ j : Nat, j ≤ n ∧ i = .int .i64 j ∧ Hid (LiftedTo ns us j) ∧ Hid (Below w1.heap.size w1 wr)) (fun _ _ i _ => n - (intOf i).toNat)
        case atStart => exact ⟨0, by omega, rfl, LiftedTo.zero ns us, Below.refl _ _⟩
        case round =>
          obtain ⟨j, hj, rfl, hl, hbl⟩ := hrel
          by_cases hlt : j < n
          · obtain ⟨x, hx⟩ : ∃ x, ns[j]? = some x := ⟨_, List.getElem?_eq_getElem (by have := HN.out; omega)⟩
            obtain ⟨ba, oa, rfl, ca'⟩ := RA.out.resolve_left (by intro h; have := HN.out; rw [h] at this; simp at this; omega)
            have la : ba < w.heap.size := World.block_lt_of_cell? w _ (ca' j x hx)
            have sz := B1.out.size
            have c1 := (hbl.out.cell (p := ⟨ba, oa + j, none⟩) (by show ba < _; omega)).trans ((B1.out.cell (p := ⟨ba, oa + j, none⟩) la).trans (ca' j x hx))
            obtain ⟨q, hq⟩ : ∃ q, liftAt us j = q := ⟨_, rfl⟩
            obtain ⟨bb, oo, rfl, c2'⟩ := HC.out j q (by rw [liftL_get (by have := HM.out; omega), hq])
            have lb : bb < w1.heap.size := World.block_lt_of_cell? w1 _ c2'
            have c2 := (hbl.out.cell (p := ⟨bb, oo + j, none⟩) lb).trans c2'
            have HX := Lib.hid hx
            have HQ := Lib.hid hq
            clear ca' hx c2' hq la lb sz
            by_cases gg : q < x
            · obtain rfl : b = false := b_false HB.out (fun h => by have := h.2.2.2 j x (by have := HN.out; omega) HX.out; rw [HQ.out] at this; omega)
              clear HB hl
              go_wp2
              go_ret
              exact ⟨rfl, B1.out.trans (hbl.out.mono B1.out.size)⟩
            · have S := Lib.hid (hl.out.succ HX.out (by rw [HQ.out]; omega))
              clear hl
              go_wp2
              exact ⟨⟨j + 1, by omega, by go_num, S, hbl.out⟩, by simp only [intOf]; omega⟩
          · obtain rfl : j = n := by omega
            obtain rfl : b = true := HB.out.mpr ⟨H1.out.mp (by simp), H2.out.mp (by simp), by have := HN.out; have := HM.out; omega, by rw [← HN.out]; exact hl.out⟩
            clear HB hl
            go_wp2
            go_ret
            exact ⟨rfl, B1.out.trans (hbl.out.mono B1.out.size)⟩
      · have gn : (((n : Int) != (m : Int)) : Bool) = true := by simp; omega
        have gn2 : (((m : Int) != (n : Int)) : Bool) = true := by simp; omega
        obtain rfl : b = false := b_false HB.out (fun h => g (by have := h.2.2.1; have := HN.out; have := HM.out; omega))
        clear HB H1 H2 C1 C2 C3 HN HM g
        go_wp2
        go_ret
        exact ⟨rfl, Below.refl _ _⟩

theorem exIsLifted (ns us : List Int) (lz : ns.length ≤ 1048576 ∧ us.length ≤ 1048576) : ∃ (r : Bool),
    Hid (∀ (w : World) (v u : Value), (fun _ => True) w → RdI w v ns → RdI w u us → Calls Try.prog 13 #[v, u] w fun e w' => e = .returned (.bool r) ∧ Below w.heap.size w w') ∧
    Hid (∀ (w : World) (v u : Value), (fun _ => True) w → RdI w v ns → RdI w u us → Calls Try.prog 14 #[v, u] w fun e w' => e = .returned (.bool r) ∧ Below w.heap.size w w') := by
  obtain ⟨b, h⟩ := bool_iz (IsL ns us)
  exact ⟨b, fun w v u _ k1 k2 => specIsL_any v u ns us w k1 k2 (by omega) (by omega) b h, fun w v u _ k1 k2 => implIsL_any v u ns us w k1 k2 (by omega) (by omega) b h⟩
end Go.Proofs.Ytonblcbdmblpbac
