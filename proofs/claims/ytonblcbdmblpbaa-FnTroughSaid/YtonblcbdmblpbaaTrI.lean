/- Troughs of the program; TroughOf on both sides. -/
import Derived.Test.YtonblcbdmblpbaaPasIt
import Derived.Test.YtonblcbdmblpbaaPart
namespace Go.Proofs.Ytonblcbdmblpbaa
open Go.ChangeShapes Go.WideShapes Go.ChangeAt Go.RowKit
set_option linter.unusedVariables false
set_option linter.unusedSimpArgs false

theorem csum_part (v : Int) (T k : Nat) : partT v T k = untilT v T (k + 1) - untilT v T k := rfl

set_option maxRecDepth 100000 in
set_option maxHeartbeats 4000000 in
theorem trough_any (q : Lo) (hv : Litres q.v) (hw : 0 ≤ q.w ∧ q.w ≤ 5) (w : World) :
    Calls Try.prog 39 #[(.agg #[.int .i64 q.s, .int .i64 q.v, .int .i64 q.w])] w fun e w' => ∃ u, e = .returned u ∧ OwnI w' w.heap.size u (troughL q.v (2 * q.w.toNat)) ∧ Below w.heap.size w w' := by
  obtain ⟨i0, hi, hz0, hz1, hz2⟩ := info_parts info_i64
  obtain ⟨v0, v1⟩ := hv
  obtain ⟨T, hT⟩ : ∃ T, T = 2 * q.w.toNat := ⟨_, rfl⟩
  have T10 : T ≤ 10 := by omega
  have qT : IntKind.i64.wrap (2 * q.w) = (T : Int) := by rw [IntWalk.i64_in _ (by omega)]; omega
  rw [← hT]
  obtain ⟨L, hL⟩ : ∃ L, L = troughL q.v T := ⟨_, rfl⟩
  have HL := Lib.hid hL
  obtain ⟨m, hm⟩ : ∃ m, m = T + 1 := ⟨_, rfl⟩
  have m11 : m ≤ 11 := by omega
  have LN : Hid (L.length = m) := by show _ = _; rw [hL, troughL_len, hm]
  rw [← hL]
  have HM := Lib.hid hm
  have C := Lib.hid (fun w => ways_any T T10 w)
  obtain ⟨P, hP⟩ : ∃ P : Int, P = 2 ^ T := ⟨_, rfl⟩
  obtain ⟨p0, p1⟩ := pow_in (n := T) T10
  rw [← hP] at p0 p1
  have HP := Lib.hid hP
  clear hT hw hL hm hP
  go_enter Try.func39, Try.ntmps39
  go_wp2_with fail
  refine (C.out _).mono ?_
  rintro e w1 ⟨u, rfl, o1, b1⟩
  obtain ⟨g, c, rfl, gl, gh⟩ := o1.formed (rowP_len T) (by omega)
  rw [← HM.out] at o1 ⊢
  obtain ⟨⟨a0, a1, a2⟩, -⟩ := boxLo_at ((b1.block w.heap.size (by simp)).trans (heap_alloc_new w _))
  have s1 := b1.size
  simp only [World.size_alloc] at s1 gl
  have B1 : Hid (Below w.heap.size w w1) := Below.trans (by go_grown) (b1.mono (by simp))
  have HR := Lib.hid o1.rd
  clear b1 C o1
  have qP : wrap64 (2 ^ T) = P := by rw [← HP.out]; unfold wrap64; omega
  go_wp2_with (first | (at_make; refine wpList_make_full _ rfl _ _ _ rfl w1.heap.size 2 i0 (.int .i64 0) 1 Try.underlying25 hi hz0 hz1 .i64 .i64 _ _ m rfl rfl rfl rfl ?b2 ?b3 (Nat.le_refl _) ?_) | go_in)
  case b2 => rw [hz2]; omega
  case b3 => unfold maxLen; omega
  intro w2 hown hg
  rw [toList_madeCells_one] at hown
  have O2 : Hid (OwnI w2 w1.heap.size (.slice (some ⟨w1.heap.size, 0, none⟩) m m) (part L m 0)) := part_made hown
  have B2 : Hid (Below w1.heap.size w1 w2) := (Below.refl _ _).grown hg (Nat.le_refl _) (fun k h => by cases h)
  have C0 := Lib.hid a1
  clear hown hg qP a0 a1 a2
  go_wp2
  go_loopw [7, 8, 24] (fun sv bv i wr => ∃ k : Nat, k ≤ m ∧ i = .int .i64 k ∧ sv = .int .i64 (csum (rowP T) k) ∧ bv = .int .i64 (untilT q.v T k) ∧ Hid (OwnI wr w1.heap.size (.slice (some ⟨w1.heap.size, 0, none⟩) m m) (part L m k)) ∧ Hid (Below w1.heap.size w1 wr)) (fun _ _ i _ => m - (intOf i).toNat)
  case atStart => exact ⟨0, by omega, rfl, rfl, by rw [untilT_zero], O2, B2⟩
  case round =>
    obtain ⟨k, hk, rfl, rfl, rfl, ho, hbl⟩ := hrel
    clear O2 B2
    by_cases hlt : k < m
    · obtain ⟨x, hx⟩ : ∃ x, (rowP T)[k]? = some x := ⟨_, List.getElem?_eq_getElem (by rw [rowP_len]; have := HM.out; omega)⟩
      have bx := (rowP_in (n := T) (by omega)).at hx
      have cx := (hbl.out.cell (p := ⟨g, k, none⟩) gh).trans (HR.out.cellAt hx)
      have cv := (hbl.out.cell (p := ⟨w.heap.size, 1, none⟩) (by show w.heap.size < _; omega)).trans C0.out
      have s0 := csum_nonneg (rowP_in (n := T) (by omega)) k
      have s1' := csum_nonneg (rowP_in (n := T) (by omega)) (k + 1)
      have t1 := rowP_sum_le (n := T) (k := k + 1) (by omega) (by omega)
      have t0 := rowP_sum_le (n := T) (k := k) (by omega) (by omega)
      have u0 := untilT_bd (n := T) (k := k) v0 v1 (by omega) (by omega)
      have u1 := untilT_bd (n := T) (k := k + 1) v0 v1 (by omega) (by omega)
      have S := csum_succ hx
      have LG : Hid (L[k]? = some (untilT q.v T (k + 1) - untilT q.v T k)) := by show _ = _; rw [HL.out]; exact troughL_get q.v (by have := HM.out; omega)
      have e1 : untilT q.v T (k + 1) = (q.v * csum (rowP T) (k + 1)).tdiv P := by rw [HP.out]; rfl
      obtain ⟨U, hU⟩ : ∃ U, U = untilT q.v T k := ⟨_, rfl⟩
      obtain ⟨U', hU'⟩ : ∃ U, U = untilT q.v T (k + 1) := ⟨_, rfl⟩
      rw [← HP.out] at t0 t1
      obtain ⟨s, hs⟩ : ∃ s, s = csum (rowP T) k := ⟨_, rfl⟩
      rw [S] at e1 s1' t1
      rw [← hs] at e1 s0 s1' t0 t1 S ⊢
      rw [← hU] at u0 LG ⊢
      rw [← hU'] at e1 u1 LG
      have b1 := prod_bd v0 v1 s1' (by omega)
      have q1 : IntKind.i64.wrap (s + x) = s + x := IntWalk.i64_in _ (by omega)
      have q2 : IntKind.i64.wrap (q.v * (s + x)) = q.v * (s + x) := IntWalk.i64_in _ (by omega)
      have q4 : IntKind.i64.wrap ((q.v * (s + x)).tdiv P) = U' := by rw [← e1]; exact IntWalk.i64_in _ (by omega)
      have q6 : IntKind.i64.wrap (U' - U) = U' - U := IntWalk.i64_in _ (by omega)
      have z1 : (P == 0) = false := by simp; omega
      have z2 : ¬ P = 0 := by omega
      have HS := Lib.hid S
      have HU := Lib.hid hU'
      obtain ⟨c2, fz⟩ := part_cell LN.out hlt ho.out
      have r1 := Lib.hid (part_store LN.out LG.out ho.out)
      have r2 : Hid (Below w1.heap.size w1 (wr.setCell ⟨w1.heap.size, k, none⟩ (.int .i64 (U' - U)))) := hbl.out.setCell (Nat.le_refl _) _
      have nw : ¬ w.heap.size = w1.heap.size := by omega
      have ng : ¬ g = w1.heap.size := by omega
      clear hx bx S hs hU hU' e1 s0 s1' t0 t1 u0 u1 b1 ho hbl LG
      go_wp2
      exact ⟨⟨k + 1, by omega, by go_num, by rw [HS.out], by rw [HU.out], r1, r2⟩, by simp only [intOf]; omega⟩
    · obtain rfl : k = m := by omega
      have HO : Hid (OwnI wr w1.heap.size (.slice (some ⟨w1.heap.size, 0, none⟩) k k) L) := by have := ho.out; rwa [part_all LN.out] at this
      clear ho
      go_wp2
      go_ret
      exact ⟨_, rfl, HO.out.mono (by omega), B1.out.trans (hbl.out.mono (by omega))⟩

/-- What TroughOf requires. -/
def TrV (v wd : Int) : Prop := Litres v ∧ (0 ≤ wd ∧ wd ≤ 5)

theorem implTrough_yes (v wd : Int) (h : TrV v wd) (w : World) :
    Calls Try.prog 12 #[.int .i64 v, .int .i64 wd] w fun e w' => ∃ u, e = .returned (.tuple #[u, .bool true]) ∧ OwnI w' w.heap.size u (troughL v (2 * wd.toNat)) ∧ Below w.heap.size w w' := by
  have C1 := Lib.hid (fun w => isVolume_any v true (by simpa using h.1) w)
  have C2 := Lib.hid (fun w => isWidth_any wd true (by simpa using h.2) w)
  have C3 := Lib.hid (fun w => trough_any ⟨0, v, wd⟩ h.1 h.2 w)
  clear h
  go_enter Try.func12, Try.ntmps12
  go_wp2_with fail
  refine (C1.out _).mono ?_
  rintro e w1 ⟨rfl, rfl⟩
  go_wp2_with fail
  refine (C2.out _).mono ?_
  rintro e w1 ⟨rfl, rfl⟩
  go_wp2_with fail
  refine (C3.out _).mono ?_
  rintro e w1 ⟨u, rfl, o1, b1⟩
  have O1 := Lib.hid o1
  have B1 := Lib.hid b1
  clear o1 b1 C1 C2 C3
  go_wp2
  go_ret2
  exact ⟨_, rfl, O1.out, B1.out⟩
theorem implTrough_no (v wd : Int) (h : ¬ TrV v wd) (w : World) :
    Calls Try.prog 12 #[.int .i64 v, .int .i64 wd] w fun e w' => e = .returned (.tuple #[.slice none 0 0, .bool false]) ∧ w = w' := by
  obtain ⟨b1, h1⟩ := bool_of (Litres v)
  obtain ⟨b2, h2⟩ := bool_of (0 ≤ wd ∧ wd ≤ 5)
  have C1 := Lib.hid (fun w => isVolume_any v b1 h1 w)
  have C2 := Lib.hid (fun w => isWidth_any wd b2 h2 w)
  have HV : Hid (¬ (b1 = true ∧ b2 = true)) := by show ¬ _; rw [h1, h2]; exact h
  clear h h1 h2
  go_enter Try.func12, Try.ntmps12
  go_wp2_with fail
  refine (C1.out _).mono ?_
  rintro e w1 ⟨rfl, rfl⟩
  cases b1 with
  | false =>
    go_wp2
    go_ret2
    exact ⟨rfl, rfl⟩
  | true =>
    go_wp2_with fail
    refine (C2.out _).mono ?_
    rintro e w1 ⟨rfl, rfl⟩
    cases b2 with
    | false =>
      go_wp2
      go_ret2
      exact ⟨rfl, rfl⟩
    | true => exact absurd (by simp) HV.out
end Go.Proofs.Ytonblcbdmblpbaa
