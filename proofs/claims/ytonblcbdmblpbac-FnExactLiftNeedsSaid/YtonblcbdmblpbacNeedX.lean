/- LiftNeeds on both sides. (Written by tools/mkneed.py.) -/
import Derived.Test.YtonblcbdmblpbacSettM
import Derived.Test.YtonblcbdmblpbacAppI
namespace Go.Proofs.Ytonblcbdmblpbac
open Go.ChangeShapes Go.WideShapes Go.ChangeAt Go.RowKit
set_option linter.unusedVariables false
set_option linter.unusedSimpArgs false

theorem isNeed_any (x : Int) (w : World) (b : Bool) (hb : b = true ↔ 0 ≤ x ∧ x ≤ 12) : Calls Try.prog 24 #[.int .i64 x] w fun e w' => e = .returned (.bool b) ∧ w = w' := by
  have C := Lib.hid (fun w => within_any x 0 12 b hb w)
  clear hb
  go_enter Try.func24, Try.ntmps24
  go_wp2_with fail
  refine (C.out _).mono ?_
  rintro e w' ⟨rfl, rfl⟩
  go_wp2
  go_ret
  exact ⟨rfl, rfl⟩

set_option maxHeartbeats 1000000 in
theorem every_isNeed (v : Value) (zs : List Int) (w : World) (h : RdI w v zs) (lz : zs.length ≤ 1099511627776) (b : Bool) (hb : b = true ↔ AllIn 0 12 zs) :
    Calls Try.prog 35 #[v, .func (Fn.func 24) #[] #[]] w fun e w' => e = .returned (.bool b) ∧ w = w' := by
  obtain ⟨a, cap, rfl, ra⟩ := h
  obtain ⟨n, hn⟩ : ∃ n, n = zs.length := ⟨_, rfl⟩
  rw [← hn] at lz
  rw [← hn]
  have RA := Lib.hid ra
  have HN := Lib.hid hn
  have HB := Lib.hid hb
  clear ra hn hb
  go_enter Try.func35, Try.ntmps35
  go_wp2
  go_loop [6, 9] (fun _ i => ∃ k : Nat, k ≤ n ∧ i = .int .i64 k ∧ Hid (AllIn 0 12 (zs.take k))) (fun _ i => n - (intOf i).toNat)
  case atStart => exact ⟨0, by omega, rfl, fun x hx => by simp at hx⟩
  case round =>
    obtain ⟨k, hk, rfl, ha⟩ := hrel
    by_cases hlt : k < n
    · obtain ⟨x, hx⟩ : ∃ x, zs[k]? = some x := ⟨_, List.getElem?_eq_getElem (by have := HN.out; omega)⟩
      obtain ⟨ba, oa, rfl, ca'⟩ := RA.out.resolve_left (by intro h; have := HN.out; rw [h] at this; simp at this; omega)
      have c1 := ca' k x hx
      have HX := Lib.hid hx
      clear ca' hx
      by_cases hv : 0 ≤ x ∧ x ≤ 12
      · go_wp2_with (go_at_call 24; refine (isNeed_any _ _ true (by simpa using hv)).mono ?_; rintro e w' ⟨rfl, rfl⟩)
        exact ⟨⟨k + 1, by omega, by go_num, ha.out.take_succ HX.out hv.1 hv.2⟩, by simp only [intOf]; omega⟩
      · obtain rfl : b = false := b_false HB.out (fun hA => hv (hA.at HX.out))
        go_wp2_with (go_at_call 24; refine (isNeed_any _ _ false (by simp; omega)).mono ?_; rintro e w' ⟨rfl, rfl⟩)
        go_ret
        exact ⟨rfl, rfl⟩
    · obtain rfl : k = n := by omega
      obtain rfl : b = true := HB.out.mpr (by have := ha.out; rwa [List.take_of_length_le (by have := HN.out; omega)] at this)
      go_wp2
      go_ret
      exact ⟨rfl, rfl⟩

theorem isSettlement_is (n : Int) (b : Bool) (hb : b = true ↔ 0 ≤ n ∧ n ≤ 2000000) (w : World) :
    Calls Try.prog 32 #[.int .i64 n] w fun e w' => e = .returned (.bool b) ∧ w = w' := isSettlement_any n w b hb
theorem isDepth_is (n : Int) (b : Bool) (hb : b = true ↔ 1 ≤ n ∧ n ≤ 2000000) (w : World) :
    Calls Try.prog 33 #[.int .i64 n] w fun e w' => e = .returned (.bool b) ∧ w = w' := by
  have HB := Lib.hid hb
  clear hb
  go_enter Try.func33, Try.ntmps33
  go_wp2_with fail
  refine (within_any n 1 2000000 b HB.out w).mono ?_
  rintro e w' ⟨rfl, rfl⟩
  go_wp2
  go_ret
  exact ⟨rfl, rfl⟩

def needOf (al un x : Int) : Int := ((if x - al < 0 then 0 else x - al) + un - 1).tdiv un
theorem needOf_bd {al un x : Int} (h0 : 0 ≤ x) (h1 : x ≤ 2000000) (h2 : 1 ≤ un) (h3 : un ≤ 2000000) (a0 : 0 ≤ al) : 0 ≤ needOf al un x ∧ needOf al un x ≤ 4000000 := by
  unfold needOf
  have hm : 0 ≤ (if x - al < 0 then 0 else x - al) + un - 1 ∧ (if x - al < 0 then 0 else x - al) + un - 1 ≤ 4000000 := by split <;> omega
  generalize (if x - al < 0 then 0 else x - al) + un - 1 = m at *
  rw [Int.tdiv_eq_ediv_of_nonneg hm.1]
  have := Int.ediv_le_self un hm.1
  have := Int.ediv_nonneg hm.1 (show 0 ≤ un by omega)
  omega
def needsL (zs : List Int) (al un : Int) (f : Nat) : List Int := ((zs.drop f).take 12).map (needOf al un)
theorem needsL_len {zs : List Int} {al un : Int} {f : Nat} (h : zs.length = 24) (hf : f ≤ 12) : (needsL zs al un f).length = 12 := by simp [needsL]; omega
theorem needsL_get {zs : List Int} {al un : Int} {f k : Nat} {x : Int} (hk : k < 12) (hx : zs[f + k]? = some x) : (needsL zs al un f)[k]? = some (needOf al un x) := by
  simp [needsL, List.getElem?_take, hk, List.getElem?_drop, hx]
def NeedV (zs : List Int) (al un fr : Int) : Prop := OkSe zs ∧ (0 ≤ al ∧ al ≤ 2000000) ∧ (1 ≤ un ∧ un ≤ 2000000) ∧ (0 ≤ fr ∧ fr ≤ 12)

set_option maxRecDepth 100000 in
set_option maxHeartbeats 4000000 in
theorem specNeeds_no (v : Value) (zs : List Int) (al un fr : Int) (w : World) (hO : ∃ B, OwnI w B v zs) (lz : zs.length ≤ 1099511627776) (hv : ¬ NeedV zs al un fr) :
    Calls Try.prog 17 #[v, .int .i64 al, .int .i64 un, .int .i64 fr] w fun e w' => e = .returned (.tuple #[.slice none 0 0, .bool false]) ∧ w = w' := by
  obtain ⟨b1, h1⟩ := bool_is (OkSe zs)
  obtain ⟨b2, h2⟩ := bool_is (0 ≤ al ∧ al ≤ 2000000)
  obtain ⟨b3, h3⟩ := bool_is (1 ≤ un ∧ un ≤ 2000000)
  obtain ⟨b4, h4⟩ := bool_is (0 ≤ fr ∧ fr ≤ 12)
  obtain ⟨B, hO⟩ := hO
  have h := hO.rd
  clear hO
  have C1 := Lib.hid (l07Settled_any v zs w h lz b1 h1)
  have C2 := Lib.hid (fun w => in_any al 0 2000000 b2 h2 w)
  have C3 := Lib.hid (fun w => in_any un 1 2000000 b3 h3 w)
  have C4 := Lib.hid (fun w => in_any fr 0 12 b4 h4 w)
  have HV : Hid (¬ (b1 = true ∧ b2 = true ∧ b3 = true ∧ b4 = true)) := by show ¬ _; rw [h1, h2, h3, h4]; exact hv
  obtain ⟨a, cap, rfl, ra⟩ := h
  generalize zs.length = n at *
  clear hv h1 h2 h3 h4 ra lz
  go_enter Try.func17, Try.ntmps17
  go_wp2_with fail
  refine (C1.out).mono ?_
  rintro e w1 ⟨rfl, rfl⟩
  cases b1 with
  | false =>
    go_wp2
    go_ret2
    exact ⟨rfl, rfl⟩
  | true =>
    go_wp2_with fail
    refine (C2.out _).mono ?_
    rintro e w1 ⟨rfl, rfl⟩
    cases b2 with
    | false =>
      go_wp2
      go_ret2
      exact ⟨rfl, rfl⟩
    | true =>
      go_wp2_with fail
      refine (C3.out _).mono ?_
      rintro e w1 ⟨rfl, rfl⟩
      cases b3 with
      | false =>
        go_wp2
        go_ret2
        exact ⟨rfl, rfl⟩
      | true =>
        go_wp2_with fail
        refine (C4.out _).mono ?_
        rintro e w1 ⟨rfl, rfl⟩
        cases b4 with
        | false =>
          go_wp2
          go_ret2
          exact ⟨rfl, rfl⟩
        | true =>
          exact absurd (by simp) HV.out

set_option maxRecDepth 100000 in
set_option maxHeartbeats 4000000 in
theorem specNeeds_yes (v : Value) (zs : List Int) (al un fr : Int) (w : World) (hO : ∃ B, OwnI w B v zs) (lz : zs.length ≤ 1099511627776) (hv : NeedV zs al un fr) (b : Bool) (hb : b = true ↔ AllIn 0 12 (needsL zs al un fr.toNat)) :
    Calls Try.prog 17 #[v, .int .i64 al, .int .i64 un, .int .i64 fr] w fun e w' => ∃ u, e = .returned (.tuple #[u, .bool b]) ∧ OwnI w' w.heap.size u (if b = true then needsL zs al un fr.toNat else []) ∧ Below w.heap.size w w' := by
  obtain ⟨i0, hi, hz0, hz1, hz2⟩ := info_parts info_i64
  obtain ⟨ok, ⟨a0, a1⟩, ⟨u0, u1⟩, f0, f1⟩ := hv
  obtain ⟨f, hf⟩ : ∃ f : Nat, fr = f := ⟨fr.toNat, by omega⟩
  subst hf
  rw [show (f : Int).toNat = f from rfl] at hb ⊢
  have f12 : f ≤ 12 := by omega
  obtain ⟨B, hO⟩ := hO
  have h := hO.rd
  have C1 := Lib.hid (l07Settled_any v zs w h lz true (by simpa using ok))
  have C2 := Lib.hid (fun w => in_any al 0 2000000 true (by simp; omega) w)
  have C3 := Lib.hid (fun w => in_any un 1 2000000 true (by simp; omega) w)
  have C4 := Lib.hid (fun w => in_any (f : Int) 0 12 true (by simp; omega) w)
  have OK := Lib.hid ok
  have e24 := ok.1
  obtain ⟨-, hx | ⟨g, cap, cur, rfl, -, -, hcap, -⟩⟩ := hO
  · exact absurd hx.2 (by omega)
  have RA : Hid (∀ k x, zs[k]? = some x → w.cell? ⟨g, k, none⟩ = some (.int .i64 x)) := by
    intro k x hx
    obtain ⟨a', c', e, h1 | ⟨b, off, e2, h1⟩⟩ := h
    · rw [h1] at e24; simp at e24
    · simp only [Value.slice.injEq] at e
      rw [e2] at e
      simp only [Option.some.injEq, Addr.mk.injEq, and_true] at e
      obtain ⟨⟨rfl, rfl⟩, -, -⟩ := e
      have := h1 k x hx
      rwa [Nat.zero_add] at this
  obtain ⟨L, hL⟩ : ∃ L, needsL zs al un f = L := ⟨_, rfl⟩
  have HL := Lib.hid hL
  have LN : Hid (L.length = 12) := by show _ = _; rw [← hL]; exact needsL_len e24 f12
  have HB := Lib.hid hb
  rw [e24] at C1 hcap ⊢
  have cap1 : f + 12 ≤ cap := by omega
  have q0 : IntKind.i64.wrap ((f : Int) + 12) = (f : Int) + 12 := IntWalk.i64_in _ (by omega)
  rw [hL] at HB ⊢
  clear h ok lz e24 hL hb
  go_enter Try.func17, Try.ntmps17
  go_wp2_with fail
  refine C1.out.mono ?_
  rintro e w1 ⟨rfl, rfl⟩
  go_wp2_with fail
  refine (C2.out _).mono ?_
  rintro e w1 ⟨rfl, rfl⟩
  go_wp2_with fail
  refine (C3.out _).mono ?_
  rintro e w1 ⟨rfl, rfl⟩
  go_wp2_with fail
  refine (C4.out _).mono ?_
  rintro e w1 ⟨rfl, rfl⟩
  have O0 := Lib.hid (own_built w w.heap.size L rfl)
  have B0 : Hid (Below w.heap.size w (w.alloc (.cells #[] 2))) := (Below.refl _ _).alloc (Nat.le_refl _) _
  clear C1 C2 C3 C4
  go_wp2
  go_loopw [10, 11, 12] (fun ov iv _ wr => ∃ (k c1 : Nat) (ad : Option Addr), k ≤ 12 ∧ iv = .int .i64 ((f + k : Nat) : Int) ∧ ov = .slice ad k c1 ∧ Hid (AllIn 0 12 (L.take k)) ∧ Hid (OwnI wr w.heap.size (.slice ad k c1) (L.take k)) ∧ Hid (Below w.heap.size w wr)) (fun _ iv _ _ => f + 12 - (intOf iv).toNat)
  case atStart => exact ⟨0, 0, _, by omega, by simp, rfl, (fun x hx => by simp at hx), O0, B0⟩
  case round =>
    obtain ⟨k, c1, ad, hk, rfl, rfl, ha, ho, hbl⟩ := hrel
    clear O0 B0
    have fk : f + k ≤ 24 := by omega
    by_cases hlt : k < 12
    · obtain ⟨x, hx⟩ : ∃ x, zs[f + k]? = some x := ⟨_, List.getElem?_eq_getElem (by have := OK.out.1; omega)⟩
      have gA : g < w.heap.size := World.block_lt_of_cell? w _ (RA.out _ x hx)
      have ce := (hbl.out.cell (p := ⟨g, f + k, none⟩) gA).trans (RA.out _ x hx)
      obtain ⟨x0, x1⟩ := OK.out.2.at hx
      have nb := needOf_bd x0 x1 u0 u1 a0
      have LG : Hid (L[k]? = some (needOf al un x)) := by show _ = _; rw [← HL.out]; exact needsL_get hlt hx
      have q1 : IntKind.i64.wrap (x - al) = x - al := IntWalk.i64_in _ (by omega)
      obtain ⟨m, hm⟩ : ∃ m, (if x - al < 0 then 0 else x - al) = m := ⟨_, rfl⟩
      have m0 : 0 ≤ m ∧ m ≤ 2000000 := by rw [← hm]; split <;> omega
      have q2 : IntKind.i64.wrap (m + un) = m + un := IntWalk.i64_in _ (by omega)
      have q3 : IntKind.i64.wrap (m + un - 1) = m + un - 1 := IntWalk.i64_in _ (by omega)
      obtain ⟨N, hN⟩ : ∃ N, needOf al un x = N := ⟨_, rfl⟩
      rw [hN] at nb LG
      have q4 : IntKind.i64.wrap ((m + un - 1).tdiv un) = N := by rw [← hN, ← hm]; unfold needOf; exact IntWalk.i64_in _ (by have e := hN; unfold needOf at e; rw [e]; omega)
      have z1 : (un == 0) = false := by simp; omega
      have z2 : ¬ un = 0 := by omega
      have C5 := Lib.hid (fun w => max00_any 0 (x - al) m hm w)
      have i1 : ((f + k : Nat) : Int) < (f : Int) + 12 := by omega
      have q5 : IntKind.i64.wrap (((f + k : Nat) : Int) + 1) = ((f + (k + 1) : Nat) : Int) := by rw [IntWalk.i64_in _ (by omega)]; push_cast; omega
      have own := Lib.hid (own_take LN.out hk ho.out)
      have hsz := hbl.out.size
      have lgz := own.out.lt
      obtain ⟨j, hj⟩ : ∃ j, j = f + k := ⟨_, rfl⟩
      rw [← hj] at ce i1 q5 ⊢
      have j24 : j < 24 := by omega
      have HJ := Lib.hid hj
      clear hx ho hm hj hN
      by_cases g1 : N ≤ 12
      · have LT := LG
        have A1 := Lib.hid (ha.out.take_succ LG.out nb.1 g1)
        clear LG ha
        go_wp2_with fail
        refine (C5.out _).mono ?_
        rintro e w1 ⟨rfl, rfl⟩
        go_wp2_with (at_builtin; refine wpList_append_lies _ rfl _ _ _ rfl w.heap.size 2 i0 _ 1 8 Try.underlying22 hi hz0 hz1 hz2 rfl (by omega) _ _ _ rfl (own.out.alloc _) ⟨wr.heap.size, 0, none⟩ 1 1 [.int .i64 N] rfl rfl (World.news_of_block (cs := #[.int .i64 N]) (t := 2) (fr := (0, 0)) (heap_alloc_new wr _)) (by simp [Value.oneCell']) (by omega) (by unfold maxLen; omega) (by omega) (by simp only [World.size_alloc]; omega) _ rfl ?_)
        intro gg cap1 w5 hown1 hgrow hat hlt'
        have O5 := Lib.hid (own_next LT.out hown1)
        have B5 : Hid (Below w.heap.size w w5) := hbl.out.grown (grownBy_trans (World.grownBy_alloc wr _ _) hgrow) (by omega) (fun j e => (lgz j e).1)
        clear hown1 hgrow hat hlt' own lgz hbl
        go_wp2
        exact ⟨⟨k + 1, cap1, _, by omega, by first | rfl | (rw [q5]) | trivial, rfl, A1, O5, B5⟩, by simp only [intOf]; have := HJ.out; omega⟩
      · obtain rfl : b = false := b_false HB.out (fun h => g1 (h.at LG.out).2)
        clear LG ha own
        have g2 : 12 < N := by omega
        go_wp2_with fail
        refine (C5.out _).mono ?_
        rintro e w1 ⟨rfl, rfl⟩
        go_wp2
        go_ret2
        exact ⟨_, rfl, World.ownsRow_nil _ _ _ _, hbl.out⟩
    · obtain rfl : k = 12 := by omega
      have hA : AllIn 0 12 L := by have := ha.out; rwa [List.take_of_length_le (by have := LN.out; omega)] at this
      obtain rfl : b = true := HB.out.mpr hA
      have i1 : ¬ ((f + 12 : Nat) : Int) < (f : Int) + 12 := by omega
      have HO := Lib.hid (own_all LN.out ho.out)
      clear ho hA ha
      go_wp2
      go_ret2
      exact ⟨_, rfl, HO.out, hbl.out⟩
set_option maxRecDepth 100000 in
set_option maxHeartbeats 4000000 in
theorem implNeeds_no (v : Value) (zs : List Int) (al un fr : Int) (w : World) (hO : ∃ B, OwnI w B v zs) (lz : zs.length ≤ 1099511627776) (hv : ¬ NeedV zs al un fr) :
    Calls Try.prog 18 #[v, .int .i64 al, .int .i64 un, .int .i64 fr] w fun e w' => e = .returned (.tuple #[.slice none 0 0, .bool false]) ∧ w = w' := by
  obtain ⟨b1, h1⟩ := bool_is (OkSe zs)
  obtain ⟨b2, h2⟩ := bool_is (0 ≤ al ∧ al ≤ 2000000)
  obtain ⟨b3, h3⟩ := bool_is (1 ≤ un ∧ un ≤ 2000000)
  obtain ⟨b4, h4⟩ := bool_is (0 ≤ fr ∧ fr ≤ 12)
  obtain ⟨B, hO⟩ := hO
  have h := hO.rd
  clear hO
  have C1 := Lib.hid (isSettled_any v zs w h lz b1 h1)
  have C2 := Lib.hid (fun w => isSettlement_is al b2 h2 w)
  have C3 := Lib.hid (fun w => isDepth_is un b3 h3 w)
  have C4 := Lib.hid (fun w => within_any fr 0 12 b4 h4 w)
  have HV : Hid (¬ (b1 = true ∧ b2 = true ∧ b3 = true ∧ b4 = true)) := by show ¬ _; rw [h1, h2, h3, h4]; exact hv
  obtain ⟨a, cap, rfl, ra⟩ := h
  generalize zs.length = n at *
  clear hv h1 h2 h3 h4 ra lz
  go_enter Try.func18, Try.ntmps18
  go_wp2_with fail
  refine (C1.out).mono ?_
  rintro e w1 ⟨rfl, rfl⟩
  cases b1 with
  | false =>
    go_wp2
    go_ret2
    exact ⟨rfl, rfl⟩
  | true =>
    go_wp2_with fail
    refine (C2.out _).mono ?_
    rintro e w1 ⟨rfl, rfl⟩
    cases b2 with
    | false =>
      go_wp2
      go_ret2
      exact ⟨rfl, rfl⟩
    | true =>
      go_wp2_with fail
      refine (C3.out _).mono ?_
      rintro e w1 ⟨rfl, rfl⟩
      cases b3 with
      | false =>
        go_wp2
        go_ret2
        exact ⟨rfl, rfl⟩
      | true =>
        go_wp2_with fail
        refine (C4.out _).mono ?_
        rintro e w1 ⟨rfl, rfl⟩
        cases b4 with
        | false =>
          go_wp2
          go_ret2
          exact ⟨rfl, rfl⟩
        | true =>
          exact absurd (by simp) HV.out

set_option maxRecDepth 100000 in
set_option maxHeartbeats 4000000 in
theorem implNeeds_yes (v : Value) (zs : List Int) (al un fr : Int) (w : World) (hO : ∃ B, OwnI w B v zs) (lz : zs.length ≤ 1099511627776) (hv : NeedV zs al un fr) (b : Bool) (hb : b = true ↔ AllIn 0 12 (needsL zs al un fr.toNat)) :
    Calls Try.prog 18 #[v, .int .i64 al, .int .i64 un, .int .i64 fr] w fun e w' => ∃ u, e = .returned (.tuple #[u, .bool b]) ∧ OwnI w' w.heap.size u (if b = true then needsL zs al un fr.toNat else []) ∧ Below w.heap.size w w' := by
  obtain ⟨i0, hi, hz0, hz1, hz2⟩ := info_parts info_i64
  obtain ⟨ok, ⟨a0, a1⟩, ⟨u0, u1⟩, f0, f1⟩ := hv
  obtain ⟨f, hf⟩ : ∃ f : Nat, fr = f := ⟨fr.toNat, by omega⟩
  subst hf
  rw [show (f : Int).toNat = f from rfl] at hb ⊢
  have f12 : f ≤ 12 := by omega
  obtain ⟨B, hO⟩ := hO
  have h := hO.rd
  have C1 := Lib.hid (isSettled_any v zs w h lz true (by simpa using ok))
  have C2 := Lib.hid (fun w => isSettlement_is al true (by simp; omega) w)
  have C3 := Lib.hid (fun w => isDepth_is un true (by simp; omega) w)
  have C4 := Lib.hid (fun w => within_any (f : Int) 0 12 true (by simp; omega) w)
  have OK := Lib.hid ok
  have e24 := ok.1
  obtain ⟨-, hx | ⟨g, cap, cur, rfl, -, -, hcap, -⟩⟩ := hO
  · exact absurd hx.2 (by omega)
  have RA : Hid (∀ k x, zs[k]? = some x → w.cell? ⟨g, k, none⟩ = some (.int .i64 x)) := by
    intro k x hx
    obtain ⟨a', c', e, h1 | ⟨b, off, e2, h1⟩⟩ := h
    · rw [h1] at e24; simp at e24
    · simp only [Value.slice.injEq] at e
      rw [e2] at e
      simp only [Option.some.injEq, Addr.mk.injEq, and_true] at e
      obtain ⟨⟨rfl, rfl⟩, -, -⟩ := e
      have := h1 k x hx
      rwa [Nat.zero_add] at this
  obtain ⟨L, hL⟩ : ∃ L, needsL zs al un f = L := ⟨_, rfl⟩
  have HL := Lib.hid hL
  have LN : Hid (L.length = 12) := by show _ = _; rw [← hL]; exact needsL_len e24 f12
  have HB := Lib.hid hb
  rw [e24] at C1 hcap ⊢
  have cap1 : f + 12 ≤ cap := by omega
  have q0 : IntKind.i64.wrap ((f : Int) + 12) = (f : Int) + 12 := IntWalk.i64_in _ (by omega)
  rw [hL] at HB ⊢
  clear h ok lz e24 hL hb
  go_enter Try.func18, Try.ntmps18
  go_wp2_with fail
  refine C1.out.mono ?_
  rintro e w1 ⟨rfl, rfl⟩
  go_wp2_with fail
  refine (C2.out _).mono ?_
  rintro e w1 ⟨rfl, rfl⟩
  go_wp2_with fail
  refine (C3.out _).mono ?_
  rintro e w1 ⟨rfl, rfl⟩
  go_wp2_with fail
  refine (C4.out _).mono ?_
  rintro e w1 ⟨rfl, rfl⟩
  go_wp2_with (first | (at_make; refine wpList_make_full _ rfl _ _ _ rfl w.heap.size 2 i0 (.int .i64 0) 1 Try.underlying22 hi hz0 hz1 .i64 .i64 _ _ 12 rfl rfl rfl rfl ?b2 ?b3 (Nat.le_refl _) ?_) | go_in)
  case b2 => rw [hz2]; omega
  case b3 => unfold maxLen; omega
  intro w1 hown hg
  rw [toList_madeCells_one] at hown
  have O1 : Hid (OwnI w1 w.heap.size (.slice (some ⟨w.heap.size, 0, none⟩) 12 12) (part L 12 0)) := part_made hown
  have B1 : Hid (Below w.heap.size w w1) := (Below.refl _ _).grown hg (Nat.le_refl _) (fun k h => by cases h)
  clear hown hg C1 C2 C3 C4
  go_wp2
  go_loopw [38] (fun i wr => ∃ k : Nat, k ≤ 12 ∧ i = .int .i64 k ∧ Hid (OwnI wr w.heap.size (.slice (some ⟨w.heap.size, 0, none⟩) 12 12) (part L 12 k)) ∧ Hid (Below w.heap.size w wr)) (fun i _ => 12 - (intOf i).toNat)
  case atStart => exact ⟨0, by omega, rfl, O1, B1⟩
  case round =>
    obtain ⟨k, hk, rfl, ho, hbl⟩ := hrel
    clear O1 B1
    by_cases hlt : k < 12
    · obtain ⟨x, hx⟩ : ∃ x, zs[f + k]? = some x := ⟨_, List.getElem?_eq_getElem (by have := OK.out.1; omega)⟩
      have gA : g < w.heap.size := World.block_lt_of_cell? w _ (RA.out _ x hx)
      have c1 := (hbl.out.cell (p := ⟨g, f + k, none⟩) gA).trans (RA.out _ x hx)
      obtain ⟨x0, x1⟩ := OK.out.2.at hx
      have nb := needOf_bd x0 x1 u0 u1 a0
      have LG : Hid (L[k]? = some (needOf al un x)) := by show _ = _; rw [← HL.out]; exact needsL_get hlt hx
      have q1 : IntKind.i64.wrap (x - al) = x - al := IntWalk.i64_in _ (by omega)
      obtain ⟨m, hm⟩ : ∃ m, (if x - al < 0 then 0 else x - al) = m := ⟨_, rfl⟩
      have m0 : 0 ≤ m ∧ m ≤ 2000000 := by rw [← hm]; split <;> omega
      have q2 : IntKind.i64.wrap (m + un) = m + un := IntWalk.i64_in _ (by omega)
      have q3 : IntKind.i64.wrap (m + un - 1) = m + un - 1 := IntWalk.i64_in _ (by omega)
      obtain ⟨N, hN⟩ : ∃ N, needOf al un x = N := ⟨_, rfl⟩
      rw [hN] at nb LG
      have q4 : IntKind.i64.wrap ((m + un - 1).tdiv un) = N := by rw [← hN, ← hm]; unfold needOf; exact IntWalk.i64_in _ (by have e := hN; unfold needOf at e; rw [e]; omega)
      have z1 : (un == 0) = false := by simp; omega
      have z2 : ¬ un = 0 := by omega
      obtain ⟨c2, fz⟩ := part_cell LN.out hlt ho.out
      have s1 := Lib.hid (part_store LN.out LG.out ho.out)
      have s2 : Hid (Below w.heap.size w (wr.setCell ⟨w.heap.size, k, none⟩ (.int .i64 N))) := hbl.out.setCell (Nat.le_refl _) _
      clear hx ho hbl LG hN nb
      go_wp2
      exact ⟨⟨k + 1, by omega, by go_num, s1, s2⟩, by simp only [intOf]; omega⟩
    · obtain rfl : k = 12 := by omega
      have HO : Hid (OwnI wr w.heap.size (.slice (some ⟨w.heap.size, 0, none⟩) 12 12) L) := by have := ho.out; rwa [part_all LN.out] at this
      have hC : RdI wr (.slice (some ⟨w.heap.size, 0, none⟩) 12 12) L := HO.out.rd
      have C5 := Lib.hid (every_isNeed _ L wr hC (by have := LN.out; omega) b HB.out)
      clear ho hC
      go_wp2_with fail
      refine C5.out.mono ?_
      rintro e w1 ⟨rfl, rfl⟩
      cases b
      · go_wp2
        go_ret2
        exact ⟨_, rfl, World.ownsRow_nil _ _ _ _, hbl.out⟩
      · go_wp2
        go_ret2
        exact ⟨_, rfl, HO.out, hbl.out⟩
theorem exLiftNeeds (zs : List Int) (al un fr : Int) (lz : zs.length ≤ 1048576) : ∃ (ys : List Int) (r : Bool) (_ : ys.length ≤ 1048576),
    Hid (∀ (w : World) (v : Value), (fun _ => True) w → (∃ B, OwnI w B v zs) → Calls Try.prog 17 #[v, .int .i64 al, .int .i64 un, .int .i64 fr] w fun e w' => ∃ u, e = .returned (.tuple #[u, .bool r]) ∧ OwnI w' w.heap.size u ys ∧ Below w.heap.size w w') ∧
    Hid (∀ (w : World) (v : Value), (fun _ => True) w → (∃ B, OwnI w B v zs) → Calls Try.prog 18 #[v, .int .i64 al, .int .i64 un, .int .i64 fr] w fun e w' => ∃ u, e = .returned (.tuple #[u, .bool r]) ∧ OwnI w' w.heap.size u ys ∧ Below w.heap.size w w') := by
  by_cases hb : NeedV zs al un fr
  · obtain ⟨b, h⟩ := bool_is (AllIn 0 12 (needsL zs al un fr.toNat))
    exact ⟨if b = true then needsL zs al un fr.toNat else [], b, by split <;> simp [needsL]; omega, fun w v _ k => specNeeds_yes v zs al un fr w k (by omega) hb b h, fun w v _ k => implNeeds_yes v zs al un fr w k (by omega) hb b h⟩
  · exact ⟨[], false, by simp, fun w v _ h => (specNeeds_no v zs al un fr w h (by omega) hb).mono fun e w' ⟨he, hw⟩ => ⟨_, he, hw ▸ World.ownsRow_nil _ _ _ _, hw ▸ Below.refl _ _⟩,
      fun w v _ h => (implNeeds_no v zs al un fr w h (by omega) hb).mono fun e w' ⟨he, hw⟩ => ⟨_, he, hw ▸ World.ownsRow_nil _ _ _ _, hw ▸ Below.refl _ _⟩⟩
end Go.Proofs.Ytonblcbdmblpbac
