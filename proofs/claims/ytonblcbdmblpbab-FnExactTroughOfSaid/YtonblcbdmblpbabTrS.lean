/- Troughs on the specification's side. -/
import Derived.Test.YtonblcbdmblpbabTrM
import Derived.Test.YtonblcbdmblpbabAppI
import Derived.Test.YtonblcbdmblpbabLossM
import Derived.Deep.RegionLaw
namespace Go.Proofs.Ytonblcbdmblpbab
open Go.ChangeShapes Go.WideShapes Go.ChangeAt Go.RowKit
set_option linter.unusedVariables false
set_option linter.unusedSimpArgs false

theorem grownBy_alloc_drew (w : World) (o : Obj) (row : Option Nat) : w.grownBy (w.alloc o).drew row := by
  have h := World.grownBy_alloc w o row
  exact ⟨h.os, h.tape, h.output, h.size, h.block⟩

/-- The cells of a row of numbers. -/
theorem RdI.cellAt {w : World} {b n c : Nat} {L : List Int} (h : RdI w (.slice (some ⟨b, 0, none⟩) n c) L) {i : Nat} {x : Int} (hx : L[i]? = some x) : w.cell? ⟨b, i, none⟩ = some (.int .i64 x) := by
  obtain ⟨a', c', e, h1 | ⟨b', off, e2, h1⟩⟩ := h
  · rw [h1] at hx; simp at hx
  · simp only [Value.slice.injEq] at e
    rw [e2] at e
    simp only [Option.some.injEq, Addr.mk.injEq, and_true] at e
    obtain ⟨⟨rfl, rfl⟩, -, -⟩ := e
    have := h1 i x hx
    rwa [Nat.zero_add] at this

theorem OwnI.formed {w : World} {B : Nat} {v : Value} {L : List Int} {n : Nat} (h : OwnI w B v L) (hn : L.length = n) (h0 : 0 < n) : ∃ g c, v = .slice (some ⟨g, 0, none⟩) n c ∧ B ≤ g ∧ g < w.heap.size := by
  subst hn
  have hl := h.lt
  obtain ⟨-, hx | ⟨g, c, cur, rfl, -⟩⟩ := h
  · exact absurd hx.2 (by omega)
  · exact ⟨g, c, rfl, hl g rfl⟩

theorem own_one (w : World) (N : Nat) (hN : N = w.heap.size) (L : List Int) (x : Int) (hL : L[0]? = some x) : OwnI (w.alloc (.cells #[.int .i64 x] 2)) N (.slice (some ⟨N, 0, none⟩) 1 1) (L.take 1) := by
  subst hN
  have e : L.take 1 = [x] := by rw [List.take_add_one, hL]; simp
  rw [e]
  refine ⟨by simp, .inr ⟨w.heap.size, 1, _, rfl, Nat.le_refl _, heap_alloc_new w _, Nat.le_refl _, by unfold maxLen; omega, by simp, by simp⟩⟩

set_option maxRecDepth 100000 in
set_option maxHeartbeats 8000000 in
theorem l07Trough_any (v wd : Int) (hv : Litres v) (hw : 0 ≤ wd ∧ wd ≤ 5) (w : World) :
    Calls Try.prog 58 #[.int .i64 v, .int .i64 wd] w fun e w' => ∃ u, e = .returned u ∧ OwnI w' w.heap.size u (troughL v (2 * wd.toNat)) ∧ Below w.heap.size w w' := by
  obtain ⟨i0, hi, hz0, hz1, hz2⟩ := info_parts info_i64
  obtain ⟨v0, v1⟩ := hv
  obtain ⟨T, hT⟩ : ∃ T, T = 2 * wd.toNat := ⟨_, rfl⟩
  have T10 : T ≤ 10 := by omega
  have qT : IntKind.i64.wrap (2 * wd) = (T : Int) := by rw [IntWalk.i64_in _ (by omega)]; omega
  rw [← hT]
  obtain ⟨L, hL⟩ : ∃ L, L = troughL v T := ⟨_, rfl⟩
  have HL := Lib.hid hL
  rw [← hL]
  clear hT hw hL
  have O0 := Lib.hid (own_one w w.heap.size rfl (rowP 0) 1 rfl)
  have B0 : Hid (Below w.heap.size w (w.alloc (.cells #[.int .i64 1] 2))) := (Below.refl _ _).alloc (Nat.le_refl _) _
  go_enter Try.func58, Try.ntmps58
  go_wp2
  go_loopw [5, 6, 7, 8, 9] (fun rv av nv _ _ wr => ∃ (k g c : Nat), k ≤ T ∧ nv = .int .i64 k ∧ av = .int .i64 (2 ^ k) ∧ rv = .slice (some ⟨g, 0, none⟩) (k + 1) c ∧ w.heap.size ≤ g ∧ g < wr.heap.size ∧ Hid (OwnI wr w.heap.size (.slice (some ⟨g, 0, none⟩) (k + 1) c) (rowP k)) ∧ Hid (Below w.heap.size w wr)) (fun _ _ nv _ _ _ => T - (intOf nv).toNat)
  case atStart => exact ⟨0, w.heap.size, 1, by omega, rfl, rfl, rfl, Nat.le_refl _, by simp, O0, B0⟩
  case round =>
    obtain ⟨k, g, c, hk, rfl, rfl, rfl, gl, gh, ho, hbl⟩ := hrel
    clear O0 B0
    obtain ⟨P, hP⟩ : ∃ P : Int, P = 2 ^ k := ⟨_, rfl⟩
    obtain ⟨p0, p1⟩ := pow_in (n := k) (by omega)
    rw [← hP] at p0 p1 ⊢
    obtain ⟨m, hm⟩ : ∃ m, m = k + 1 := ⟨_, rfl⟩
    have m11 : m ≤ 11 := by omega
    rw [← hm] at ho ⊢
    have HM := Lib.hid hm
    have HP := Lib.hid hP
    have hsz := hbl.out.size
    by_cases hlt : k < T
    · have q1 : IntKind.i64.wrap (P * 2) = P * 2 := IntWalk.i64_in _ (by omega)
      have q2 : IntKind.i64.wrap ((k : Int) + 1) = (m : Int) := by rw [IntWalk.i64_in _ (by omega)]; omega
      have HR := Lib.hid ho.out.rd
      obtain ⟨Ln, hL⟩ : ∃ L, L = nextRow (rowP k) := ⟨_, rfl⟩
      have HLn := Lib.hid hL
      have LL : Hid (Ln.length = m + 1) := by show _ = _; rw [hL, nextRow_len, rowP_len, hm]
      have L0 : Hid (Ln[0]? = some 1) := by show _ = _; rw [hL]; exact nextRow_zero (rowP_first k)
      have LA : Hid (Ln[m]? = some 1) := by show _ = _; rw [hL, hm]; exact nextRow_last (rowP_len k) (rowP_last k)
      obtain ⟨wo, hwo⟩ : ∃ x, x = wr := ⟨_, rfl⟩
      subst hwo
      have O1 := Lib.hid (own_one wo wo.heap.size rfl Ln 1 L0.out)
      have B1 : Hid (Below wo.heap.size wo (wo.alloc (.cells #[.int .i64 1] 2))) := (Below.refl _ _).alloc (Nat.le_refl _) _
      clear hm hP hL
      go_wp2
      go_loopw [8, 9] (fun ov iv wr => ∃ (j c1 : Nat) (ad : Option Addr), 1 ≤ j ∧ j ≤ m ∧ iv = .int .i64 j ∧ ov = .slice ad j c1 ∧ Hid (OwnI wr wo.heap.size (.slice ad j c1) (Ln.take j)) ∧ Hid (Below wo.heap.size wo wr)) (fun _ iv _ => m + 1 - (intOf iv).toNat)
      case atStart => exact ⟨1, 1, _, by omega, by have := HM.out; omega, rfl, rfl, O1, B1⟩
      case round =>
        obtain ⟨j, c1, ad, j1, hj, rfl, rfl, ho2, hbl2⟩ := hrel
        clear O1 B1
        have hsz2 := hbl2.out.size
        by_cases hlt2 : j < m
        · obtain ⟨i, hi2⟩ : ∃ i, j = i + 1 := ⟨j - 1, by omega⟩
          obtain ⟨x, hx⟩ : ∃ x, (rowP k)[i]? = some x := ⟨_, List.getElem?_eq_getElem (by rw [rowP_len]; have := HM.out; omega)⟩
          obtain ⟨y, hy⟩ : ∃ x, (rowP k)[j]? = some x := ⟨_, List.getElem?_eq_getElem (by rw [rowP_len]; have := HM.out; omega)⟩
          have bx := (rowP_in (n := k) (by omega)).at hx
          have by_ := (rowP_in (n := k) (by omega)).at hy
          have LT : Hid (Ln[j]? = some (x + y)) := by show _ = _; rw [HLn.out, hi2]; rw [hi2] at hy; exact nextRow_mid hy hx
          have cx := (hbl2.out.cell (p := ⟨g, i, none⟩) gh).trans (HR.out.cellAt hx)
          have cy := (hbl2.out.cell (p := ⟨g, j, none⟩) gh).trans (HR.out.cellAt hy)
          have q3 : IntKind.i64.wrap ((j : Int) - 1) = (i : Int) := by rw [IntWalk.i64_in _ (by omega)]; omega
          have q4 : IntKind.i64.wrap (x + y) = x + y := IntWalk.i64_in _ (by omega)
          have im : i < m := by omega
          have own := Lib.hid (own_take LL.out (by omega : j ≤ m + 1) ho2.out)
          have lgz := own.out.lt
          clear hi2 hx hy ho2 bx by_
          go_wp2
          go_region_law ((refine step_append_lies _ (by rfl) _ _ _ (by rfl) wo.heap.size 2 i0 _ 1 8 Try.underlying39 hi hz0 hz1 hz2 rfl (by omega) _ _ _ (by rfl) ((own.out.alloc _).drew) ⟨wr.heap.size, 0, none⟩ 1 1 [.int .i64 (x + y)] (by rfl) (by rfl) (World.news_of_block (cs := #[.int .i64 (x + y)]) (t := 2) (fr := (0, 0)) (heap_alloc_new wr _)) (by simp [Value.oneCell']) (by omega) (by unfold maxLen; omega) (by omega) (by simp; omega) (wr.heap.size + 1) (by simp) ?_; intro gg cap1 w5 hown1 hgrow hat hlt'))
          all_goals
            have O5 := Lib.hid (own_next2 LT.out hown1)
            have B5 : Hid (Below wo.heap.size wo w5) := hbl2.out.grown (grownBy_trans' (grownBy_alloc_drew wr _ _) hgrow) (by omega) (fun j e => (lgz j e).1)
            clear hown1 hgrow hat hlt' own lgz hbl2 LT
            go_wp2
            exact ⟨⟨j + 1, cap1, _, by omega, by omega, by go_num, rfl, O5, B5⟩, by simp only [intOf]; omega⟩
        · obtain rfl : j = m := by omega
          have own := Lib.hid (own_take LL.out (by omega : j ≤ j + 1) ho2.out)
          have lgz := own.out.lt
          have LT := LA
          clear ho2 LA
          go_wp2_with (at_builtin; refine wpList_append_lies _ rfl _ _ _ rfl wo.heap.size 2 i0 _ 1 8 Try.underlying39 hi hz0 hz1 hz2 rfl (by omega) _ _ _ rfl (own.out.alloc _) ⟨wr.heap.size, 0, none⟩ 1 1 [.int .i64 1] rfl rfl (World.news_of_block (cs := #[.int .i64 1]) (t := 2) (fr := (0, 0)) (heap_alloc_new wr _)) (by simp [Value.oneCell']) (by omega) (by unfold maxLen; omega) (by omega) (by simp only [World.size_alloc]; omega) _ rfl ?_)
          intro gg cap1 w5 hown1 hgrow hat hlt'
          have O5 := own_next LT.out hown1
          rw [List.take_of_length_le (by have := LL.out; omega), HLn.out] at O5
          have lg5 := O5.lt gg rfl
          have e1 : rowP (k + 1) = nextRow (rowP k) := rfl
          have B5 : Hid (Below w.heap.size w w5) := hbl.out.trans ((hbl2.out.grown (grownBy_trans (World.grownBy_alloc wr _ _) hgrow) (by omega) (fun j e => (lgz j e).1)).mono hsz)
          have O6 : Hid (OwnI w5 w.heap.size (.slice (some ⟨gg, 0, none⟩) (k + 1 + 1) cap1) (rowP (k + 1))) := by rw [e1, ← HM.out]; exact O5.mono hsz
          clear hown1 hgrow hat hlt' own lgz hbl2 hbl O5 LT e1 HR LL L0 HLn
          go_wp2
          exact ⟨⟨k + 1, gg, cap1, by omega, by rw [← HM.out], by rw [Int.pow_succ, HP.out], by rw [HM.out], by omega, by omega, O6, B5⟩, by have := HM.out; simp only [intOf]; omega⟩
    · obtain rfl : k = T := by omega
      have LN : Hid (L.length = m) := by show _ = _; rw [HL.out, troughL_len, hm]
      have HR := Lib.hid ho.out.rd
      have nk : ¬ (k : Int) < (k : Int) := by omega
      obtain ⟨wo, hwo⟩ : ∃ x, x = wr := ⟨_, rfl⟩
      subst hwo
      have O1 := Lib.hid (own_built wo wo.heap.size L rfl)
      have B1 : Hid (Below wo.heap.size wo (wo.alloc (.cells #[] 2))) := (Below.refl _ _).alloc (Nat.le_refl _) _
      clear hm hP
      go_wp2
      go_loopw [10, 11, 12] (fun ov sv iv wr => ∃ (j c1 : Nat) (ad : Option Addr), j ≤ m ∧ iv = .int .i64 j ∧ sv = .int .i64 (csum (rowP k) j) ∧ ov = .slice ad j c1 ∧ Hid (OwnI wr wo.heap.size (.slice ad j c1) (L.take j)) ∧ Hid (Below wo.heap.size wo wr)) (fun _ _ iv _ => m - (intOf iv).toNat)
      case atStart => exact ⟨0, 0, _, by omega, rfl, rfl, rfl, O1, B1⟩
      case round =>
        obtain ⟨j, c1, ad, hj, rfl, rfl, rfl, ho2, hbl2⟩ := hrel
        clear O1 B1
        have hsz2 := hbl2.out.size
        by_cases hlt2 : j < m
        · obtain ⟨x, hx⟩ : ∃ x, (rowP k)[j]? = some x := ⟨_, List.getElem?_eq_getElem (by rw [rowP_len]; have := HM.out; omega)⟩
          have bx := (rowP_in (n := k) (by omega)).at hx
          have cx := (hbl2.out.cell (p := ⟨g, j, none⟩) gh).trans (HR.out.cellAt hx)
          have s0 := csum_nonneg (rowP_in (n := k) (by omega)) j
          have s1 := csum_nonneg (rowP_in (n := k) (by omega)) (j + 1)
          have t0 := rowP_sum_le (n := k) (k := j) (by omega) (by omega)
          have t1 := rowP_sum_le (n := k) (k := j + 1) (by omega) (by omega)
          have u0 := untilT_bd (n := k) (k := j) v0 v1 (by omega) (by omega)
          have u1 := untilT_bd (n := k) (k := j + 1) v0 v1 (by omega) (by omega)
          have S := csum_succ hx
          have LG : Hid (L[j]? = some (untilT v k (j + 1) - untilT v k j)) := by show _ = _; rw [HL.out]; exact troughL_get v (by have := HM.out; omega)
          have e0 : untilT v k j = (v * csum (rowP k) j).tdiv P := by rw [HP.out]; rfl
          have e1 : untilT v k (j + 1) = (v * csum (rowP k) (j + 1)).tdiv P := by rw [HP.out]; rfl
          obtain ⟨U, hU⟩ : ∃ U, U = untilT v k j := ⟨_, rfl⟩
          obtain ⟨U', hU'⟩ : ∃ U, U = untilT v k (j + 1) := ⟨_, rfl⟩
          rw [← HP.out] at t0 t1
          obtain ⟨s, hs⟩ : ∃ s, s = csum (rowP k) j := ⟨_, rfl⟩
          rw [S] at e1 s1 t1
          rw [← hs] at e0 e1 s0 s1 t0 t1 S ⊢
          rw [← hU] at e0 u0 LG
          rw [← hU'] at e1 u1 LG
          have b0 := prod_bd v0 v1 s0 (by omega)
          have b1 := prod_bd v0 v1 s1 (by omega)
          have q1 : IntKind.i64.wrap (s + x) = s + x := IntWalk.i64_in _ (by omega)
          have q2 : IntKind.i64.wrap (v * (s + x)) = v * (s + x) := IntWalk.i64_in _ (by omega)
          have q3 : IntKind.i64.wrap (v * s) = v * s := IntWalk.i64_in _ (by omega)
          have q4 : IntKind.i64.wrap ((v * (s + x)).tdiv P) = U' := by rw [← e1]; exact IntWalk.i64_in _ (by omega)
          have q5 : IntKind.i64.wrap ((v * s).tdiv P) = U := by rw [← e0]; exact IntWalk.i64_in _ (by omega)
          have q6 : IntKind.i64.wrap (U' - U) = U' - U := IntWalk.i64_in _ (by omega)
          have z1 : (P == 0) = false := by simp; omega
          have z2 : ¬ P = 0 := by omega
          have own := Lib.hid (own_take LN.out (by omega : j ≤ m) ho2.out)
          have lgz := own.out.lt
          have HS := Lib.hid S
          have CX : Hid (∀ w', wr.grownBy w' (Value.slice ad j c1).ownBlock → w'.cell? ⟨g, j, none⟩ = some (.int .i64 x)) := fun w' h => (World.cell?_of_block (w := wr) (a := ⟨g, j, none⟩) (h.block g (by omega) (fun e => by have := (lgz g e.symm).1; omega))).trans cx
          clear hx ho2 bx S hs hU hU' e0 e1 s0 s1 t0 t1 u0 u1 b0 b1
          go_wp2
          go_region_law ((refine step_append_lies _ (by rfl) _ _ _ (by rfl) wo.heap.size 2 i0 _ 1 8 Try.underlying39 hi hz0 hz1 hz2 rfl (by omega) _ _ _ (by rfl) ((own.out.alloc _).drew) ⟨wr.heap.size, 0, none⟩ 1 1 [.int .i64 (U' - U)] (by rfl) (by rfl) (World.news_of_block (cs := #[.int .i64 (U' - U)]) (t := 2) (fr := (0, 0)) (heap_alloc_new wr _)) (by simp [Value.oneCell']) (by omega) (by unfold maxLen; omega) (by omega) (by simp; omega) (wr.heap.size + 1) (by simp) ?_; intro gg cap1 w5 hown1 hgrow hat hlt'))
          all_goals
            have O5 := Lib.hid (own_next2 LG.out hown1)
            have gb := grownBy_trans' (grownBy_alloc_drew wr _ _) hgrow
            have cx5 := CX.out w5 gb
            have B5 : Hid (Below wo.heap.size wo w5) := hbl2.out.grown gb (by omega) (fun j e => (lgz j e).1)
            clear hown1 hgrow hat hlt' own lgz hbl2 LG cx gb CX
            go_wp2
            exact ⟨⟨j + 1, cap1, _, by omega, by go_num, by rw [HS.out], rfl, O5, B5⟩, by simp only [intOf]; omega⟩
        · obtain rfl : j = m := by omega
          have HO := Lib.hid (own_all LN.out ho2.out)
          clear ho2
          go_wp2
          go_ret
          exact ⟨_, rfl, HO.out.mono hsz, hbl.out.trans (hbl2.out.mono hsz)⟩
end Go.Proofs.Ytonblcbdmblpbab
