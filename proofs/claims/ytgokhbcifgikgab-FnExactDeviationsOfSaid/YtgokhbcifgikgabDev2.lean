/- DeviationsOf: the program's side. -/
import Derived.Test.YtgokhbcifgikgabDev
import Derived.Deep.RegionLaw
namespace Go.Proofs.Ytgokhbcifgikgab
open Go.ChangeShapes Go.WideShapes Go.ChangeAt Go.RowKit
set_option linter.unusedVariables false
set_option linter.unusedSimpArgs false

def OkD (q : Ps) (cs : List Cv) (ts : List Ps) : Prop := OkA q cs ∧ ts.length ≤ (allPs q cs).length ∧ ∀ p ∈ ts, OkP p
def devL (xs ts : List Ps) : List Int := List.zipWith devP xs ts
theorem devL_length (xs ts : List Ps) (h : ts.length ≤ xs.length) : (devL xs ts).length = ts.length := by rw [devL, List.length_zipWith]; omega
theorem devL_get (xs ts : List Ps) (k : Nat) (p t : Ps) (hp : xs[k]? = some p) (ht : ts[k]? = some t) : (devL xs ts)[k]? = some (devP p t) := by
  rw [devL, List.getElem?_zipWith, hp, ht]

set_option maxRecDepth 100000 in
set_option maxHeartbeats 2000000 in
theorem everyPose_any (v : Value) (cs : List Ps) (w : World) (h : RdS 4 encPs w v cs) (lz : cs.length ≤ 1048576) (b : Bool) (hb : b = true ↔ ∀ c ∈ cs, OkP c) :
    Calls Try.prog 44 #[v, .func (.func 45) #[] #[]] w fun e w' => e = .returned (.bool b) ∧ Below w.heap.size w w' := by
  have H := Lib.hid h
  have HB := Lib.hid hb
  obtain ⟨a, cap, rfl, _⟩ := h
  obtain ⟨n, hn⟩ : ∃ n, n = cs.length := ⟨_, rfl⟩
  rw [← hn] at H lz
  rw [← hn]
  have HN := Lib.hid hn
  clear hn hb
  go_enter Try.func44, Try.ntmps44
  go_wp2
  go_loopw [9] (fun i wr => ∃ k : Nat, k ≤ n ∧ i = .int .i64 k ∧ Hid (∀ c ∈ cs.take k, OkP c) ∧ Hid (Below w.heap.size w wr)) (fun i _ => n - (intOf i).toNat)
  case atStart => exact ⟨0, by omega, rfl, by intro c hc; simp at hc, Below.refl _ _⟩
  case round =>
    obtain ⟨k, hk, rfl, hall, B⟩ := hrel
    by_cases hlt : k < n
    · obtain ⟨c, hx⟩ : ∃ x, cs[k]? = some x := ⟨_, List.getElem?_eq_getElem (by have := HN.out; omega)⟩
      obtain ⟨ba, oa, rfl, e0, e1, e2, e3⟩ := (H.out.later B.out).at4 k c hx
      have hsz := B.out.size
      by_cases hc : OkP c
      · have d1 := Lib.hid (fun w => implPose_any c true ⟨fun _ => hc, fun _ => rfl⟩ w)
        have hall' : Hid (∀ c ∈ cs.take (k + 1), OkP c) := by
          intro d hd
          rw [List.take_add_one, hx] at hd
          simp at hd
          rcases hd with hd | rfl
          · exact hall.out d hd
          · exact hc
        clear hx hc hall
        go_wp2_with fail
        refine (d1.out _).mono ?_
        rintro e w3 ⟨rfl, rfl⟩
        go_wp2
        exact ⟨⟨k + 1, by omega, by go_num, hall', (B.out.alloc hsz _).alloc (by simp; omega) _⟩, by simp only [intOf]; omega⟩
      · have d1 := Lib.hid (fun w => implPose_any c false ⟨fun h => (by cases h), fun h => absurd h hc⟩ w)
        obtain rfl : b = false := bool_false HB.out (fun h => hc (h c (List.mem_of_getElem? hx)))
        clear hx hc hall
        go_wp2_with fail
        refine (d1.out _).mono ?_
        rintro e w3 ⟨rfl, rfl⟩
        go_wp2
        go_ret
        exact ⟨rfl, (B.out.alloc hsz _).alloc (by simp; omega) _⟩
    · obtain rfl : k = n := by omega
      obtain rfl : b = true := HB.out.mpr (by have := hall.out; rwa [List.take_of_length_le (by have := HN.out; omega)] at this)
      go_wp2
      go_ret
      exact ⟨rfl, B.out⟩

set_option maxRecDepth 100000 in
set_option maxHeartbeats 4000000 in
theorem implDev_yes (q : Ps) (v u : Value) (cs : List Cv) (ts : List Ps) (w : World) (hc : RdS 3 encCv w v cs) (ht : RdS 4 encPs w u ts) (lz : cs.length ≤ 1048576) (h : OkD q cs ts) :
    Calls Try.prog 17 #[(.agg #[.int .i64 q.s, .int .i64 q.h, .int .i64 q.y, .int .i64 q.p, v]), u] w fun e w' => ∃ v', e = .returned (.tuple #[v', .bool true]) ∧ OwnI w' w.heap.size v' (devL (allPs q cs) ts) ∧ Below w.heap.size w w' := by
  obtain ⟨i0, hi, hz0, hz1, hz2⟩ := info_parts info_i64L
  have HC := Lib.hid hc
  have HT := Lib.hid ht
  obtain ⟨a, cap, rfl, _⟩ := hc
  obtain ⟨at', capt, rfl, _⟩ := ht
  have n61 := allPs_len q cs h.1
  have c1 := Lib.hid (fun w (hr : RdS 3 encCv w (.slice a cs.length cap) cs) => implPosesOf_any q _ cs w hr lz true ⟨fun _ => h.1, fun _ => rfl⟩ _ rfl)
  have c2 := Lib.hid (fun w (hr : RdS 4 encPs w (.slice at' ts.length capt) ts) => everyPose_any _ ts w hr (by have := h.2.1; omega) true ⟨fun _ => h.2.2, fun _ => rfl⟩)
  have DL := devL_length (allPs q cs) ts h.2.1
  have DG := Lib.hid (fun k p t => devL_get (allPs q cs) ts k p t)
  have OT := Lib.hid h.2.2
  have lt' := h.2.1
  have OX : Hid (∀ p ∈ allPs q cs, OkP p) := by
    intro p hp
    obtain ⟨k, hk⟩ := List.getElem?_of_mem hp
    have hl := (List.getElem?_eq_some_iff.1 hk).1
    rw [allPs, posesTo_length] at hl
    rw [allPs, posesTo_get q _ _ k hl] at hk
    rw [← Option.some.inj hk]
    exact h.1.pose k (by omega)
  obtain ⟨D, hD⟩ : ∃ D, D = devL (allPs q cs) ts := ⟨_, rfl⟩
  rw [← hD] at DL
  rw [← hD] at DG
  rw [← hD]
  simp only [if_pos] at c1
  obtain ⟨xs, hxs⟩ : ∃ x, x = allPs q cs := ⟨_, rfl⟩
  rw [← hxs] at c1 n61 lt'
  rw [← hxs] at DG
  rw [← hxs] at OX
  obtain ⟨N, hN⟩ : ∃ N, N = xs.length := ⟨_, rfl⟩
  obtain ⟨T, hT⟩ : ∃ T, T = ts.length := ⟨_, rfl⟩
  rw [← hN] at n61 lt'
  rw [← hT] at c2 HT lt' DL
  rw [← hT]
  have HN := Lib.hid hN
  have HL := Lib.hid hT
  have DLH := Lib.hid DL
  clear h lz hxs hN hT hD DL
  go_enter Try.func17, Try.ntmps17
  go_wp2_with fail
  refine (c1.out _ (HC.out.later (by go_grown))).mono ?_
  rintro e w1 ⟨vp, rfl, op, b1⟩
  have B1 : Hid (Below w.heap.size w w1) := Below.trans (by go_grown) (b1.mono (by simp))
  obtain ⟨ap, cp, rfl⟩ := op.form
  have RP := Lib.hid (op.rd encPs_len)
  rw [← HN.out] at RP
  rw [← HN.out]
  have z1 := B1.out.size
  have d0 : decide (N < T) = false := by simp; omega
  clear op b1 c1
  go_wp2_with fail
  refine (c2.out _ (HT.out.later B1.out)).mono ?_
  rintro e w2 ⟨rfl, b2⟩
  have B2 : Hid (Below w.heap.size w w2) := B1.out.trans (b2.mono z1)
  have RP2 := Lib.hid (RP.out.later b2)
  have z2 := B2.out.size
  clear b2 RP B1 c2
  go_wp2_with (first | (at_make; refine wpList_make_full _ rfl _ _ _ rfl w2.heap.size 2 i0 (.int .i64 0) 1 Try.underlying40 hi hz0 hz1 .i64 .i64 _ _ T rfl rfl rfl rfl ?b2 ?b3 (Nat.le_refl _) ?_) | fail)
  case b2 => rw [hz2]; omega
  case b3 => unfold maxLen; omega
  intro w3 hown hg
  rw [toList_madeCells_one] at hown
  have O3 : Hid (OwnI w3 w2.heap.size (.slice (some ⟨w2.heap.size, 0, none⟩) T T) (D.take 0 ++ List.replicate (T - 0) 0)) := by
    show OwnI _ _ _ _
    unfold OwnI
    simp only [List.take_zero, List.nil_append, Nat.sub_zero]
    rw [List.length_replicate, List.map_replicate]
    exact hown
  have B3 : Hid (Below w2.heap.size w2 w3) := (Below.refl _ _).grown hg (Nat.le_refl _) (fun k h => by cases h)
  clear hown hg d0
  go_wp2
  go_loopw [35] (fun iv wr => ∃ k : Nat, k ≤ T ∧ iv = .int .i64 k ∧ Hid (OwnI wr w2.heap.size (.slice (some ⟨w2.heap.size, 0, none⟩) T T) (D.take k ++ List.replicate (T - k) 0)) ∧ Hid (Below w2.heap.size w2 wr) ∧ w2.heap.size < wr.heap.size) (fun iv _ => T - (intOf iv).toNat)
  case atStart => exact ⟨0, by omega, rfl, O3, B3, (O3.out.lt _ rfl).2⟩
  case round =>
    obtain ⟨k, hk, rfl, ho, B, hz⟩ := hrel
    clear O3 B3
    by_cases hlt : k < T
    · obtain ⟨t, hx⟩ : ∃ x, ts[k]? = some x := ⟨_, List.getElem?_eq_getElem (by have := HL.out; omega)⟩
      obtain ⟨p, hp⟩ : ∃ x, xs[k]? = some x := ⟨_, List.getElem?_eq_getElem (by have := HN.out; omega)⟩
      obtain ⟨ba, oa, rfl, e0, e1, e2, e3⟩ := (HT.out.later (B2.out.trans (B.out.mono z2))).at4 k t hx
      obtain ⟨bp, op', rfl, u0, u1, _, _⟩ := (RP2.out.later B.out).at4 k p hp
      have lu := block_lt_of_cell u0
      have kN : k < N := by omega
      obtain ⟨r, hr⟩ : ∃ r, r = devP p t := ⟨_, rfl⟩
      have okt := OT.out t (List.mem_of_getElem? hx)
      have okp := OX.out p (List.mem_of_getElem? hp)
      have dc := Lib.hid (fun w => distance_any t p.s p.h r (by rw [hr, devP_swap]; rfl) okt okp.1 okp.2.1 w)
      have gD := DG.out k p t hp hx
      rw [← hr] at gD
      have hlen : T = (D.take k ++ List.replicate (T - k) (0 : Int)).length := by rw [List.length_append, List.length_take, List.length_replicate]; have := DLH.out; omega
      have LEN := Lib.hid hlen
      have SD : Hid ((D.take k ++ List.replicate (T - k) (0 : Int)).set k r = D.take (k + 1) ++ List.replicate (T - (k + 1)) 0) := by
        have e0 : (D.take k).length = k := by rw [List.length_take]; have := DLH.out; omega
        show _ = _
        rw [List.set_append_right _ _ (by omega), e0, Nat.sub_self, show T - k = (T - (k + 1)) + 1 by omega, List.replicate_succ, List.set_cons_zero, List.take_add_one, gD, Option.toList_some, List.append_assoc]
        rfl
      have HX2 : Hid ((D.take k ++ List.replicate (T - k) (0 : Int))[k]? = some 0) := by
        have e0 : (D.take k).length = k := by rw [List.length_take]; have := DLH.out; omega
        show _ = _
        rw [List.getElem?_append_right (by omega), e0, Nat.sub_self, List.getElem?_replicate, if_pos (by omega)]
      clear hx hp hr okt okp gD hlen
      have N2 : Hid ((wr.alloc (.cells #[.int .i64 t.s, .int .i64 t.h, .int .i64 t.y, .int .i64 t.p] 28)).heap[wr.heap.size]? = some (.cells #[.int .i64 t.s, .int .i64 t.h, .int .i64 t.y, .int .i64 t.p] 28 (0, 0))) := heap_alloc_new wr _
      have B4 : Hid (Below w2.heap.size w2 (wr.alloc (.cells #[.int .i64 t.s, .int .i64 t.h, .int .i64 t.y, .int .i64 t.p] 28))) := B.out.alloc (by omega) _
      have O4 : Hid (OwnI (wr.alloc (.cells #[.int .i64 t.s, .int .i64 t.h, .int .i64 t.y, .int .i64 t.p] 28)) w2.heap.size (.slice (some ⟨w2.heap.size, 0, none⟩) T T) (D.take k ++ List.replicate (T - k) 0)) := World.ownsRow.alloc ho.out _
      have U4 : Hid (((wr.alloc (.cells #[.int .i64 t.s, .int .i64 t.h, .int .i64 t.y, .int .i64 t.p] 28)).cell? ⟨bp, op' + k * 4, none⟩ = some (.int .i64 p.s)) ∧ ((wr.alloc (.cells #[.int .i64 t.s, .int .i64 t.h, .int .i64 t.y, .int .i64 t.p] 28)).cell? ⟨bp, op' + k * 4 + 1, none⟩ = some (.int .i64 p.h))) := ⟨cell_later ((Below.refl _ _).alloc (Nat.le_refl _) _) u0, cell_later ((Below.refl _ _).alloc (Nat.le_refl _) _) u1⟩
      go_wp2
      obtain ⟨gb, hgb⟩ : ∃ x, x = wr.heap.size := ⟨_, rfl⟩
      obtain ⟨w4, hw4⟩ : ∃ x, x = wr.alloc (.cells #[.int .i64 t.s, .int .i64 t.h, .int .i64 t.y, .int .i64 t.p] 28) := ⟨_, rfl⟩
      rw [← hw4, ← hgb] at N2
      rw [← hw4] at B4 O4 U4
      rw [← hw4, ← hgb]
      have l4 : gb < w4.heap.size := by rw [hw4, hgb]; simp
      have z4 : w2.heap.size < w4.heap.size := by rw [hw4]; simp; omega
      clear hw4 hgb e0 e1 e2 e3 u0 u1 lu ho B hz
      obtain ⟨⟨x0, x1, x2, x3⟩, -⟩ := boxPs_at N2.out
      obtain ⟨y0, y1⟩ := U4.out
      go_region_law (go_simp; go_at_call 46; refine (dc.out _).mono ?_; rintro e w5 ⟨rfl, b5⟩; have b45 : Below w4.heap.size w4 w5 := (Below.refl _ _).drew.trans b5; have O5 : Hid (OwnI w5 w2.heap.size (.slice (some ⟨w2.heap.size, 0, none⟩) T T) (D.take k ++ List.replicate (T - k) 0)) := O4.out.below b45 (fun b e => (O4.out.lt b e).2); have B5 : Hid (Below w2.heap.size w2 w5) := B4.out.trans (b45.mono (by omega)); have z5 := b45.size; have own5 := O5.out; unfold OwnI at own5; rw [← LEN.out] at own5; have f5 := own5.frozenAt k; have c5 : w5.cell? ⟨w2.heap.size, k, none⟩ = some (.int .i64 0) := (own5.cellAt k (by omega)).trans (by rw [List.getElem?_map, HX2.out]; rfl); clear b5 b45 own5)
      all_goals
        have O6 : Hid (OwnI (w5.setCell ⟨w2.heap.size, k, none⟩ (.int .i64 r)) w2.heap.size (.slice (some ⟨w2.heap.size, 0, none⟩) T T) (D.take (k + 1) ++ List.replicate (T - (k + 1)) 0)) := by
          show OwnI _ _ _ _
          rw [← SD.out]
          exact O5.out.stored LEN.out k r (by have := LEN.out; omega)
        have B6 : Hid (Below w2.heap.size w2 (w5.setCell ⟨w2.heap.size, k, none⟩ (.int .i64 r))) := B5.out.setCell (p := ⟨w2.heap.size, k, none⟩) (Nat.le_refl _) _
        have z6 : w2.heap.size < (w5.setCell ⟨w2.heap.size, k, none⟩ (.int .i64 r)).heap.size := by simp; omega
        clear O5 B5 c5 f5 O4 B4 N2 U4 x0 x1 x2 x3 y0 y1
        go_wp2
        exact ⟨⟨k + 1, by omega, by go_num, O6, B6, z6⟩, by simp only [intOf]; omega⟩
    · obtain rfl : k = T := by omega
      have HO : Hid (OwnI wr w2.heap.size (.slice (some ⟨w2.heap.size, 0, none⟩) k k) D) := by
        have e := ho.out
        rw [Nat.sub_self, List.replicate_zero, List.append_nil, List.take_of_length_le (by have := DLH.out; omega)] at e
        exact e
      clear ho
      go_wp2
      go_ret2
      exact ⟨_, rfl, HO.out.mono z2, B2.out.trans (B.out.mono z2)⟩
end Go.Proofs.Ytgokhbcifgikgab
