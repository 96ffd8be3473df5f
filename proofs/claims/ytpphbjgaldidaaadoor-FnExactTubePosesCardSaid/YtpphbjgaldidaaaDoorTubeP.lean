/- Poses of a tube: what is reckoned, and the specification's side. -/
import Derived.Test.YtpphbjgaldidaaaDoorRingK
import Derived.Test.YtpphbjgaldidaaaDoorSpecT
import Derived.Test.YtpphbjgaldidaaaDoorPoses
import Derived.Test.YtpphbjgaldidaaaDoorNext
import Derived.Deep.RegionLaw
import Derived.Deep.AppendLies
namespace Go.Proofs.YtpphbjgaldidaaaDoor
open Go.ChangeShapes Go.WideShapes Go.ChangeAt Go.RowKit
set_option linter.unusedVariables false
set_option linter.unusedSimpArgs false

theorem info_PsT : (Tryd.prog.info? 35).map (fun i => (i.zero, i.size, i.bytes)) = some (some (.agg #[.int .i64 0, .int .i64 0, .int .i64 0, .int .i64 0]), 4, 32) := by kernel_rfl

/-- The pose behind the first k rings. -/
def poseT (p : Ps) (xs : List Rg) (k : Nat) : Ps := (xs.take k).foldl (fun q r => stepP q (bendR r) (riseR r)) p
def posesT (p : Ps) (xs : List Rg) (k : Nat) : List Ps := (List.range (k + 1)).map (poseT p xs)
theorem poseT_zero (p : Ps) (xs : List Rg) : poseT p xs 0 = p := by simp [poseT]
theorem poseT_succ (p : Ps) (xs : List Rg) (k : Nat) (r : Rg) (h : xs[k]? = some r) : poseT p xs (k + 1) = stepP (poseT p xs k) (bendR r) (riseR r) := by
  unfold poseT
  rw [List.take_add_one, h, Option.toList_some, List.foldl_append]
  rfl
theorem posesT_length (p : Ps) (xs : List Rg) (k : Nat) : (posesT p xs k).length = k + 1 := by simp [posesT]
theorem posesT_get (p : Ps) (xs : List Rg) (k j : Nat) (h : j ≤ k) : (posesT p xs k)[j]? = some (poseT p xs j) := by
  unfold posesT
  rw [List.getElem?_map, List.getElem?_range (by omega)]
  rfl
theorem posesT_zero (p : Ps) (xs : List Rg) : posesT p xs 0 = [p] := by simp [posesT, poseT_zero]
theorem posesT_succ (p : Ps) (xs : List Rg) (k : Nat) : posesT p xs (k + 1) = posesT p xs k ++ [poseT p xs (k + 1)] := by
  unfold posesT
  rw [List.range_succ, List.map_append]
  rfl

/-- A start and a tube whose poses are all valid. -/
def OkTP (p : Ps) (xs : List Rg) : Prop := OkP p ∧ OkT xs ∧ ∀ k, k ≤ xs.length → OkP (poseT p xs k)
theorem turn_ok (q : Rg) (h : OkR q) : OkTurn (bendR q) ∧ OkTurn (riseR q) := by
  have := turn_bd q h
  unfold OkTurn
  omega

set_option maxRecDepth 100000 in
set_option maxHeartbeats 4000000 in
theorem l03Poses_any (p : Ps) (v : Value) (xs : List Rg) (w : World) (h : RdS 2 encRg w v xs) (ok : OkT xs) (b : Bool) (hb : b = true ↔ OkTP p xs) (ys : List Ps) (hy : ys = if b then posesT p xs xs.length else []) :
    Calls Tryd.prog 24 #[(.agg #[.int .i64 p.s, .int .i64 p.h, .int .i64 p.y, .int .i64 p.p]), v] w fun e w' => ∃ v', e = .returned (.tuple #[v', .bool b]) ∧ OwnS 35 4 encPs w' w.heap.size v' ys ∧ Below w.heap.size w w' := by
  by_cases hp : OkP p
  · obtain ⟨i0, hi, hz0, hz1, hz2⟩ := info_parts info_PsT
    have HC := Lib.hid h
    have HA := Lib.hid ok.2.1
    have HB := Lib.hid hb
    have HY := Lib.hid hy
    have OK := Lib.hid ok
    have HP := Lib.hid hp
    have c1 := Lib.hid (fun w => specPose_any p true ⟨fun _ => hp, fun _ => rfl⟩ w)
    obtain ⟨a, cap, rfl, _⟩ := h
    obtain ⟨N, hN⟩ : ∃ N, N = xs.length := ⟨_, rfl⟩
    have n60 : N ≤ 60 := by have := ok.1; omega
    rw [← hN] at HC
    rw [← hN]
    have HN := Lib.hid hN
    clear hN ok hb hy hp
    go_enter Tryd.func24, Tryd.ntmps24
    go_wp2_with fail
    refine (c1.out _).mono ?_
    rintro e w1 ⟨rfl, hw1⟩
    have b1 : Below (w.heap.size + 1) (w.alloc (.cells #[.int .i64 p.s, .int .i64 p.h, .int .i64 p.y, .int .i64 p.p] 35)) w1 := by rw [hw1]; exact ((Below.refl _ _).alloc (by simp) _).alloc (by simp) _
    have z1 := b1.size
    simp only [World.size_alloc] at z1
    have n1 := (b1.block w.heap.size (by omega)).trans (heap_alloc_new w _)
    obtain ⟨⟨k0, k1, k2, k3⟩, -⟩ := boxPs_at n1
    have B1 : Hid (Below w.heap.size w w1) := Below.trans (by go_grown) (b1.mono (by omega))
    clear hw1 b1 n1 c1
    go_wp2
    have O0 : Hid (OwnS 35 4 encPs (w1.alloc (.cells #[.int .i64 p.s, .int .i64 p.h, .int .i64 p.y, .int .i64 p.p] 35)) w1.heap.size (.slice (some ⟨w1.heap.size, 0, none⟩) 1 1) (posesT p xs 0)) := by
      show OwnS _ _ _ _ _ _ _
      rw [posesT_zero]
      exact World.ownsRow_lit (e := 35) (size := 4) w1 #[.int .i64 p.s, .int .i64 p.h, .int .i64 p.y, .int .i64 p.p] 1 (Nat.le_refl _) (by unfold maxLen; omega) rfl
    have B0 : Hid (Below w.heap.size w (w1.alloc (.cells #[.int .i64 p.s, .int .i64 p.h, .int .i64 p.y, .int .i64 p.p] 35))) := B1.out.alloc (by omega) _
    have y0 : w1.heap.size < (w1.alloc (.cells #[.int .i64 p.s, .int .i64 p.h, .int .i64 p.y, .int .i64 p.p] 35)).heap.size := by simp
    have A0 : Hid (∀ j, j ≤ 0 → OkP (poseT p xs j)) := by
      intro j hj
      obtain rfl : j = 0 := by omega
      rw [poseT_zero]
      exact HP.out
    clear k0 k1 k2 k3
    go_loopw [6, 7] (fun ov iv wr => ∃ (k g c1 : Nat), k ≤ N ∧ iv = .int .i64 k ∧ ov = .slice (some ⟨g, 0, none⟩) (k + 1) c1 ∧ Hid (OwnS 35 4 encPs wr w1.heap.size (.slice (some ⟨g, 0, none⟩) (k + 1) c1) (posesT p xs k)) ∧ Hid (Below w.heap.size w wr) ∧ Hid (∀ j, j ≤ k → OkP (poseT p xs j)) ∧ w1.heap.size < wr.heap.size) (fun _ iv _ => N - (intOf iv).toNat)
    case atStart => exact ⟨0, w1.heap.size, 1, by omega, rfl, rfl, O0, B0, A0, y0⟩
    case round =>
      obtain ⟨k, g, c1, hk, rfl, rfl, ho, B, hall, hz⟩ := hrel
      clear O0 B0 y0 A0
      have hsz := B.out.size
      by_cases hlt : k < N
      · obtain ⟨c, hx⟩ : ∃ x, xs[k]? = some x := ⟨_, List.getElem?_eq_getElem (by have := HN.out; omega)⟩
        obtain ⟨ba, oa, rfl, e0, e1⟩ := (HC.out.later B.out).at2 k c hx
        have hc := HA.out c (List.mem_of_getElem? hx)
        have hs := poseT_succ p xs k c hx
        have tc := Lib.hid (fun w => l03Turn_any c hc w)
        have to := turn_ok c hc
        have pk := hall.out k (Nat.le_refl _)
        obtain ⟨P, hP⟩ : ∃ P, poseT p xs k = P := ⟨_, rfl⟩
        have gP : Hid ((posesT p xs k)[k]? = some P) := by show _ = _; rw [posesT_get p xs k k (Nat.le_refl _), hP]
        have hlen : Hid (k + 1 = (posesT p xs k).length) := by show _ = _; rw [posesT_length]
        rw [hP] at hs pk
        obtain ⟨x, hx'⟩ : ∃ x, bendR c = x := ⟨_, rfl⟩
        obtain ⟨y, hy'⟩ : ∃ y, riseR c = y := ⟨_, rfl⟩
        rw [hx', hy'] at tc hs to
        have OWN : Hid (∀ w', Below wr.heap.size wr w' → OwnS 35 4 encPs w' w1.heap.size (.slice (some ⟨g, 0, none⟩) (k + 1) c1) (posesT p xs k)) := fun w' b => ho.out.later b
        have i1 : (0 : Int) ≤ (k : Int) := by omega
        have i2 : (k : Int) < (k : Int) + 1 := by omega
        have i3 : k < k + 1 := by omega
        have lg := (ho.out.lt g rfl).1
        by_cases hn : OkP (stepP P x y)
        · have nc := Lib.hid (fun w => specNext_yes P x y pk to.1 to.2 hn w)
          have hall' : Hid (∀ j, j ≤ k + 1 → OkP (poseT p xs j)) := by
            intro j hj
            by_cases e : j = k + 1
            · rw [e, hs]; exact hn
            · exact hall.out j (by omega)
          have HS := Lib.hid hs
          obtain ⟨Q, hQ⟩ : ∃ Q, stepP P x y = Q := ⟨_, rfl⟩
          rw [hQ] at nc HS
          clear hx hs hP hx' hy' hc to pk hn hQ hall
          go_wp2_with fail
          refine (tc.out _).mono ?_
          rintro e w2 ⟨rfl, b2⟩
          have b2' := Lib.hid b2
          have z2 := b2.size
          have B2 : Hid (Below w.heap.size w w2) := B.out.trans (b2.mono hsz)
          have O2 := OWN.out w2 b2
          have d0 : w2.cell? ⟨g, k * 4, none⟩ = some (.int .i64 P.s) := O2.cellAt encPs_len hlen.out k P gP.out 0 _ rfl
          have d1 : w2.cell? ⟨g, k * 4 + 1, none⟩ = some (.int .i64 P.h) := O2.cellAt encPs_len hlen.out k P gP.out 1 _ rfl
          have d2 : w2.cell? ⟨g, k * 4 + 2, none⟩ = some (.int .i64 P.y) := O2.cellAt encPs_len hlen.out k P gP.out 2 _ rfl
          have d3 : w2.cell? ⟨g, k * 4 + 3, none⟩ = some (.int .i64 P.p) := O2.cellAt encPs_len hlen.out k P gP.out 3 _ rfl
          clear b2 e0 e1 O2
          go_wp2_with fail
          refine (nc.out _).mono ?_
          rintro e w3 ⟨rfl, b3⟩
          have b3' : Hid (Below wr.heap.size wr w3) := b2'.out.trans (b3.mono z2)
          have z3 := b3'.out.size
          have B3 : Hid (Below w.heap.size w w3) := B.out.trans (b3'.out.mono hsz)
          have own : Hid (w3.ownsRow w1.heap.size 35 4 (.slice (some ⟨g, 0, none⟩) (k + 1) c1) (k + 1) ((posesT p xs k).flatMap encPs)) := by
            have e := OWN.out w3 b3'.out
            unfold OwnS at e
            rw [posesT_length] at e
            exact e
          clear b3 d0 d1 d2 d3
          go_wp2_with (at_builtin; refine wpList_append_lies _ rfl _ _ _ rfl w1.heap.size 35 i0 _ 4 32 Tryd.underlying32 hi hz0 hz1 hz2 rfl (by omega) _ _ _ rfl ((own.out.alloc _).alloc _) ⟨w3.heap.size + 1, 0, none⟩ 1 1 [.int .i64 Q.s, .int .i64 Q.h, .int .i64 Q.y, .int .i64 Q.p] rfl rfl (World.news_of_block (cs := #[.int .i64 Q.s, .int .i64 Q.h, .int .i64 Q.y, .int .i64 Q.p]) (t := 35) (fr := (0, 0)) (heap_alloc2_new w3 _ _)) (by simp [Value.oneCell']) (by omega) (by unfold maxLen; omega) (by omega) (by simp; omega) _ rfl ?_)
          intro gg cap1 w5 hown1 hgrow hat hlt'
          have gb : w3.grownBy w5 (some g) := grownBy_trans' (World.grownBy_alloc w3 _ _) (grownBy_trans' (World.grownBy_alloc _ _ _) hgrow)
          have B5 : Hid (Below w.heap.size w w5) := B3.out.grown gb (by omega) (fun j e => by cases e; omega)
          have O5 : Hid (OwnS 35 4 encPs w5 w1.heap.size (.slice (some ⟨gg, 0, none⟩) (k + 1 + 1) cap1) (posesT p xs (k + 1))) := by
            show OwnS _ _ _ _ _ _ _
            unfold OwnS
            rw [posesT_length, posesT_succ, HS.out, List.flatMap_append]
            exact hown1
          have z5 : w1.heap.size < w5.heap.size := Nat.lt_of_lt_of_le (Nat.lt_of_lt_of_le hz z3) gb.size
          clear hown1 hgrow hat hlt' gb ho B own OWN
          go_wp2
          exact ⟨⟨k + 1, gg, cap1, by omega, by go_num, rfl, O5, B5, hall', z5⟩, by simp only [intOf]; omega⟩
        · have nc := Lib.hid (fun w => specNext_no P x y (fun h => hn h.2.2.2) w)
          obtain rfl : b = false := b_false HB.out (fun h => hn (by rw [← hs]; exact h.2.2 (k + 1) (by have := HN.out; omega)))
          obtain rfl : ys = [] := HY.out
          clear hx hs hP hx' hy' hc to pk hn hall
          go_wp2_with fail
          refine (tc.out _).mono ?_
          rintro e w2 ⟨rfl, b2⟩
          have b2' := Lib.hid b2
          have z2 := b2.size
          have B2 : Hid (Below w.heap.size w w2) := B.out.trans (b2.mono hsz)
          have O2 := OWN.out w2 b2
          have d0 : w2.cell? ⟨g, k * 4, none⟩ = some (.int .i64 P.s) := O2.cellAt encPs_len hlen.out k P gP.out 0 _ rfl
          have d1 : w2.cell? ⟨g, k * 4 + 1, none⟩ = some (.int .i64 P.h) := O2.cellAt encPs_len hlen.out k P gP.out 1 _ rfl
          have d2 : w2.cell? ⟨g, k * 4 + 2, none⟩ = some (.int .i64 P.y) := O2.cellAt encPs_len hlen.out k P gP.out 2 _ rfl
          have d3 : w2.cell? ⟨g, k * 4 + 3, none⟩ = some (.int .i64 P.p) := O2.cellAt encPs_len hlen.out k P gP.out 3 _ rfl
          clear b2 e0 e1 O2
          go_wp2_with fail
          refine (nc.out _).mono ?_
          rintro e w3 ⟨rfl, b3⟩
          have B3 : Hid (Below w.heap.size w w3) := B2.out.trans (b3.mono (by omega))
          clear b3 d0 d1 d2 d3
          go_wp2
          go_ret2
          exact ⟨_, rfl, OwnS.nil _ _, B3.out.alloc B3.out.size _⟩
      · obtain rfl : k = N := by omega
        obtain rfl : b = true := HB.out.mpr ⟨HP.out, OK.out, fun j hj => hall.out j (by have := HN.out; omega)⟩
        have O5 : Hid (OwnS 35 4 encPs wr w1.heap.size (.slice (some ⟨g, 0, none⟩) (k + 1) c1) ys) := by
          have e := ho.out
          have e2 := HY.out
          rw [if_pos rfl, ← HN.out] at e2
          rw [← e2] at e
          exact e
        clear ho
        go_wp2
        go_ret2
        exact ⟨_, rfl, O5.out.mono (by omega), B.out⟩
  · have HC := Lib.hid h
    obtain rfl : b = false := b_false hb (fun h => hp h.1)
    obtain rfl : ys = [] := hy
    have c1 := Lib.hid (fun w => specPose_any p false ⟨fun e => (by cases e), fun e => absurd e hp⟩ w)
    obtain ⟨a, cap, rfl, _⟩ := h
    clear hb hp ok
    go_enter Tryd.func24, Tryd.ntmps24
    go_wp2_with fail
    refine (c1.out _).mono ?_
    rintro e w1 ⟨rfl, hw1⟩
    have B1 : Hid (Below w.heap.size w w1) := by rw [hw1]; show Below _ _ _; go_grown
    clear hw1
    go_wp2
    go_ret2
    exact ⟨_, rfl, OwnS.nil _ _, B1.out⟩
end Go.Proofs.YtpphbjgaldidaaaDoor
