/- The next lot: the program's side. (Written by tools/mknext9.py.) -/
import Derived.Test.YthfmmlpbflfpaacNextM
namespace Go.Proofs.Ythfmmlpbflfpaac
open Go.ChangeShapes Go.WideShapes Go.ChangeAt Go.RowKit
set_option linter.unusedVariables false
set_option linter.unusedSimpArgs false

/-- How the program keeps the least lot so far. -/
def Kept (nx lo : Int) : Prop := nx = if lo = 100 then -1 else lo
theorem Kept.yes {nx lo z : Int} (h : Kept nx lo) (b : 0 ≤ lo ∧ lo ≤ 100) (g : z < lo) (hz : z ≤ 99) : nx = -1 ∨ z < nx := by
  unfold Kept at h
  split at h
  · exact .inl h
  · exact .inr (by omega)
theorem Kept.no {nx lo z : Int} (h : Kept nx lo) (b : 0 ≤ lo ∧ lo ≤ 100) (g : ¬ z < lo) (hz : z ≤ 99) : nx ≠ -1 ∧ ¬ z < nx := by
  unfold Kept at h
  split at h
  · omega
  · exact ⟨by omega, by omega⟩
theorem Kept.new {z : Int} (hz : z ≤ 99) : Kept z z := by unfold Kept; rw [if_neg (by omega)]


set_option maxRecDepth 100000 in
set_option maxHeartbeats 16000000 in
theorem dNext_any (h n : Int) (q : Nat → Pl) (t : Nat → List Int) (ok : ∀ i, i < 4 → PileOk (q i) (t i)) (pos : ∀ i, i < 4 → ∀ z ∈ t i, 0 ≤ z) (R A : Int) (hR : Kept R (nxS t 4).1) (hA : A = (nxS t 4).2) (w : World) :
    Calls Try.prog 30 #[.agg #[.int .i64 h, .int .i64 n, .int .i64 (q 0).a, .int .i64 (q 0).b, .int .i64 (q 0).c, .int .i64 (q 0).d, .int .i64 (q 0).n, .int .i64 (q 1).a, .int .i64 (q 1).b, .int .i64 (q 1).c, .int .i64 (q 1).d, .int .i64 (q 1).n, .int .i64 (q 2).a, .int .i64 (q 2).b, .int .i64 (q 2).c, .int .i64 (q 2).d, .int .i64 (q 2).n, .int .i64 (q 3).a, .int .i64 (q 3).b, .int .i64 (q 3).c, .int .i64 (q 3).d, .int .i64 (q 3).n]] w fun e w' => e = .returned (.tuple #[.int .i64 R, .int .i64 A]) ∧ Below w.heap.size w w' := by
  obtain ⟨i0, hi, hz0, hz1, hz2⟩ := info_parts info_i64
  have OK := Lib.hid ok
  have T4 := Lib.hid (fun i (hi : i < 4) => (ok i hi).l4)
  have PO := Lib.hid pos
  have HR := Lib.hid hR
  have HA := Lib.hid hA
  clear ok pos hR hA
  go_enter Try.func30, Try.ntmps30
  have NB := Lib.hid (heap_alloc_new w (.cells #[.int .i64 h, .int .i64 n, .int .i64 (q 0).a, .int .i64 (q 0).b, .int .i64 (q 0).c, .int .i64 (q 0).d, .int .i64 (q 0).n, .int .i64 (q 1).a, .int .i64 (q 1).b, .int .i64 (q 1).c, .int .i64 (q 1).d, .int .i64 (q 1).n, .int .i64 (q 2).a, .int .i64 (q 2).b, .int .i64 (q 2).c, .int .i64 (q 2).d, .int .i64 (q 2).n, .int .i64 (q 3).a, .int .i64 (q 3).b, .int .i64 (q 3).c, .int .i64 (q 3).d, .int .i64 (q 3).n] 55))
  have BB : Hid (Below w.heap.size w (w.alloc (.cells #[.int .i64 h, .int .i64 n, .int .i64 (q 0).a, .int .i64 (q 0).b, .int .i64 (q 0).c, .int .i64 (q 0).d, .int .i64 (q 0).n, .int .i64 (q 1).a, .int .i64 (q 1).b, .int .i64 (q 1).c, .int .i64 (q 1).d, .int .i64 (q 1).n, .int .i64 (q 2).a, .int .i64 (q 2).b, .int .i64 (q 2).c, .int .i64 (q 2).d, .int .i64 (q 2).n, .int .i64 (q 3).a, .int .i64 (q 3).b, .int .i64 (q 3).c, .int .i64 (q 3).d, .int .i64 (q 3).n] 55))) := by show Below _ _ _; go_grown
  go_upto_region 2 with (fail)
  have zb : w.heap.size + 1 ≤ (w.alloc (.cells #[.int .i64 h, .int .i64 n, .int .i64 (q 0).a, .int .i64 (q 0).b, .int .i64 (q 0).c, .int .i64 (q 0).d, .int .i64 (q 0).n, .int .i64 (q 1).a, .int .i64 (q 1).b, .int .i64 (q 1).c, .int .i64 (q 1).d, .int .i64 (q 1).n, .int .i64 (q 2).a, .int .i64 (q 2).b, .int .i64 (q 2).c, .int .i64 (q 2).d, .int .i64 (q 2).n, .int .i64 (q 3).a, .int .i64 (q 3).b, .int .i64 (q 3).c, .int .i64 (q 3).d, .int .i64 (q 3).n] 55)).heap.size := by simp
  generalize w.alloc (.cells #[.int .i64 h, .int .i64 n, .int .i64 (q 0).a, .int .i64 (q 0).b, .int .i64 (q 0).c, .int .i64 (q 0).d, .int .i64 (q 0).n, .int .i64 (q 1).a, .int .i64 (q 1).b, .int .i64 (q 1).c, .int .i64 (q 1).d, .int .i64 (q 1).n, .int .i64 (q 2).a, .int .i64 (q 2).b, .int .i64 (q 2).c, .int .i64 (q 2).d, .int .i64 (q 2).n, .int .i64 (q 3).a, .int .i64 (q 3).b, .int .i64 (q 3).c, .int .i64 (q 3).d, .int .i64 (q 3).n] 55) = wb at *
  have RA : Hid (wb.rangeAt w.heap.size 2 [.int .i64 (q 0).a, .int .i64 (q 0).b, .int .i64 (q 0).c, .int .i64 (q 0).d, .int .i64 (q 0).n, .int .i64 (q 1).a, .int .i64 (q 1).b, .int .i64 (q 1).c, .int .i64 (q 1).d, .int .i64 (q 1).n, .int .i64 (q 2).a, .int .i64 (q 2).b, .int .i64 (q 2).c, .int .i64 (q 2).d, .int .i64 (q 2).n, .int .i64 (q 3).a, .int .i64 (q 3).b, .int .i64 (q 3).c, .int .i64 (q 3).d, .int .i64 (q 3).n]) := by
    intro j v hv
    simp only [World.cell?, NB.out]
    show ((.int .i64 h :: .int .i64 n :: [.int .i64 (q 0).a, .int .i64 (q 0).b, .int .i64 (q 0).c, .int .i64 (q 0).d, .int .i64 (q 0).n, .int .i64 (q 1).a, .int .i64 (q 1).b, .int .i64 (q 1).c, .int .i64 (q 1).d, .int .i64 (q 1).n, .int .i64 (q 2).a, .int .i64 (q 2).b, .int .i64 (q 2).c, .int .i64 (q 2).d, .int .i64 (q 2).n, .int .i64 (q 3).a, .int .i64 (q 3).b, .int .i64 (q 3).c, .int .i64 (q 3).d, .int .i64 (q 3).n] : List Value).toArray)[2 + j]? = some v
    rw [List.getElem?_toArray, Nat.add_comm 2 j, List.getElem?_cons_succ, List.getElem?_cons_succ]
    exact hv
  go_wp2_with (first | (refine wpList_load_mid rfl 53 _ rfl w.heap.size 2 rfl [.int .i64 (q 0).a, .int .i64 (q 0).b, .int .i64 (q 0).c, .int .i64 (q 0).d, .int .i64 (q 0).n, .int .i64 (q 1).a, .int .i64 (q 1).b, .int .i64 (q 1).c, .int .i64 (q 1).d, .int .i64 (q 1).n, .int .i64 (q 2).a, .int .i64 (q 2).b, .int .i64 (q 2).c, .int .i64 (q 2).d, .int .i64 (q 2).n, .int .i64 (q 3).a, .int .i64 (q 3).b, .int .i64 (q 3).c, .int .i64 (q 3).d, .int .i64 (q 3).n] _ RA.out undA_depot rfl infoA_depot ?_) | fail)
  clear RA NB zb

  skip
  go_loopw [4, 5, 12] (fun nv sv iv wr => ∃ (k : Nat) (nx lo at' : Int), k ≤ 4 ∧ iv = .int .i64 k ∧ nv = .int .i64 nx ∧ sv = .int .i64 at' ∧ Hid (Kept nx lo) ∧ Hid (0 ≤ lo ∧ lo ≤ 100) ∧ Hid ((lo, at') = nxS t k) ∧ Hid (Below w.heap.size w wr)) (fun _ _ iv _ => 4 - (intOf iv).toNat)
  case atStart => exact ⟨0, -1, 100, -1, by omega, rfl, rfl, rfl, rfl, by constructor <;> decide, rfl, BB.out⟩
  case round =>
    obtain ⟨k, nx, lo, at', hk, rfl, rfl, rfl, hkp, hbd, hs, B⟩ := hrel
    clear BB
    have hsz := B.out.size
    rcases (show k = 0 ∨ k = 1 ∨ k = 2 ∨ k = 3 ∨ k = 4 by omega) with rfl | rfl | rfl | rfl | rfl
    · have I4 := index4_0 q wr
      have l4 := T4.out 0 (by omega)
      have ok4 := OK.out 0 (by omega)
      have HB := Lib.hid (fun (z : Int) hz => (show 0 ≤ z ∧ z ≤ 99 from ⟨PO.out 0 (by omega) z hz, ok4.hb z hz⟩))
      have IN := Lib.hid ok4.i4
      obtain ⟨p, hp⟩ : ∃ p, p = (t 0).length := ⟨_, rfl⟩
      have S1 := fun w b o => slice4 w b o p (q 0).n (by rw [ok4.n, hp]) (by omega)
      have TX : Hid (nxS t (1) = nxT ((0 : Nat) : Int) (nxS t 0) (t 0) p) := by show nxT _ _ _ _ = _; rw [hp]
      have S0 : Hid ((lo, at') = nxT ((0 : Nat) : Int) (nxS t 0) (t 0) 0) := by show _ = _; rw [nxT_zero, hs.out]
      have HP := Lib.hid hp
      rw [← hp] at l4
      clear ok4 hp
      have NP : Hid ((wr.alloc (.cells #[.int .i64 (q 0).a, .int .i64 (q 0).b, .int .i64 (q 0).c, .int .i64 (q 0).d, .int .i64 (q 0).n] 52)).heap[wr.heap.size]? = some (.cells #[.int .i64 (q 0).a, .int .i64 (q 0).b, .int .i64 (q 0).c, .int .i64 (q 0).d, .int .i64 (q 0).n] 52 (0, 0))) := heap_alloc_new _ _
      have BP : Hid (Below w.heap.size w (wr.alloc (.cells #[.int .i64 (q 0).a, .int .i64 (q 0).b, .int .i64 (q 0).c, .int .i64 (q 0).d, .int .i64 (q 0).n] 52))) := B.out.trans (show Below w.heap.size wr _ by go_grown)
      go_wp2
      generalize hwp : wr.alloc (.cells #[.int .i64 (q 0).a, .int .i64 (q 0).b, .int .i64 (q 0).c, .int .i64 (q 0).d, .int .i64 (q 0).n] 52) = wp at *
      clear hwp
      go_loopw [4, 5, 21] (fun nv sv jv wq => ∃ (j : Nat) (nx lo at' : Int), j ≤ p ∧ jv = .int .i64 j ∧ nv = .int .i64 nx ∧ sv = .int .i64 at' ∧ Hid (Kept nx lo) ∧ Hid (0 ≤ lo ∧ lo ≤ 100) ∧ Hid ((lo, at') = nxT ((0 : Nat) : Int) (nxS t 0) (t 0) j) ∧ wp = wq) (fun _ _ jv _ => p - (intOf jv).toNat)
      case atStart => exact ⟨0, nx, lo, at', by omega, rfl, rfl, rfl, hkp.out, hbd.out, S0.out, rfl⟩
      case round =>
        obtain ⟨j, nx2, lo2, at2, hj, rfl, rfl, rfl, hkp2, hbd2, hs2, rfl⟩ := hrel
        by_cases hlk : j < p
        · obtain ⟨z, hzz⟩ : ∃ z, (t 0)[j]? = some z := ⟨_, List.getElem?_eq_getElem (by have := HP.out; omega)⟩
          have c0 := IN.out.cell NP.out hzz
          have zb := Lib.hid (HB.out z (List.mem_of_getElem? hzz))
          have HZ := Lib.hid hzz
          clear hzz
          by_cases hl : z < lo2
          · have S2 := Lib.hid (nxT_yes HZ.out hs2.out hl)
            have K2 := Lib.hid (Kept.new zb.out.2)
            have B2 : Hid (0 ≤ z ∧ z ≤ 100) := by have := zb.out; show _ ∧ _; omega
            by_cases hn : nx2 = -1
            · subst hn
              go_wp2
              exact ⟨⟨j + 1, z, z, ((0 : Nat) : Int), by omega, by go_num, rfl, by first | rfl | trivial, K2, B2, S2, by trivial⟩, by simp only [intOf]; omega⟩
            · have g2 : z < nx2 := (hkp2.out.yes hbd2.out hl zb.out.2).resolve_left hn
              have d2 : (nx2 == -1) = false := by simpa using hn
              clear hn
              go_wp2
              exact ⟨⟨j + 1, z, z, ((0 : Nat) : Int), by omega, by go_num, rfl, by first | rfl | trivial, K2, B2, S2, by trivial⟩, by simp only [intOf]; omega⟩
          · have S2 := Lib.hid (nxT_no HZ.out hs2.out hl)
            obtain ⟨hn, g2⟩ := hkp2.out.no hbd2.out hl zb.out.2
            have d2 : (nx2 == -1) = false := by simpa using hn
            clear hn
            go_wp2
            exact ⟨⟨j + 1, nx2, lo2, at2, by omega, by go_num, rfl, rfl, hkp2, hbd2, S2, by trivial⟩, by simp only [intOf]; omega⟩
        · obtain rfl : j = p := by omega
          have S3 : Hid ((lo2, at2) = nxS t (1)) := by show _ = _; rw [TX.out, ← hs2.out]
          go_wp2
          exact ⟨⟨1, nx2, lo2, at2, by omega, by first | rfl | go_num, rfl, rfl, hkp2, hbd2, S3, BP⟩, by simp only [intOf]; omega⟩
    · have I4 := index4_1 q wr
      have l4 := T4.out 1 (by omega)
      have ok4 := OK.out 1 (by omega)
      have HB := Lib.hid (fun (z : Int) hz => (show 0 ≤ z ∧ z ≤ 99 from ⟨PO.out 1 (by omega) z hz, ok4.hb z hz⟩))
      have IN := Lib.hid ok4.i4
      obtain ⟨p, hp⟩ : ∃ p, p = (t 1).length := ⟨_, rfl⟩
      have S1 := fun w b o => slice4 w b o p (q 1).n (by rw [ok4.n, hp]) (by omega)
      have TX : Hid (nxS t (2) = nxT ((1 : Nat) : Int) (nxS t 1) (t 1) p) := by show nxT _ _ _ _ = _; rw [hp]
      have S0 : Hid ((lo, at') = nxT ((1 : Nat) : Int) (nxS t 1) (t 1) 0) := by show _ = _; rw [nxT_zero, hs.out]
      have HP := Lib.hid hp
      rw [← hp] at l4
      clear ok4 hp
      have NP : Hid ((wr.alloc (.cells #[.int .i64 (q 1).a, .int .i64 (q 1).b, .int .i64 (q 1).c, .int .i64 (q 1).d, .int .i64 (q 1).n] 52)).heap[wr.heap.size]? = some (.cells #[.int .i64 (q 1).a, .int .i64 (q 1).b, .int .i64 (q 1).c, .int .i64 (q 1).d, .int .i64 (q 1).n] 52 (0, 0))) := heap_alloc_new _ _
      have BP : Hid (Below w.heap.size w (wr.alloc (.cells #[.int .i64 (q 1).a, .int .i64 (q 1).b, .int .i64 (q 1).c, .int .i64 (q 1).d, .int .i64 (q 1).n] 52))) := B.out.trans (show Below w.heap.size wr _ by go_grown)
      go_wp2
      generalize hwp : wr.alloc (.cells #[.int .i64 (q 1).a, .int .i64 (q 1).b, .int .i64 (q 1).c, .int .i64 (q 1).d, .int .i64 (q 1).n] 52) = wp at *
      clear hwp
      go_loopw [4, 5, 21] (fun nv sv jv wq => ∃ (j : Nat) (nx lo at' : Int), j ≤ p ∧ jv = .int .i64 j ∧ nv = .int .i64 nx ∧ sv = .int .i64 at' ∧ Hid (Kept nx lo) ∧ Hid (0 ≤ lo ∧ lo ≤ 100) ∧ Hid ((lo, at') = nxT ((1 : Nat) : Int) (nxS t 1) (t 1) j) ∧ wp = wq) (fun _ _ jv _ => p - (intOf jv).toNat)
      case atStart => exact ⟨0, nx, lo, at', by omega, rfl, rfl, rfl, hkp.out, hbd.out, S0.out, rfl⟩
      case round =>
        obtain ⟨j, nx2, lo2, at2, hj, rfl, rfl, rfl, hkp2, hbd2, hs2, rfl⟩ := hrel
        by_cases hlk : j < p
        · obtain ⟨z, hzz⟩ : ∃ z, (t 1)[j]? = some z := ⟨_, List.getElem?_eq_getElem (by have := HP.out; omega)⟩
          have c0 := IN.out.cell NP.out hzz
          have zb := Lib.hid (HB.out z (List.mem_of_getElem? hzz))
          have HZ := Lib.hid hzz
          clear hzz
          by_cases hl : z < lo2
          · have S2 := Lib.hid (nxT_yes HZ.out hs2.out hl)
            have K2 := Lib.hid (Kept.new zb.out.2)
            have B2 : Hid (0 ≤ z ∧ z ≤ 100) := by have := zb.out; show _ ∧ _; omega
            by_cases hn : nx2 = -1
            · subst hn
              go_wp2
              exact ⟨⟨j + 1, z, z, ((1 : Nat) : Int), by omega, by go_num, rfl, by first | rfl | trivial, K2, B2, S2, by trivial⟩, by simp only [intOf]; omega⟩
            · have g2 : z < nx2 := (hkp2.out.yes hbd2.out hl zb.out.2).resolve_left hn
              have d2 : (nx2 == -1) = false := by simpa using hn
              clear hn
              go_wp2
              exact ⟨⟨j + 1, z, z, ((1 : Nat) : Int), by omega, by go_num, rfl, by first | rfl | trivial, K2, B2, S2, by trivial⟩, by simp only [intOf]; omega⟩
          · have S2 := Lib.hid (nxT_no HZ.out hs2.out hl)
            obtain ⟨hn, g2⟩ := hkp2.out.no hbd2.out hl zb.out.2
            have d2 : (nx2 == -1) = false := by simpa using hn
            clear hn
            go_wp2
            exact ⟨⟨j + 1, nx2, lo2, at2, by omega, by go_num, rfl, rfl, hkp2, hbd2, S2, by trivial⟩, by simp only [intOf]; omega⟩
        · obtain rfl : j = p := by omega
          have S3 : Hid ((lo2, at2) = nxS t (2)) := by show _ = _; rw [TX.out, ← hs2.out]
          go_wp2
          exact ⟨⟨2, nx2, lo2, at2, by omega, by first | rfl | go_num, rfl, rfl, hkp2, hbd2, S3, BP⟩, by simp only [intOf]; omega⟩
    · have I4 := index4_2 q wr
      have l4 := T4.out 2 (by omega)
      have ok4 := OK.out 2 (by omega)
      have HB := Lib.hid (fun (z : Int) hz => (show 0 ≤ z ∧ z ≤ 99 from ⟨PO.out 2 (by omega) z hz, ok4.hb z hz⟩))
      have IN := Lib.hid ok4.i4
      obtain ⟨p, hp⟩ : ∃ p, p = (t 2).length := ⟨_, rfl⟩
      have S1 := fun w b o => slice4 w b o p (q 2).n (by rw [ok4.n, hp]) (by omega)
      have TX : Hid (nxS t (3) = nxT ((2 : Nat) : Int) (nxS t 2) (t 2) p) := by show nxT _ _ _ _ = _; rw [hp]
      have S0 : Hid ((lo, at') = nxT ((2 : Nat) : Int) (nxS t 2) (t 2) 0) := by show _ = _; rw [nxT_zero, hs.out]
      have HP := Lib.hid hp
      rw [← hp] at l4
      clear ok4 hp
      have NP : Hid ((wr.alloc (.cells #[.int .i64 (q 2).a, .int .i64 (q 2).b, .int .i64 (q 2).c, .int .i64 (q 2).d, .int .i64 (q 2).n] 52)).heap[wr.heap.size]? = some (.cells #[.int .i64 (q 2).a, .int .i64 (q 2).b, .int .i64 (q 2).c, .int .i64 (q 2).d, .int .i64 (q 2).n] 52 (0, 0))) := heap_alloc_new _ _
      have BP : Hid (Below w.heap.size w (wr.alloc (.cells #[.int .i64 (q 2).a, .int .i64 (q 2).b, .int .i64 (q 2).c, .int .i64 (q 2).d, .int .i64 (q 2).n] 52))) := B.out.trans (show Below w.heap.size wr _ by go_grown)
      go_wp2
      generalize hwp : wr.alloc (.cells #[.int .i64 (q 2).a, .int .i64 (q 2).b, .int .i64 (q 2).c, .int .i64 (q 2).d, .int .i64 (q 2).n] 52) = wp at *
      clear hwp
      go_loopw [4, 5, 21] (fun nv sv jv wq => ∃ (j : Nat) (nx lo at' : Int), j ≤ p ∧ jv = .int .i64 j ∧ nv = .int .i64 nx ∧ sv = .int .i64 at' ∧ Hid (Kept nx lo) ∧ Hid (0 ≤ lo ∧ lo ≤ 100) ∧ Hid ((lo, at') = nxT ((2 : Nat) : Int) (nxS t 2) (t 2) j) ∧ wp = wq) (fun _ _ jv _ => p - (intOf jv).toNat)
      case atStart => exact ⟨0, nx, lo, at', by omega, rfl, rfl, rfl, hkp.out, hbd.out, S0.out, rfl⟩
      case round =>
        obtain ⟨j, nx2, lo2, at2, hj, rfl, rfl, rfl, hkp2, hbd2, hs2, rfl⟩ := hrel
        by_cases hlk : j < p
        · obtain ⟨z, hzz⟩ : ∃ z, (t 2)[j]? = some z := ⟨_, List.getElem?_eq_getElem (by have := HP.out; omega)⟩
          have c0 := IN.out.cell NP.out hzz
          have zb := Lib.hid (HB.out z (List.mem_of_getElem? hzz))
          have HZ := Lib.hid hzz
          clear hzz
          by_cases hl : z < lo2
          · have S2 := Lib.hid (nxT_yes HZ.out hs2.out hl)
            have K2 := Lib.hid (Kept.new zb.out.2)
            have B2 : Hid (0 ≤ z ∧ z ≤ 100) := by have := zb.out; show _ ∧ _; omega
            by_cases hn : nx2 = -1
            · subst hn
              go_wp2
              exact ⟨⟨j + 1, z, z, ((2 : Nat) : Int), by omega, by go_num, rfl, by first | rfl | trivial, K2, B2, S2, by trivial⟩, by simp only [intOf]; omega⟩
            · have g2 : z < nx2 := (hkp2.out.yes hbd2.out hl zb.out.2).resolve_left hn
              have d2 : (nx2 == -1) = false := by simpa using hn
              clear hn
              go_wp2
              exact ⟨⟨j + 1, z, z, ((2 : Nat) : Int), by omega, by go_num, rfl, by first | rfl | trivial, K2, B2, S2, by trivial⟩, by simp only [intOf]; omega⟩
          · have S2 := Lib.hid (nxT_no HZ.out hs2.out hl)
            obtain ⟨hn, g2⟩ := hkp2.out.no hbd2.out hl zb.out.2
            have d2 : (nx2 == -1) = false := by simpa using hn
            clear hn
            go_wp2
            exact ⟨⟨j + 1, nx2, lo2, at2, by omega, by go_num, rfl, rfl, hkp2, hbd2, S2, by trivial⟩, by simp only [intOf]; omega⟩
        · obtain rfl : j = p := by omega
          have S3 : Hid ((lo2, at2) = nxS t (3)) := by show _ = _; rw [TX.out, ← hs2.out]
          go_wp2
          exact ⟨⟨3, nx2, lo2, at2, by omega, by first | rfl | go_num, rfl, rfl, hkp2, hbd2, S3, BP⟩, by simp only [intOf]; omega⟩
    · have I4 := index4_3 q wr
      have l4 := T4.out 3 (by omega)
      have ok4 := OK.out 3 (by omega)
      have HB := Lib.hid (fun (z : Int) hz => (show 0 ≤ z ∧ z ≤ 99 from ⟨PO.out 3 (by omega) z hz, ok4.hb z hz⟩))
      have IN := Lib.hid ok4.i4
      obtain ⟨p, hp⟩ : ∃ p, p = (t 3).length := ⟨_, rfl⟩
      have S1 := fun w b o => slice4 w b o p (q 3).n (by rw [ok4.n, hp]) (by omega)
      have TX : Hid (nxS t (4) = nxT ((3 : Nat) : Int) (nxS t 3) (t 3) p) := by show nxT _ _ _ _ = _; rw [hp]
      have S0 : Hid ((lo, at') = nxT ((3 : Nat) : Int) (nxS t 3) (t 3) 0) := by show _ = _; rw [nxT_zero, hs.out]
      have HP := Lib.hid hp
      rw [← hp] at l4
      clear ok4 hp
      have NP : Hid ((wr.alloc (.cells #[.int .i64 (q 3).a, .int .i64 (q 3).b, .int .i64 (q 3).c, .int .i64 (q 3).d, .int .i64 (q 3).n] 52)).heap[wr.heap.size]? = some (.cells #[.int .i64 (q 3).a, .int .i64 (q 3).b, .int .i64 (q 3).c, .int .i64 (q 3).d, .int .i64 (q 3).n] 52 (0, 0))) := heap_alloc_new _ _
      have BP : Hid (Below w.heap.size w (wr.alloc (.cells #[.int .i64 (q 3).a, .int .i64 (q 3).b, .int .i64 (q 3).c, .int .i64 (q 3).d, .int .i64 (q 3).n] 52))) := B.out.trans (show Below w.heap.size wr _ by go_grown)
      go_wp2
      generalize hwp : wr.alloc (.cells #[.int .i64 (q 3).a, .int .i64 (q 3).b, .int .i64 (q 3).c, .int .i64 (q 3).d, .int .i64 (q 3).n] 52) = wp at *
      clear hwp
      go_loopw [4, 5, 21] (fun nv sv jv wq => ∃ (j : Nat) (nx lo at' : Int), j ≤ p ∧ jv = .int .i64 j ∧ nv = .int .i64 nx ∧ sv = .int .i64 at' ∧ Hid (Kept nx lo) ∧ Hid (0 ≤ lo ∧ lo ≤ 100) ∧ Hid ((lo, at') = nxT ((3 : Nat) : Int) (nxS t 3) (t 3) j) ∧ wp = wq) (fun _ _ jv _ => p - (intOf jv).toNat)
      case atStart => exact ⟨0, nx, lo, at', by omega, rfl, rfl, rfl, hkp.out, hbd.out, S0.out, rfl⟩
      case round =>
        obtain ⟨j, nx2, lo2, at2, hj, rfl, rfl, rfl, hkp2, hbd2, hs2, rfl⟩ := hrel
        by_cases hlk : j < p
        · obtain ⟨z, hzz⟩ : ∃ z, (t 3)[j]? = some z := ⟨_, List.getElem?_eq_getElem (by have := HP.out; omega)⟩
          have c0 := IN.out.cell NP.out hzz
          have zb := Lib.hid (HB.out z (List.mem_of_getElem? hzz))
          have HZ := Lib.hid hzz
          clear hzz
          by_cases hl : z < lo2
          · have S2 := Lib.hid (nxT_yes HZ.out hs2.out hl)
            have K2 := Lib.hid (Kept.new zb.out.2)
            have B2 : Hid (0 ≤ z ∧ z ≤ 100) := by have := zb.out; show _ ∧ _; omega
            by_cases hn : nx2 = -1
            · subst hn
              go_wp2
              exact ⟨⟨j + 1, z, z, ((3 : Nat) : Int), by omega, by go_num, rfl, by first | rfl | trivial, K2, B2, S2, by trivial⟩, by simp only [intOf]; omega⟩
            · have g2 : z < nx2 := (hkp2.out.yes hbd2.out hl zb.out.2).resolve_left hn
              have d2 : (nx2 == -1) = false := by simpa using hn
              clear hn
              go_wp2
              exact ⟨⟨j + 1, z, z, ((3 : Nat) : Int), by omega, by go_num, rfl, by first | rfl | trivial, K2, B2, S2, by trivial⟩, by simp only [intOf]; omega⟩
          · have S2 := Lib.hid (nxT_no HZ.out hs2.out hl)
            obtain ⟨hn, g2⟩ := hkp2.out.no hbd2.out hl zb.out.2
            have d2 : (nx2 == -1) = false := by simpa using hn
            clear hn
            go_wp2
            exact ⟨⟨j + 1, nx2, lo2, at2, by omega, by go_num, rfl, rfl, hkp2, hbd2, S2, by trivial⟩, by simp only [intOf]; omega⟩
        · obtain rfl : j = p := by omega
          have S3 : Hid ((lo2, at2) = nxS t (4)) := by show _ = _; rw [TX.out, ← hs2.out]
          go_wp2
          exact ⟨⟨4, nx2, lo2, at2, by omega, by first | rfl | go_num, rfl, rfl, hkp2, hbd2, S3, BP⟩, by simp only [intOf]; omega⟩
    · have e := hs.out
      obtain rfl : nx = R := by have h1 := hkp.out; have h2 := HR.out; unfold Kept at h1 h2; rw [← e] at h2; exact h1.trans h2.symm
      obtain rfl : at' = A := by have h2 := HA.out; rw [← e] at h2; exact h2.symm
      clear e hs
      go_wp2
      go_ret2
      exact ⟨rfl, B.out⟩
end Go.Proofs.Ythfmmlpbflfpaac
