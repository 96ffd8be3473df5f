/- The blockers of a depot: the program's side. -/
import Derived.Test.YtmdddjhlfpmgdabBlkI
import Derived.Test.YtmdddjhlfpmgdabAppN
import Derived.Test.YtmdddjhlfpmgdabStorePl
import Derived.Test.YtmdddjhlfpmgdabYardX
namespace Go.Proofs.Ytmdddjhlfpmgdab
open Go.ChangeShapes Go.WideShapes Go.ChangeAt Go.RowKit
set_option linter.unusedVariables false
set_option linter.unusedSimpArgs false

/-- A stack's numbers as they lie in a pile. -/
structure PileOk (q : Pl) (t : List Int) : Prop where
  i4 : In4 t q.a q.b q.c q.d
  n : q.n = (t.length : Int)
  l4 : t.length ≤ 4
  hb : ∀ x ∈ t, x ≤ 99
def blkF (t : Nat → List Int) (k : Nat) : List Int := (List.range k).flatMap fun i => blkTo (t i) (t i).length
theorem blkF_succ (t : Nat → List Int) (k : Nat) : blkF t (k + 1) = blkF t k ++ blkTo (t k) (t k).length := by unfold blkF; rw [List.range_succ, List.flatMap_append]; simp
theorem blkF_len (t : Nat → List Int) (h : ∀ i, i < 4 → (t i).length ≤ 4) (k : Nat) (hk : k ≤ 4) : (blkF t k).length ≤ 4 * k := by
  induction k with
  | zero => simp [blkF]
  | succ k ih => rw [blkF_succ, List.length_append]; have := blkTo_len (t k) (t k).length; have := h k (by omega); have := ih (by omega); omega
theorem infoA_depot : (Try.prog.info? 62).map (fun i => i.size) = some 20 := by kernel_rfl
theorem undA_depot : Try.prog.underlying 62 = some (.array 4 58) := by kernel_rfl

theorem run_append_pass {w : World} {B m c : Nat} {ad : Option Addr} {ys : List Int} (hm : m = ys.length) (o : OwnI w B (.slice ad m c) ys) : m ≤ c := ownsRow_cap (own_len hm o)

theorem part_pile (cs : Array Value) (off : Nat) (w : World) : (part 58 cs off).run Try.prog w = .ok (.agg (cs.extract off (off + 5))) w := by
  obtain ⟨i0, hi, hs⟩ : ∃ i0, Try.prog.info? 58 = some i0 ∧ i0.size = 5 := by
    have := infos_Pl
    cases h : Try.prog.info? 58 with
    | none => rw [h] at this; simp at this
    | some i => rw [h] at this; simp at this; exact ⟨i, rfl, this⟩
  have ha : (isAgg 58).run Try.prog w = .ok true w := by kernel_rfl
  simp [part, ha, sizeOf, typeInfo, hi, hs, Result.andThen]
theorem index4_0 (q : Nat → Pl) (w : World) : (Instr.index 62 (.agg #[.int .i64 (q 0).a, .int .i64 (q 0).b, .int .i64 (q 0).c, .int .i64 (q 0).d, .int .i64 (q 0).n, .int .i64 (q 1).a, .int .i64 (q 1).b, .int .i64 (q 1).c, .int .i64 (q 1).d, .int .i64 (q 1).n, .int .i64 (q 2).a, .int .i64 (q 2).b, .int .i64 (q 2).c, .int .i64 (q 2).d, .int .i64 (q 2).n, .int .i64 (q 3).a, .int .i64 (q 3).b, .int .i64 (q 3).c, .int .i64 (q 3).d, .int .i64 (q 3).n]) (.int .i64 0)).run Try.prog w = .ok (.agg #[.int .i64 (q 0).a, .int .i64 (q 0).b, .int .i64 (q 0).c, .int .i64 (q 0).d, .int .i64 (q 0).n]) w := by
  obtain ⟨i0, hi, hs⟩ : ∃ i0, Try.prog.info? 58 = some i0 ∧ i0.size = 5 := by
    have := infos_Pl
    cases h : Try.prog.info? 58 with
    | none => rw [h] at this; simp at this
    | some i => rw [h] at this; simp at this; exact ⟨i, rfl, this⟩
  simp [Instr.index, asIntOf, run_underlying undA_depot, sizeOf, typeInfo, hi, hs, part_pile, Result.andThen]
theorem index4_1 (q : Nat → Pl) (w : World) : (Instr.index 62 (.agg #[.int .i64 (q 0).a, .int .i64 (q 0).b, .int .i64 (q 0).c, .int .i64 (q 0).d, .int .i64 (q 0).n, .int .i64 (q 1).a, .int .i64 (q 1).b, .int .i64 (q 1).c, .int .i64 (q 1).d, .int .i64 (q 1).n, .int .i64 (q 2).a, .int .i64 (q 2).b, .int .i64 (q 2).c, .int .i64 (q 2).d, .int .i64 (q 2).n, .int .i64 (q 3).a, .int .i64 (q 3).b, .int .i64 (q 3).c, .int .i64 (q 3).d, .int .i64 (q 3).n]) (.int .i64 1)).run Try.prog w = .ok (.agg #[.int .i64 (q 1).a, .int .i64 (q 1).b, .int .i64 (q 1).c, .int .i64 (q 1).d, .int .i64 (q 1).n]) w := by
  obtain ⟨i0, hi, hs⟩ : ∃ i0, Try.prog.info? 58 = some i0 ∧ i0.size = 5 := by
    have := infos_Pl
    cases h : Try.prog.info? 58 with
    | none => rw [h] at this; simp at this
    | some i => rw [h] at this; simp at this; exact ⟨i, rfl, this⟩
  simp [Instr.index, asIntOf, run_underlying undA_depot, sizeOf, typeInfo, hi, hs, part_pile, Result.andThen]
theorem index4_2 (q : Nat → Pl) (w : World) : (Instr.index 62 (.agg #[.int .i64 (q 0).a, .int .i64 (q 0).b, .int .i64 (q 0).c, .int .i64 (q 0).d, .int .i64 (q 0).n, .int .i64 (q 1).a, .int .i64 (q 1).b, .int .i64 (q 1).c, .int .i64 (q 1).d, .int .i64 (q 1).n, .int .i64 (q 2).a, .int .i64 (q 2).b, .int .i64 (q 2).c, .int .i64 (q 2).d, .int .i64 (q 2).n, .int .i64 (q 3).a, .int .i64 (q 3).b, .int .i64 (q 3).c, .int .i64 (q 3).d, .int .i64 (q 3).n]) (.int .i64 2)).run Try.prog w = .ok (.agg #[.int .i64 (q 2).a, .int .i64 (q 2).b, .int .i64 (q 2).c, .int .i64 (q 2).d, .int .i64 (q 2).n]) w := by
  obtain ⟨i0, hi, hs⟩ : ∃ i0, Try.prog.info? 58 = some i0 ∧ i0.size = 5 := by
    have := infos_Pl
    cases h : Try.prog.info? 58 with
    | none => rw [h] at this; simp at this
    | some i => rw [h] at this; simp at this; exact ⟨i, rfl, this⟩
  simp [Instr.index, asIntOf, run_underlying undA_depot, sizeOf, typeInfo, hi, hs, part_pile, Result.andThen]
theorem index4_3 (q : Nat → Pl) (w : World) : (Instr.index 62 (.agg #[.int .i64 (q 0).a, .int .i64 (q 0).b, .int .i64 (q 0).c, .int .i64 (q 0).d, .int .i64 (q 0).n, .int .i64 (q 1).a, .int .i64 (q 1).b, .int .i64 (q 1).c, .int .i64 (q 1).d, .int .i64 (q 1).n, .int .i64 (q 2).a, .int .i64 (q 2).b, .int .i64 (q 2).c, .int .i64 (q 2).d, .int .i64 (q 2).n, .int .i64 (q 3).a, .int .i64 (q 3).b, .int .i64 (q 3).c, .int .i64 (q 3).d, .int .i64 (q 3).n]) (.int .i64 3)).run Try.prog w = .ok (.agg #[.int .i64 (q 3).a, .int .i64 (q 3).b, .int .i64 (q 3).c, .int .i64 (q 3).d, .int .i64 (q 3).n]) w := by
  obtain ⟨i0, hi, hs⟩ : ∃ i0, Try.prog.info? 58 = some i0 ∧ i0.size = 5 := by
    have := infos_Pl
    cases h : Try.prog.info? 58 with
    | none => rw [h] at this; simp at this
    | some i => rw [h] at this; simp at this; exact ⟨i, rfl, this⟩
  simp [Instr.index, asIntOf, run_underlying undA_depot, sizeOf, typeInfo, hi, hs, part_pile, Result.andThen]

set_option maxRecDepth 100000 in
set_option maxHeartbeats 16000000 in
theorem dBlk_any (h n : Int) (q : Nat → Pl) (t : Nat → List Int) (ok : ∀ i, i < 4 → PileOk (q i) (t i)) (w : World) :
    Calls Try.prog 46 #[.agg #[.int .i64 h, .int .i64 n, .int .i64 (q 0).a, .int .i64 (q 0).b, .int .i64 (q 0).c, .int .i64 (q 0).d, .int .i64 (q 0).n, .int .i64 (q 1).a, .int .i64 (q 1).b, .int .i64 (q 1).c, .int .i64 (q 1).d, .int .i64 (q 1).n, .int .i64 (q 2).a, .int .i64 (q 2).b, .int .i64 (q 2).c, .int .i64 (q 2).d, .int .i64 (q 2).n, .int .i64 (q 3).a, .int .i64 (q 3).b, .int .i64 (q 3).c, .int .i64 (q 3).d, .int .i64 (q 3).n]] w fun e w' => ∃ u, e = .returned u ∧ OwnI w' w.heap.size u (asc (blkF t 4)) ∧ Below w.heap.size w w' := by
  obtain ⟨i0, hi, hz0, hz1, hz2⟩ := info_parts info_i64
  have C1 := Lib.hid (fun i (hi : i < 4) w => (show Calls Try.prog 73 #[.agg #[.int .i64 (q i).a, .int .i64 (q i).b, .int .i64 (q i).c, .int .i64 (q i).d, .int .i64 (q i).n]] w fun e w' => ∃ u, e = .returned u ∧ OwnI w' w.heap.size u (blkTo (t i) (t i).length) ∧ Below w.heap.size w w' by rw [(ok i hi).n]; exact pBlk_any (q i).a (q i).b (q i).c (q i).d (t i).length (t i) rfl (ok i hi).l4 (ok i hi).i4 (ok i hi).hb w))
  have T4 := Lib.hid (fun i (hi : i < 4) => (ok i hi).l4)
  clear ok
  go_enter Try.func46, Try.ntmps46
  have NB := Lib.hid (heap_alloc_new w (.cells #[.int .i64 h, .int .i64 n, .int .i64 (q 0).a, .int .i64 (q 0).b, .int .i64 (q 0).c, .int .i64 (q 0).d, .int .i64 (q 0).n, .int .i64 (q 1).a, .int .i64 (q 1).b, .int .i64 (q 1).c, .int .i64 (q 1).d, .int .i64 (q 1).n, .int .i64 (q 2).a, .int .i64 (q 2).b, .int .i64 (q 2).c, .int .i64 (q 2).d, .int .i64 (q 2).n, .int .i64 (q 3).a, .int .i64 (q 3).b, .int .i64 (q 3).c, .int .i64 (q 3).d, .int .i64 (q 3).n] 64))
  have BB : Hid (Below w.heap.size w (w.alloc (.cells #[.int .i64 h, .int .i64 n, .int .i64 (q 0).a, .int .i64 (q 0).b, .int .i64 (q 0).c, .int .i64 (q 0).d, .int .i64 (q 0).n, .int .i64 (q 1).a, .int .i64 (q 1).b, .int .i64 (q 1).c, .int .i64 (q 1).d, .int .i64 (q 1).n, .int .i64 (q 2).a, .int .i64 (q 2).b, .int .i64 (q 2).c, .int .i64 (q 2).d, .int .i64 (q 2).n, .int .i64 (q 3).a, .int .i64 (q 3).b, .int .i64 (q 3).c, .int .i64 (q 3).d, .int .i64 (q 3).n] 64))) := by show Below _ _ _; go_grown
  go_upto_region 2 with (fail)
  have zb : w.heap.size + 1 ≤ (w.alloc (.cells #[.int .i64 h, .int .i64 n, .int .i64 (q 0).a, .int .i64 (q 0).b, .int .i64 (q 0).c, .int .i64 (q 0).d, .int .i64 (q 0).n, .int .i64 (q 1).a, .int .i64 (q 1).b, .int .i64 (q 1).c, .int .i64 (q 1).d, .int .i64 (q 1).n, .int .i64 (q 2).a, .int .i64 (q 2).b, .int .i64 (q 2).c, .int .i64 (q 2).d, .int .i64 (q 2).n, .int .i64 (q 3).a, .int .i64 (q 3).b, .int .i64 (q 3).c, .int .i64 (q 3).d, .int .i64 (q 3).n] 64)).heap.size := by simp
  generalize w.alloc (.cells #[.int .i64 h, .int .i64 n, .int .i64 (q 0).a, .int .i64 (q 0).b, .int .i64 (q 0).c, .int .i64 (q 0).d, .int .i64 (q 0).n, .int .i64 (q 1).a, .int .i64 (q 1).b, .int .i64 (q 1).c, .int .i64 (q 1).d, .int .i64 (q 1).n, .int .i64 (q 2).a, .int .i64 (q 2).b, .int .i64 (q 2).c, .int .i64 (q 2).d, .int .i64 (q 2).n, .int .i64 (q 3).a, .int .i64 (q 3).b, .int .i64 (q 3).c, .int .i64 (q 3).d, .int .i64 (q 3).n] 64) = wb at *
  have RA : Hid (wb.rangeAt w.heap.size 2 [.int .i64 (q 0).a, .int .i64 (q 0).b, .int .i64 (q 0).c, .int .i64 (q 0).d, .int .i64 (q 0).n, .int .i64 (q 1).a, .int .i64 (q 1).b, .int .i64 (q 1).c, .int .i64 (q 1).d, .int .i64 (q 1).n, .int .i64 (q 2).a, .int .i64 (q 2).b, .int .i64 (q 2).c, .int .i64 (q 2).d, .int .i64 (q 2).n, .int .i64 (q 3).a, .int .i64 (q 3).b, .int .i64 (q 3).c, .int .i64 (q 3).d, .int .i64 (q 3).n]) := by
    intro j v hv
    simp only [World.cell?, NB.out]
    show ((.int .i64 h :: .int .i64 n :: [.int .i64 (q 0).a, .int .i64 (q 0).b, .int .i64 (q 0).c, .int .i64 (q 0).d, .int .i64 (q 0).n, .int .i64 (q 1).a, .int .i64 (q 1).b, .int .i64 (q 1).c, .int .i64 (q 1).d, .int .i64 (q 1).n, .int .i64 (q 2).a, .int .i64 (q 2).b, .int .i64 (q 2).c, .int .i64 (q 2).d, .int .i64 (q 2).n, .int .i64 (q 3).a, .int .i64 (q 3).b, .int .i64 (q 3).c, .int .i64 (q 3).d, .int .i64 (q 3).n] : List Value).toArray)[2 + j]? = some v
    rw [List.getElem?_toArray, Nat.add_comm 2 j, List.getElem?_cons_succ, List.getElem?_cons_succ]
    exact hv
  go_wp2_with (first | (refine wpList_load_mid rfl 62 _ rfl w.heap.size 2 rfl [.int .i64 (q 0).a, .int .i64 (q 0).b, .int .i64 (q 0).c, .int .i64 (q 0).d, .int .i64 (q 0).n, .int .i64 (q 1).a, .int .i64 (q 1).b, .int .i64 (q 1).c, .int .i64 (q 1).d, .int .i64 (q 1).n, .int .i64 (q 2).a, .int .i64 (q 2).b, .int .i64 (q 2).c, .int .i64 (q 2).d, .int .i64 (q 2).n, .int .i64 (q 3).a, .int .i64 (q 3).b, .int .i64 (q 3).c, .int .i64 (q 3).d, .int .i64 (q 3).n] _ RA.out undA_depot rfl infoA_depot ?_) | fail)
  clear RA NB zb
  go_loopw [3, 8] (fun ov iv wr => ∃ (k m c1 : Nat) (ad : Option Addr) (ys : List Int), k ≤ 4 ∧ m ≤ 4 * k ∧ iv = .int .i64 k ∧ ov = .slice ad m c1 ∧ Hid (m = ys.length) ∧ Hid (ys = blkF t k) ∧ Hid (OwnI wr w.heap.size (.slice ad m c1) ys) ∧ Hid (Below w.heap.size w wr)) (fun _ iv _ => 4 - (intOf iv).toNat)
  case atStart => exact ⟨0, 0, 0, _, [], by omega, by omega, rfl, rfl, rfl, rfl, World.ownsRow_nil _ _ _ _, BB.out⟩
  case round =>
    obtain ⟨k, m, c1, ad, ys, hk, mk, rfl, rfl, hm, hy, ho, B⟩ := hrel
    clear BB
    have hsz := B.out.size
    rcases (show k = 0 ∨ k = 1 ∨ k = 2 ∨ k = 3 ∨ k = 4 by omega) with rfl | rfl | rfl | rfl | rfl
    · have C := Lib.hid (C1.out 0 (by omega))
      have I4 := index4_0 q wr
      have l4 := T4.out 0 (by omega)
      have S := Lib.hid (blkF_succ t 0)
      have LY := blkTo_len (t 0) (t 0).length
      obtain ⟨Y, hY⟩ : ∃ Y, Y = blkTo (t 0) (t 0).length := ⟨_, rfl⟩
      rw [← hY] at C S LY
      obtain ⟨p, hp⟩ : ∃ p, p = (t 0).length := ⟨_, rfl⟩
      rw [← hp] at LY l4
      obtain ⟨y, hy'⟩ : ∃ y, y = Y.length := ⟨_, rfl⟩
      rw [← hy'] at LY
      have HY := Lib.hid hy'
      clear hY hp hy'
      go_wp2_with fail
      refine (C.out _).mono ?_
      rintro e w5 ⟨u5, rfl, o5, b5⟩
      have B5 : Hid (Below wr.heap.size wr w5) := (show Below wr.heap.size wr (wr.alloc (.cells #[.int .i64 (q 0).a, .int .i64 (q 0).b, .int .i64 (q 0).c, .int .i64 (q 0).d, .int .i64 (q 0).n] 58)) by go_grown).trans (b5.mono (by simp only [World.size_alloc]; omega))
      have O5 := Lib.hid (o5.rd)
      have oo : Hid (OwnI w5 w.heap.size (.slice ad m c1) ys) := ho.out.below B5.out (fun b e => (ho.out.lt b e).2)
      have BW : Hid (Below w.heap.size w w5) := B.out.trans (B5.out.mono hsz)
      have z5 := BW.out.size
      obtain ⟨a2, c2, e2, h2⟩ := O5.out
      rw [← HY.out] at e2
      subst e2
      have own := Lib.hid (own_len hm.out oo.out)
      have lgz := own.out.lt
      have mc : m ≤ c1 := ownsRow_cap own.out
      clear b5 o5 C ho B I4
      by_cases y0 : y = 0
      · subst y0
        have Z1 : Hid (ys = blkF t (1)) := by show _ = _; rw [S.out, hy.out, List.length_eq_zero_iff.mp HY.out.symm, List.append_nil]
        have KK := run_append_nothing (P := Try.prog) w5 31 31 2 i0 Try.underlying31 hi ad a2 m c1 c2 mc
        clear h2 S hy own lgz
        go_wp2_with (at_builtin; refine Lib.wpList_append_run _ rfl _ _ _ _ rfl _ _ rfl rfl _ _ KK ?_)
        go_wp2
        exact ⟨⟨1, m, c1, ad, _, by omega, by omega, by first | rfl | go_num, by first | rfl | trivial, hm, Z1, oo, BW⟩, by simp only [intOf]; omega⟩
      · obtain ⟨b', off', rfl, h3⟩ := h2.resolve_left (by intro h; have := HY.out; rw [h] at this; exact y0 this)
        have HNW : Hid (∀ (i : Nat) (u : Value), (Y.map (Value.int .i64))[i]? = some u → w5.cell? ((⟨b', off', none⟩ : Addr).add i) = some u) := by
          intro i u hu
          rw [List.getElem?_map] at hu
          obtain ⟨z, hz, rfl⟩ := Option.map_eq_some_iff.1 hu
          rw [Go.WideShapes.add_plain]
          exact h3 i z hz
        have HL : Hid ((Y.map (Value.int .i64)).length = y * 1) := by show _ = _; rw [List.length_map, ← HY.out, Nat.mul_one]
        have Z1 : Hid (ys ++ Y = blkF t (1)) := by show _ = _; rw [S.out, hy.out]
        have M1 : Hid (m + y = (ys ++ Y).length) := by show _ = _; rw [List.length_append, ← hm.out, ← HY.out]
        clear h2 h3 S hy oo
        go_wp2_with (at_builtin; refine wpList_append_lies _ rfl _ _ _ rfl w.heap.size 2 i0 _ 1 8 Try.underlying31 hi hz0 hz1 hz2 rfl (by omega) _ _ _ rfl own.out ⟨b', off', none⟩ y c2 (Y.map (Value.int .i64)) rfl HL.out HNW.out (by simp [Value.oneCell']) (by omega) (by unfold maxLen; omega) (by omega) (by omega) _ rfl ?_)
        intro gg cap1 w6 hown1 hgrow hat hlt'
        have B6 : Hid (Below w.heap.size w w6) := BW.out.grown hgrow (by omega) (fun j e => (lgz j e).1)
        have O6 : Hid (OwnI w6 w.heap.size (.slice (some ⟨gg, 0, none⟩) (m + y) cap1) (ys ++ Y)) := by
          show OwnI _ _ _ _
          unfold OwnI
          rw [← M1.out, List.map_append]
          exact hown1
        clear hown1 hgrow hat hlt' own lgz BW B5 HNW HL hm
        go_wp2
        exact ⟨⟨1, m + y, cap1, _, _, by omega, by omega, by first | rfl | go_num, by first | rfl | trivial, M1, Z1, O6, B6⟩, by simp only [intOf]; omega⟩
    · have C := Lib.hid (C1.out 1 (by omega))
      have I4 := index4_1 q wr
      have l4 := T4.out 1 (by omega)
      have S := Lib.hid (blkF_succ t 1)
      have LY := blkTo_len (t 1) (t 1).length
      obtain ⟨Y, hY⟩ : ∃ Y, Y = blkTo (t 1) (t 1).length := ⟨_, rfl⟩
      rw [← hY] at C S LY
      obtain ⟨p, hp⟩ : ∃ p, p = (t 1).length := ⟨_, rfl⟩
      rw [← hp] at LY l4
      obtain ⟨y, hy'⟩ : ∃ y, y = Y.length := ⟨_, rfl⟩
      rw [← hy'] at LY
      have HY := Lib.hid hy'
      clear hY hp hy'
      go_wp2_with fail
      refine (C.out _).mono ?_
      rintro e w5 ⟨u5, rfl, o5, b5⟩
      have B5 : Hid (Below wr.heap.size wr w5) := (show Below wr.heap.size wr (wr.alloc (.cells #[.int .i64 (q 1).a, .int .i64 (q 1).b, .int .i64 (q 1).c, .int .i64 (q 1).d, .int .i64 (q 1).n] 58)) by go_grown).trans (b5.mono (by simp only [World.size_alloc]; omega))
      have O5 := Lib.hid (o5.rd)
      have oo : Hid (OwnI w5 w.heap.size (.slice ad m c1) ys) := ho.out.below B5.out (fun b e => (ho.out.lt b e).2)
      have BW : Hid (Below w.heap.size w w5) := B.out.trans (B5.out.mono hsz)
      have z5 := BW.out.size
      obtain ⟨a2, c2, e2, h2⟩ := O5.out
      rw [← HY.out] at e2
      subst e2
      have own := Lib.hid (own_len hm.out oo.out)
      have lgz := own.out.lt
      have mc : m ≤ c1 := ownsRow_cap own.out
      clear b5 o5 C ho B I4
      by_cases y0 : y = 0
      · subst y0
        have Z1 : Hid (ys = blkF t (2)) := by show _ = _; rw [S.out, hy.out, List.length_eq_zero_iff.mp HY.out.symm, List.append_nil]
        have KK := run_append_nothing (P := Try.prog) w5 31 31 2 i0 Try.underlying31 hi ad a2 m c1 c2 mc
        clear h2 S hy own lgz
        go_wp2_with (at_builtin; refine Lib.wpList_append_run _ rfl _ _ _ _ rfl _ _ rfl rfl _ _ KK ?_)
        go_wp2
        exact ⟨⟨2, m, c1, ad, _, by omega, by omega, by first | rfl | go_num, by first | rfl | trivial, hm, Z1, oo, BW⟩, by simp only [intOf]; omega⟩
      · obtain ⟨b', off', rfl, h3⟩ := h2.resolve_left (by intro h; have := HY.out; rw [h] at this; exact y0 this)
        have HNW : Hid (∀ (i : Nat) (u : Value), (Y.map (Value.int .i64))[i]? = some u → w5.cell? ((⟨b', off', none⟩ : Addr).add i) = some u) := by
          intro i u hu
          rw [List.getElem?_map] at hu
          obtain ⟨z, hz, rfl⟩ := Option.map_eq_some_iff.1 hu
          rw [Go.WideShapes.add_plain]
          exact h3 i z hz
        have HL : Hid ((Y.map (Value.int .i64)).length = y * 1) := by show _ = _; rw [List.length_map, ← HY.out, Nat.mul_one]
        have Z1 : Hid (ys ++ Y = blkF t (2)) := by show _ = _; rw [S.out, hy.out]
        have M1 : Hid (m + y = (ys ++ Y).length) := by show _ = _; rw [List.length_append, ← hm.out, ← HY.out]
        clear h2 h3 S hy oo
        go_wp2_with (at_builtin; refine wpList_append_lies _ rfl _ _ _ rfl w.heap.size 2 i0 _ 1 8 Try.underlying31 hi hz0 hz1 hz2 rfl (by omega) _ _ _ rfl own.out ⟨b', off', none⟩ y c2 (Y.map (Value.int .i64)) rfl HL.out HNW.out (by simp [Value.oneCell']) (by omega) (by unfold maxLen; omega) (by omega) (by omega) _ rfl ?_)
        intro gg cap1 w6 hown1 hgrow hat hlt'
        have B6 : Hid (Below w.heap.size w w6) := BW.out.grown hgrow (by omega) (fun j e => (lgz j e).1)
        have O6 : Hid (OwnI w6 w.heap.size (.slice (some ⟨gg, 0, none⟩) (m + y) cap1) (ys ++ Y)) := by
          show OwnI _ _ _ _
          unfold OwnI
          rw [← M1.out, List.map_append]
          exact hown1
        clear hown1 hgrow hat hlt' own lgz BW B5 HNW HL hm
        go_wp2
        exact ⟨⟨2, m + y, cap1, _, _, by omega, by omega, by first | rfl | go_num, by first | rfl | trivial, M1, Z1, O6, B6⟩, by simp only [intOf]; omega⟩
    · have C := Lib.hid (C1.out 2 (by omega))
      have I4 := index4_2 q wr
      have l4 := T4.out 2 (by omega)
      have S := Lib.hid (blkF_succ t 2)
      have LY := blkTo_len (t 2) (t 2).length
      obtain ⟨Y, hY⟩ : ∃ Y, Y = blkTo (t 2) (t 2).length := ⟨_, rfl⟩
      rw [← hY] at C S LY
      obtain ⟨p, hp⟩ : ∃ p, p = (t 2).length := ⟨_, rfl⟩
      rw [← hp] at LY l4
      obtain ⟨y, hy'⟩ : ∃ y, y = Y.length := ⟨_, rfl⟩
      rw [← hy'] at LY
      have HY := Lib.hid hy'
      clear hY hp hy'
      go_wp2_with fail
      refine (C.out _).mono ?_
      rintro e w5 ⟨u5, rfl, o5, b5⟩
      have B5 : Hid (Below wr.heap.size wr w5) := (show Below wr.heap.size wr (wr.alloc (.cells #[.int .i64 (q 2).a, .int .i64 (q 2).b, .int .i64 (q 2).c, .int .i64 (q 2).d, .int .i64 (q 2).n] 58)) by go_grown).trans (b5.mono (by simp only [World.size_alloc]; omega))
      have O5 := Lib.hid (o5.rd)
      have oo : Hid (OwnI w5 w.heap.size (.slice ad m c1) ys) := ho.out.below B5.out (fun b e => (ho.out.lt b e).2)
      have BW : Hid (Below w.heap.size w w5) := B.out.trans (B5.out.mono hsz)
      have z5 := BW.out.size
      obtain ⟨a2, c2, e2, h2⟩ := O5.out
      rw [← HY.out] at e2
      subst e2
      have own := Lib.hid (own_len hm.out oo.out)
      have lgz := own.out.lt
      have mc : m ≤ c1 := ownsRow_cap own.out
      clear b5 o5 C ho B I4
      by_cases y0 : y = 0
      · subst y0
        have Z1 : Hid (ys = blkF t (3)) := by show _ = _; rw [S.out, hy.out, List.length_eq_zero_iff.mp HY.out.symm, List.append_nil]
        have KK := run_append_nothing (P := Try.prog) w5 31 31 2 i0 Try.underlying31 hi ad a2 m c1 c2 mc
        clear h2 S hy own lgz
        go_wp2_with (at_builtin; refine Lib.wpList_append_run _ rfl _ _ _ _ rfl _ _ rfl rfl _ _ KK ?_)
        go_wp2
        exact ⟨⟨3, m, c1, ad, _, by omega, by omega, by first | rfl | go_num, by first | rfl | trivial, hm, Z1, oo, BW⟩, by simp only [intOf]; omega⟩
      · obtain ⟨b', off', rfl, h3⟩ := h2.resolve_left (by intro h; have := HY.out; rw [h] at this; exact y0 this)
        have HNW : Hid (∀ (i : Nat) (u : Value), (Y.map (Value.int .i64))[i]? = some u → w5.cell? ((⟨b', off', none⟩ : Addr).add i) = some u) := by
          intro i u hu
          rw [List.getElem?_map] at hu
          obtain ⟨z, hz, rfl⟩ := Option.map_eq_some_iff.1 hu
          rw [Go.WideShapes.add_plain]
          exact h3 i z hz
        have HL : Hid ((Y.map (Value.int .i64)).length = y * 1) := by show _ = _; rw [List.length_map, ← HY.out, Nat.mul_one]
        have Z1 : Hid (ys ++ Y = blkF t (3)) := by show _ = _; rw [S.out, hy.out]
        have M1 : Hid (m + y = (ys ++ Y).length) := by show _ = _; rw [List.length_append, ← hm.out, ← HY.out]
        clear h2 h3 S hy oo
        go_wp2_with (at_builtin; refine wpList_append_lies _ rfl _ _ _ rfl w.heap.size 2 i0 _ 1 8 Try.underlying31 hi hz0 hz1 hz2 rfl (by omega) _ _ _ rfl own.out ⟨b', off', none⟩ y c2 (Y.map (Value.int .i64)) rfl HL.out HNW.out (by simp [Value.oneCell']) (by omega) (by unfold maxLen; omega) (by omega) (by omega) _ rfl ?_)
        intro gg cap1 w6 hown1 hgrow hat hlt'
        have B6 : Hid (Below w.heap.size w w6) := BW.out.grown hgrow (by omega) (fun j e => (lgz j e).1)
        have O6 : Hid (OwnI w6 w.heap.size (.slice (some ⟨gg, 0, none⟩) (m + y) cap1) (ys ++ Y)) := by
          show OwnI _ _ _ _
          unfold OwnI
          rw [← M1.out, List.map_append]
          exact hown1
        clear hown1 hgrow hat hlt' own lgz BW B5 HNW HL hm
        go_wp2
        exact ⟨⟨3, m + y, cap1, _, _, by omega, by omega, by first | rfl | go_num, by first | rfl | trivial, M1, Z1, O6, B6⟩, by simp only [intOf]; omega⟩
    · have C := Lib.hid (C1.out 3 (by omega))
      have I4 := index4_3 q wr
      have l4 := T4.out 3 (by omega)
      have S := Lib.hid (blkF_succ t 3)
      have LY := blkTo_len (t 3) (t 3).length
      obtain ⟨Y, hY⟩ : ∃ Y, Y = blkTo (t 3) (t 3).length := ⟨_, rfl⟩
      rw [← hY] at C S LY
      obtain ⟨p, hp⟩ : ∃ p, p = (t 3).length := ⟨_, rfl⟩
      rw [← hp] at LY l4
      obtain ⟨y, hy'⟩ : ∃ y, y = Y.length := ⟨_, rfl⟩
      rw [← hy'] at LY
      have HY := Lib.hid hy'
      clear hY hp hy'
      go_wp2_with fail
      refine (C.out _).mono ?_
      rintro e w5 ⟨u5, rfl, o5, b5⟩
      have B5 : Hid (Below wr.heap.size wr w5) := (show Below wr.heap.size wr (wr.alloc (.cells #[.int .i64 (q 3).a, .int .i64 (q 3).b, .int .i64 (q 3).c, .int .i64 (q 3).d, .int .i64 (q 3).n] 58)) by go_grown).trans (b5.mono (by simp only [World.size_alloc]; omega))
      have O5 := Lib.hid (o5.rd)
      have oo : Hid (OwnI w5 w.heap.size (.slice ad m c1) ys) := ho.out.below B5.out (fun b e => (ho.out.lt b e).2)
      have BW : Hid (Below w.heap.size w w5) := B.out.trans (B5.out.mono hsz)
      have z5 := BW.out.size
      obtain ⟨a2, c2, e2, h2⟩ := O5.out
      rw [← HY.out] at e2
      subst e2
      have own := Lib.hid (own_len hm.out oo.out)
      have lgz := own.out.lt
      have mc : m ≤ c1 := ownsRow_cap own.out
      clear b5 o5 C ho B I4
      by_cases y0 : y = 0
      · subst y0
        have Z1 : Hid (ys = blkF t (4)) := by show _ = _; rw [S.out, hy.out, List.length_eq_zero_iff.mp HY.out.symm, List.append_nil]
        have KK := run_append_nothing (P := Try.prog) w5 31 31 2 i0 Try.underlying31 hi ad a2 m c1 c2 mc
        clear h2 S hy own lgz
        go_wp2_with (at_builtin; refine Lib.wpList_append_run _ rfl _ _ _ _ rfl _ _ rfl rfl _ _ KK ?_)
        go_wp2
        exact ⟨⟨4, m, c1, ad, _, by omega, by omega, by first | rfl | go_num, by first | rfl | trivial, hm, Z1, oo, BW⟩, by simp only [intOf]; omega⟩
      · obtain ⟨b', off', rfl, h3⟩ := h2.resolve_left (by intro h; have := HY.out; rw [h] at this; exact y0 this)
        have HNW : Hid (∀ (i : Nat) (u : Value), (Y.map (Value.int .i64))[i]? = some u → w5.cell? ((⟨b', off', none⟩ : Addr).add i) = some u) := by
          intro i u hu
          rw [List.getElem?_map] at hu
          obtain ⟨z, hz, rfl⟩ := Option.map_eq_some_iff.1 hu
          rw [Go.WideShapes.add_plain]
          exact h3 i z hz
        have HL : Hid ((Y.map (Value.int .i64)).length = y * 1) := by show _ = _; rw [List.length_map, ← HY.out, Nat.mul_one]
        have Z1 : Hid (ys ++ Y = blkF t (4)) := by show _ = _; rw [S.out, hy.out]
        have M1 : Hid (m + y = (ys ++ Y).length) := by show _ = _; rw [List.length_append, ← hm.out, ← HY.out]
        clear h2 h3 S hy oo
        go_wp2_with (at_builtin; refine wpList_append_lies _ rfl _ _ _ rfl w.heap.size 2 i0 _ 1 8 Try.underlying31 hi hz0 hz1 hz2 rfl (by omega) _ _ _ rfl own.out ⟨b', off', none⟩ y c2 (Y.map (Value.int .i64)) rfl HL.out HNW.out (by simp [Value.oneCell']) (by omega) (by unfold maxLen; omega) (by omega) (by omega) _ rfl ?_)
        intro gg cap1 w6 hown1 hgrow hat hlt'
        have B6 : Hid (Below w.heap.size w w6) := BW.out.grown hgrow (by omega) (fun j e => (lgz j e).1)
        have O6 : Hid (OwnI w6 w.heap.size (.slice (some ⟨gg, 0, none⟩) (m + y) cap1) (ys ++ Y)) := by
          show OwnI _ _ _ _
          unfold OwnI
          rw [← M1.out, List.map_append]
          exact hown1
        clear hown1 hgrow hat hlt' own lgz BW B5 HNW HL hm
        go_wp2
        exact ⟨⟨4, m + y, cap1, _, _, by omega, by omega, by first | rfl | go_num, by first | rfl | trivial, M1, Z1, O6, B6⟩, by simp only [intOf]; omega⟩
    · have SO := Lib.hid (fun h hN => sort_any (.slice ad m c1) ys wr w.heap.size 0 h hN (by have := hm.out; omega))
      go_wp2_with fail
      refine (SO.out ho.out hsz).mono ?_
      rintro e w5 ⟨rfl, o5, b5⟩
      have O5 : Hid (OwnI w5 w.heap.size (.slice ad m c1) (asc (blkF t 4))) := by show OwnI _ _ _ _; rw [← hy.out]; exact o5
      have B5 : Hid (Below w.heap.size w w5) := B.out.trans b5
      clear o5 b5 SO ho B
      go_wp2
      go_ret
      exact ⟨_, rfl, O5.out, B5.out⟩
end Go.Proofs.Ytmdddjhlfpmgdab
