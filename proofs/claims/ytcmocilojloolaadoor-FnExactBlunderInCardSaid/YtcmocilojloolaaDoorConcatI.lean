/- slices.Grow of nil and slices.Concat of integers. -/
import Derived.Test.YtcmocilojloolaaDoorInts
import Derived.Lib.AppendZeros
import Derived.Lib.LazyBuf
import Derived.Deep.AppendLies
namespace Go.Proofs.YtcmocilojloolaaDoor
open Go.ChangeShapes Go.WideShapes Go.ChangeAt Go.RowKit
set_option linter.unusedVariables false
set_option linter.unusedSimpArgs false

set_option maxHeartbeats 2000000 in
theorem grow_any (n : Nat) (h0 : 1 ≤ n) (h1 : n ≤ 1000) (w : World) :
    Calls Tryd.prog 119 #[.slice none 0 0, .int .i64 n] w fun e w' => ∃ c, e = .returned (.slice (some ⟨w.heap.size, 0, none⟩) 0 c) ∧ OwnI w' w.heap.size (.slice (some ⟨w.heap.size, 0, none⟩) 0 c) [] ∧ Below w.heap.size w w' := by
  obtain ⟨i0, hi, hz0, hz1, hz2⟩ := info_parts info_i64
  have g1 : ¬ ((n : Int) < 0) := by omega
  have g2 : (n : Int) > 0 := by omega
  have g3 : 0 < n := by omega
  have K := Lib.run_append_nil_zeros (P := Tryd.prog) w 28 3 28 2 i0 (.int .i64 0) .i64 .i64 Tryd.underlying28 Tryd.underlying3 hi hz0 n h0 (by omega) (by omega) (by rw [hz2]; omega)
  have gc := grownCap_ge w n 0 2
  have gm := grownCap_le_maxLen w n 0 2 (by unfold maxLen; omega)
  obtain ⟨C, hC⟩ : ∃ C, C = grownCap w n 0 2 := ⟨_, rfl⟩
  rw [← hC] at K gc gm
  obtain ⟨cs, hcs⟩ : ∃ cs, cs = Builtin.zeroCells (Value.int .i64 0).cells n ++ Builtin.zeroCells (Value.int .i64 0).cells (C - n) := ⟨_, rfl⟩
  rw [← hcs] at K
  have sz : cs.size = C := by rw [hcs, Array.size_append, size_zeroCells, size_zeroCells]; simp [Value.cells]; omega
  have O : Hid (OwnI (w.drew.alloc (.cells cs 2)) w.heap.size (.slice (some ⟨w.heap.size, 0, none⟩) 0 C) []) :=
    ⟨by simp, .inr ⟨w.heap.size, C, cs, rfl, Nat.le_refl _, heap_alloc_new w.drew _, Nat.zero_le _, gm, by rw [sz]; omega, by simp⟩⟩
  have B : Hid (Below w.heap.size w (w.drew.alloc (.cells cs 2))) := (Below.refl _ _).drew.alloc (Nat.le_refl _) _
  clear hC gc gm hcs sz
  go_enter Tryd.func119, Tryd.ntmps119
  go_wp2_with (at_builtin; refine Lib.wpList_append_run _ rfl _ _ _ _ rfl _ _ rfl rfl _ _ K ?_)
  go_wp2
  go_ret
  exact ⟨C, rfl, O.out, B.out⟩

theorem flat_take_succ {ps : List (List Int)} {k : Nat} {p : List Int} (h : ps[k]? = some p) : (ps.take (k + 1)).flatten = (ps.take k).flatten ++ p := by
  rw [List.take_add_one, h]; simp
theorem flat_take_le (ps : List (List Int)) (k : Nat) : (ps.take k).flatten.length ≤ ps.flatten.length := by
  conv => rhs; rw [← List.take_append_drop k ps]
  rw [List.flatten_append, List.length_append]; omega

set_option maxRecDepth 100000 in
set_option maxHeartbeats 4000000 in
theorem concat_any (b cap n : Nat) (ps : List (List Int)) (w : World) (hn : n = ps.length) (h0 : 1 ≤ n) (hn2 : n ≤ 100)
    (hp : ∀ k p, ps[k]? = some p → 1 ≤ p.length ∧ ∃ v, w.cell? ⟨b, k, none⟩ = some v ∧ RdI w v p) (ht : ps.flatten.length ≤ 1000) :
    Calls Tryd.prog 118 #[.slice (some ⟨b, 0, none⟩) n cap] w fun e w' => ∃ v, e = .returned v ∧ OwnI w' w.heap.size v ps.flatten ∧ Below w.heap.size w w' := by
  obtain ⟨i0, hi, hz0, hz1, hz2⟩ := info_parts info_i64
  have t1 : 1 ≤ ps.flatten.length := by
    obtain ⟨p, hx⟩ : ∃ p, ps[0]? = some p := ⟨_, List.getElem?_eq_getElem (by omega)⟩
    have a1 := (hp 0 p hx).1
    have a2 := flat_take_le ps (0 + 1)
    rw [flat_take_succ hx, List.length_append] at a2
    omega
  have HP := Lib.hid hp
  have HN := Lib.hid hn
  have HT := Lib.hid ht
  obtain ⟨T, hT⟩ : ∃ T, T = ps.flatten.length := ⟨_, rfl⟩
  rw [← hT] at t1 ht
  have HTT := Lib.hid hT
  clear hp hn hT
  go_enter Tryd.func118, Tryd.ntmps118
  go_wp2
  go_loopw [3, 5, 11] (fun s _ i wr => ∃ k : Nat, k ≤ n ∧ i = .int .i64 k ∧ s = .int .i64 (((ps.take k).flatten.length : Nat) : Int) ∧ w = wr) (fun _ _ i _ => n - (intOf i).toNat)
  case atStart => exact ⟨0, by omega, rfl, by simp, rfl⟩
  case round =>
    obtain ⟨k, hk, rfl, rfl, rfl⟩ := hrel
    have le := flat_take_le ps k
    by_cases hlt : k < n
    · obtain ⟨p, hx⟩ : ∃ x, ps[k]? = some x := ⟨_, List.getElem?_eq_getElem (by have := HN.out; omega)⟩
      obtain ⟨p1, v, c1, rv⟩ := HP.out k p hx
      have S := flat_take_succ hx
      have le2 := flat_take_le ps (k + 1)
      rw [S, List.length_append] at le2
      have SS : Hid ((ps.take (k + 1)).flatten.length = (ps.take k).flatten.length + p.length) := by show _ = _; rw [S, List.length_append]
      obtain ⟨a, c, rfl, -⟩ := rv
      obtain ⟨A, hA⟩ : ∃ A, A = (ps.take k).flatten.length := ⟨_, rfl⟩
      obtain ⟨m, hm⟩ : ∃ m, m = p.length := ⟨_, rfl⟩
      rw [← hA, ← hm] at SS le2
      rw [← hA] at le ⊢
      rw [← hm] at c1 p1
      have q1 : IntKind.i64.wrap ((A : Int) + (m : Int)) = ((A + m : Nat) : Int) := by rw [IntWalk.i64_in _ (by have := HT.out; omega)]; push_cast; rfl
      have q2 : ¬ (((A + m : Nat) : Int) < 0) := by omega
      clear hx S hA hm
      go_wp2
      exact ⟨⟨k + 1, by omega, by go_num, by rw [SS.out]; push_cast; rfl, trivial⟩, by simp only [intOf]; omega⟩
    · obtain rfl : k = n := by omega
      have e : (ps.take k).flatten.length = T := by rw [HTT.out, List.take_of_length_le (by have := HN.out; omega)]
      rw [e]
      clear e le
      go_wp2_with fail
      refine (grow_any T t1 ht _).mono ?_
      rintro e w1 ⟨C, rfl, o1, b1⟩
      have O1 : Hid (OwnI w1 w.heap.size (.slice (some ⟨w.heap.size, 0, none⟩) ((ps.take 0).flatten.length) C) (ps.take 0).flatten) := o1
      have B1 := Lib.hid b1
      clear o1 b1
      go_wp2
      go_loopw [6, 8, 27] (fun s _ i wr => ∃ (j g c : Nat), j ≤ k ∧ i = .int .i64 j ∧ s = .slice (some ⟨g, 0, none⟩) ((ps.take j).flatten.length) c ∧ Hid (OwnI wr w.heap.size (.slice (some ⟨g, 0, none⟩) ((ps.take j).flatten.length) c) (ps.take j).flatten) ∧ Hid (Below w.heap.size w wr)) (fun _ _ i _ => k - (intOf i).toNat)
      case atStart => exact ⟨0, _, C, by omega, rfl, rfl, O1, B1⟩
      case round =>
        obtain ⟨j, g, c, hj, rfl, rfl, ho, hbl⟩ := hrel
        clear O1 B1
        have le := flat_take_le ps j
        by_cases hlt : j < k
        · obtain ⟨p, hx⟩ : ∃ x, ps[j]? = some x := ⟨_, List.getElem?_eq_getElem (by have := HN.out; omega)⟩
          obtain ⟨p1, v, c1, rv⟩ := HP.out j p hx
          have lb : b < w.heap.size := World.block_lt_of_cell? w _ c1
          have c1' := (hbl.out.cell (p := ⟨b, j, none⟩) lb).trans c1
          have rv' := rv.below (fun k e => by
            obtain ⟨a, c, rfl, h | ⟨b', off, rfl, h⟩⟩ := rv
            · rw [h] at p1; simp at p1
            · obtain ⟨y, hy⟩ : ∃ y, p[0]? = some y := ⟨_, List.getElem?_eq_getElem (by omega)⟩
              simp only [Value.ownBlock, Option.some.injEq] at e
              rw [← e]
              exact World.block_lt_of_cell? w _ (h 0 y hy)) hbl.out
          have S := Lib.hid (flat_take_succ hx)
          have le2 := flat_take_le ps (j + 1)
          rw [S.out, List.length_append] at le2
          obtain ⟨a, c', rfl, h1⟩ := rv'
          obtain ⟨b', off, rfl, h2⟩ := h1.resolve_left (by intro h; rw [h] at p1; simp at p1)
          have HNW : Hid (∀ (j : Nat) (u : Value), (p.map (Value.int .i64))[j]? = some u → wr.cell? ((⟨b', off, none⟩ : Addr).add j) = some u) := by
            intro j u hu
            rw [List.getElem?_map] at hu
            obtain ⟨y, hy, rfl⟩ := Option.map_eq_some_iff.1 hu
            rw [Go.WideShapes.add_plain]
            exact h2 j y hy
          have own : Hid (wr.ownsRow w.heap.size 2 1 (.slice (some ⟨g, 0, none⟩) ((ps.take j).flatten.length) c) ((ps.take j).flatten.length) ((ps.take j).flatten.map (Value.int .i64))) := ho.out
          have lgz := own.out.lt
          have hsz := hbl.out.size
          obtain ⟨A, hA⟩ : ∃ A, A = (ps.take j).flatten.length := ⟨_, rfl⟩
          obtain ⟨m, hm⟩ : ∃ m, m = p.length := ⟨_, rfl⟩
          have HA := Lib.hid hA
          have HL : Hid ((p.map (Value.int .i64)).length = m * 1) := by show _ = _; rw [List.length_map, hm, Nat.mul_one]
          have HM := Lib.hid hm
          rw [← hA] at own ⊢
          rw [← hA, ← hm] at le2
          rw [← hm] at c1' p1
          have hT := HT.out
          clear hx c1 rv h1 h2 ho hA hm le
          go_wp2_with (at_builtin; refine wpList_append_lies _ rfl _ _ _ rfl w.heap.size 2 i0 _ 1 8 Tryd.underlying28 hi hz0 hz1 hz2 rfl (by omega) _ _ _ rfl own.out ⟨b', off, none⟩ m c' (p.map (Value.int .i64)) rfl HL.out HNW.out (by simp [Value.oneCell']) (by omega) (by unfold maxLen; omega) (by omega) (by omega) _ rfl ?_)
          intro gg cap1 w5 hown1 hgrow hat hlt'
          have B5 : Hid (Below w.heap.size w w5) := hbl.out.grown hgrow (by omega) (fun j e => (lgz j e).1)
          have O5 : Hid (OwnI w5 w.heap.size (.slice (some ⟨gg, 0, none⟩) ((ps.take (j + 1)).flatten.length) cap1) (ps.take (j + 1)).flatten) := by
            show OwnI _ _ _ _
            unfold OwnI
            rw [S.out, List.length_append, ← HA.out, ← HM.out, List.map_append, List.map_flatten, List.map_take]
            exact hown1
          have SE : Hid ((ps.take (j + 1)).flatten.length = A + m) := by show _ = _; rw [S.out, List.length_append, ← HA.out, ← HM.out]
          clear hown1 hgrow hat hlt' own lgz hbl HNW HL
          go_wp2
          exact ⟨⟨j + 1, gg, cap1, by omega, by go_num, by rw [SE.out], O5, B5⟩, by simp only [intOf]; omega⟩
        · obtain rfl : j = k := by omega
          have HO : Hid (OwnI wr w.heap.size (.slice (some ⟨g, 0, none⟩) ((ps.take j).flatten.length) c) ps.flatten) := by
            have := ho.out
            have e : ps.take j = ps := List.take_of_length_le (by have := HN.out; omega)
            rwa [show (ps.take j).flatten = ps.flatten by rw [e]] at this ⊢
          obtain ⟨A, hA⟩ : ∃ A, A = (ps.take j).flatten.length := ⟨_, rfl⟩
          rw [← hA] at HO ⊢
          clear ho hA le
          go_wp2
          go_ret
          exact ⟨_, rfl, HO.out, hbl.out⟩
end Go.Proofs.YtcmocilojloolaaDoor
