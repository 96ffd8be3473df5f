/- slices.Concat of integers, where some lists may be empty. -/
import Derived.Test.YtcmocilojloolaaDoorConcatI
import Derived.Test.YtcmocilojloolaaDoorSSY
import Derived.Test.YtcmocilojloolaaDoorAppN
namespace Go.Proofs.YtcmocilojloolaaDoor
open Go.ChangeShapes Go.WideShapes Go.ChangeAt Go.RowKit
set_option linter.unusedVariables false
set_option linter.unusedSimpArgs false

set_option maxHeartbeats 2000000 in
theorem grow0_any (w : World) : Calls Tryd.prog 119 #[.slice none 0 0, .int .i64 0] w fun e w' => e = .returned (.slice none 0 0) ∧ w = w' := by
  go_enter Tryd.func119, Tryd.ntmps119
  go_wp2
  go_ret
  exact ⟨rfl, rfl⟩

/-- The numbers of the first k lists. -/
def catS (xs : List Sl) (k : Nat) : List Int := (xs.take k).flatMap Sl.t
theorem catS_succ {xs : List Sl} {k : Nat} {x : Sl} (h : xs[k]? = some x) : catS xs (k + 1) = catS xs k ++ x.t := by
  unfold catS; rw [List.take_add_one, h]; simp
theorem catS_len (xs : List Sl) (k : Nat) : (catS xs k).length = sumT (xs.take k) := by
  unfold catS sumT; rw [List.length_flatMap]
theorem catS_all (xs : List Sl) : catS xs xs.length = xs.flatMap Sl.t := by unfold catS; rw [List.take_length]

set_option maxRecDepth 100000 in
set_option maxHeartbeats 4000000 in
theorem concatS_any (v : Value) (xs : List Sl) (w : World) (h : RdSS w v xs) (hn2 : xs.length ≤ 100) (ht : sumT xs ≤ 1000) :
    Calls Tryd.prog 118 #[v] w fun e w' => ∃ u, e = .returned u ∧ OwnI w' w.heap.size u (xs.flatMap Sl.t) ∧ Below w.heap.size w w' := by
  obtain ⟨i0, hi, hz0, hz1, hz2⟩ := info_parts info_i64
  have H := Lib.hid h
  obtain ⟨a, cap, rfl, -⟩ := id h.rows
  obtain ⟨n, hn⟩ : ∃ n, n = xs.length := ⟨_, rfl⟩
  rw [← hn] at H hn2
  rw [← hn]
  obtain ⟨T, hT⟩ : ∃ T, T = sumT xs := ⟨_, rfl⟩
  rw [← hT] at ht
  have HN := Lib.hid hn
  have HT := Lib.hid hT
  clear h hn hT
  go_enter Tryd.func118, Tryd.ntmps118
  go_wp2
  go_loopw [3, 5, 11] (fun s _ i wr => ∃ (k A : Nat), k ≤ n ∧ i = .int .i64 k ∧ s = .int .i64 A ∧ Hid (A = sumT (xs.take k)) ∧ w = wr) (fun _ _ i _ => n - (intOf i).toNat)
  case atStart => exact ⟨0, 0, by omega, rfl, rfl, by show _ = _; simp [sumT], rfl⟩
  case round =>
    obtain ⟨k, A, hk, rfl, rfl, hA, rfl⟩ := hrel
    by_cases hlt : k < n
    · obtain ⟨x, hx⟩ : ∃ x, xs[k]? = some x := ⟨_, List.getElem?_eq_getElem (by have := HN.out; omega)⟩
      obtain ⟨b, off, rfl, c1, -, -⟩ := H.out.at hx
      have S := sumT_take_succ hx
      have le2 := sumT_take_le xs (k + 1)
      rw [S, ← hA.out, ← HT.out] at le2
      rw [← hA.out] at S
      obtain ⟨m, hm⟩ : ∃ m, m = x.t.length := ⟨_, rfl⟩
      rw [← hm] at c1 S le2
      have SS : Hid (A + m = sumT (xs.take (k + 1))) := S.symm
      have q1 : IntKind.i64.wrap ((A : Int) + (m : Int)) = ((A + m : Nat) : Int) := by rw [IntWalk.i64_in _ (by omega)]; push_cast; rfl
      have q2 : ¬ (((A + m : Nat) : Int) < 0) := by omega
      clear hx S hm hA
      go_wp2
      exact ⟨⟨k + 1, A + m, by omega, by go_num, rfl, SS, by trivial⟩, by simp only [intOf]; omega⟩
    · obtain rfl : k = n := by omega
      obtain rfl : A = T := by rw [hA.out, HT.out, List.take_of_length_le (by have := HN.out; omega)]
      clear hA
      by_cases t0 : A = 0
      · subst t0
        go_wp2_with fail
        refine (grow0_any _).mono ?_
        rintro e w1 ⟨rfl, rfl⟩
        go_wp2
        go_loopw [6, 8, 27] (fun s _ i wr => ∃ j : Nat, j ≤ k ∧ i = .int .i64 j ∧ s = .slice none 0 0 ∧ w = wr) (fun _ _ i _ => k - (intOf i).toNat)
        case atStart => exact ⟨0, by omega, rfl, rfl, rfl⟩
        case round =>
          obtain ⟨j, hj, rfl, rfl, rfl⟩ := hrel
          by_cases hlt : j < k
          · obtain ⟨x, hx⟩ : ∃ x, xs[j]? = some x := ⟨_, List.getElem?_eq_getElem (by have := HN.out; omega)⟩
            obtain ⟨b, off, rfl, c1, -, -⟩ := H.out.at hx
            have m0 : x.t.length = 0 := by have := sumT_mem (List.mem_of_getElem? hx); have := HT.out; omega
            rw [m0] at c1
            have K := run_append_nothing (P := Tryd.prog) w 28 28 2 i0 Tryd.underlying28 hi none x.a 0 0 x.c (Nat.le_refl _)
            clear hx m0
            go_wp2_with (at_builtin; refine Lib.wpList_append_run _ rfl _ _ _ _ rfl _ _ rfl rfl _ _ K ?_)
            go_wp2
            exact ⟨⟨j + 1, by omega, by go_num, by first | rfl | trivial, by trivial⟩, by simp only [intOf]; omega⟩
          · obtain rfl : j = k := by omega
            have e0 : xs.flatMap Sl.t = [] := by
              rw [← catS_all]
              apply List.length_eq_zero_iff.mp
              rw [catS_len, List.take_length, ← HT.out]
            have E0 := Lib.hid e0
            clear e0
            go_wp2
            go_ret
            exact ⟨_, rfl, by rw [E0.out]; exact World.ownsRow_nil _ _ _ _, Below.refl _ _⟩
      · go_wp2_with fail
        refine (grow_any A (by omega) ht _).mono ?_
        rintro e w1 ⟨C, rfl, o1, b1⟩
        have O1 := Lib.hid o1
        have B1 := Lib.hid b1
        clear o1 b1
        go_wp2
        go_loopw [6, 8, 27] (fun s _ i wr => ∃ (j g c m : Nat) (zs : List Int), j ≤ k ∧ i = .int .i64 j ∧ s = .slice (some ⟨g, 0, none⟩) m c ∧ m ≤ A ∧ Hid (zs = catS xs j) ∧ Hid (m = zs.length) ∧ Hid (OwnI wr w.heap.size (.slice (some ⟨g, 0, none⟩) m c) zs) ∧ Hid (Below w.heap.size w wr)) (fun _ _ i _ => k - (intOf i).toNat)
        case atStart => exact ⟨0, _, C, 0, [], by omega, rfl, rfl, by omega, rfl, rfl, O1, B1⟩
        case round =>
          obtain ⟨j, g, c, m, zs, hj, rfl, rfl, mA, hz, hm, ho, hbl⟩ := hrel
          clear O1 B1
          by_cases hlt : j < k
          · obtain ⟨x, hx⟩ : ∃ x, xs[j]? = some x := ⟨_, List.getElem?_eq_getElem (by have := HN.out; omega)⟩
            obtain ⟨b, off, rfl, c1, rt, lb⟩ := (H.out.later hbl.out).at hx
            have S := Lib.hid (catS_succ hx)
            have le2 := sumT_take_le xs (j + 1)
            rw [← catS_len, S.out, List.length_append, ← hz.out, ← hm.out, ← HT.out] at le2
            obtain ⟨p, hp⟩ : ∃ p, p = x.t.length := ⟨_, rfl⟩
            rw [← hp] at c1 rt le2
            have HP := Lib.hid hp
            by_cases p0 : p = 0
            · subst p0
              have Z1 : Hid (zs = catS xs (j + 1)) := by
                show _ = _
                rw [S.out, List.length_eq_zero_iff.mp HP.out.symm, List.append_nil, hz.out]
              have mc : m ≤ c := ownsRow_cap (by have := ho.out; unfold OwnI at this; rw [← hm.out] at this; exact this)
              have K := run_append_nothing (P := Tryd.prog) wr 28 28 2 i0 Tryd.underlying28 hi (some ⟨g, 0, none⟩) x.a m c x.c mc
              clear hx rt hp S hz le2
              go_wp2_with (at_builtin; refine Lib.wpList_append_run _ rfl _ _ _ _ rfl _ _ rfl rfl _ _ K ?_)
              go_wp2
              exact ⟨⟨j + 1, g, c, m, zs, by omega, by go_num, by first | rfl | trivial, mA, Z1, hm, ho, hbl⟩, by simp only [intOf]; omega⟩
            · obtain ⟨a2, c2, e2, h1⟩ := rt
              simp only [Value.slice.injEq] at e2
              obtain ⟨e3, -, -⟩ := e2
              obtain ⟨b', off', e4, h2⟩ := h1.resolve_left (by intro h; rw [h] at hp; exact p0 hp)
              rw [e3, e4] at c1
              have HNW : Hid (∀ (i : Nat) (u : Value), (x.t.map (Value.int .i64))[i]? = some u → wr.cell? ((⟨b', off', none⟩ : Addr).add i) = some u) := by
                intro i u hu
                rw [List.getElem?_map] at hu
                obtain ⟨y, hy, rfl⟩ := Option.map_eq_some_iff.1 hu
                rw [Go.WideShapes.add_plain]
                exact h2 i y hy
              have own : Hid (wr.ownsRow w.heap.size 2 1 (.slice (some ⟨g, 0, none⟩) m c) m (zs.map (Value.int .i64))) := by
                have := ho.out
                unfold OwnI at this
                rw [← hm.out] at this
                exact this
              have lgz := own.out.lt
              have hsz := hbl.out.size
              have HL : Hid ((x.t.map (Value.int .i64)).length = p * 1) := by show _ = _; rw [List.length_map, ← HP.out, Nat.mul_one]
              have Z1 : Hid (zs ++ x.t = catS xs (j + 1)) := by show _ = _; rw [S.out, hz.out]
              have M1 : Hid (m + p = (zs ++ x.t).length) := by show _ = _; rw [List.length_append, ← hm.out, ← HP.out]
              clear hx h1 h2 ho e3 e4 hp hz
              go_wp2_with (at_builtin; refine wpList_append_lies _ rfl _ _ _ rfl w.heap.size 2 i0 _ 1 8 Tryd.underlying28 hi hz0 hz1 hz2 rfl (by omega) _ _ _ rfl own.out ⟨b', off', none⟩ p x.c (x.t.map (Value.int .i64)) rfl HL.out HNW.out (by simp [Value.oneCell']) (by omega) (by unfold maxLen; omega) (by omega) (by omega) _ rfl ?_)
              intro gg cap1 w5 hown1 hgrow hat hlt'
              have B5 : Hid (Below w.heap.size w w5) := hbl.out.grown hgrow (by omega) (fun j e => (lgz j e).1)
              have O5 : Hid (OwnI w5 w.heap.size (.slice (some ⟨gg, 0, none⟩) (m + p) cap1) (zs ++ x.t)) := by
                show OwnI _ _ _ _
                unfold OwnI
                rw [← M1.out, List.map_append]
                exact hown1
              clear hown1 hgrow hat hlt' own lgz hbl HNW HL S hm
              go_wp2
              exact ⟨⟨j + 1, gg, cap1, m + p, _, by omega, by go_num, by first | rfl | trivial, by omega, Z1, M1, O5, B5⟩, by simp only [intOf]; omega⟩
          · obtain rfl : j = k := by omega
            have HO : Hid (OwnI wr w.heap.size (.slice (some ⟨g, 0, none⟩) m c) (xs.flatMap Sl.t)) := by
              have := ho.out
              rw [hz.out, HN.out, catS_all] at this
              exact this
            clear ho hz hm
            go_wp2
            go_ret
            exact ⟨_, rfl, HO.out, hbl.out⟩
end Go.Proofs.YtcmocilojloolaaDoor
