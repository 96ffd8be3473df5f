/- slices.Concat of sights, where some lists may be empty. -/
import Derived.Test.YtcmocilojloolaaDoorAppN
import Derived.Test.YtcmocilojloolaaDoorSurvM
namespace Go.Proofs.YtcmocilojloolaaDoor
open Go.ChangeShapes Go.WideShapes Go.ChangeAt Go.RowKit
set_option linter.unusedVariables false
set_option linter.unusedSimpArgs false

/-- A slice of sights as it lies in memory. -/
structure Sk where
  a : Option Addr
  c : Nat
  t : List St

def sumK (xs : List Sk) : Nat := (xs.map fun x => x.t.length).sum
theorem sumK_take_succ {xs : List Sk} {k : Nat} {x : Sk} (h : xs[k]? = some x) : sumK (xs.take (k + 1)) = sumK (xs.take k) + x.t.length := by
  unfold sumK; rw [List.take_add_one, h]; simp
theorem sumK_take_le (xs : List Sk) (k : Nat) : sumK (xs.take k) ≤ sumK xs := by
  have : sumK (xs.take k ++ xs.drop k) = sumK (xs.take k) + sumK (xs.drop k) := by unfold sumK; rw [List.map_append, List.sum_append]
  rw [List.take_append_drop] at this; omega
def catK (xs : List Sk) (k : Nat) : List St := (xs.take k).flatMap Sk.t
theorem catK_succ {xs : List Sk} {k : Nat} {x : Sk} (h : xs[k]? = some x) : catK xs (k + 1) = catK xs k ++ x.t := by
  unfold catK; rw [List.take_add_one, h]; simp
theorem catK_len (xs : List Sk) (k : Nat) : (catK xs k).length = sumK (xs.take k) := by
  unfold catK sumK; rw [List.length_flatMap]
theorem catK_all (xs : List Sk) : catK xs xs.length = xs.flatMap Sk.t := by unfold catK; rw [List.take_length]

/-- Slices of sights that lie in the cells of block b. -/
def RdK (w : World) (b : Nat) (xs : List Sk) : Prop := ∀ k x, xs[k]? = some x → w.cell? ⟨b, k, none⟩ = some (.slice x.a x.t.length x.c) ∧ RdS 4 encSt w (.slice x.a x.t.length x.c) x.t
theorem RdK.later {w w' : World} {b : Nat} {xs : List Sk} (h : RdK w b xs) (hb : Below w.heap.size w w') : RdK w' b xs := fun k x hx =>
  ⟨(hb.cell (p := ⟨b, k, none⟩) (World.block_lt_of_cell? w _ (h k x hx).1)).trans (h k x hx).1, (h k x hx).2.later hb⟩

theorem info_Sk : (Tryd.prog.info? 32).map (fun i => (i.zero, i.size, i.bytes)) = some (some (.agg #[.int .i64 0, .int .i64 0, .int .i64 0, .int .i64 0]), 4, 32) := by kernel_rfl
theorem info_Sk' : ∃ i, Tryd.prog.info? 32 = some i ∧ i.zero = some (.agg #[.int .i64 0, .int .i64 0, .int .i64 0, .int .i64 0]) ∧ i.size = 4 ∧ i.bytes = 32 := by
  have h := info_Sk
  cases hi : Tryd.prog.info? 32 with
  | none => rw [hi] at h; simp at h
  | some i => rw [hi] at h; simp at h; exact ⟨i, rfl, h.1, h.2.1, h.2.2⟩

set_option maxHeartbeats 2000000 in
theorem growK0 (w : World) : Calls Tryd.prog 115 #[.slice none 0 0, .int .i64 0] w fun e w' => e = .returned (.slice none 0 0) ∧ w = w' := by
  go_enter Tryd.func115, Tryd.ntmps115
  go_wp2
  go_ret
  exact ⟨rfl, rfl⟩

set_option maxHeartbeats 2000000 in
theorem growK (n : Nat) (h0 : 1 ≤ n) (h1 : n ≤ 1000) (w : World) :
    Calls Tryd.prog 115 #[.slice none 0 0, .int .i64 n] w fun e w' => ∃ c, e = .returned (.slice (some ⟨w.heap.size, 0, none⟩) 0 c) ∧ OwnS 32 4 encSt w' w.heap.size (.slice (some ⟨w.heap.size, 0, none⟩) 0 c) [] ∧ Below w.heap.size w w' := by
  obtain ⟨i0, hi, hz0, hz1, hz2⟩ := info_Sk'
  have g1 : ¬ ((n : Int) < 0) := by omega
  have g2 : (n : Int) > 0 := by omega
  have g3 : 0 < n := by omega
  have K := Lib.run_append_nil_zeros (P := Tryd.prog) w 24 3 24 32 i0 _ .i64 .i64 Tryd.underlying24 Tryd.underlying3 hi hz0 n h0 (by omega) (by omega) (by rw [hz2]; omega)
  have gc := grownCap_ge w n 0 32
  have gm := grownCap_le_maxLen w n 0 32 (by unfold maxLen; omega)
  obtain ⟨C, hC⟩ : ∃ C, C = grownCap w n 0 32 := ⟨_, rfl⟩
  rw [← hC] at K gc gm
  obtain ⟨cs, hcs⟩ : ∃ cs, cs = Builtin.zeroCells (Value.agg #[.int .i64 0, .int .i64 0, .int .i64 0, .int .i64 0]).cells n ++ Builtin.zeroCells (Value.agg #[.int .i64 0, .int .i64 0, .int .i64 0, .int .i64 0]).cells (C - n) := ⟨_, rfl⟩
  rw [← hcs] at K
  have sz : cs.size = C * 4 := by rw [hcs, Array.size_append, size_zeroCells, size_zeroCells]; simp [Value.cells]; try omega
  have O : Hid (OwnS 32 4 encSt (w.drew.alloc (.cells cs 32)) w.heap.size (.slice (some ⟨w.heap.size, 0, none⟩) 0 C) []) :=
    ⟨by simp, .inr ⟨w.heap.size, C, cs, rfl, Nat.le_refl _, heap_alloc_new w.drew _, Nat.zero_le _, gm, by rw [sz], by simp⟩⟩
  have B : Hid (Below w.heap.size w (w.drew.alloc (.cells cs 32))) := (Below.refl _ _).drew.alloc (Nat.le_refl _) _
  clear hC gc gm hcs sz
  go_enter Tryd.func115, Tryd.ntmps115
  go_wp2_with (at_builtin; refine Lib.wpList_append_run _ rfl _ _ _ _ rfl _ _ rfl rfl _ _ K ?_)
  go_wp2
  go_ret
  exact ⟨C, rfl, O.out, B.out⟩

set_option maxRecDepth 100000 in
set_option maxHeartbeats 4000000 in
theorem concatK_any (bb cap : Nat) (n : Nat) (xs : List Sk) (w : World) (hn : n = xs.length) (h0 : 1 ≤ n) (h : RdK w bb xs) (hn2 : n ≤ 100) (ht : sumK xs ≤ 1000) :
    Calls Tryd.prog 104 #[.slice (some ⟨bb, 0, none⟩) n cap] w fun e w' => ∃ u, e = .returned u ∧ OwnS 32 4 encSt w' w.heap.size u (xs.flatMap Sk.t) ∧ Below w.heap.size w w' := by
  obtain ⟨i0, hi, hz0, hz1, hz2⟩ := info_Sk'
  have H := Lib.hid h
  obtain ⟨T, hT⟩ : ∃ T, T = sumK xs := ⟨_, rfl⟩
  rw [← hT] at ht
  have HN := Lib.hid hn
  have HT := Lib.hid hT
  clear h hn hT
  go_enter Tryd.func104, Tryd.ntmps104
  go_wp2
  go_loopw [3, 5, 11] (fun s _ i wr => ∃ (k A : Nat), k ≤ n ∧ i = .int .i64 k ∧ s = .int .i64 A ∧ Hid (A = sumK (xs.take k)) ∧ w = wr) (fun _ _ i _ => n - (intOf i).toNat)
  case atStart => exact ⟨0, 0, by omega, rfl, rfl, by show _ = _; simp [sumK], rfl⟩
  case round =>
    obtain ⟨k, A, hk, rfl, rfl, hA, rfl⟩ := hrel
    by_cases hlt : k < n
    · obtain ⟨x, hx⟩ : ∃ x, xs[k]? = some x := ⟨_, List.getElem?_eq_getElem (by have := HN.out; omega)⟩
      obtain ⟨c1, -⟩ := H.out k x hx
      have S := sumK_take_succ hx
      have le2 := sumK_take_le xs (k + 1)
      rw [S, ← hA.out, ← HT.out] at le2
      rw [← hA.out] at S
      obtain ⟨m, hm⟩ : ∃ m, m = x.t.length := ⟨_, rfl⟩
      rw [← hm] at c1 S le2
      have SS : Hid (A + m = sumK (xs.take (k + 1))) := S.symm
      have q1 : IntKind.i64.wrap ((A : Int) + (m : Int)) = ((A + m : Nat) : Int) := by rw [IntWalk.i64_in _ (by omega)]; push_cast; rfl
      have q2 : ¬ (((A + m : Nat) : Int) < 0) := by omega
      clear hx S hm hA
      go_wp2
      exact ⟨⟨k + 1, A + m, by omega, by go_num, rfl, SS, by trivial⟩, by simp only [intOf]; omega⟩
    · obtain rfl : k = n := by omega
      obtain rfl : A = T := by rw [hA.out, HT.out, List.take_of_length_le (by have := HN.out; omega)]
      clear hA
      by_cases t0 : A = 0
      · subst t0
        go_wp2_with fail
        refine (growK0 _).mono ?_
        rintro e w1 ⟨rfl, rfl⟩
        go_wp2
        go_loopw [6, 8, 27] (fun s _ i wr => ∃ j : Nat, j ≤ k ∧ i = .int .i64 j ∧ s = .slice none 0 0 ∧ w = wr) (fun _ _ i _ => k - (intOf i).toNat)
        case atStart => exact ⟨0, by omega, rfl, rfl, rfl⟩
        case round =>
          obtain ⟨j, hj, rfl, rfl, rfl⟩ := hrel
          by_cases hlt : j < k
          · obtain ⟨x, hx⟩ : ∃ x, xs[j]? = some x := ⟨_, List.getElem?_eq_getElem (by have := HN.out; omega)⟩
            obtain ⟨c1, -⟩ := H.out j x hx
            have m0 : x.t.length = 0 := by have := sumK_take_succ hx; have := sumK_take_le xs (j + 1); have := HT.out; omega
            rw [m0] at c1
            have K := run_append_nothing (P := Tryd.prog) w 24 24 32 i0 Tryd.underlying24 hi none x.a 0 0 x.c (Nat.le_refl _)
            clear hx m0
            go_wp2_with (at_builtin; refine Lib.wpList_append_run _ rfl _ _ _ _ rfl _ _ rfl rfl _ _ K ?_)
            go_wp2
            exact ⟨⟨j + 1, by omega, by go_num, by first | rfl | trivial, by trivial⟩, by simp only [intOf]; omega⟩
          · obtain rfl : j = k := by omega
            have e0 : xs.flatMap Sk.t = [] := by
              rw [← catK_all]
              apply List.length_eq_zero_iff.mp
              rw [catK_len, List.take_length, ← HT.out]
            have E0 := Lib.hid e0
            clear e0
            go_wp2
            go_ret
            exact ⟨_, rfl, by rw [E0.out]; exact OwnS.nil _ _, Below.refl _ _⟩
      · go_wp2_with fail
        refine (growK A (by omega) ht _).mono ?_
        rintro e w1 ⟨C, rfl, o1, b1⟩
        have O1 := Lib.hid o1
        have B1 := Lib.hid b1
        clear o1 b1
        go_wp2
        go_loopw [6, 8, 27] (fun s _ i wr => ∃ (j g c m : Nat) (zs : List St), j ≤ k ∧ i = .int .i64 j ∧ s = .slice (some ⟨g, 0, none⟩) m c ∧ m ≤ A ∧ Hid (zs = catK xs j) ∧ Hid (m = zs.length) ∧ Hid (OwnS 32 4 encSt wr w.heap.size (.slice (some ⟨g, 0, none⟩) m c) zs) ∧ Hid (Below w.heap.size w wr)) (fun _ _ i _ => k - (intOf i).toNat)
        case atStart => exact ⟨0, _, C, 0, [], by omega, rfl, rfl, by omega, rfl, rfl, O1, B1⟩
        case round =>
          obtain ⟨j, g, c, m, zs, hj, rfl, rfl, mA, hz, hm, ho, hbl⟩ := hrel
          clear O1 B1
          by_cases hlt : j < k
          · obtain ⟨x, hx⟩ : ∃ x, xs[j]? = some x := ⟨_, List.getElem?_eq_getElem (by have := HN.out; omega)⟩
            obtain ⟨c1, rt⟩ := (H.out.later hbl.out) j x hx
            have S := Lib.hid (catK_succ hx)
            have le2 := sumK_take_le xs (j + 1)
            rw [← catK_len, S.out, List.length_append, ← hz.out, ← hm.out, ← HT.out] at le2
            obtain ⟨p, hp⟩ : ∃ p, p = x.t.length := ⟨_, rfl⟩
            rw [← hp] at c1 rt le2
            have HP := Lib.hid hp
            by_cases p0 : p = 0
            · subst p0
              have Z1 : Hid (zs = catK xs (j + 1)) := by
                show _ = _
                rw [S.out, List.length_eq_zero_iff.mp HP.out.symm, List.append_nil, hz.out]
              have mc : m ≤ c := ownsRow_cap (by have := ho.out; unfold OwnS at this; rw [← hm.out] at this; exact this)
              have K := run_append_nothing (P := Tryd.prog) wr 24 24 32 i0 Tryd.underlying24 hi (some ⟨g, 0, none⟩) x.a m c x.c mc
              clear hx rt hp S hz le2
              go_wp2_with (at_builtin; refine Lib.wpList_append_run _ rfl _ _ _ _ rfl _ _ rfl rfl _ _ K ?_)
              go_wp2
              exact ⟨⟨j + 1, g, c, m, zs, by omega, by go_num, by first | rfl | trivial, mA, Z1, hm, ho, hbl⟩, by simp only [intOf]; omega⟩
            · obtain ⟨a2, c2, e2, h1⟩ := rt
              simp only [Value.slice.injEq] at e2
              obtain ⟨e3, -, -⟩ := e2
              obtain ⟨b', off', e4, h2⟩ := h1.resolve_left (by intro h; rw [h] at hp; exact p0 hp)
              rw [e3, e4] at c1
              have HNW : Hid (∀ (i : Nat) (u : Value), (x.t.flatMap encSt)[i]? = some u → wr.cell? ((⟨b', off', none⟩ : Addr).add i) = some u) := by
                intro i u hu
                have hil : i < x.t.length * 4 := by have := (List.getElem?_eq_some_iff.1 hu).1; rwa [flat_len encSt_len] at this
                obtain ⟨y, hy⟩ : ∃ y, x.t[i / 4]? = some y := ⟨_, List.getElem?_eq_getElem (by omega)⟩
                obtain ⟨u', hu'⟩ : ∃ u', (encSt y)[i % 4]? = some u' := ⟨_, List.getElem?_eq_getElem (by rw [encSt_len]; omega)⟩
                have e5 := flat_get encSt_len _ _ _ hy _ _ hu'
                rw [show i / 4 * 4 + i % 4 = i by omega, hu] at e5
                obtain rfl := Option.some.inj e5
                rw [Go.WideShapes.add_plain]
                have := h2 _ y hy _ _ hu'
                rwa [show i / 4 * 4 + i % 4 = i by omega] at this
              have own : Hid (wr.ownsRow w.heap.size 32 4 (.slice (some ⟨g, 0, none⟩) m c) m (zs.flatMap encSt)) := by
                have := ho.out
                unfold OwnS at this
                rw [← hm.out] at this
                exact this
              have lgz := own.out.lt
              have hsz := hbl.out.size
              have HL : Hid ((x.t.flatMap encSt).length = p * 4) := by show _ = _; rw [flat_len encSt_len, ← HP.out]
              have HC : Hid (∀ u ∈ x.t.flatMap encSt, u.oneCell' = true) := by
                intro u hu
                obtain ⟨y, -, hu⟩ := List.mem_flatMap.1 hu
                simp only [encSt, List.mem_cons, List.not_mem_nil, or_false] at hu
                rcases hu with rfl | rfl | rfl | rfl <;> rfl
              have Z1 : Hid (zs ++ x.t = catK xs (j + 1)) := by show _ = _; rw [S.out, hz.out]
              have M1 : Hid (m + p = (zs ++ x.t).length) := by show _ = _; rw [List.length_append, ← hm.out, ← HP.out]
              clear hx h1 h2 ho e3 e4 hp hz
              go_wp2_with (at_builtin; refine wpList_append_lies _ rfl _ _ _ rfl w.heap.size 32 i0 _ 4 32 Tryd.underlying24 hi hz0 hz1 hz2 rfl (by omega) _ _ _ rfl own.out ⟨b', off', none⟩ p x.c (x.t.flatMap encSt) rfl HL.out HNW.out HC.out (by omega) (by unfold maxLen; omega) (by omega) (by omega) _ rfl ?_)
              intro gg cap1 w5 hown1 hgrow hat hlt'
              have B5 : Hid (Below w.heap.size w w5) := hbl.out.grown hgrow (by omega) (fun j e => (lgz j e).1)
              have O5 : Hid (OwnS 32 4 encSt w5 w.heap.size (.slice (some ⟨gg, 0, none⟩) (m + p) cap1) (zs ++ x.t)) := by
                show OwnS _ _ _ _ _ _ _
                unfold OwnS
                rw [← M1.out, List.flatMap_append]
                exact hown1
              clear hown1 hgrow hat hlt' own lgz hbl HNW HL S hm HC
              go_wp2
              exact ⟨⟨j + 1, gg, cap1, m + p, _, by omega, by go_num, by first | rfl | trivial, by omega, Z1, M1, O5, B5⟩, by simp only [intOf]; omega⟩
          · obtain rfl : j = k := by omega
            have HO : Hid (OwnS 32 4 encSt wr w.heap.size (.slice (some ⟨g, 0, none⟩) m c) (xs.flatMap Sk.t)) := by
              have := ho.out
              rw [hz.out, HN.out, catK_all] at this
              exact this
            clear ho hz hm
            go_wp2
            go_ret
            exact ⟨_, rfl, HO.out, hbl.out⟩
end Go.Proofs.YtcmocilojloolaaDoor
