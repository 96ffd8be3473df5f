/- Excesses and cumulative sums on both sides. -/
import Derived.Test.YtobfephcmiolbaaMuck
import Derived.Test.YtobfephcmiolbaaExKit
import Derived.Deep.AppendLies
namespace Go.Proofs.Ytobfephcmiolbaa
open Go.ChangeShapes Go.WideShapes Go.ChangeAt Go.RowKit
set_option linter.unusedVariables false
set_option linter.unusedSimpArgs false

set_option maxRecDepth 100000 in
set_option maxHeartbeats 2000000 in
theorem excesses_yes (v : Value) (zs : List Int) (al : Int) (w : World) (h : RdI w v zs) (hb : Bal zs) (ha : Bnd al) :
    Calls Try.prog 43 #[v, .int .i64 al] w fun e w' => ∃ u, e = .returned (.tuple #[u, .bool true]) ∧ OwnI w' w.heap.size u (exL zs al) ∧ Below w.heap.size w w' := by
  obtain ⟨i0, hi, hz0, hz1, hz2⟩ := info_parts info_i64
  have C1 := Lib.hid (fun w h => isBalance_any v zs w h (by have := hb.1; omega) true (by simpa using hb))
  have C2 := Lib.hid (fun w => isWeight_any al w true (by simpa [Bnd] using ha))
  have H := Lib.hid h
  obtain ⟨a, cap, rfl, ra⟩ := h
  obtain ⟨n, hn⟩ : ∃ n, n = zs.length := ⟨_, rfl⟩
  have ln : n ≤ 60 := by have := hb.1; omega
  obtain ⟨a0, a1⟩ := ha
  have HB := Lib.hid hb.2
  have RA := Lib.hid ra
  have HN := Lib.hid hn
  have LN : Hid ((exL zs al).length = n) := by show _ = _; rw [exL_len]; exact hn.symm
  rw [← hn] at H C1
  rw [← hn]
  clear ra hn hb
  go_enter Try.func43, Try.ntmps43
  go_wp2_with fail
  refine (C1.out _ H.out).mono ?_
  rintro e w' ⟨rfl, rfl⟩
  go_wp2_with fail
  refine (C2.out _).mono ?_
  rintro e w' ⟨rfl, rfl⟩
  go_wp2_with (first | (at_make; refine wpList_make_full _ rfl _ _ _ rfl w.heap.size 2 i0 (.int .i64 0) 1 Try.underlying25 hi hz0 hz1 .i64 .i64 _ _ n rfl rfl rfl rfl ?b2 ?b3 (Nat.le_refl _) ?_) | go_in)
  case b2 => rw [hz2]; omega
  case b3 => unfold maxLen; omega
  intro w1 hown hg
  rw [toList_madeCells_one] at hown
  have O1 : Hid (OwnI w1 w.heap.size (.slice (some ⟨w.heap.size, 0, none⟩) n n) (part (exL zs al) n 0)) := part_made hown
  have B1 : Hid (Below w.heap.size w w1) := (Below.refl _ _).grown hg (Nat.le_refl _) (fun k h => by cases h)
  clear hown hg C1 C2 H
  go_wp2
  go_loopw [22] (fun i wr => ∃ k : Nat, k ≤ n ∧ i = .int .i64 k ∧ Hid (OwnI wr w.heap.size (.slice (some ⟨w.heap.size, 0, none⟩) n n) (part (exL zs al) n k)) ∧ Hid (Below w.heap.size w wr)) (fun i _ => n - (intOf i).toNat)
  case atStart => exact ⟨0, by omega, rfl, O1, B1⟩
  case round =>
    obtain ⟨k, hk, rfl, ho, hbl⟩ := hrel
    clear O1 B1
    by_cases hlt : k < n
    · obtain ⟨x, hx⟩ : ∃ x, zs[k]? = some x := ⟨_, List.getElem?_eq_getElem (by have := HN.out; omega)⟩
      obtain ⟨x0, x1⟩ := HB.out.at hx
      obtain ⟨ba, oa, rfl, ca'⟩ := RA.out.resolve_left (by intro h; have := HN.out; rw [h] at this; simp at this; omega)
      have hbA : ba < w.heap.size := World.block_lt_of_cell? w _ (ca' k x hx)
      have c1 := (hbl.out.cell (p := ⟨ba, oa + k, none⟩) hbA).trans (ca' k x hx)
      obtain ⟨c2, f1⟩ := part_cell LN.out hlt ho.out
      have s1 := Lib.hid (part_store LN.out (exL_get (al := al) hx) ho.out)
      have s2 : Hid (Below w.heap.size w (wr.setCell ⟨w.heap.size, k, none⟩ (.int .i64 (x - al)))) := hbl.out.setCell (Nat.le_refl _) _
      have q1 : IntKind.i64.wrap (x - al) = x - al := IntWalk.i64_in _ (by omega)
      clear hx ho ca' hbl
      go_wp2
      exact ⟨⟨k + 1, by omega, by go_num, s1, s2⟩, by simp only [intOf]; omega⟩
    · obtain rfl : k = n := by omega
      have HO : Hid (OwnI wr w.heap.size (.slice (some ⟨w.heap.size, 0, none⟩) k k) (exL zs al)) := by have := ho.out; rwa [part_all LN.out] at this
      clear ho
      go_wp2
      go_ret2
      exact ⟨_, rfl, HO.out, hbl.out⟩

theorem excesses_no (v : Value) (zs : List Int) (al : Int) (w : World) (h : RdI w v zs) (lz : zs.length ≤ 1099511627776) (hb : ¬ (Bal zs ∧ Bnd al)) :
    Calls Try.prog 43 #[v, .int .i64 al] w fun e w' => e = .returned (.tuple #[.slice none 0 0, .bool false]) ∧ w = w' := by
  have H := Lib.hid h
  obtain ⟨a, cap, rfl, ra⟩ := h
  by_cases h1 : Bal zs
  · have h2 : ¬ Bnd al := fun h => hb ⟨h1, h⟩
    have C1 := Lib.hid (fun w h => isBalance_any (.slice a zs.length cap) zs w h (by omega) true (by simpa using h1))
    have C2 := Lib.hid (fun w => isWeight_any al w false (by simpa [Bnd] using h2))
    generalize zs.length = n at *
    clear hb h1 h2 ra lz
    go_enter Try.func43, Try.ntmps43
    go_wp2_with fail
    refine (C1.out _ H.out).mono ?_
    rintro e w' ⟨rfl, rfl⟩
    go_wp2_with fail
    refine (C2.out _).mono ?_
    rintro e w' ⟨rfl, rfl⟩
    go_wp2
    go_ret2
    exact ⟨rfl, rfl⟩
  · have C1 := Lib.hid (fun w h => isBalance_any (.slice a zs.length cap) zs w h (by omega) false (by simpa using h1))
    generalize zs.length = n at *
    clear hb h1 ra lz
    go_enter Try.func43, Try.ntmps43
    go_wp2_with fail
    refine (C1.out _ H.out).mono ?_
    rintro e w' ⟨rfl, rfl⟩
    go_wp2
    go_ret2
    exact ⟨rfl, rfl⟩

set_option maxRecDepth 100000 in
set_option maxHeartbeats 2000000 in
theorem sums_yes (v : Value) (zs : List Int) (al : Int) (w : World) (h : RdI w v zs) (hb : Bal zs) (ha : Bnd al) :
    Calls Try.prog 22 #[v, .int .i64 al] w fun e w' => ∃ u, e = .returned (.tuple #[u, .bool true]) ∧ OwnI w' w.heap.size u (sumsTo zs al zs.length) ∧ Below w.heap.size w w' := by
  obtain ⟨i0, hi, hz0, hz1, hz2⟩ := info_parts info_i64
  have C1 := Lib.hid (excesses_yes v zs al w h hb ha)
  obtain ⟨a, cap, rfl, ra⟩ := h
  obtain ⟨n, hn⟩ : ∃ n, n = zs.length := ⟨_, rfl⟩
  have ln : n ≤ 60 := by have := hb.1; omega
  obtain ⟨a0, a1⟩ := ha
  have HB := Lib.hid hb.2
  have HN := Lib.hid hn
  have LE : Hid ((exL zs al).length = n) := by show _ = _; rw [exL_len]; exact hn.symm
  have LN : Hid ((sumsTo zs al n).length = n) := sumsTo_len zs al n
  rw [← hn] at C1
  rw [← hn]
  clear ra hn hb
  go_enter Try.func22, Try.ntmps22
  go_wp2_with fail
  refine C1.out.mono ?_
  rintro e w1 ⟨u, rfl, o1, b1⟩
  obtain ⟨bu, offu, hform, -⟩ := o1.rd
  rw [LE.out] at hform
  subst hform
  have O1 := Lib.hid o1
  have B1 := Lib.hid b1
  have z1 := b1.size
  clear o1 b1 C1
  go_wp2_with (first | (at_make; refine wpList_make_full _ rfl _ _ _ rfl w1.heap.size 2 i0 (.int .i64 0) 1 Try.underlying25 hi hz0 hz1 .i64 .i64 _ _ n rfl rfl rfl rfl ?b2 ?b3 (Nat.le_refl _) ?_) | go_in)
  case b2 => rw [hz2]; omega
  case b3 => unfold maxLen; omega
  intro w2 hown hg
  rw [toList_madeCells_one] at hown
  have O2 : Hid (OwnI w2 w1.heap.size (.slice (some ⟨w1.heap.size, 0, none⟩) n n) (part (sumsTo zs al n) n 0)) := part_made hown
  have B2 : Hid (Below w1.heap.size w1 w2) := (Below.refl _ _).grown hg (Nat.le_refl _) (fun k h => by cases h)
  clear hown hg
  go_wp2
  go_loopw [9, 25] (fun s i wr => ∃ k : Nat, k ≤ n ∧ i = .int .i64 k ∧ s = .int .i64 (sumAt zs al k) ∧ Hid (OwnI wr w1.heap.size (.slice (some ⟨w1.heap.size, 0, none⟩) n n) (part (sumsTo zs al n) n k)) ∧ Hid (Below w1.heap.size w1 wr)) (fun _ i _ => n - (intOf i).toNat)
  case atStart => exact ⟨0, by omega, rfl, rfl, O2, B2⟩
  case round =>
    obtain ⟨k, hk, rfl, rfl, ho, hbl⟩ := hrel
    clear O2 B2
    by_cases hlt : k < n
    · obtain ⟨x, hx⟩ : ∃ x, zs[k]? = some x := ⟨_, List.getElem?_eq_getElem (by have := HN.out; omega)⟩
      obtain ⟨x0, x1⟩ := HB.out.at hx
      have rd : RdI w1 (.slice bu n offu) (exL zs al) := O1.out.rd
      obtain ⟨a', c', hv, h2⟩ := rd
      rw [LE.out] at hv
      simp only [Value.slice.injEq] at hv
      obtain ⟨rfl, -, rfl⟩ := hv
      obtain ⟨ba, oa, rfl, ca'⟩ := h2.resolve_left (by intro h; have := LE.out; rw [h] at this; simp at this; omega)
      have hbA : ba < w1.heap.size := World.block_lt_of_cell? w1 _ (ca' k _ (exL_get (al := al) hx))
      have c1 := (hbl.out.cell (p := ⟨ba, oa + k, none⟩) hbA).trans (ca' k _ (exL_get (al := al) hx))
      obtain ⟨c2, f1⟩ := part_cell LN.out hlt ho.out
      have s1 := Lib.hid (part_store LN.out (sumsTo_get zs al n k hlt) ho.out)
      have s2 : Hid (Below w1.heap.size w1 (wr.setCell ⟨w1.heap.size, k, none⟩ (.int .i64 (sumAt zs al (k + 1))))) := hbl.out.setCell (Nat.le_refl _) _
      have S := sumAt_succ (al := al) hx
      have s0 := sumAt_nonneg zs al k
      have sl := sumAt_le HB.out a0 k (by have := HN.out; omega)
      obtain ⟨s, hs⟩ : ∃ s, s = sumAt zs al k := ⟨_, rfl⟩
      obtain ⟨t, ht⟩ : ∃ t, t = sumAt zs al (k + 1) := ⟨_, rfl⟩
      rw [← hs] at S s0 sl ⊢
      rw [← ht] at S s1 s2
      have HT := Lib.hid ht
      clear hx ho ca' hbl hs ht h2
      by_cases g : s + x - al < 0
      · rw [if_pos g] at S
        subst S
        have q1 : IntKind.i64.wrap (s + (x - al)) = s + (x - al) := IntWalk.i64_in _ (by omega)
        have g' : s + (x - al) < 0 := by omega
        go_wp2
        exact ⟨⟨k + 1, by omega, by go_num, by rw [← HT.out], s1, s2⟩, by simp only [intOf]; omega⟩
      · rw [if_neg g] at S
        have q1 : IntKind.i64.wrap (s + (x - al)) = t := by rw [IntWalk.i64_in _ (by omega)]; omega
        have g' : ¬ (t < 0) := by omega
        have TT := Lib.hid S
        clear S
        go_wp2
        exact ⟨⟨k + 1, by omega, by go_num, by rw [← HT.out], s1, s2⟩, by simp only [intOf]; omega⟩
    · obtain rfl : k = n := by omega
      have HO : Hid (OwnI wr w.heap.size (.slice (some ⟨w1.heap.size, 0, none⟩) k k) (sumsTo zs al k)) := by have := ho.out.mono z1; rwa [part_all LN.out] at this
      clear ho
      go_wp2
      go_ret2
      exact ⟨_, rfl, HO.out, B1.out.trans (hbl.out.mono z1)⟩
end Go.Proofs.Ytobfephcmiolbaa
