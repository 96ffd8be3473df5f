/- Slices of slices of int64s: their sizes and copies. (Written by tools/mkssy.py.) -/
import Derived.Test.YthfmmlpbflfpaacSS2
import Derived.Test.YthfmmlpbflfpaacChg
namespace Go.Proofs.Ythfmmlpbflfpaac
open Go.ChangeShapes Go.WideShapes Go.ChangeAt Go.RowKit
set_option linter.unusedVariables false
set_option linter.unusedSimpArgs false

theorem sumT_t {xs ys : List Sl} (h : xs.map Sl.t = ys.map Sl.t) : sumT xs = sumT ys := by
  have e : ∀ xs : List Sl, sumT xs = ((xs.map Sl.t).map fun t => t.length).sum := by intro xs; unfold sumT; rw [List.map_map]; rfl
  rw [e, e, h]

theorem sumT_mem {xs : List Sl} {x : Sl} (h : x ∈ xs) : x.t.length ≤ sumT xs := by
  induction xs with
  | nil => simp at h
  | cons y ys ih =>
    have e : sumT (y :: ys) = y.t.length + sumT ys := by simp [sumT]
    rcases List.mem_cons.mp h with rfl | h
    · omega
    · have := ih h; omega

set_option maxRecDepth 100000 in
set_option maxHeartbeats 2000000 in
theorem szInt64SS_any (v : Value) (xs : List Sl) (left : Int) (hl : 0 ≤ left) (hl2 : left ≤ 1099511627776) (w : World) (h : RdSS w v xs) (hn : xs.length ≤ maxLen) (ht : ∀ x ∈ xs, x.t.length ≤ maxLen) (R : Int) (hR : R = if ((xs.length + sumT xs : Nat) : Int) ≤ left then left - (xs.length + sumT xs : Nat) else -1) :
    Calls Try.prog 11 #[v, .int .i64 left] w fun e w' => e = .returned (.int .i64 R) ∧ Below w.heap.size w w' := by
  obtain ⟨a, cap, rfl, -⟩ := id h.rows
  obtain ⟨n, en⟩ : ∃ n, n = xs.length := ⟨_, rfl⟩
  have H := Lib.hid h
  have HT := Lib.hid ht
  have EN := Lib.hid en
  rw [← en] at hn H hR
  rw [← en]
  have HR := Lib.hid hR
  unfold maxLen at hn
  clear h ht en hR
  by_cases h1 : (n : Int) ≤ left
  · have q1 : IntKind.i64.wrap (left - n) = left - n := IntWalk.i64_in _ (by omega)
    have q2 : ¬ left - (n : Int) < 0 := by omega
    have S0 : Hid (left - n - ((sumT (xs.take 0) : Nat) : Int) = left - n) := by show _ = _; simp [sumT]
    go_enter Try.func11, Try.ntmps11
    go_wp2
    go_loopw [1, 5] (fun lv i wr => ∃ (k : Nat) (l : Int), k ≤ n ∧ 0 ≤ l ∧ l ≤ left ∧ i = .int .i64 k ∧ lv = .int .i64 l ∧ Hid (l = left - n - (sumT (xs.take k) : Nat)) ∧ Hid (Below w.heap.size w wr)) (fun _ i _ => n - (intOf i).toNat)
    case atStart => exact ⟨0, left - n, by omega, by omega, by omega, rfl, rfl, S0.out.symm, Below.refl _ _⟩
    case round =>
      obtain ⟨k, l, hk, l0, l1, rfl, rfl, hs, B⟩ := hrel
      clear S0
      have sz := B.out.size
      by_cases hlt : k < n
      · obtain ⟨x, hx⟩ : ∃ x, xs[k]? = some x := ⟨_, List.getElem?_eq_getElem (by have := EN.out; omega)⟩
        obtain ⟨b, off, rfl, c1, -, -⟩ := (H.out.later B.out).at hx
        have tl := HT.out x (List.mem_of_getElem? hx)
        unfold maxLen at tl
        have ST := Lib.hid (sumT_take_succ hx)
        have SL := Lib.hid (sumT_take_le xs (k + 1))
        have C := Lib.hid (fun w => szInt64S_any x.a x.t.length x.c l l0 (by omega) (by omega) w)
        obtain ⟨m, hm⟩ : ∃ m, m = x.t.length := ⟨_, rfl⟩
        rw [← hm] at c1 C ST tl
        have HM := Lib.hid hm
        clear hx hm
        by_cases h2 : (m : Int) ≤ l
        · rw [if_pos h2] at C
          have q3 : ¬ l - (m : Int) < 0 := by omega
          go_wp2_with fail
          refine (C.out _).mono ?_
          rintro e w' ⟨rfl, rfl⟩
          have B2 := B
          have S2 : Hid (l - (m : Int) = left - n - (sumT (xs.take (k + 1)) : Nat)) := by show _ = _; have := hs.out; have := ST.out; omega
          clear hs ST SL B
          go_wp2
          exact ⟨⟨k + 1, l - m, by omega, by omega, by omega, by go_num, rfl, S2, B2⟩, by simp only [intOf]; omega⟩
        · rw [if_neg h2] at C
          go_wp2_with fail
          refine (C.out _).mono ?_
          rintro e w' ⟨rfl, rfl⟩
          have B2 := B
          have R' : ¬ ((n + sumT xs : Nat) : Int) ≤ left := by have := hs.out; have := ST.out; have := SL.out; omega
          have RH : Hid (R = -1) := by show _ = _; rw [HR.out, if_neg R']
          clear hs ST SL B R'
          go_wp2
          go_ret
          exact ⟨by rw [RH.out]; rfl, B2.out⟩
      · obtain rfl : k = n := by omega
        have e1 : sumT (xs.take k) = sumT xs := by rw [List.take_of_length_le (by have := EN.out; omega)]
        have R' : ((k + sumT xs : Nat) : Int) ≤ left := by have := hs.out; omega
        have LE : Hid (l = R) := by show _ = _; rw [HR.out, if_pos R']; have := hs.out; omega
        clear e1 hs R'
        go_wp2
        go_ret
        exact ⟨by rw [LE.out]; rfl, B.out⟩
  · have q1 : IntKind.i64.wrap (left - n) = left - n := IntWalk.i64_in _ (by omega)
    have q2 : left - (n : Int) < 0 := by omega
    have R' : ¬ ((n + sumT xs : Nat) : Int) ≤ left := by omega
    obtain rfl : R = -1 := by rw [HR.out, if_neg R']
    clear R'
    go_enter Try.func11, Try.ntmps11
    go_wp2
    go_ret
    exact ⟨rfl, Below.refl _ _⟩


theorem info_SlS : (Try.prog.info? 44).map (fun i => (i.zero, i.size, i.bytes)) = some (some (.slice none 0 0), 1, 24) := by kernel_rfl

theorem made_slS (n : Nat) : (madeCells #[.slice none 0 0] (n * 1)).toList = (List.replicate n zeroSl).flatMap encSl :=
  made_flat (enc := encSl) encSl_len (by omega) zeroSl #[.slice none 0 0] rfl n

theorem rep_slS (n : Nat) : List.replicate n (Value.slice none 0 0) = (List.replicate n zeroSl).flatMap encSl := by
  induction n with
  | zero => rfl
  | succ n ih => rw [List.replicate_succ, List.replicate_succ, List.flatMap_cons, ← ih]; rfl

set_option maxRecDepth 100000 in
set_option maxHeartbeats 4000000 in
theorem toInt64SS_any (v : Value) (xs : List Sl) (w : World) (h : RdSS w v xs) (lz : xs.length ≤ 1048576) (lt : ∀ x ∈ xs, x.t.length ≤ 1048576) :
    Calls Try.prog 15 #[v] w fun e w' => ∃ a c ys, e = .returned (.slice a xs.length c) ∧ ys.map Sl.t = xs.map Sl.t ∧ OwnSS w' w.heap.size w'.heap.size (.slice a xs.length c) ys ∧ Below w.heap.size w w' := by
  obtain ⟨i0, hi, hz0, hz1, hz2⟩ := info_parts info_SlS
  have H := Lib.hid h
  obtain ⟨a, cap, rfl, -⟩ := id h.rows
  obtain ⟨n, hn⟩ : ∃ n, n = xs.length := ⟨_, rfl⟩
  rw [← hn] at lz H
  rw [← hn]
  have HN := Lib.hid hn
  have LT := Lib.hid lt
  clear h hn lt
  go_enter Try.func15, Try.ntmps15
  go_wp2_with (first | (at_make; refine wpList_make_full _ rfl _ _ _ rfl w.heap.size 44 i0 (.slice none 0 0) 1 Try.underlying22 hi hz0 hz1 .i64 .i64 _ _ n rfl rfl rfl rfl ?b2 ?b3 (Nat.le_refl _) ?_) | go_in)
  case b2 => rw [hz2]; omega
  case b3 => unfold maxLen; omega
  intro w1 hown hg
  have O1 : Hid (OwnS 44 1 encSl w1 w.heap.size (.slice (some ⟨w.heap.size, 0, none⟩) n n) (([] : List Sl) ++ List.replicate (n - 0) zeroSl)) := by
    first | rw [made_slS] at hown | (rw [toList_madeCells_one, rep_slS] at hown)
    show OwnS _ _ _ _ _ _ _
    unfold OwnS
    rw [List.nil_append, Nat.sub_zero, List.length_replicate]
    exact hown
  have B1 : Hid (Below w.heap.size w w1) := (Below.refl _ _).grown hg (Nat.le_refl _) (fun k h => by cases h)
  have l1 : w.heap.size < w1.heap.size := (O1.out.lt w.heap.size rfl).2
  clear hown hg
  go_wp2
  go_loopw [4] (fun i wr => ∃ (k : Nat) (ys : List Sl), k ≤ n ∧ i = .int .i64 k ∧ Hid (ys.length = k) ∧ Hid (ys.map Sl.t = (xs.take k).map Sl.t) ∧ Hid (OwnS 44 1 encSl wr w.heap.size (.slice (some ⟨w.heap.size, 0, none⟩) n n) (ys ++ List.replicate (n - k) zeroSl)) ∧ Hid (∀ y ∈ ys, OwnI wr w.heap.size y.u y.t) ∧ Hid (∀ (i j : Nat) x y b, ys[i]? = some x → ys[j]? = some y → x.u.ownBlock = some b → y.u.ownBlock = some b → i = j) ∧ Hid (Below w.heap.size w wr)) (fun i _ => n - (intOf i).toNat)
  case atStart => exact ⟨0, [], by omega, rfl, rfl, rfl, O1, fun y hy => by simp at hy, fun i j x y b h => by simp at h, B1⟩
  case round =>
    obtain ⟨k, ys, hk, rfl, yl, ym, ho, yo, ya, hb⟩ := hrel
    clear O1 B1 l1
    by_cases hlt : k < n
    · obtain ⟨x, hx⟩ : ∃ x, xs[k]? = some x := ⟨_, List.getElem?_eq_getElem (by have := HN.out; omega)⟩
      obtain ⟨b, off, rfl, c1, rt, -⟩ := (H.out.later hb.out).at hx
      have tl := LT.out x (List.mem_of_getElem? hx)
      have C := Lib.hid (fun w h => toInts_any (.slice x.a x.t.length x.c) x.t w h (by omega))
      have RT := Lib.hid rt
      have sz := hb.out.size
      have YM : Hid ((ys ++ [(⟨none, 0, x.t⟩ : Sl)]).map Sl.t = (xs.take (k + 1)).map Sl.t) := by
        show _ = _
        rw [List.take_add_one, hx, List.map_append, ym.out, List.map_append]; rfl
      obtain ⟨m, hm⟩ : ∃ m, m = x.t.length := ⟨_, rfl⟩
      rw [← hm] at c1 C RT
      have HM := Lib.hid hm
      have lg := (ho.out.lt w.heap.size rfl).2
      clear hx rt hm tl
      go_wp2_with fail
      refine (C.out _ RT.out).mono ?_
      rintro e w2 ⟨v2, rfl, o2, b2⟩
      obtain ⟨a2, cc2, rfl⟩ := o2.fitS
      rw [← HM.out] at o2 ⊢
      have hl0 : n = (ys ++ List.replicate (n - k) zeroSl).length := by rw [List.length_append, List.length_replicate, yl.out]; omega
      have ho2 := ho.out.later b2
      have hz : (ys ++ List.replicate (n - k) zeroSl)[k]? = some zeroSl := by
        rw [List.getElem?_append_right (by rw [yl.out]; omega), yl.out, Nat.sub_self, List.getElem?_replicate, if_pos (by omega)]
      have d1 : w2.cell? ⟨w.heap.size, k, none⟩ = some (.slice none 0 0) := by
        have := ho2.cellAt encSl_len hl0 k zeroSl hz 0 _ rfl
        rwa [Nat.mul_one, Nat.add_zero] at this
      have z1 : w2.frozen? ⟨w.heap.size, k, none⟩ = false := ho2.frozenAt hl0 _
      have s1 := ho2.stored1 encSl_len hl0 k 0 zeroSl ⟨a2, cc2, x.t⟩ (.slice a2 m cc2) hz (by omega) (by rw [HM.out]; rfl)
      rw [Nat.mul_one, Nat.add_zero] at s1
      have hset : (ys ++ List.replicate (n - k) zeroSl).set k ⟨a2, cc2, x.t⟩ = (ys ++ [(⟨a2, cc2, x.t⟩ : Sl)]) ++ List.replicate (n - (k + 1)) zeroSl := by
        rw [List.set_append_right _ _ (by rw [yl.out]; omega), yl.out, Nat.sub_self, show n - k = (n - (k + 1)) + 1 by omega, List.replicate_succ, List.set_cons_zero]
        simp
      rw [hset] at s1
      obtain ⟨wE, hE⟩ : ∃ wE, wE = w2.setCell ⟨w.heap.size, k, none⟩ (.slice a2 m cc2) := ⟨_, rfl⟩
      have hE' : ∀ j, j ≠ w.heap.size → wE.heap[j]? = w2.heap[j]? := fun j hj => by rw [hE, Below.heap_setCell _ _ _ _ hj]
      have BE : Hid (Below w.heap.size w wE) := by
        have e := (hb.out.trans (b2.mono sz)).setCell (p := ⟨w.heap.size, k, none⟩) (Nat.le_refl _) (.slice a2 m cc2)
        rw [← hE] at e; exact e
      have SE : Hid (OwnS 44 1 encSl wE w.heap.size (.slice (some ⟨w.heap.size, 0, none⟩) n n) ((ys ++ [(⟨a2, cc2, x.t⟩ : Sl)]) ++ List.replicate (n - (k + 1)) zeroSl)) := by rw [hE]; exact s1
      have tyg : ∀ (v : Value) (ts : List Int) (B : Nat), OwnI w2 B v ts → ∀ b, v.ownBlock = some b → b ≠ w.heap.size := by
        intro v ts B ho' b hb' e
        subst e
        obtain ⟨-, h2 | ⟨g, cap, cur, rfl, h3, h4, h5⟩⟩ := ho'
        · rw [h2.1] at hb'; simp [Value.ownBlock] at hb'
        · simp only [Value.ownBlock, Option.some.injEq] at hb'
          obtain ⟨-, h2 | ⟨g', cap', cur', hv, h3', h4', h5'⟩⟩ := ho2
          · simp at h2
          · simp only [Value.slice.injEq, Option.some.injEq, Addr.mk.injEq, and_true, true_and] at hv
            obtain ⟨rfl, -⟩ := hv
            rw [hb', h4'] at h4
            simp at h4
      have YO : Hid (∀ y ∈ ys ++ [(⟨a2, cc2, x.t⟩ : Sl)], OwnI wE w.heap.size y.u y.t) := by
        intro y hy
        rcases List.mem_append.mp hy with hy | hy
        · have o := (yo.out y hy).below b2 fun b hb' => ((yo.out y hy).lt b hb').2
          exact o.of_block fun b hb' => hE' b (tyg _ _ _ o b hb')
        · have hy' : y = ⟨a2, cc2, x.t⟩ := by simpa using hy
          subst hy'
          have o : OwnI w2 wr.heap.size (.slice a2 x.t.length cc2) x.t := by rw [← HM.out]; exact o2
          exact (o.of_block fun b hb' => hE' b (tyg _ _ _ o b hb')).mono sz
      have YA : Hid (∀ (i j : Nat) x' y' b', (ys ++ [(⟨a2, cc2, x.t⟩ : Sl)])[i]? = some x' → (ys ++ [(⟨a2, cc2, x.t⟩ : Sl)])[j]? = some y' → x'.u.ownBlock = some b' → y'.u.ownBlock = some b' → i = j) := by
        have old : ∀ (i : Nat) x' b', (ys ++ [(⟨a2, cc2, x.t⟩ : Sl)])[i]? = some x' → x'.u.ownBlock = some b' → (i < k ∧ ys[i]? = some x' ∧ b' < wr.heap.size) ∨ (i = k ∧ wr.heap.size ≤ b') := by
          intro i x' b' hx' hb'
          by_cases hi' : i < k
          · rw [List.getElem?_append_left (by rw [yl.out]; exact hi')] at hx'
            exact .inl ⟨hi', hx', ((yo.out x' (List.mem_of_getElem? hx')).lt b' hb').2⟩
          · have hi2 : i < k + 1 := by have := (List.getElem?_eq_some_iff.1 hx').1; simp [yl.out] at this; omega
            obtain rfl : i = k := by omega
            rw [List.getElem?_append_right (by rw [yl.out]; omega), yl.out, Nat.sub_self] at hx'
            have hx2 : (⟨a2, cc2, x.t⟩ : Sl) = x' := by simpa using hx'
            subst hx2
            have o : OwnI w2 wr.heap.size (.slice a2 x.t.length cc2) x.t := by rw [← HM.out]; exact o2
            exact .inr ⟨rfl, (o.lt b' hb').1⟩
        intro i j x' y' b' h1 h2 h3 h4
        rcases old i x' b' h1 h3 with ⟨g1, g2, g3⟩ | ⟨g1, g2⟩
        · rcases old j y' b' h2 h4 with ⟨j1, j2, j3⟩ | ⟨j1, j2⟩
          · exact ya.out i j x' y' b' g2 j2 h3 h4
          · omega
        · rcases old j y' b' h2 h4 with ⟨j1, j2, j3⟩ | ⟨j1, j2⟩
          · omega
          · omega
      have YL : Hid ((ys ++ [(⟨a2, cc2, x.t⟩ : Sl)]).length = k + 1) := by show _ = _; rw [List.length_append, yl.out]; rfl
      have YM2 : Hid ((ys ++ [(⟨a2, cc2, x.t⟩ : Sl)]).map Sl.t = (xs.take (k + 1)).map Sl.t) := by
        have := YM.out
        rw [List.map_append] at this ⊢
        exact this
      have HE := Lib.hid hE
      clear hE hE' s1 hset ho2 hl0 hz tyg o2 b2 yl ym ho yo ya hb YM c1
      go_wp2
      rw [← HE.out]
      exact ⟨⟨k + 1, _, by omega, by go_num, YL, YM2, SE, YO, YA, BE⟩, by simp only [intOf]; omega⟩
    · obtain rfl : k = n := by omega
      have ho' : OwnS 44 1 encSl wr w.heap.size (.slice (some ⟨w.heap.size, 0, none⟩) k k) ys := by
        have := ho.out
        rwa [Nat.sub_self, List.replicate_zero, List.append_nil] at this
      have ym' : ys.map Sl.t = xs.map Sl.t := by
        have := ym.out
        rwa [List.take_of_length_le (by have := HN.out; omega)] at this
      have HO := Lib.hid ho'
      have YM := Lib.hid ym'
      clear ho ho' ym ym'
      go_wp2
      go_ret
      exact ⟨_, _, ys, rfl, YM.out, ⟨HO.out, fun b h => (HO.out.lt b h).2, yo.out, fun x hx b h => ((yo.out x hx).lt b h).2, ya.out, Nat.le_refl _⟩, hb.out⟩

end Go.Proofs.Ythfmmlpbflfpaac
