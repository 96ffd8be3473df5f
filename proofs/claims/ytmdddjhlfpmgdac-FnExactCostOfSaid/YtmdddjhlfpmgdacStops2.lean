/- Stops that are made, compared, marked and held. -/
import Derived.Test.YtmdddjhlfpmgdacStops
namespace Go.Proofs.Ytmdddjhlfpmgdac
open Go.ChangeShapes Go.WideShapes Go.ChangeAt Go.RowKit
set_option linter.unusedVariables false
set_option linter.unusedSimpArgs false

set_option maxRecDepth 100000 in
set_option maxHeartbeats 2000000 in
theorem toStop_any (r : Int) (v : Value) (zs : List Int) (w : World) (h : RdI w v zs) (lz : zs.length ≤ 1099511627776) :
    Calls Try.prog 40 #[.agg #[.int .i64 r, v]] w fun e w' => ∃ a c, e = .returned (.agg #[.int .i64 r, .slice a zs.length c]) ∧ OwnI w' w.heap.size (.slice a zs.length c) zs ∧ Below w.heap.size w w' := by
  have H := Lib.hid h
  obtain ⟨a, cap, rfl, _⟩ := h
  obtain ⟨n, hn⟩ : ∃ n, n = zs.length := ⟨_, rfl⟩
  have HN := Lib.hid hn
  rw [← hn] at H
  rw [← hn]
  clear hn
  go_enter Try.func40, Try.ntmps40
  go_wp2_with fail
  refine (toInts_any _ zs _ (H.out.later (by go_grown)) lz).mono ?_
  rintro e w2 ⟨v', rfl, o2, b2⟩
  obtain ⟨a2, c2, rfl⟩ := o2.fit
  rw [← HN.out] at o2 ⊢
  have e0 := b2.cell (p := ⟨w.heap.size + 1 + 1, 0, none⟩) (by simp)
  have e1 := b2.cell (p := ⟨w.heap.size + 1 + 1, 1, none⟩) (by simp)
  have g0 := b2.cell (p := ⟨w.heap.size + 1, 0, none⟩) (by simp)
  have g1 := b2.cell (p := ⟨w.heap.size + 1, 1, none⟩) (by simp)
  have f1 := b2.frozen (p := ⟨w.heap.size + 1 + 1, 1, none⟩) (by simp)
  have k0 := b2.frozen (p := ⟨w.heap.size + 1, 0, none⟩) (by simp)
  have k1 := b2.frozen (p := ⟨w.heap.size + 1, 1, none⟩) (by simp)
  simp [go_sem] at e0 e1 f1 g0 g1 k0 k1
  have hs := b2.size
  simp at hs
  simp only [World.size_alloc] at o2
  have O2 := Lib.hid o2
  have B2 : Hid (Below w.heap.size w w2) := Below.trans (by go_grown) (b2.mono (by simp; omega))
  clear b2 o2
  go_wp2
  refine bodyPost_ret (v := .agg #[.int .i64 r, .slice a2 n c2]) (by simp [results, Try.results40, go_sem, g0, g1]; try rfl) rfl ?_
  refine ⟨a2, c2, rfl, ?_, ?_⟩
  · refine (O2.out.of_block fun k hk => ?_).mono (by omega)
    have := (O2.out.lt k hk).1
    rw [Below.heap_setCell _ _ _ _ (by simp; omega), Below.heap_setCell _ _ _ _ (by simp; omega), Below.heap_setCell _ _ _ _ (by simp; omega)]
  · have := B2.out
    go_grown

theorem info_Su : (Try.prog.info? 80).map (fun i => (i.zero, i.size, i.bytes)) = some (some (.agg #[.int .i64 0, .slice none 0 0]), 2, 32) := by kernel_rfl

set_option maxRecDepth 100000 in
set_option maxHeartbeats 4000000 in
theorem toStopS_any (v : Value) (xs : List Su) (w : World) (h : RdSt w v xs) (lz : xs.length ≤ 1048576) (lt : ∀ x ∈ xs, x.t.length ≤ 1048576) :
    Calls Try.prog 11 #[v] w fun e w' => ∃ a c ys, e = .returned (.slice a xs.length c) ∧ ys.map Su.so = xs.map Su.so ∧ OwnSt w' w.heap.size w'.heap.size (.slice a xs.length c) ys ∧ Below w.heap.size w w' := by
  obtain ⟨i0, hi, hz0, hz1, hz2⟩ := info_parts info_Su
  have H := Lib.hid h
  obtain ⟨a, cap, rfl, -⟩ := id h.rows
  obtain ⟨n, hn⟩ : ∃ n, n = xs.length := ⟨_, rfl⟩
  rw [← hn] at lz H
  rw [← hn]
  have HN := Lib.hid hn
  have LT := Lib.hid lt
  clear h hn lt
  go_enter Try.func11, Try.ntmps11
  go_wp2_with (first | (at_make; refine wpList_make_full _ rfl _ _ _ rfl w.heap.size 80 i0 (.agg #[.int .i64 0, .slice none 0 0]) 2 Try.underlying35 hi hz0 hz1 .i64 .i64 _ _ n rfl rfl rfl rfl ?b2 ?b3 (Nat.le_refl _) ?_) | go_in)
  case b2 => rw [hz2]; omega
  case b3 => unfold maxLen; omega
  intro w1 hown hg
  have O1 : Hid (OwnS 80 2 encSu w1 w.heap.size (.slice (some ⟨w.heap.size, 0, none⟩) n n) (([] : List Su) ++ List.replicate (n - 0) zeroSu)) := by
    rw [made_flat (enc := encSu) encSu_len (by omega) zeroSu #[.int .i64 0, .slice none 0 0] rfl] at hown
    show OwnS _ _ _ _ _ _ _
    unfold OwnS
    rw [List.nil_append, Nat.sub_zero, List.length_replicate]
    exact hown
  have B1 : Hid (Below w.heap.size w w1) := (Below.refl _ _).grown hg (Nat.le_refl _) (fun k h => by cases h)
  have l1 : w.heap.size < w1.heap.size := (O1.out.lt w.heap.size rfl).2
  clear hown hg
  go_wp2
  go_loopw [4] (fun i wr => ∃ (k : Nat) (ys : List Su), k ≤ n ∧ i = .int .i64 k ∧ Hid (ys.length = k) ∧ Hid (ys.map Su.so = (xs.take k).map Su.so) ∧ Hid (OwnS 80 2 encSu wr w.heap.size (.slice (some ⟨w.heap.size, 0, none⟩) n n) (ys ++ List.replicate (n - k) zeroSu)) ∧ Hid (∀ y ∈ ys, OwnI wr w.heap.size y.u y.t) ∧ Hid (∀ (i j : Nat) x y b, ys[i]? = some x → ys[j]? = some y → x.u.ownBlock = some b → y.u.ownBlock = some b → i = j) ∧ Hid (Below w.heap.size w wr)) (fun i _ => n - (intOf i).toNat)
  case atStart => exact ⟨0, [], by omega, rfl, rfl, rfl, O1, fun y hy => by simp at hy, fun i j x y b h => by simp at h, B1⟩
  case round =>
    obtain ⟨k, ys, hk, rfl, yl, ym, ho, yo, ya, hb⟩ := hrel
    clear O1 B1 l1
    by_cases hlt : k < n
    · obtain ⟨x, hx⟩ : ∃ x, xs[k]? = some x := ⟨_, List.getElem?_eq_getElem (by have := HN.out; omega)⟩
      obtain ⟨b, off, rfl, c0, c1, rt, -⟩ := (H.out.later hb.out).at hx
      have tl := LT.out x (List.mem_of_getElem? hx)
      have C := Lib.hid (fun w h => toStop_any x.r (.slice x.a x.t.length x.c) x.t w h (by omega))
      have RT := Lib.hid rt
      have sz := hb.out.size
      have YM : Hid ((ys ++ [(⟨x.r, none, 0, x.t⟩ : Su)]).map Su.so = (xs.take (k + 1)).map Su.so) := by
        show _ = _
        rw [List.take_add_one, hx, List.map_append, ym.out, List.map_append]; rfl
      obtain ⟨m, hm⟩ : ∃ m, m = x.t.length := ⟨_, rfl⟩
      rw [← hm] at c1 C RT
      have HM := Lib.hid hm
      have lg := (ho.out.lt w.heap.size rfl).2
      clear hx rt hm tl
      go_wp2_with fail
      refine (C.out _ RT.out).mono ?_
      rintro e w2 ⟨a2, cc2, rfl, o2, b2⟩
      have hl0 : n = (ys ++ List.replicate (n - k) zeroSu).length := by rw [List.length_append, List.length_replicate, yl.out]; omega
      have ho2 := ho.out.later b2
      have hz : (ys ++ List.replicate (n - k) zeroSu)[k]? = some zeroSu := by
        rw [List.getElem?_append_right (by rw [yl.out]; omega), yl.out, Nat.sub_self, List.getElem?_replicate, if_pos (by omega)]
      have d0 : w2.cell? ⟨w.heap.size, k * 2, none⟩ = some (.int .i64 0) := ho2.cellAt encSu_len hl0 k zeroSu hz 0 _ rfl
      have d1 : w2.cell? ⟨w.heap.size, k * 2 + 1, none⟩ = some (.slice none 0 0) := ho2.cellAt encSu_len hl0 k zeroSu hz 1 _ rfl
      have z0 : w2.frozen? ⟨w.heap.size, k * 2, none⟩ = false := ho2.frozenAt hl0 _
      have z1 : w2.frozen? ⟨w.heap.size, k * 2 + 1, none⟩ = false := ho2.frozenAt hl0 _
      have s0 := ho2.stored1 encSu_len hl0 k 0 zeroSu ⟨x.r, none, 0, []⟩ (.int .i64 x.r) hz (by omega) rfl
      have s1 := s0.stored1 encSu_len (by rw [List.length_set]; exact hl0) k 1 ⟨x.r, none, 0, []⟩ ⟨x.r, a2, cc2, x.t⟩ (.slice a2 m cc2) (by rw [List.getElem?_set_self (by rw [← hl0]; omega)]) (by omega) (by rw [HM.out]; rfl)
      have hset : (ys ++ List.replicate (n - k) zeroSu).set k ⟨x.r, a2, cc2, x.t⟩ = (ys ++ [(⟨x.r, a2, cc2, x.t⟩ : Su)]) ++ List.replicate (n - (k + 1)) zeroSu := by
        rw [List.set_append_right _ _ (by rw [yl.out]; omega), yl.out, Nat.sub_self, show n - k = (n - (k + 1)) + 1 by omega, List.replicate_succ, List.set_cons_zero]
        simp
      rw [List.set_set, hset] at s1
      obtain ⟨wE, hE⟩ : ∃ wE, wE = (w2.setCell ⟨w.heap.size, k * 2, none⟩ (.int .i64 x.r)).setCell ⟨w.heap.size, k * 2 + 1, none⟩ (.slice a2 m cc2) := ⟨_, rfl⟩
      have hE' : ∀ j, j ≠ w.heap.size → wE.heap[j]? = w2.heap[j]? := fun j hj => by rw [hE, Below.heap_setCell _ _ _ _ hj, Below.heap_setCell _ _ _ _ hj]
      have BE : Hid (Below w.heap.size w wE) := by
        have e := ((hb.out.trans (b2.mono sz)).setCell (p := ⟨w.heap.size, k * 2, none⟩) (Nat.le_refl _) (.int .i64 x.r)).setCell (p := ⟨w.heap.size, k * 2 + 1, none⟩) (Nat.le_refl _) (.slice a2 m cc2)
        rw [← hE] at e; exact e
      have SE : Hid (OwnS 80 2 encSu wE w.heap.size (.slice (some ⟨w.heap.size, 0, none⟩) n n) ((ys ++ [(⟨x.r, a2, cc2, x.t⟩ : Su)]) ++ List.replicate (n - (k + 1)) zeroSu)) := by rw [hE]; exact s1
      have tyg : ∀ (v : Value) (ts : List Int) (B : Nat), OwnI w2 B v ts → ∀ b, v.ownBlock = some b → b ≠ w.heap.size := by
        intro v ts B ho' b hb' e
        subst e
        obtain ⟨-, h2 | ⟨g, cap, cur, rfl, h3, h4, h5⟩⟩ := ho'
        · rw [h2.1] at hb'; simp [Value.ownBlock] at hb'
        · simp only [Value.ownBlock, Option.some.injEq] at hb'
          obtain ⟨-, h2 | ⟨g', cap', cur', hv, h3', h4', h5'⟩⟩ := ho2
          · simp at h2
          · simp only [Value.slice.injEq, Option.some.injEq, Addr.mk.injEq, and_true, true_and] at hv
            obtain ⟨rfl, -⟩ := hv
            rw [hb', h4'] at h4
            simp at h4
      have YO : Hid (∀ y ∈ ys ++ [(⟨x.r, a2, cc2, x.t⟩ : Su)], OwnI wE w.heap.size y.u y.t) := by
        intro y hy
        rcases List.mem_append.mp hy with hy | hy
        · have o := (yo.out y hy).below b2 fun b hb' => ((yo.out y hy).lt b hb').2
          exact o.of_block fun b hb' => hE' b (tyg _ _ _ o b hb')
        · have hy' : y = ⟨x.r, a2, cc2, x.t⟩ := by simpa using hy
          subst hy'
          have o : OwnI w2 wr.heap.size (.slice a2 x.t.length cc2) x.t := by rw [← HM.out]; exact o2
          exact (o.of_block fun b hb' => hE' b (tyg _ _ _ o b hb')).mono sz
      have YA : Hid (∀ (i j : Nat) x' y' b', (ys ++ [(⟨x.r, a2, cc2, x.t⟩ : Su)])[i]? = some x' → (ys ++ [(⟨x.r, a2, cc2, x.t⟩ : Su)])[j]? = some y' → x'.u.ownBlock = some b' → y'.u.ownBlock = some b' → i = j) := by
        have old : ∀ (i : Nat) x' b', (ys ++ [(⟨x.r, a2, cc2, x.t⟩ : Su)])[i]? = some x' → x'.u.ownBlock = some b' → (i < k ∧ ys[i]? = some x' ∧ b' < wr.heap.size) ∨ (i = k ∧ wr.heap.size ≤ b') := by
          intro i x' b' hx' hb'
          by_cases hi' : i < k
          · rw [List.getElem?_append_left (by rw [yl.out]; exact hi')] at hx'
            exact .inl ⟨hi', hx', ((yo.out x' (List.mem_of_getElem? hx')).lt b' hb').2⟩
          · have hi2 : i < k + 1 := by have := (List.getElem?_eq_some_iff.1 hx').1; simp [yl.out] at this; omega
            obtain rfl : i = k := by omega
            rw [List.getElem?_append_right (by rw [yl.out]; omega), yl.out, Nat.sub_self] at hx'
            have hx2 : (⟨x.r, a2, cc2, x.t⟩ : Su) = x' := by simpa using hx'
            subst hx2
            have o : OwnI w2 wr.heap.size (.slice a2 x.t.length cc2) x.t := by rw [← HM.out]; exact o2
            exact .inr ⟨rfl, (o.lt b' hb').1⟩
        intro i j x' y' b' h1 h2 h3 h4
        rcases old i x' b' h1 h3 with ⟨g1, g2, g3⟩ | ⟨g1, g2⟩
        · rcases old j y' b' h2 h4 with ⟨j1, j2, j3⟩ | ⟨j1, j2⟩
          · exact ya.out i j x' y' b' g2 j2 h3 h4
          · omega
        · rcases old j y' b' h2 h4 with ⟨j1, j2, j3⟩ | ⟨j1, j2⟩
          · omega
          · omega
      have YL : Hid ((ys ++ [(⟨x.r, a2, cc2, x.t⟩ : Su)]).length = k + 1) := by show _ = _; rw [List.length_append, yl.out]; rfl
      have YM2 : Hid ((ys ++ [(⟨x.r, a2, cc2, x.t⟩ : Su)]).map Su.so = (xs.take (k + 1)).map Su.so) := by
        have := YM.out
        rw [List.map_append] at this ⊢
        exact this
      have HE := Lib.hid hE
      clear hE hE' s0 s1 hset ho2 hl0 hz tyg o2 b2 yl ym ho yo ya hb YM c0 c1
      go_wp2
      rw [← HE.out]
      exact ⟨⟨k + 1, _, by omega, by go_num, YL, YM2, SE, YO, YA, BE⟩, by simp only [intOf]; omega⟩
    · obtain rfl : k = n := by omega
      have ho' : OwnS 80 2 encSu wr w.heap.size (.slice (some ⟨w.heap.size, 0, none⟩) k k) ys := by
        have := ho.out
        rwa [Nat.sub_self, List.replicate_zero, List.append_nil] at this
      have ym' : ys.map Su.so = xs.map Su.so := by
        have := ym.out
        rwa [List.take_of_length_le (by have := HN.out; omega)] at this
      have HO := Lib.hid ho'
      have YM := Lib.hid ym'
      clear ho ho' ym ym'
      go_wp2
      go_ret
      exact ⟨_, _, ys, rfl, YM.out, ⟨HO.out, fun b h => (HO.out.lt b h).2, yo.out, fun x hx b h => ((yo.out x hx).lt b h).2, ya.out, Nat.le_refl _⟩, hb.out⟩
end Go.Proofs.Ytmdddjhlfpmgdac
