/- Curves that are merged: the program's walk. -/
import Derived.Test.YthhnnkgfnhggbaaMerge
namespace Go.Proofs.Ythhnnkgfnhggbaa
open Go.ChangeShapes Go.WideShapes Go.ChangeAt Go.RowKit
set_option linter.unusedVariables false
set_option linter.unusedSimpArgs false

set_option maxHeartbeats 1000000 in
theorem isLike_any (c d : Cv) (w : World) :
    Calls Try.prog 86 #[(.agg #[.int .i64 c.r, .int .i64 c.b, .int .i64 c.s]), (.agg #[.int .i64 d.r, .int .i64 d.b, .int .i64 d.s])] w fun e w' => e = .returned (.bool (decide (Like c d))) ∧ Below w.heap.size w w' := by
  have e0 : decide (Like c d) = ((c.b == d.b) && (c.s == d.s)) := by
    by_cases h : Like c d
    · rw [decide_eq_true h, (like_iff c d).mpr h]
    · rw [decide_eq_false h]
      cases hb : ((c.b == d.b) && (c.s == d.s)) with
      | false => rfl
      | true => exact absurd ((like_iff c d).mp hb) h
  rw [e0]
  clear e0
  cases v1 : (c.b == d.b) <;> cases v2 : (c.s == d.s) <;> (go_enter Try.func86, Try.ntmps86; go_wp2; go_ret; exact ⟨rfl, by go_grown⟩)

set_option maxRecDepth 100000 in
set_option maxHeartbeats 4000000 in
theorem merged_any (v : Value) (cs : List Cv) (w : World) (h : RdS 3 encCv w v cs) (hl : cs.length ≤ 1000) (hp : ∀ c ∈ cs, 1 ≤ c.r) (hs : sumR cs ≤ 60) :
    Calls Try.prog 48 #[v] w fun e w' => ∃ v', e = .returned v' ∧ OwnS 46 3 encCv w' w.heap.size v' (mergeL cs) ∧ Below w.heap.size w w' := by
  obtain ⟨i0, hi, hz0, hz1, hz2⟩ := info_parts info_CvM
  have HC := Lib.hid h
  have HP := Lib.hid hp
  have HS := Lib.hid hs
  obtain ⟨a, cap, rfl, _⟩ := h
  obtain ⟨N, hN⟩ : ∃ N, N = cs.length := ⟨_, rfl⟩
  rw [← hN] at HC hl
  rw [← hN]
  have HN := Lib.hid hN
  clear hN hp hs
  go_enter Try.func48, Try.ntmps48
  go_wp2
  have O0 : Hid (OwnS 46 3 encCv w w.heap.size (.slice none 0 0) (mergeL (cs.take 0))) := OwnS.nil _ _
  have B0 : Hid (Below w.heap.size w w) := Below.refl _ _
  go_loopw [3, 9] (fun ov iv wr => ∃ (k m c1 : Nat) (ad : Option Addr), k ≤ N ∧ iv = .int .i64 k ∧ ov = .slice ad m c1 ∧ Hid (m = (mergeL (cs.take k)).length) ∧ m ≤ k ∧ Hid (OwnS 46 3 encCv wr w.heap.size (.slice ad m c1) (mergeL (cs.take k))) ∧ Hid (Below w.heap.size w wr)) (fun _ iv _ => N - (intOf iv).toNat)
  case atStart => exact ⟨0, 0, 0, none, by omega, rfl, rfl, rfl, by omega, O0, B0⟩
  case round =>
    obtain ⟨k, m, c1, ad, hk, rfl, rfl, hm, hmk, ho, B⟩ := hrel
    clear O0 B0
    have hsz := B.out.size
    by_cases hlt : k < N
    · obtain ⟨c, hx⟩ : ∃ x, cs[k]? = some x := ⟨_, List.getElem?_eq_getElem (by have := HN.out; omega)⟩
      obtain ⟨ba, oa, rfl, e0, e1, e2⟩ := (HC.out.later B.out).at3 k c hx
      have hc := HP.out c (List.mem_of_getElem? hx)
      have HC4 := Lib.hid (sumR_mem' cs HP.out c (List.mem_of_getElem? hx))
      have hms := mergeL_succ cs k c hx
      have own : Hid (wr.ownsRow w.heap.size 46 3 (.slice ad m c1) m ((mergeL (cs.take k)).flatMap encCv)) := by
        have e := ho.out
        unfold OwnS at e
        rw [← hm.out] at e
        exact e
      have news : ∀ w5 gg cap1, w5.ownsRow w.heap.size 46 3 (.slice (some ⟨gg, 0, none⟩) (m + 1) cap1) (m + 1) ((mergeL (cs.take k)).flatMap encCv ++ encCv c) → mergeOne (mergeL (cs.take k)) c = mergeL (cs.take k) ++ [c] → OwnS 46 3 encCv w5 w.heap.size (.slice (some ⟨gg, 0, none⟩) (m + 1) cap1) (mergeL (cs.take (k + 1))) ∧ m + 1 = (mergeL (cs.take (k + 1))).length := by
        intro w5 gg cap1 e e2
        rw [hms, e2]
        have l : m + 1 = (mergeL (cs.take k) ++ [c]).length := by rw [List.length_append, ← hm.out]; rfl
        refine ⟨?_, l⟩
        unfold OwnS
        rw [← l, List.flatMap_append]
        simpa using e
      have NEWS := Lib.hid news
      have lg := own.out.lt
      have la := block_lt_of_cell e0
      clear hx news
      by_cases m0 : m = 0
      · have q1 : IntKind.i64.wrap ((m : Int) - 1) = -1 := by rw [m0]; rfl
        have E2 : Hid (mergeOne (mergeL (cs.take k)) c = mergeL (cs.take k) ++ [c]) := by
          show _ = _
          rw [List.length_eq_zero_iff.1 (by rw [← hm.out]; exact m0 : (mergeL (cs.take k)).length = 0)]
          rfl
        have k0 : decide ((0 : Int) ≤ -1) = false := by decide
        clear m0 hms
        go_wp2
        have N2 : Hid ((wr.alloc (.cells #[.int .i64 c.r, .int .i64 c.b, .int .i64 c.s] 46)).heap[wr.heap.size]? = some (.cells #[.int .i64 c.r, .int .i64 c.b, .int .i64 c.s] 46 (0, 0))) := heap_alloc_new wr _
        have B2 : Hid (Below w.heap.size w (wr.alloc (.cells #[.int .i64 c.r, .int .i64 c.b, .int .i64 c.s] 46))) := B.out.alloc hsz _
        have OW2 : Hid (OwnS 46 3 encCv (wr.alloc (.cells #[.int .i64 c.r, .int .i64 c.b, .int .i64 c.s] 46)) w.heap.size (.slice ad m c1) (mergeL (cs.take k))) := ho.out.alloc _
        have l2 : wr.heap.size < (wr.alloc (.cells #[.int .i64 c.r, .int .i64 c.b, .int .i64 c.s] 46)).heap.size := by simp
        obtain ⟨gb, hgb⟩ : ∃ x, x = wr.heap.size := ⟨_, rfl⟩
        have ngb : ∀ b, (Value.slice ad m c1).ownBlock = some b → b < gb := fun b e => by rw [hgb]; exact (lg b e).2
        have wgb : w.heap.size ≤ gb := by rw [hgb]; exact hsz
        have NGB := Lib.hid ngb
        obtain ⟨w2, hw2⟩ : ∃ x, x = wr.alloc (.cells #[.int .i64 c.r, .int .i64 c.b, .int .i64 c.s] 46) := ⟨_, rfl⟩
        rw [← hw2, ← hgb] at N2
        rw [← hw2] at B2 OW2
        rw [← hw2, ← hgb] at l2
        rw [← hw2, ← hgb]
        clear hw2 hgb ho own lg la B hsz e0 e1 e2 ngb
        obtain ⟨⟨x0, x1, x2⟩, -⟩ := boxCv_at N2.out
        refine wp_region_held_drew (S := fun w' => True) (by kernel_rfl) (trivial) (fun hHeld => ?_)
        refine wpAnyH_take (i := 0) (v := ?_) (by (simp only [List.getElem?_toArray, List.getElem?_cons_succ, List.getElem?_cons_zero]); (try exact rfl)) (by kernel_rfl) (by kernel_rfl) (by kernel_rfl) (by intro _ _ _ h; exact h) (Or.inl ⟨by rfl, ?_⟩) (by assumption) ?_
        rotate_left
        · intro w hSw
          try dsimp only at hSw
          go_simp
          try with_reducible rfl
        try simp only [Act.put, List.setIfInBounds_toArray, List.set_cons_zero, List.set_cons_succ]
        refine wpAnyH_take (i := 1) (v := ?_) (by (simp only [List.getElem?_toArray, List.getElem?_cons_succ, List.getElem?_cons_zero]); (try exact rfl)) (by kernel_rfl) (by kernel_rfl) (by kernel_rfl) (by intro _ _ _ h; exact h) (Or.inl ⟨by rfl, ?_⟩) (by assumption) ?_
        rotate_left
        · intro w hSw
          try dsimp only at hSw
          go_simp
          try with_reducible rfl
        try simp only [Act.put, List.setIfInBounds_toArray, List.set_cons_zero, List.set_cons_succ]
        refine wpAnyH_take (i := 2) (v := ?_) (by (simp only [List.getElem?_toArray, List.getElem?_cons_succ, List.getElem?_cons_zero]); (try exact rfl)) (by kernel_rfl) (by kernel_rfl) (by kernel_rfl) (by intro _ _ _ h; exact h) (Or.inl ⟨by rfl, ?_⟩) (by assumption) ?_
        rotate_left
        · intro w hSw
          try dsimp only at hSw
          go_simp
          try with_reducible rfl
        try simp only [Act.put, List.setIfInBounds_toArray, List.set_cons_zero, List.set_cons_succ]
        refine wpAnyH_take (i := 3) (v := undef) (by (simp only [List.getElem?_toArray, List.getElem?_cons_succ, List.getElem?_cons_zero]); (try exact rfl)) (by kernel_rfl) (by kernel_rfl) (by kernel_rfl) (by intro _ _ _ h; exact h) (Or.inr ⟨by rfl, rfl⟩) (by assumption) ?_
        try simp only [Act.put, List.setIfInBounds_toArray, List.set_cons_zero, List.set_cons_succ]
        refine wpAnyH_take (i := 4) (v := undef) (by (simp only [List.getElem?_toArray, List.getElem?_cons_succ, List.getElem?_cons_zero]); (try exact rfl)) (by kernel_rfl) (by kernel_rfl) (by kernel_rfl) (by intro _ _ _ h; exact h) (Or.inr ⟨by rfl, rfl⟩) (by assumption) ?_
        try simp only [Act.put, List.setIfInBounds_toArray, List.set_cons_zero, List.set_cons_succ]
        refine wpAnyH_take (i := 5) (v := undef) (by (simp only [List.getElem?_toArray, List.getElem?_cons_succ, List.getElem?_cons_zero]); (try exact rfl)) (by kernel_rfl) (by kernel_rfl) (by kernel_rfl) (by intro _ _ _ h; exact h) (Or.inr ⟨by rfl, rfl⟩) (by assumption) ?_
        try simp only [Act.put, List.setIfInBounds_toArray, List.set_cons_zero, List.set_cons_succ]
        refine wpAnyH_take (i := 6) (v := undef) (by (simp only [List.getElem?_toArray, List.getElem?_cons_succ, List.getElem?_cons_zero]); (try exact rfl)) (by kernel_rfl) (by kernel_rfl) (by kernel_rfl) (by intro _ _ _ h; exact h) (Or.inr ⟨by rfl, rfl⟩) (by assumption) ?_
        try simp only [Act.put, List.setIfInBounds_toArray, List.set_cons_zero, List.set_cons_succ]
        refine wpAnyH_take (i := 7) (v := undef) (by (simp only [List.getElem?_toArray, List.getElem?_cons_succ, List.getElem?_cons_zero]); (try exact rfl)) (by kernel_rfl) (by kernel_rfl) (by kernel_rfl) (by intro _ _ _ h; exact h) (Or.inr ⟨by rfl, rfl⟩) (by assumption) ?_
        try simp only [Act.put, List.setIfInBounds_toArray, List.set_cons_zero, List.set_cons_succ]
        refine wpAnyH_take (i := 8) (v := undef) (by (simp only [List.getElem?_toArray, List.getElem?_cons_succ, List.getElem?_cons_zero]); (try exact rfl)) (by kernel_rfl) (by kernel_rfl) (by kernel_rfl) (by intro _ _ _ h; exact h) (Or.inr ⟨by rfl, rfl⟩) (by assumption) ?_
        try simp only [Act.put, List.setIfInBounds_toArray, List.set_cons_zero, List.set_cons_succ]
        refine wpAnyH_take (i := 9) (v := ?_) (by (simp only [List.getElem?_toArray, List.getElem?_cons_succ, List.getElem?_cons_zero]); (try exact rfl)) (by kernel_rfl) (by kernel_rfl) (by kernel_rfl) (by intro _ _ _ h; exact h) (Or.inl ⟨by rfl, ?_⟩) (by assumption) ?_
        rotate_left
        · intro w hSw
          try dsimp only at hSw
          go_simp
          try with_reducible rfl
        try simp only [Act.put, List.setIfInBounds_toArray, List.set_cons_zero, List.set_cons_succ]
        refine wpAnyH_done (by kernel_rfl) ?_ _
        obtain ⟨wz, hwz⟩ : ∃ x, w2.drew = x := ⟨_, rfl⟩
        have OZ : Hid (OwnS 46 3 encCv wz w.heap.size (.slice ad m c1) (mergeL (cs.take k))) := by subst hwz; exact OW2.out
        have BZ : Hid (Below w.heap.size w wz) := by subst hwz; exact B2.out.drew
        have NZ : Hid (wz.heap[gb]? = some (.cells #[.int .i64 c.r, .int .i64 c.b, .int .i64 c.s] 46 (0, 0))) := by subst hwz; exact N2.out
        rw [hwz]
        clear hwz
        clear x0 x1 x2 N2 B2 OW2
        have own2 : Hid (wz.ownsRow w.heap.size 46 3 (.slice ad m c1) m ((mergeL (cs.take k)).flatMap encCv)) := by
          have e := OZ.out
          unfold OwnS at e
          rw [← hm.out] at e
          exact e
        obtain ⟨⟨n0, n1, n2⟩, -⟩ := boxCv_at NZ.out
        have lgz := own2.out.lt
        have hzz : w.heap.size ≤ wz.heap.size := BZ.out.size
        clear hm OZ NZ
        go_wp2_with (at_builtin; refine wpList_append_lies _ rfl _ _ _ rfl w.heap.size 46 i0 _ 3 24 Try.underlying76 hi hz0 hz1 hz2 rfl (by omega) _ _ _ rfl (own2.out.alloc _) ⟨wz.heap.size, 0, none⟩ 1 1 [.int .i64 c.r, .int .i64 c.b, .int .i64 c.s] rfl rfl (World.news_of_block (cs := #[.int .i64 c.r, .int .i64 c.b, .int .i64 c.s]) (t := 46) (fr := (0, 0)) (heap_alloc_new wz _)) (by simp [Value.oneCell']) (by omega) (by unfold maxLen; omega) (by omega) (by simp; omega) _ rfl ?_)
        intro gg cap1 w5 hown1 hgrow hat hlt'
        have gbr := grownBy_trans' (World.grownBy_alloc wz _ _) hgrow
        have B5 : Hid (Below w.heap.size w w5) := BZ.out.grown gbr hzz (fun j e => (lgz j e).1)
        obtain ⟨o6, l6⟩ := NEWS.out w5 gg cap1 hown1 E2.out
        have O5 := Lib.hid o6
        have L5 := Lib.hid l6
        clear hown1 hgrow hat hlt' gbr BZ n0 n1 n2 own2 lgz o6 l6 NEWS 
        go_wp2
        exact ⟨⟨k + 1, m + 1, cap1, some ⟨gg, 0, none⟩, by omega, by go_num, rfl, L5, by omega, O5, B5⟩, by simp only [intOf]; omega⟩
      · obtain ⟨p, hp⟩ : ∃ p, m = p + 1 := ⟨m - 1, by omega⟩
        obtain ⟨l, hl⟩ : ∃ x, (mergeL (cs.take k))[p]? = some x := ⟨_, List.getElem?_eq_getElem (by have := hm.out; omega)⟩
        obtain ⟨g, rfl⟩ : ∃ g, ad = some ⟨g, 0, none⟩ := by
          rcases ho.out.forms with ⟨e, e2⟩ | ⟨g, c2, e⟩
          · rw [e2] at hl; simp at hl
          · simp only [Value.slice.injEq] at e
            exact ⟨g, e.1⟩
        have HE := Lib.hid (mergeOne_other (mergeL (cs.take k)) p l c (by rw [← hm.out]; exact hp) hl)
        have HS2 := Lib.hid (mergeOne_like (mergeL (cs.take k)) p l c (by rw [← hm.out]; exact hp) hl)
        have q1 : IntKind.i64.wrap ((m : Int) - 1) = (p : Int) := by rw [hp]; exact IntWalk.i64_in _ (by omega) |>.trans (by omega)
        have k0 : decide ((0 : Int) ≤ (p : Int)) = true := by simp
        have k1 : p < m := by omega
        have HL := Lib.hid hl
        have HPm := Lib.hid hp
        have HMS := Lib.hid hms
        clear hl hp m0 hms
        go_wp2
        have N2 : Hid ((wr.alloc (.cells #[.int .i64 c.r, .int .i64 c.b, .int .i64 c.s] 46)).heap[wr.heap.size]? = some (.cells #[.int .i64 c.r, .int .i64 c.b, .int .i64 c.s] 46 (0, 0))) := heap_alloc_new wr _
        have B2 : Hid (Below w.heap.size w (wr.alloc (.cells #[.int .i64 c.r, .int .i64 c.b, .int .i64 c.s] 46))) := B.out.alloc hsz _
        have OW2 : Hid (OwnS 46 3 encCv (wr.alloc (.cells #[.int .i64 c.r, .int .i64 c.b, .int .i64 c.s] 46)) w.heap.size (.slice (some ⟨g, 0, none⟩) m c1) (mergeL (cs.take k))) := ho.out.alloc _
        have l2 : wr.heap.size < (wr.alloc (.cells #[.int .i64 c.r, .int .i64 c.b, .int .i64 c.s] 46)).heap.size := by simp
        obtain ⟨gb, hgb⟩ : ∃ x, x = wr.heap.size := ⟨_, rfl⟩
        have ngb : ∀ b, (Value.slice (some ⟨g, 0, none⟩) m c1).ownBlock = some b → b < gb := fun b e => by rw [hgb]; exact (lg b e).2
        have wgb : w.heap.size ≤ gb := by rw [hgb]; exact hsz
        have NGB := Lib.hid ngb
        obtain ⟨w2, hw2⟩ : ∃ x, x = wr.alloc (.cells #[.int .i64 c.r, .int .i64 c.b, .int .i64 c.s] 46) := ⟨_, rfl⟩
        rw [← hw2, ← hgb] at N2
        rw [← hw2] at B2 OW2
        rw [← hw2, ← hgb] at l2
        rw [← hw2, ← hgb]
        clear hw2 hgb ho own lg la B hsz e0 e1 e2 ngb
        obtain ⟨⟨x0, x1, x2⟩, -⟩ := boxCv_at N2.out
        clear x0 x1 x2
        have KS : Hid (∀ w', Below w2.heap.size w2 w' → (w'.cell? ⟨g, p * 3, none⟩ = some (.int .i64 l.r) ∧ w'.cell? ⟨g, p * 3 + 1, none⟩ = some (.int .i64 l.b) ∧ w'.cell? ⟨g, p * 3 + 2, none⟩ = some (.int .i64 l.s) ∧ w'.cell? ⟨gb, 0, none⟩ = some (.int .i64 c.r) ∧ w'.cell? ⟨gb, 1, none⟩ = some (.int .i64 c.b) ∧ w'.cell? ⟨gb, 2, none⟩ = some (.int .i64 c.s))) := by
          intro w' b
          obtain ⟨⟨a0, a1, a2⟩, -⟩ := boxCv_at ((b.block gb l2).trans N2.out)
          have o := OW2.out.later b
          exact ⟨o.cellAt encCv_len hm.out p _ HL.out 0 _ rfl, o.cellAt encCv_len hm.out p _ HL.out 1 _ rfl, o.cellAt encCv_len hm.out p _ HL.out 2 _ rfl, a0, a1, a2⟩
        have lk := Lib.hid (fun w => isLike_any l c w)
        by_cases hk1 : Like l c
        · rw [decide_eq_true hk1] at lk
          have E2 : Hid (mergeL (cs.take (k + 1)) = (mergeL (cs.take k)).set p ⟨l.r + c.r, l.b, l.s⟩) := HMS.out.trans (HS2.out hk1)
          have q2 : IntKind.i64.wrap (l.r + c.r) = l.r + c.r := by
            have tp : ∀ d ∈ cs.take k, 1 ≤ d.r := fun d hd => HP.out d (List.mem_of_mem_take hd)
            have b1 := sumR_mem' _ (mergeL_pos _ tp) l (List.mem_of_getElem? HL.out)
            have b2 := mergeL_pos _ tp l (List.mem_of_getElem? HL.out)
            rw [mergeL_sum] at b1
            have b3 := sumR_take' cs k HP.out
            have b4 := HC4.out
            have b5 := HS.out
            exact IntWalk.i64_in _ (by omega)
          clear HS2 HE hk1 NEWS HMS HC4
          go_region_held3 (fun w' => (w'.cell? ⟨g, p * 3, none⟩ = some (.int .i64 l.r) ∧ w'.cell? ⟨g, p * 3 + 1, none⟩ = some (.int .i64 l.b) ∧ w'.cell? ⟨g, p * 3 + 2, none⟩ = some (.int .i64 l.s) ∧ w'.cell? ⟨gb, 0, none⟩ = some (.int .i64 c.r) ∧ w'.cell? ⟨gb, 1, none⟩ = some (.int .i64 c.b) ∧ w'.cell? ⟨gb, 2, none⟩ = some (.int .i64 c.s)))
            (first | exact KS.out _ (Below.refl _ _).drew | exact KS.out _ B4.out)
            ((go_at_call 86; refine (lk.out _).mono ?_; rintro e w4 ⟨rfl, b4⟩; have B4 : Hid (Below w2.heap.size w2 w4) := (Below.refl _ _).drew.trans (b4.mono (by simp))))
          have OZ : Hid (OwnS 46 3 encCv w4 w.heap.size (.slice (some ⟨g, 0, none⟩) m c1) (mergeL (cs.take k))) := by exact OW2.out.later B4.out
          have BZ : Hid (Below w.heap.size w w4) := by exact B2.out.trans (B4.out.mono B2.out.size)
          have NZ : Hid (w4.heap[gb]? = some (.cells #[.int .i64 c.r, .int .i64 c.b, .int .i64 c.s] 46 (0, 0))) := by exact (B4.out.block gb l2).trans N2.out
          have ng : ¬ g = gb := by have := NGB.out g rfl; omega
          have m0 : w4.cell? ⟨g, p * 3, none⟩ = some (.int .i64 l.r) := OZ.out.cellAt encCv_len hm.out p _ HL.out 0 _ rfl
          have f0 : w4.frozen? ⟨g, p * 3, none⟩ = false := OZ.out.frozenAt hm.out (p * 3)
          obtain ⟨⟨n0, n1, n2⟩, -⟩ := boxCv_at NZ.out
          have lgz := OZ.out.lt
          clear B4 b4 KS N2 B2 OW2 lk
          go_wp2
          go_region_law (fail)
          all_goals
            have O5 : Hid (OwnS 46 3 encCv (w4.setCell ⟨g, p * 3, none⟩ (.int .i64 (l.r + c.r))).drew w.heap.size (.slice (some ⟨g, 0, none⟩) m c1) (mergeL (cs.take (k + 1)))) := by
              show OwnS _ _ _ _ _ _ _
              rw [E2.out]
              exact OZ.out.stored1 encCv_len hm.out p 0 l ⟨l.r + c.r, l.b, l.s⟩ (.int .i64 (l.r + c.r)) HL.out (by omega) rfl
            have L5 : Hid (m = (mergeL (cs.take (k + 1))).length) := by
              show _ = _
              rw [E2.out, List.length_set]
              exact hm.out
            have B5 : Hid (Below w.heap.size w (w4.setCell ⟨g, p * 3, none⟩ (.int .i64 (l.r + c.r))).drew) := (BZ.out.setCell (p := ⟨g, p * 3, none⟩) (lgz g rfl).1 _).drew
            clear OZ BZ n0 n1 n2 m0 f0 hm lgz NZ
            go_wp2
            exact ⟨⟨k + 1, m, c1, some ⟨g, 0, none⟩, by omega, by go_num, rfl, L5, by omega, O5, B5⟩, by simp only [intOf]; omega⟩
        · rw [decide_eq_false hk1] at lk
          have E2 : Hid (mergeOne (mergeL (cs.take k)) c = mergeL (cs.take k) ++ [c]) := HE.out hk1
          clear HS2 HE hk1 HMS HC4
          go_region_held3 (fun w' => (w'.cell? ⟨g, p * 3, none⟩ = some (.int .i64 l.r) ∧ w'.cell? ⟨g, p * 3 + 1, none⟩ = some (.int .i64 l.b) ∧ w'.cell? ⟨g, p * 3 + 2, none⟩ = some (.int .i64 l.s) ∧ w'.cell? ⟨gb, 0, none⟩ = some (.int .i64 c.r) ∧ w'.cell? ⟨gb, 1, none⟩ = some (.int .i64 c.b) ∧ w'.cell? ⟨gb, 2, none⟩ = some (.int .i64 c.s)))
            (first | exact KS.out _ (Below.refl _ _).drew | exact KS.out _ B4.out)
            ((go_at_call 86; refine (lk.out _).mono ?_; rintro e w4 ⟨rfl, b4⟩; have B4 : Hid (Below w2.heap.size w2 w4) := (Below.refl _ _).drew.trans (b4.mono (by simp))))
          have OZ : Hid (OwnS 46 3 encCv w4 w.heap.size (.slice (some ⟨g, 0, none⟩) m c1) (mergeL (cs.take k))) := by exact OW2.out.later B4.out
          have BZ : Hid (Below w.heap.size w w4) := by exact B2.out.trans (B4.out.mono B2.out.size)
          have NZ : Hid (w4.heap[gb]? = some (.cells #[.int .i64 c.r, .int .i64 c.b, .int .i64 c.s] 46 (0, 0))) := by exact (B4.out.block gb l2).trans N2.out
          clear B4 b4 KS N2 B2 OW2 lk
          have own2 : Hid (w4.ownsRow w.heap.size 46 3 (.slice (some ⟨g, 0, none⟩) m c1) m ((mergeL (cs.take k)).flatMap encCv)) := by
            have e := OZ.out
            unfold OwnS at e
            rw [← hm.out] at e
            exact e
          obtain ⟨⟨n0, n1, n2⟩, -⟩ := boxCv_at NZ.out
          have lgz := own2.out.lt
          have hzz : w.heap.size ≤ w4.heap.size := BZ.out.size
          clear hm OZ NZ
          go_wp2_with (at_builtin; refine wpList_append_lies _ rfl _ _ _ rfl w.heap.size 46 i0 _ 3 24 Try.underlying76 hi hz0 hz1 hz2 rfl (by omega) _ _ _ rfl (own2.out.alloc _) ⟨w4.heap.size, 0, none⟩ 1 1 [.int .i64 c.r, .int .i64 c.b, .int .i64 c.s] rfl rfl (World.news_of_block (cs := #[.int .i64 c.r, .int .i64 c.b, .int .i64 c.s]) (t := 46) (fr := (0, 0)) (heap_alloc_new w4 _)) (by simp [Value.oneCell']) (by omega) (by unfold maxLen; omega) (by omega) (by simp; omega) _ rfl ?_)
          intro gg cap1 w5 hown1 hgrow hat hlt'
          have gbr := grownBy_trans' (World.grownBy_alloc w4 _ _) hgrow
          have B5 : Hid (Below w.heap.size w w5) := BZ.out.grown gbr hzz (fun j e => (lgz j e).1)
          obtain ⟨o6, l6⟩ := NEWS.out w5 gg cap1 hown1 E2.out
          have O5 := Lib.hid o6
          have L5 := Lib.hid l6
          clear hown1 hgrow hat hlt' gbr BZ n0 n1 n2 own2 lgz o6 l6 NEWS 
          go_wp2
          exact ⟨⟨k + 1, m + 1, cap1, some ⟨gg, 0, none⟩, by omega, by go_num, rfl, L5, by omega, O5, B5⟩, by simp only [intOf]; omega⟩
    · obtain rfl : k = N := by omega
      have HO : Hid (OwnS 46 3 encCv wr w.heap.size (.slice ad m c1) (mergeL cs)) := by
        have e := ho.out
        rw [List.take_of_length_le (Nat.le_of_eq HN.out.symm)] at e
        exact e
      clear ho hm
      go_wp2
      go_ret
      exact ⟨_, rfl, HO.out, B.out⟩
end Go.Proofs.Ythhnnkgfnhggbaa
