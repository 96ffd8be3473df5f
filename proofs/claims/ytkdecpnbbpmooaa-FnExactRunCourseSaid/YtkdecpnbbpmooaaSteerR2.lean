/- Courses behind each ring: both sides. -/
import Derived.Test.YtkdecpnbbpmooaaSteerR
namespace Go.Proofs.Ytkdecpnbbpmooaa
open Go.ChangeShapes Go.WideShapes Go.ChangeAt Go.RowKit
set_option linter.unusedVariables false
set_option linter.unusedSimpArgs false

/-- The answer of RunCourse. -/
def RunAns (l : Lm) (c : Co) (ts : List Int) (ys : List Co) (b : Bool) : Prop := ((OkC l c ∧ ts.length ≤ 40) ∧ RunRes l c ts ys b) ∨ (¬ (OkC l c ∧ ts.length ≤ 40) ∧ ys = [] ∧ b = false)
theorem runAns_of (l : Lm) (c : Co) (ts : List Int) : ∃ ys b, RunAns l c ts ys b ∧ ys.length ≤ 1048576 := by
  by_cases h : OkC l c ∧ ts.length ≤ 40
  · obtain ⟨ys, b, hr⟩ := runRes_of l c ts
    refine ⟨ys, b, .inl ⟨h, hr⟩, ?_⟩
    rcases hr with ⟨_, rfl, _⟩ | ⟨_, rfl, _⟩
    · rw [coursesTo_len]; omega
    · simp
  · exact ⟨[], false, .inr ⟨h, rfl, rfl⟩, by simp⟩

set_option maxRecDepth 100000 in
set_option maxHeartbeats 4000000 in
theorem specRun_any (l : Lm) (c : Co) (v : Value) (ts : List Int) (w : World) (hr : RdI w v ts) (lt : ts.length ≤ 1048576) (ys : List Co) (b : Bool) (h : RunAns l c ts ys b) :
    Calls Try.prog 26 #[(.agg #[.int .i64 l.m, .int .i64 l.c]), (.agg #[.int .i64 c.o, .int .i64 c.h, .int .i64 c.t]), v] w fun e w' => ∃ u, e = .returned (.tuple #[u, .bool b]) ∧ OwnS 31 3 encCo w' w.heap.size u ys ∧ Below w.heap.size w w' := by
  obtain ⟨b1, h1⟩ := bool_of (OkC l c)
  have C1 := Lib.hid (fun w => l05Is_any l c b1 h1 w)
  have H := Lib.hid h
  have H1 := Lib.hid h1
  have HR := Lib.hid hr
  obtain ⟨a, cap, rfl, -⟩ := hr
  obtain ⟨n, hn⟩ : ∃ n, n = ts.length := ⟨_, rfl⟩
  have LT := Lib.hid lt
  rw [← hn] at HR lt ⊢
  have HN := Lib.hid hn
  clear h h1 hn
  go_enter Try.func26, Try.ntmps26
  go_wp2_with fail
  refine (C1.out _).mono ?_
  rintro e u ⟨rfl, bb⟩
  have su : w.heap.size + 2 ≤ u.heap.size := by have := bb.size; simp only [World.size_alloc] at this; omega
  have BU : Hid (Below w.heap.size w u) := Below.trans (by go_grown) (bb.mono (by simp only [World.size_alloc]; omega))
  obtain ⟨⟨k0, k1⟩, -⟩ := boxLm_at ((bb.block (w.heap.size) (by simp only [World.size_alloc]; omega)).trans (boxN2_0 w _ _))
  obtain ⟨⟨j0, j1, j2⟩, -⟩ := boxCo_at ((bb.block (w.heap.size + 1) (by simp only [World.size_alloc]; omega)).trans (boxN2_1 w _ _))
  clear bb C1
  cases b1 with
  | false =>
    have HH : ys = [] ∧ b = false := by
      rcases H.out with g | g
      · exact absurd (H1.out.mpr g.1.1) (by simp)
      · exact g.2
    obtain ⟨rfl, rfl⟩ := HH
    clear H H1
    go_wp2
    go_ret2
    exact ⟨_, rfl, World.ownsRow_nil _ _ _ _, BU.out⟩
  | true =>
    have ok := H1.out.mp rfl
    by_cases hl : n ≤ 40
    · have g : RunRes l c ts ys b := by
        rcases H.out with g | g
        · exact g.2
        · exact absurd ⟨ok, by rw [← HN.out]; exact hl⟩ g.1
      have C2 := Lib.hid (fun w (hr : RdI w (.slice a n cap) ts) => l05Run_any l c ok _ ts w hr LT.out ys b g)
      have nl : ¬ (40 : Int) < (n : Int) := by omega
      clear H H1 ok g
      go_wp2_with fail
      refine (C2.out _ (HR.out.later BU.out)).mono ?_
      rintro e w2 ⟨v2, rfl, o2, b2⟩
      have O2 := Lib.hid (o2.mono (B' := w.heap.size) (by omega))
      have B2 : Hid (Below w.heap.size w w2) := BU.out.trans (b2.mono (by omega))
      clear o2 b2 C2 k0 k1 j0 j1 j2 BU
      go_wp2
      go_ret2
      exact ⟨_, rfl, O2.out, B2.out⟩
    · have HH : ys = [] ∧ b = false := by
        rcases H.out with g | g
        · exact absurd g.1.2 (by rw [← HN.out]; exact hl)
        · exact g.2
      obtain ⟨rfl, rfl⟩ := HH
      have nl : (40 : Int) < (n : Int) := by omega
      clear H H1 ok
      go_wp2
      go_ret2
      exact ⟨_, rfl, World.ownsRow_nil _ _ _ _, BU.out⟩

set_option maxRecDepth 100000 in
set_option maxHeartbeats 8000000 in
theorem implRun_any (l : Lm) (c : Co) (v : Value) (ts : List Int) (w : World) (hr : RdI w v ts) (lt : ts.length ≤ 1048576) (ys : List Co) (b : Bool) (h : RunAns l c ts ys b) :
    Calls Try.prog 28 #[(.agg #[.int .i64 l.m, .int .i64 l.c]), (.agg #[.int .i64 c.o, .int .i64 c.h, .int .i64 c.t]), v] w fun e w' => ∃ u, e = .returned (.tuple #[u, .bool b]) ∧ OwnS 31 3 encCo w' w.heap.size u ys ∧ Below w.heap.size w w' := by
  obtain ⟨i0, hi, hz0, hz1, hz2⟩ := info_parts info_Co'
  obtain ⟨b1, h1⟩ := bool_of (OkC l c)
  have C1 := Lib.hid (fun w => implCourse_any l c b1 h1 w)
  have H := Lib.hid h
  have H1 := Lib.hid h1
  have LTv := Lib.hid (fun b e hz => rdI_lt hr b e hz)
  obtain ⟨a, cap, rfl, rd⟩ := hr
  have RD := Lib.hid rd
  obtain ⟨n, hn⟩ : ∃ n, n = ts.length := ⟨_, rfl⟩
  rw [← hn] at lt LTv ⊢
  have HN := Lib.hid hn
  clear h h1 hn rd
  go_enter Try.func28, Try.ntmps28
  go_wp2_with fail
  refine (C1.out _).mono ?_
  rintro e u ⟨rfl, bb⟩
  have su : w.heap.size + 2 ≤ u.heap.size := by have := bb.size; simp only [World.size_alloc] at this; omega
  have BU : Hid (Below w.heap.size w u) := Below.trans (by go_grown) (bb.mono (by simp only [World.size_alloc]; omega))
  have NL := Lib.hid ((bb.block (w.heap.size) (by simp only [World.size_alloc]; omega)).trans (boxN2_0 w _ _))
  have NC := Lib.hid ((bb.block (w.heap.size + 1) (by simp only [World.size_alloc]; omega)).trans (boxN2_1 w _ _))
  clear bb C1
  cases b1 with
  | false =>
    have HH : ys = [] ∧ b = false := by
      rcases H.out with g | g
      · exact absurd (H1.out.mpr g.1.1) (by simp)
      · exact g.2
    obtain ⟨rfl, rfl⟩ := HH
    clear H H1
    go_wp2
    go_ret2
    exact ⟨_, rfl, World.ownsRow_nil _ _ _ _, BU.out⟩
  | true =>
    have OKC := Lib.hid (H1.out.mp rfl)
    by_cases hl : n ≤ 40
    · have g : RunRes l c ts ys b := by
        rcases H.out with g | g
        · exact g.2
        · exact absurd ⟨OKC.out, by rw [← HN.out]; exact hl⟩ g.1
      have nl : ¬ (40 : Int) < (n : Int) := by omega
      have HG := Lib.hid g
      clear H H1 g
      go_wp2_with (first | (at_make; refine wpList_make_full _ rfl _ _ _ rfl u.heap.size 31 i0 _ 3 Try.underlying43 hi hz0 hz1 .i64 .i64 _ _ n rfl rfl rfl rfl ?b2 ?b3 (Nat.le_refl _) ?_) | fail)
      case b2 => rw [hz2]; omega
      case b3 => unfold maxLen; omega
      intro u2 hown hg
      rw [made_flat (enc := encCo) encCo_len (by omega) noC #[.int .i64 0, .int .i64 0, .int .i64 0] rfl] at hown
      have O0 : Hid (OwnS 31 3 encCo u2 u.heap.size (.slice (some ⟨u.heap.size, 0, none⟩) n n) (coursesTo c ts 0 ++ List.replicate (n - 0) noC)) := by
        show OwnS _ _ _ _ _ _ _
        unfold OwnS
        rw [show coursesTo c ts 0 = [] from rfl, List.nil_append, Nat.sub_zero, List.length_replicate]
        exact hown
      have BM : Below u.heap.size u u2 := (Below.refl _ _).grown hg (Nat.le_refl _) (fun k h => by cases h)
      have B0 : Hid (Below w.heap.size w u2) := BU.out.trans (BM.mono (by omega))
      have NL0 := Lib.hid ((BM.block _ (by omega)).trans NL.out)
      have NC0 := Lib.hid ((BM.block _ (by omega)).trans NC.out)
      have su2 : u.heap.size < u2.heap.size := (O0.out.lt u.heap.size rfl).2
      clear hown hg BM BU NL NC
      go_wp2
      go_loopw [27] (fun i wr => ∃ k : Nat, k ≤ n ∧ i = .int .i64 (k : Int) ∧ Hid (OwnS 31 3 encCo wr u.heap.size (.slice (some ⟨u.heap.size, 0, none⟩) n n) (coursesTo c ts k ++ List.replicate (n - k) noC)) ∧ Hid (Below w.heap.size w wr) ∧ Hid (wr.heap[w.heap.size]? = some (.cells #[.int .i64 l.m, .int .i64 l.c] 25 (0, 0))) ∧ Hid (wr.heap[w.heap.size + 1]? = some (.cells #[.int .i64 (courseAt c ts k).o, .int .i64 (courseAt c ts k).h, .int .i64 (courseAt c ts k).t] 31 (0, 0))) ∧ Hid (RunOk l c ts k)) (fun i _ => n - (intOf i).toNat)
      case atStart => exact ⟨0, by omega, by simp, O0, B0, NL0, NC0, fun i h => absurd h (by omega)⟩
      case round =>
        obtain ⟨k, hk, rfl, OK, BK, NL, NC, RO⟩ := hrel
        clear O0 B0 NL0 NC0
        have sz : u.heap.size < wr.heap.size := (OK.out.lt u.heap.size rfl).2
        by_cases hlt : k < n
        · obtain ⟨t, hx⟩ : ∃ x, ts[k]? = some x := ⟨_, List.getElem?_eq_getElem (by have := HN.out; omega)⟩
          obtain ⟨ba, oa, rfl, ca'⟩ := RD.out.resolve_left (by intro h; have := HN.out; rw [h] at this; simp at this; omega)
          have q1 : IntKind.i64.wrap ((k : Int) + 1) = ((k + 1 : Nat) : Int) := by push_cast; exact IntWalk.i64_in _ (by omega)
          have la : ba < w.heap.size := LTv.out ba rfl (by intro h; have := HN.out; rw [h] at this; simp at this; omega)
          have c1 : wr.cell? ⟨ba, oa + k, none⟩ = some (.int .i64 t) := (BK.out.cell (p := ⟨ba, oa + k, none⟩) la).trans (ca' k t hx)
          have hd := getD_of hx
          have okd := okC_at OKC.out RO.out
          obtain ⟨d, hdd⟩ : ∃ d, d = courseAt c ts k := ⟨_, rfl⟩
          have HD := Lib.hid hdd
          rw [← hdd] at NC okd
          obtain ⟨⟨k0, k1⟩, -⟩ := boxLm_at NL.out
          obtain ⟨⟨j0, j1, j2⟩, -⟩ := boxCo_at NC.out
          have kl : k < n := hlt
          clear ca' hx hdd
          by_cases hg : Goes l d t
          · have C := Lib.hid (fun w => implNextC_any l d t (nextC d t) true (.inl ⟨⟨okd, hg⟩, rfl, rfl⟩) w)
            have RO2 : Hid (RunOk l c ts (k + 1)) := by
              intro i hi'
              by_cases e : i = k
              · subst e; rw [hd, ← HD.out]; exact hg
              · exact RO.out i (by omega)
            have HC : Hid (courseAt c ts (k + 1) = nextC d t) := by show nextC (courseAt c ts k) (ts.getD k 0) = _; rw [hd, HD.out]
            clear hg okd hd RO
            go_wp2_with fail
            refine (C.out _).mono ?_
            rintro e w2 ⟨rfl, b2⟩
            have sz2 := b2.size
            have O2 := OK.out.later b2
            have B2 : Hid (Below w.heap.size w w2) := BK.out.trans (b2.mono (by omega))
            have NL2 := Lib.hid ((b2.block _ (by omega)).trans NL.out)
            have NC2 := (b2.block _ (by omega)).trans NC.out
            clear b2 OK BK NL NC C c1 k0 k1 j0 j1 j2
            have O3 := Lib.hid (O2.alloc (.cells #[.int .i64 (nextC d t).o, .int .i64 (nextC d t).h, .int .i64 (nextC d t).t] 31))
            have B3 := Lib.hid (B2.out.alloc (by omega : w.heap.size ≤ w2.heap.size) (.cells #[.int .i64 (nextC d t).o, .int .i64 (nextC d t).h, .int .i64 (nextC d t).t] 31))
            have NL3 := Lib.hid ((Below.heap_alloc w2 (.cells #[.int .i64 (nextC d t).o, .int .i64 (nextC d t).h, .int .i64 (nextC d t).t] 31) w.heap.size (by omega)).trans NL2.out)
            have NC3 := Lib.hid ((Below.heap_alloc w2 (.cells #[.int .i64 (nextC d t).o, .int .i64 (nextC d t).h, .int .i64 (nextC d t).t] 31) (w.heap.size + 1) (by omega)).trans NC2)
            have PX3 := Lib.hid (heap_alloc_new w2 (.cells #[.int .i64 (nextC d t).o, .int .i64 (nextC d t).h, .int .i64 (nextC d t).t] 31))
            have lu : u.heap.size < w2.heap.size := by omega
            obtain ⟨p, hp⟩ : ∃ p, p = w2.heap.size := ⟨_, rfl⟩
            rw [← hp] at PX3
            have HP := Lib.hid hp
            clear O2 NL2 NC2 B2 hp
            go_upto_region 10 with (fail)
            rw [← HP.out]
            rw [← HP.out] at lu
            generalize hw3 : (w2.alloc (.cells #[.int .i64 (nextC d t).o, .int .i64 (nextC d t).h, .int .i64 (nextC d t).t] 31)) = w3 at O3 B3 NL3 NC3 PX3 ⊢
            have sz3 : p < w3.heap.size := box_lt PX3.out
            clear hw3 HP sz2
            obtain ⟨⟨g0, g1, g2⟩, -, -⟩ := boxCo_at (q := nextC d t) PX3.out
            have lenO : n = (coursesTo c ts k ++ List.replicate (n - k) noC).length := by rw [List.length_append, coursesTo_len, List.length_replicate]; omega
            have gl : (coursesTo c ts k ++ List.replicate (n - k) noC)[k]? = some noC := by
              rw [List.getElem?_append_right (by rw [coursesTo_len]; omega), coursesTo_len, Nat.sub_self, List.getElem?_replicate, if_pos (by omega)]
            have e0 : w3.cell? ⟨u.heap.size, k * 3, none⟩ = some (.int .i64 0) := O3.out.cellAt encCo_len lenO k _ gl 0 _ rfl
            have e1 : w3.cell? ⟨u.heap.size, k * 3 + 1, none⟩ = some (.int .i64 0) := O3.out.cellAt encCo_len lenO k _ gl 1 _ rfl
            have e2 : w3.cell? ⟨u.heap.size, k * 3 + 2, none⟩ = some (.int .i64 0) := O3.out.cellAt encCo_len lenO k _ gl 2 _ rfl
            have y0 : w3.frozen? ⟨u.heap.size, k * 3, none⟩ = false := O3.out.frozenAt lenO _
            have y1 : w3.frozen? ⟨u.heap.size, k * 3 + 1, none⟩ = false := O3.out.frozenAt lenO _
            have y2 : w3.frozen? ⟨u.heap.size, k * 3 + 2, none⟩ = false := O3.out.frozenAt lenO _
            have s0 := O3.out.stored1 encCo_len lenO k 0 noC ⟨(nextC d t).o, 0, 0⟩ (.int .i64 (nextC d t).o) gl (by omega) rfl
            have s1 := s0.stored1 encCo_len (by rw [List.length_set]; exact lenO) k 1 ⟨(nextC d t).o, 0, 0⟩ ⟨(nextC d t).o, (nextC d t).h, 0⟩ (.int .i64 (nextC d t).h) (by rw [List.getElem?_set_self (by rw [← lenO]; exact kl)]) (by omega) rfl
            rw [List.set_set] at s1
            have s2 := s1.stored1 encCo_len (by rw [List.length_set]; exact lenO) k 2 ⟨(nextC d t).o, (nextC d t).h, 0⟩ (nextC d t) (.int .i64 (nextC d t).t) (by rw [List.getElem?_set_self (by rw [← lenO]; exact kl)]) (by omega) rfl
            rw [List.set_set, List.set_append_right _ _ (by rw [coursesTo_len]; omega), coursesTo_len, Nat.sub_self, show n - k = (n - (k + 1)) + 1 by omega, List.replicate_succ, List.set_cons_zero] at s2
            have lst : coursesTo c ts k ++ nextC d t :: List.replicate (n - (k + 1)) noC = coursesTo c ts (k + 1) ++ List.replicate (n - (k + 1)) noC := by rw [coursesTo_succ, HC.out, List.append_assoc]; rfl
            rw [lst] at s2
            have B4 := Lib.hid (((B3.out.setCell (p := ⟨u.heap.size, k * 3, none⟩) (by show w.heap.size ≤ u.heap.size; omega) (.int .i64 (nextC d t).o)).setCell (p := ⟨u.heap.size, k * 3 + 1, none⟩) (by show w.heap.size ≤ u.heap.size; omega) (.int .i64 (nextC d t).h)).setCell (p := ⟨u.heap.size, k * 3 + 2, none⟩) (by show w.heap.size ≤ u.heap.size; omega) (.int .i64 (nextC d t).t))
            have KB : ∀ j, j ≠ u.heap.size → (((w3.setCell ⟨u.heap.size, k * 3, none⟩ (.int .i64 (nextC d t).o)).setCell ⟨u.heap.size, k * 3 + 1, none⟩ (.int .i64 (nextC d t).h)).setCell ⟨u.heap.size, k * 3 + 2, none⟩ (.int .i64 (nextC d t).t)).heap[j]? = w3.heap[j]? := by
              intro j hj
              rw [heap_setCell_other _ _ _ _ hj, heap_setCell_other _ _ _ _ hj, heap_setCell_other _ _ _ _ hj]
            have NL4 := Lib.hid ((KB w.heap.size (by omega)).trans NL3.out)
            have NC4 := Lib.hid ((KB (w.heap.size + 1) (by omega)).trans NC3.out)
            have PX4 := Lib.hid ((KB p (by omega)).trans PX3.out)
            have S4 := Lib.hid s2
            clear lenO gl s0 s1 s2 lst B3 O3 NL3 NC3 PX3 KB
            go_upto_region 11 with (fail)
            generalize hw4 : (((w3.setCell ⟨u.heap.size, k * 3, none⟩ (.int .i64 (nextC d t).o)).setCell ⟨u.heap.size, k * 3 + 1, none⟩ (.int .i64 (nextC d t).h)).setCell ⟨u.heap.size, k * 3 + 2, none⟩ (.int .i64 (nextC d t).t)) = w4 at B4 NL4 NC4 PX4 S4 ⊢
            clear hw4 e0 e1 e2 y0 y1 y2 g0 g1 g2
            obtain ⟨⟨f0, f1, f2⟩, ⟨z0, z1, z2⟩, -⟩ := boxCo_at (q := d) NC4.out
            obtain ⟨⟨e0, e1, e2⟩, -, -⟩ := boxCo_at (q := nextC d t) PX4.out
            have NC6 := boxCo_put NC4.out (nextC d t)
            rw [← HC.out] at NC6
            have NC7 := Lib.hid NC6
            have O6 := Lib.hid (((S4.out.setBelow (a := ⟨w.heap.size + 1, 0, none⟩) (by show w.heap.size + 1 < _; omega) (.int .i64 (courseAt c ts (k + 1)).o)).setBelow (a := ⟨w.heap.size + 1, 1, none⟩) (by show w.heap.size + 1 < _; omega) (.int .i64 (courseAt c ts (k + 1)).h)).setBelow (a := ⟨w.heap.size + 1, 2, none⟩) (by show w.heap.size + 1 < _; omega) (.int .i64 (courseAt c ts (k + 1)).t))
            have B6 := Lib.hid (((B4.out.setCell (p := ⟨w.heap.size + 1, 0, none⟩) (by show w.heap.size ≤ w.heap.size + 1; omega) (.int .i64 (courseAt c ts (k + 1)).o)).setCell (p := ⟨w.heap.size + 1, 1, none⟩) (by show w.heap.size ≤ w.heap.size + 1; omega) (.int .i64 (courseAt c ts (k + 1)).h)).setCell (p := ⟨w.heap.size + 1, 2, none⟩) (by show w.heap.size ≤ w.heap.size + 1; omega) (.int .i64 (courseAt c ts (k + 1)).t))
            have NL6 := Lib.hid ((boxCo_other (w := w4) (g := w.heap.size + 1) (courseAt c ts (k + 1)) w.heap.size (by omega)).trans NL4.out)
            rw [HC.out] at O6 B6 NL6 NC7
            clear NC6 NC4 PX4 S4 B4 NL4
            go_wp2
            exact ⟨⟨k + 1, by omega, by push_cast; rfl, O6, B6, NL6, (by show Hid _; rw [HC.out]; exact NC7), RO2⟩, by simp only [intOf]; omega⟩
          · have C := Lib.hid (fun w => implNextC_any l d t noC false (.inr ⟨fun g => hg g.2, rfl, rfl⟩) w)
            obtain ⟨rfl, rfl⟩ := runRes_no HG.out (fun g => hg (by have := g k (by have := HN.out; omega); rw [hd, ← HD.out] at this; exact this))
            clear hg okd hd RO
            go_wp2_with fail
            refine (C.out _).mono ?_
            rintro e w2 ⟨rfl, b2⟩
            have sz2 := b2.size
            have B2 : Hid (Below w.heap.size w (w2.alloc (.cells #[.int .i64 noC.o, .int .i64 noC.h, .int .i64 noC.t] 31))) := (BK.out.trans (b2.mono (by omega))).alloc (by omega) _
            clear b2 OK BK NL NC C c1 k0 k1 j0 j1 j2
            go_wp2
            go_ret2
            exact ⟨_, rfl, World.ownsRow_nil _ _ _ _, B2.out⟩
        · obtain rfl : k = n := by omega
          obtain ⟨rfl, rfl⟩ := runRes_yes HG.out (by rw [← HN.out]; exact RO.out)
          have OK2 : Hid (OwnS 31 3 encCo wr u.heap.size (.slice (some ⟨u.heap.size, 0, none⟩) k k) (coursesTo c ts ts.length)) := by
            have := OK.out
            rw [Nat.sub_self, List.replicate_zero, List.append_nil] at this
            rw [← HN.out]; exact this
          clear OK
          go_wp2
          go_ret2
          exact ⟨_, rfl, OK2.out.mono (by omega), BK.out⟩
    · have HH : ys = [] ∧ b = false := by
        rcases H.out with g | g
        · exact absurd g.1.2 (by rw [← HN.out]; exact hl)
        · exact g.2
      obtain ⟨rfl, rfl⟩ := HH
      have nl : (40 : Int) < (n : Int) := by omega
      clear H H1 OKC
      go_wp2
      go_ret2
      exact ⟨_, rfl, World.ownsRow_nil _ _ _ _, BU.out⟩

theorem exRunCourse (l : Lm) (c : Co) (ts : List Int) (lt : ts.length ≤ 1048576) : ∃ (ys : List Co) (b : Bool), ys.length ≤ 1048576 ∧
    Hid (∀ (w : World) (v : Value), (fun _ => True) w → RdI w v ts → Calls Try.prog 26 #[(.agg #[.int .i64 l.m, .int .i64 l.c]), (.agg #[.int .i64 c.o, .int .i64 c.h, .int .i64 c.t]), v] w fun e w' => ∃ u, e = .returned (.tuple #[u, .bool b]) ∧ OwnS 31 3 encCo w' w.heap.size u ys ∧ Below w.heap.size w w') ∧
    Hid (∀ (w : World) (v : Value), (fun _ => True) w → RdI w v ts → Calls Try.prog 28 #[(.agg #[.int .i64 l.m, .int .i64 l.c]), (.agg #[.int .i64 c.o, .int .i64 c.h, .int .i64 c.t]), v] w fun e w' => ∃ u, e = .returned (.tuple #[u, .bool b]) ∧ OwnS 31 3 encCo w' w.heap.size u ys ∧ Below w.heap.size w w') := by
  obtain ⟨ys, b, h, ly⟩ := runAns_of l c ts
  exact ⟨ys, b, ly, fun w v _ hr => specRun_any l c v ts w hr lt ys b h, fun w v _ hr => implRun_any l c v ts w hr lt ys b h⟩
end Go.Proofs.Ytkdecpnbbpmooaa
