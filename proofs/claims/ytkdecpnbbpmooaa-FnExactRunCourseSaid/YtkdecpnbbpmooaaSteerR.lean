/- Courses behind each ring: the specification. -/
import Derived.Test.YtkdecpnbbpmooaaSteerT
import Derived.Test.YtkdecpnbbpmooaaStoreCo
import Derived.Test.YtkdecpnbbpmooaaKit5
namespace Go.Proofs.Ytkdecpnbbpmooaa
open Go.ChangeShapes Go.WideShapes Go.ChangeAt Go.RowKit
set_option linter.unusedVariables false
set_option linter.unusedSimpArgs false

/-- The course behind k rings. -/
def courseAt (c : Co) (ts : List Int) : Nat → Co
  | 0 => c
  | k + 1 => nextC (courseAt c ts k) (ts.getD k 0)
def coursesTo (c : Co) (ts : List Int) (k : Nat) : List Co := (List.range k).map fun i => courseAt c ts (i + 1)
theorem coursesTo_succ (c : Co) (ts : List Int) (k : Nat) : coursesTo c ts (k + 1) = coursesTo c ts k ++ [courseAt c ts (k + 1)] := by
  unfold coursesTo; rw [List.range_succ, List.map_append]; rfl
theorem coursesTo_len (c : Co) (ts : List Int) (k : Nat) : (coursesTo c ts k).length = k := by simp [coursesTo]
/-- The first n turns can be taken. -/
def RunOk (l : Lm) (c : Co) (ts : List Int) (n : Nat) : Prop := ∀ i, i < n → Goes l (courseAt c ts i) (ts.getD i 0)
theorem okC_at {l : Lm} {c : Co} {ts : List Int} {k : Nat} (ok : OkC l c) (h : RunOk l c ts k) : OkC l (courseAt c ts k) := by
  cases k with
  | zero => exact ok
  | succ k => exact ⟨ok.1, (h k (by omega)).2⟩
def RunRes (l : Lm) (c : Co) (ts : List Int) (ys : List Co) (b : Bool) : Prop := (RunOk l c ts ts.length ∧ ys = coursesTo c ts ts.length ∧ b = true) ∨ (¬ RunOk l c ts ts.length ∧ ys = [] ∧ b = false)
theorem runRes_of (l : Lm) (c : Co) (ts : List Int) : ∃ ys b, RunRes l c ts ys b := by
  by_cases h : RunOk l c ts ts.length
  · exact ⟨_, _, .inl ⟨h, rfl, rfl⟩⟩
  · exact ⟨_, _, .inr ⟨h, rfl, rfl⟩⟩
theorem runRes_no {l : Lm} {c : Co} {ts : List Int} {ys : List Co} {b : Bool} (h : RunRes l c ts ys b) (n : ¬ RunOk l c ts ts.length) : ys = [] ∧ b = false := by
  rcases h with h | h
  · exact absurd h.1 n
  · exact h.2
theorem runRes_yes {l : Lm} {c : Co} {ts : List Int} {ys : List Co} {b : Bool} (h : RunRes l c ts ys b) (n : RunOk l c ts ts.length) : ys = coursesTo c ts ts.length ∧ b = true := by
  rcases h with h | h
  · exact h.2
  · exact absurd n h.1
theorem getD_of {ts : List Int} {k : Nat} {x : Int} (h : ts[k]? = some x) : ts.getD k 0 = x := by simp [List.getD, h]

theorem rdI_lt {w : World} {v : Value} {zs : List Int} (h : RdI w v zs) (b : Nat) (e : v.ownBlock = some b) (hz : zs ≠ []) : b < w.heap.size := by
  obtain ⟨a, cap, rfl, h2⟩ := h
  obtain ⟨b', off, rfl, h3⟩ := h2.resolve_left hz
  obtain ⟨x, xs, rfl⟩ := List.exists_cons_of_ne_nil hz
  have hlt := World.block_lt_of_cell? w _ (h3 0 x rfl)
  simp only [Value.ownBlock, Option.some.injEq] at e
  subst e
  exact hlt
theorem ownS_lit0 (u : World) (B : Nat) (h : B ≤ u.heap.size) : OwnS 31 3 encCo (u.alloc (.cells #[] 31)) B (.slice (some ⟨u.heap.size, 0, none⟩) 0 0) [] := by
  refine ⟨by simp, .inr ⟨u.heap.size, 0, _, rfl, h, heap_alloc_new u _, Nat.le_refl _, by unfold maxLen; omega, by simp, by simp⟩⟩

set_option maxRecDepth 100000 in
set_option maxHeartbeats 8000000 in
theorem l05Run_any (l : Lm) (c : Co) (ok : OkC l c) (v : Value) (ts : List Int) (w : World) (hr : RdI w v ts) (lt : ts.length ≤ 1048576) (ys : List Co) (b : Bool) (h : RunRes l c ts ys b) :
    Calls Try.prog 54 #[(.agg #[.int .i64 l.m, .int .i64 l.c]), (.agg #[.int .i64 c.o, .int .i64 c.h, .int .i64 c.t]), v] w fun e w' => ∃ u, e = .returned (.tuple #[u, .bool b]) ∧ OwnS 31 3 encCo w' w.heap.size u ys ∧ Below w.heap.size w w' := by
  obtain ⟨i0, hi, hz0, hz1, hz2⟩ := info_parts info_Co'
  have LTv := Lib.hid (fun b e hz => rdI_lt hr b e hz)
  obtain ⟨a, cap, rfl, rd⟩ := hr
  have RD := Lib.hid rd
  have H := Lib.hid h
  have OKC := Lib.hid ok
  obtain ⟨n, hn⟩ : ∃ n, n = ts.length := ⟨_, rfl⟩
  rw [← hn] at lt LTv ⊢
  have HN := Lib.hid hn
  have WW : Hid ((((w.alloc (.cells #[.int .i64 l.m, .int .i64 l.c] 25)).alloc (.cells #[.int .i64 c.o, .int .i64 c.h, .int .i64 c.t] 31)).heap[w.heap.size]? = some (.cells #[.int .i64 l.m, .int .i64 l.c] 25 (0, 0)) ∧ ((w.alloc (.cells #[.int .i64 l.m, .int .i64 l.c] 25)).alloc (.cells #[.int .i64 c.o, .int .i64 c.h, .int .i64 c.t] 31)).heap[w.heap.size + 1]? = some (.cells #[.int .i64 c.o, .int .i64 c.h, .int .i64 c.t] 31 (0, 0))) ∧ ((w.alloc (.cells #[.int .i64 l.m, .int .i64 l.c] 25)).alloc (.cells #[.int .i64 c.o, .int .i64 c.h, .int .i64 c.t] 31)).heap.size = w.heap.size + 2) := ⟨⟨boxN2_0 w _ _, boxN2_1 w _ _⟩, by simp⟩
  have BU : Hid (Below w.heap.size w ((w.alloc (.cells #[.int .i64 l.m, .int .i64 l.c] 25)).alloc (.cells #[.int .i64 c.o, .int .i64 c.h, .int .i64 c.t] 31))) := by show Below _ _ _; go_grown
  clear h hn rd ok
  go_enter Try.func54, Try.ntmps54
  go_upto_region 1 with (fail)
  generalize hu : ((w.alloc (.cells #[.int .i64 l.m, .int .i64 l.c] 25)).alloc (.cells #[.int .i64 c.o, .int .i64 c.h, .int .i64 c.t] 31)) = u at WW BU ⊢
  clear hu
  obtain ⟨⟨nl, nc⟩, sue⟩ := WW.out
  have NL := Lib.hid nl
  have NC := Lib.hid nc
  have su : w.heap.size + 2 ≤ u.heap.size := by omega
  clear WW nl nc sue
  have own0 : Hid (OwnS 31 3 encCo (u.alloc (.cells #[] 31)) (w.heap.size + 2) (.slice (some ⟨u.heap.size, 0, none⟩) 0 0) (coursesTo c ts 0)) := ownS_lit0 u _ su
  have B0 : Hid (Below w.heap.size w (u.alloc (.cells #[] 31))) := BU.out.alloc (by omega) _
  have NL0 : Hid ((u.alloc (.cells #[] 31)).heap[w.heap.size]? = _) := (Below.heap_alloc _ _ _ (by omega)).trans NL.out
  have NC0 : Hid ((u.alloc (.cells #[] 31)).heap[w.heap.size + 1]? = _) := (Below.heap_alloc _ _ _ (by omega)).trans NC.out
  clear NL NC BU
  go_wp2
  go_loopw [8, 9] (fun v i wr => ∃ k : Nat, k ≤ n ∧ i = .int .i64 (k : Int) ∧ (∃ ag m cap, v = .slice (some ⟨ag, 0, none⟩) m cap) ∧ Hid (OwnS 31 3 encCo wr (w.heap.size + 2) v (coursesTo c ts k)) ∧ Hid (Below w.heap.size w wr) ∧ Hid (wr.heap[w.heap.size]? = some (.cells #[.int .i64 l.m, .int .i64 l.c] 25 (0, 0))) ∧ Hid (wr.heap[w.heap.size + 1]? = some (.cells #[.int .i64 (courseAt c ts k).o, .int .i64 (courseAt c ts k).h, .int .i64 (courseAt c ts k).t] 31 (0, 0))) ∧ Hid (RunOk l c ts k)) (fun _ i _ => n - (intOf i).toNat)
  case atStart => exact ⟨0, by omega, by simp, ⟨_, _, _, rfl⟩, own0, B0, NL0, NC0, fun i h => absurd h (by omega)⟩
  case round =>
    obtain ⟨k, hk, rfl, ⟨ag, L, cap0, rfl⟩, OK, BK, NL, NC, RO⟩ := hrel
    clear own0 B0 NL0 NC0
    obtain rfl : k = L := by
      obtain ⟨a, c, h, _⟩ := OK.out.rd encCo_len
      simp only [Value.slice.injEq] at h
      rw [h.2.1, coursesTo_len]
    have sz : w.heap.size + 2 ≤ wr.heap.size := by have := box_lt NC.out; omega
    by_cases hlt : k < n
    · obtain ⟨t, hx⟩ : ∃ x, ts[k]? = some x := ⟨_, List.getElem?_eq_getElem (by have := HN.out; omega)⟩
      obtain ⟨ba, oa, rfl, ca'⟩ := RD.out.resolve_left (by intro h; have := HN.out; rw [h] at this; simp at this; omega)
      have q1 : IntKind.i64.wrap ((k : Int) + 1) = ((k + 1 : Nat) : Int) := by push_cast; exact IntWalk.i64_in _ (by omega)
      have la : ba < w.heap.size := LTv.out ba rfl (by intro h; have := HN.out; rw [h] at this; simp at this; omega)
      have c1 : wr.cell? ⟨ba, oa + k, none⟩ = some (.int .i64 t) := (BK.out.cell (p := ⟨ba, oa + k, none⟩) la).trans (ca' k t hx)
      have hd := getD_of hx
      have okd := okC_at OKC.out RO.out
      have KX := Lib.hid hx
      obtain ⟨d, hdd⟩ : ∃ d, d = courseAt c ts k := ⟨_, rfl⟩
      have HD := Lib.hid hdd
      rw [← hdd] at NC okd
      have KS : Hid (∀ w', Below wr.heap.size wr w' → (w'.cell? ⟨w.heap.size, 0, none⟩ = some (.int .i64 l.m) ∧ w'.cell? ⟨w.heap.size, 1, none⟩ = some (.int .i64 l.c) ∧ w'.cell? ⟨w.heap.size + 1, 0, none⟩ = some (.int .i64 d.o) ∧ w'.cell? ⟨w.heap.size + 1, 1, none⟩ = some (.int .i64 d.h) ∧ w'.cell? ⟨w.heap.size + 1, 2, none⟩ = some (.int .i64 d.t) ∧ w'.cell? ⟨ba, oa + k, none⟩ = some (.int .i64 t))) := by
        intro w' b
        obtain ⟨⟨k0, k1⟩, -⟩ := boxLm_at ((b.block _ (box_lt NL.out)).trans NL.out)
        obtain ⟨⟨j0, j1, j2⟩, -⟩ := boxCo_at ((b.block _ (box_lt NC.out)).trans NC.out)
        exact ⟨k0, k1, j0, j1, j2, (b.cell (p := ⟨ba, oa + k, none⟩) (by show ba < wr.heap.size; omega)).trans c1⟩
      have kl : k < n := hlt
      clear ca' hx hdd
      by_cases hg : Goes l d t
      · have C := Lib.hid (fun w => l05Next_any l d t okd (nextC d t) true (.inl ⟨hg, rfl, rfl⟩) w)
        have RO2 : Hid (RunOk l c ts (k + 1)) := by
          intro i hi'
          by_cases e : i = k
          · subst e; rw [hd, ← HD.out]; exact hg
          · exact RO.out i (by omega)
        have HC : Hid (courseAt c ts (k + 1) = nextC d t) := by show nextC (courseAt c ts k) (ts.getD k 0) = _; rw [hd, HD.out]
        clear hg okd hd RO c1
        go_upto_region 5 with (fail)
        go_cut [10, 11] from 13 to 35 (fun s10 s11 wx => ∃ p : Nat, s10 = .pointer (some ⟨p, 0, none⟩) ∧ s11 = .bool true ∧ Hid (Below wr.heap.size wr wx) ∧ Hid (wx.heap[p]? = some (.cells #[.int .i64 (nextC d t).o, .int .i64 (nextC d t).h, .int .i64 (nextC d t).t] 31 (0, 0))) ∧ wr.heap.size ≤ p)
        case first =>
          go_wp2_with fail
          refine wp_region_held_drew (S := fun w' => (w'.cell? ⟨w.heap.size, 0, none⟩ = some (.int .i64 l.m) ∧ w'.cell? ⟨w.heap.size, 1, none⟩ = some (.int .i64 l.c) ∧ w'.cell? ⟨w.heap.size + 1, 0, none⟩ = some (.int .i64 d.o) ∧ w'.cell? ⟨w.heap.size + 1, 1, none⟩ = some (.int .i64 d.h) ∧ w'.cell? ⟨w.heap.size + 1, 2, none⟩ = some (.int .i64 d.t) ∧ w'.cell? ⟨ba, oa + k, none⟩ = some (.int .i64 t))) (by kernel_rfl) (KS.out _ (Below.refl _ _).drew) (fun hHeld => ?_)
          have D0 : Hid (Below wr.heap.size wr (World.drew wr)) := (Below.refl _ _).drew
          refine wpAnyH_take (i := 0) (v := ?_) (by (simp only [List.getElem?_toArray, List.getElem?_cons_succ, List.getElem?_cons_zero]); (try exact rfl)) (by kernel_rfl) (by kernel_rfl) (by kernel_rfl) (by intro _ _ _ h; exact h) (Or.inl ⟨by rfl, ?_⟩) (by assumption) ?_
          rotate_left
          · intro w hSw
            try dsimp only at hSw
            go_simp
            try with_reducible rfl
          try simp only [Act.put, List.setIfInBounds_toArray, List.set_cons_zero, List.set_cons_succ]
          refine wpAnyH_take (i := 1) (v := ?_) (by (simp only [List.getElem?_toArray, List.getElem?_cons_succ, List.getElem?_cons_zero]); (try exact rfl)) (by kernel_rfl) (by kernel_rfl) (by kernel_rfl) (by intro _ _ _ h; exact h) (Or.inl ⟨by rfl, ?_⟩) (by assumption) ?_
          rotate_left
          · intro w hSw
            try dsimp only at hSw
            go_simp
            try with_reducible rfl
          try simp only [Act.put, List.setIfInBounds_toArray, List.set_cons_zero, List.set_cons_succ]
          refine wpAnyH_take (i := 2) (v := ?_) (by (simp only [List.getElem?_toArray, List.getElem?_cons_succ, List.getElem?_cons_zero]); (try exact rfl)) (by kernel_rfl) (by kernel_rfl) (by kernel_rfl) (by intro _ _ _ h; exact h) (Or.inl ⟨by rfl, ?_⟩) (by assumption) ?_
          rotate_left
          · intro w hSw
            try dsimp only at hSw
            go_simp
            try with_reducible rfl
          try simp only [Act.put, List.setIfInBounds_toArray, List.set_cons_zero, List.set_cons_succ]
          refine wpAnyH_take (i := 3) (v := ?_) (by (simp only [List.getElem?_toArray, List.getElem?_cons_succ, List.getElem?_cons_zero]); (try exact rfl)) (by kernel_rfl) (by kernel_rfl) (by kernel_rfl) (by intro _ _ _ h; exact h) (Or.inl ⟨by rfl, ?_⟩) (by assumption) ?_
          rotate_left
          · intro w hSw
            try dsimp only at hSw
            go_simp
            try with_reducible rfl
          try simp only [Act.put, List.setIfInBounds_toArray, List.set_cons_zero, List.set_cons_succ]
          refine wpAnyH_take (i := 4) (v := ?_) (by (simp only [List.getElem?_toArray, List.getElem?_cons_succ, List.getElem?_cons_zero]); (try exact rfl)) (by kernel_rfl) (by kernel_rfl) (by kernel_rfl) (by intro _ _ _ h; exact h) (Or.inl ⟨by rfl, ?_⟩) (by assumption) ?_
          rotate_left
          · intro w hSw
            try dsimp only at hSw
            go_simp
            try with_reducible rfl
          try simp only [Act.put, List.setIfInBounds_toArray, List.set_cons_zero, List.set_cons_succ]
          refine wpAnyH_take (i := 5) (v := ?_) (by (simp only [List.getElem?_toArray, List.getElem?_cons_succ, List.getElem?_cons_zero]); (try exact rfl)) (by kernel_rfl) (by kernel_rfl) (by kernel_rfl) (by intro _ _ _ h; exact h) (Or.inl ⟨by rfl, ?_⟩) (by assumption) ?_
          rotate_left
          · intro w hSw
            try dsimp only at hSw
            go_simp
            try with_reducible rfl
          try simp only [Act.put, List.setIfInBounds_toArray, List.set_cons_zero, List.set_cons_succ]
          refine wpAnyH_ready (rs := [6, 10]) (by kernel_rfl) (by simp) ?_
          refine (AllReadyH.cons (by (simp only [List.getElem?_toArray, List.getElem?_cons_succ, List.getElem?_cons_zero]); (try exact rfl)) (fun K hK => ?_) (AllReadyH.cons (by (simp only [List.getElem?_toArray, List.getElem?_cons_succ, List.getElem?_cons_zero]); (try exact rfl)) (fun K hK => ?_) AllReadyH.nil))
          go_simp
          go_at_call 51
          refine (C.out _).mono ?_
          rintro e ua_1 ⟨rfl, bb⟩
          have Dua_1 : Hid (Below wr.heap.size wr ua_1) := Below.trans D0.out (bb.mono D0.out.size)
          clear bb
          (first | refine hK.out _ _ ?_ (fun hHeld => ?_) | (go_wp2_with fail; refine hK.out _ _ ?_ (fun hHeld => ?_)))
          · try dsimp only
            exact KS.out _ Dua_1.out
          clear hK K
          try simp only [Act.put, List.setIfInBounds_toArray, List.set_cons_zero, List.set_cons_succ]
          refine wpAnyH_take (i := 7) (v := ?_) (by (simp only [List.getElem?_toArray, List.getElem?_cons_succ, List.getElem?_cons_zero]); (try exact rfl)) (by kernel_rfl) (by kernel_rfl) (by kernel_rfl) (by intro _ _ _ h; exact h) (Or.inl ⟨by rfl, ?_⟩) (by assumption) ?_
          rotate_left
          · intro w hSw
            try dsimp only at hSw
            go_simp
            try with_reducible rfl
          try simp only [Act.put, List.setIfInBounds_toArray, List.set_cons_zero, List.set_cons_succ]
          refine wpAnyH_take (i := 8) (v := ?_) (by (simp only [List.getElem?_toArray, List.getElem?_cons_succ, List.getElem?_cons_zero]); (try exact rfl)) (by kernel_rfl) (by kernel_rfl) (by kernel_rfl) (by intro _ _ _ h; exact h) (Or.inl ⟨by rfl, ?_⟩) (by assumption) ?_
          rotate_left
          · intro w hSw
            try dsimp only at hSw
            go_simp
            try with_reducible rfl
          try simp only [Act.put, List.setIfInBounds_toArray, List.set_cons_zero, List.set_cons_succ]
          refine wpAnyH_take (i := 9) (v := ?_) (by (simp only [List.getElem?_toArray, List.getElem?_cons_succ, List.getElem?_cons_zero]); (try exact rfl)) (by kernel_rfl) (by kernel_rfl) (by kernel_rfl) (by intro _ _ _ h; exact h) (Or.inl ⟨by rfl, ?_⟩) (by assumption) ?_
          rotate_left
          · intro w hSw
            try dsimp only at hSw
            go_simp
            try with_reducible rfl
          try simp only [Act.put, List.setIfInBounds_toArray, List.set_cons_zero, List.set_cons_succ]
          refine wpAnyH_ready (rs := [10]) (by kernel_rfl) (by simp) ?_
          refine (AllReadyH.cons (by (simp only [List.getElem?_toArray, List.getElem?_cons_succ, List.getElem?_cons_zero]); (try exact rfl)) (fun K hK => ?_) AllReadyH.nil)
          go_simp
          generalize hA : World.alloc ua_1 (.cells #[.int .i64 0, .int .i64 0, .int .i64 0] 31) = aa_2
          obtain ⟨pn, hp⟩ : ∃ p, p = ua_1.heap.size := ⟨_, rfl⟩
          have ba : Below ua_1.heap.size ua_1 aa_2 := by rw [← hA]; exact Below.alloc (Below.refl _ _) (Nat.le_refl _) _
          have Znaa_2 := Lib.hid (show aa_2.heap[pn]? = some (.cells #[.int .i64 0, .int .i64 0, .int .i64 0] 31 (0, 0)) from by rw [← hA, hp]; exact heap_alloc_new _ _)
          have tpn : wr.heap.size ≤ pn := by rw [hp]; exact Dua_1.out.size
          have Daa_2 : Hid (Below wr.heap.size wr aa_2) := Below.trans Dua_1.out (ba.mono Dua_1.out.size)
          rw [← hp]
          clear hA hp ba
          (first | refine hK.out _ _ ?_ (fun hHeld => ?_) | (go_wp2_with fail; refine hK.out _ _ ?_ (fun hHeld => ?_)))
          · try dsimp only
            exact KS.out _ Daa_2.out
          clear hK K
          try simp only [Act.put, List.setIfInBounds_toArray, List.set_cons_zero, List.set_cons_succ]
          refine wpAnyH_ready (rs := [11]) (by kernel_rfl) (by simp) ?_
          refine AllReadyH.cons (by (simp only [List.getElem?_toArray, List.getElem?_cons_succ, List.getElem?_cons_zero]); (try exact rfl)) (fun K hK => ?_) AllReadyH.nil
          refine step_store_Co rfl _ _ rfl pn (⟨0, 0, 0⟩ : Co) (nextC d t) _ rfl rfl Znaa_2.out ?_
          intro ea_3 hE oE bE
          have Dea_3 : Hid (Below wr.heap.size wr ea_3) := Below.trans Daa_2.out (bE.mono tpn)
          have Znea_3 := Lib.hid hE
          clear hE oE bE
          refine hK.out _ _ ?_ (fun hHeld => ?_)
          · try dsimp only
            exact KS.out _ Dea_3.out
          clear hK K
          try simp only [Act.put, List.setIfInBounds_toArray, List.set_cons_zero, List.set_cons_succ]
          refine wpAnyH_take (i := 12) (v := ?_) (by (simp only [List.getElem?_toArray, List.getElem?_cons_succ, List.getElem?_cons_zero]); (try exact rfl)) (by kernel_rfl) (by kernel_rfl) (by kernel_rfl) (by intro _ _ _ h; exact h) (Or.inl ⟨by rfl, ?_⟩) (by assumption) ?_
          rotate_left
          · intro w hSw
            try dsimp only at hSw
            go_simp
            try with_reducible rfl
          try simp only [Act.put, List.setIfInBounds_toArray, List.set_cons_zero, List.set_cons_succ]
          refine wpAnyH_done (by kernel_rfl) ?_ _
          go_wp2_with fail
          go_meet
          exact ⟨pn, rfl, rfl, Dea_3, Znea_3, tpn⟩
          go_simp
          generalize hA : World.drew (World.alloc wr (.cells #[.int .i64 0, .int .i64 0, .int .i64 0] 31)) = aa_4
          obtain ⟨pn, hp⟩ : ∃ p, p = wr.heap.size := ⟨_, rfl⟩
          have ba : Below (World.drew wr).heap.size (World.drew wr) aa_4 := by rw [← hA]; exact (Below.alloc (Below.refl _ _) (Nat.le_refl _) _ : Below _ (World.drew wr) (World.alloc (World.drew wr) _))
          have Znaa_4 := Lib.hid (show aa_4.heap[pn]? = some (.cells #[.int .i64 0, .int .i64 0, .int .i64 0] 31 (0, 0)) from by rw [← hA, hp]; exact heap_alloc_new wr _)
          have tpn : wr.heap.size ≤ pn := by rw [hp]; exact Nat.le_refl _
          have Daa_4 : Hid (Below wr.heap.size wr aa_4) := Below.trans D0.out (ba.mono D0.out.size)
          rw [← hp]
          clear hA hp ba
          (first | refine hK.out _ _ ?_ (fun hHeld => ?_) | (go_wp2_with fail; refine hK.out _ _ ?_ (fun hHeld => ?_)))
          · try dsimp only
            exact KS.out _ Daa_4.out
          clear hK K
          try simp only [Act.put, List.setIfInBounds_toArray, List.set_cons_zero, List.set_cons_succ]
          refine wpAnyH_ready (rs := [6]) (by kernel_rfl) (by simp) ?_
          refine (AllReadyH.cons (by (simp only [List.getElem?_toArray, List.getElem?_cons_succ, List.getElem?_cons_zero]); (try exact rfl)) (fun K hK => ?_) AllReadyH.nil)
          go_simp
          go_at_call 51
          refine (C.out _).mono ?_
          rintro e ua_5 ⟨rfl, bb⟩
          have Dua_5 : Hid (Below wr.heap.size wr ua_5) := Below.trans Daa_4.out (bb.mono Daa_4.out.size)
          have Znua_5 := Lib.hid ((bb.block pn (box_lt Znaa_4.out)).trans Znaa_4.out)
          clear bb
          (first | refine hK.out _ _ ?_ (fun hHeld => ?_) | (go_wp2_with fail; refine hK.out _ _ ?_ (fun hHeld => ?_)))
          · try dsimp only
            exact KS.out _ Dua_5.out
          clear hK K
          try simp only [Act.put, List.setIfInBounds_toArray, List.set_cons_zero, List.set_cons_succ]
          refine wpAnyH_take (i := 7) (v := ?_) (by (simp only [List.getElem?_toArray, List.getElem?_cons_succ, List.getElem?_cons_zero]); (try exact rfl)) (by kernel_rfl) (by kernel_rfl) (by kernel_rfl) (by intro _ _ _ h; exact h) (Or.inl ⟨by rfl, ?_⟩) (by assumption) ?_
          rotate_left
          · intro w hSw
            try dsimp only at hSw
            go_simp
            try with_reducible rfl
          try simp only [Act.put, List.setIfInBounds_toArray, List.set_cons_zero, List.set_cons_succ]
          refine wpAnyH_take (i := 8) (v := ?_) (by (simp only [List.getElem?_toArray, List.getElem?_cons_succ, List.getElem?_cons_zero]); (try exact rfl)) (by kernel_rfl) (by kernel_rfl) (by kernel_rfl) (by intro _ _ _ h; exact h) (Or.inl ⟨by rfl, ?_⟩) (by assumption) ?_
          rotate_left
          · intro w hSw
            try dsimp only at hSw
            go_simp
            try with_reducible rfl
          try simp only [Act.put, List.setIfInBounds_toArray, List.set_cons_zero, List.set_cons_succ]
          refine wpAnyH_take (i := 9) (v := ?_) (by (simp only [List.getElem?_toArray, List.getElem?_cons_succ, List.getElem?_cons_zero]); (try exact rfl)) (by kernel_rfl) (by kernel_rfl) (by kernel_rfl) (by intro _ _ _ h; exact h) (Or.inl ⟨by rfl, ?_⟩) (by assumption) ?_
          rotate_left
          · intro w hSw
            try dsimp only at hSw
            go_simp
            try with_reducible rfl
          try simp only [Act.put, List.setIfInBounds_toArray, List.set_cons_zero, List.set_cons_succ]
          refine wpAnyH_ready (rs := [11]) (by kernel_rfl) (by simp) ?_
          refine AllReadyH.cons (by (simp only [List.getElem?_toArray, List.getElem?_cons_succ, List.getElem?_cons_zero]); (try exact rfl)) (fun K hK => ?_) AllReadyH.nil
          refine step_store_Co rfl _ _ rfl pn (⟨0, 0, 0⟩ : Co) (nextC d t) _ rfl rfl Znua_5.out ?_
          intro ea_6 hE oE bE
          have Dea_6 : Hid (Below wr.heap.size wr ea_6) := Below.trans Dua_5.out (bE.mono tpn)
          have Znea_6 := Lib.hid hE
          clear hE oE bE
          refine hK.out _ _ ?_ (fun hHeld => ?_)
          · try dsimp only
            exact KS.out _ Dea_6.out
          clear hK K
          try simp only [Act.put, List.setIfInBounds_toArray, List.set_cons_zero, List.set_cons_succ]
          refine wpAnyH_take (i := 12) (v := ?_) (by (simp only [List.getElem?_toArray, List.getElem?_cons_succ, List.getElem?_cons_zero]); (try exact rfl)) (by kernel_rfl) (by kernel_rfl) (by kernel_rfl) (by intro _ _ _ h; exact h) (Or.inl ⟨by rfl, ?_⟩) (by assumption) ?_
          rotate_left
          · intro w hSw
            try dsimp only at hSw
            go_simp
            try with_reducible rfl
          try simp only [Act.put, List.setIfInBounds_toArray, List.set_cons_zero, List.set_cons_succ]
          refine wpAnyH_done (by kernel_rfl) ?_ _
          go_wp2_with fail
          go_meet
          exact ⟨pn, rfl, rfl, Dea_6, Znea_6, tpn⟩
        case rest =>
          obtain ⟨p, rfl, rfl, DX, PX, tp⟩ := hcut
          obtain ⟨wx, hwx⟩ : ∃ x, x = wc := ⟨_, rfl⟩
          rw [← hwx] at DX PX
          rw [← hwx]
          clear hwx C KS
          have szx := DX.out.size
          obtain ⟨⟨e0, e1, e2⟩, -, lp⟩ := boxCo_at (q := nextC d t) PX.out
          have O2 : Hid (OwnS 31 3 encCo wx (w.heap.size + 2) (.slice (some ⟨ag, 0, none⟩) k cap0) (coursesTo c ts k)) := OK.out.later DX.out
          have agl := O2.out.lt ag rfl
          have B2 : Hid (Below w.heap.size w wx) := BK.out.trans (DX.out.mono (by omega))
          have NL2 := Lib.hid ((DX.out.block _ (box_lt NL.out)).trans NL.out)
          have NC2 := Lib.hid ((DX.out.block _ (box_lt NC.out)).trans NC.out)
          have pag : ¬ p = ag := by have := (OK.out.lt ag rfl).2; omega
          have own := O2.out
          unfold OwnS at own
          rw [coursesTo_len] at own
          have OWN := Lib.hid own
          clear own OK BK NL NC DX
          go_wp2_with (first | (at_builtin; refine wpList_append_lies _ rfl _ _ _ rfl (w.heap.size + 2) 31 i0 _ 3 24 Try.underlying43 hi hz0 hz1 hz2 rfl (by omega) _ _ _ rfl (OWN.out.alloc _) ⟨wx.heap.size, 0, none⟩ 1 1 [.int .i64 (nextC d t).o, .int .i64 (nextC d t).h, .int .i64 (nextC d t).t] rfl rfl (World.news_of_block (cs := #[.int .i64 (nextC d t).o, .int .i64 (nextC d t).h, .int .i64 (nextC d t).t]) (t := 31) (fr := (0, 0)) (heap_alloc_new wx _)) (by simp [Value.oneCell']) (by omega) (by unfold maxLen; omega) (by omega) (by simp only [World.size_alloc]; omega) _ rfl ?_) | fail)
          intro gg cap1 w5 hown1 hgrow hat hlt'
          have O5 : Hid (OwnS 31 3 encCo w5 (w.heap.size + 2) (.slice (some ⟨gg, 0, none⟩) (k + 1) cap1) (coursesTo c ts (k + 1))) := by
            show OwnS _ _ _ _ _ _ _
            unfold OwnS
            rw [coursesTo_len, coursesTo_succ, HC.out, List.flatMap_append]
            exact hown1
          have gr := grownBy_trans' (World.grownBy_alloc wx _ _) hgrow
          have B5 : Hid (Below w.heap.size w w5) := B2.out.grown gr (by omega) (fun j e => by have := (O2.out.lt j e).1; omega)
          have NL5 := Lib.hid ((gr.block w.heap.size (by omega) (fun e => by have := (O2.out.lt _ e.symm).1; omega)).trans NL2.out)
          have NC5 := (gr.block (w.heap.size + 1) (by omega) (fun e => by have := (O2.out.lt _ e.symm).1; omega)).trans NC2.out
          have PX5 := (gr.block p lp (fun e => pag (by simpa [Value.ownBlock] using e))).trans PX.out
          have sz5 : w.heap.size + 2 ≤ w5.heap.size := by have := box_lt NC5; have := gr.size; omega
          clear hown1 hgrow hat hlt' OWN O2 B2 gr e0 e1 e2 NL2 NC2 PX
          obtain ⟨⟨e0, e1, e2⟩, -, -⟩ := boxCo_at (q := nextC d t) PX5
          obtain ⟨⟨f0, f1, f2⟩, ⟨z0, z1, z2⟩, -⟩ := boxCo_at (q := d) NC5
          have NC6 := boxCo_put NC5 (nextC d t)
          rw [← HC.out] at NC6
          have NC7 := Lib.hid NC6
          have O6 := Lib.hid (((O5.out.setBelow (a := ⟨w.heap.size + 1, 0, none⟩) (by show w.heap.size + 1 < _; omega) (.int .i64 (courseAt c ts (k + 1)).o)).setBelow (a := ⟨w.heap.size + 1, 1, none⟩) (by show w.heap.size + 1 < _; omega) (.int .i64 (courseAt c ts (k + 1)).h)).setBelow (a := ⟨w.heap.size + 1, 2, none⟩) (by show w.heap.size + 1 < _; omega) (.int .i64 (courseAt c ts (k + 1)).t))
          have B6 := Lib.hid (((B5.out.setCell (p := ⟨w.heap.size + 1, 0, none⟩) (by show w.heap.size ≤ w.heap.size + 1; omega) (.int .i64 (courseAt c ts (k + 1)).o)).setCell (p := ⟨w.heap.size + 1, 1, none⟩) (by show w.heap.size ≤ w.heap.size + 1; omega) (.int .i64 (courseAt c ts (k + 1)).h)).setCell (p := ⟨w.heap.size + 1, 2, none⟩) (by show w.heap.size ≤ w.heap.size + 1; omega) (.int .i64 (courseAt c ts (k + 1)).t))
          have NL6 := Lib.hid ((boxCo_other (w := w5) (g := w.heap.size + 1) (courseAt c ts (k + 1)) w.heap.size (by omega)).trans NL5.out)
          rw [HC.out] at O6 B6 NL6 NC7
          clear NC6 NC5 PX5 O5 B5 NL5
          go_wp2
          exact ⟨⟨k + 1, by omega, by push_cast; rfl, ⟨_, _, _, rfl⟩, O6, B6, NL6, (by show Hid _; rw [HC.out]; exact NC7), RO2⟩, by simp only [intOf]; omega⟩
      · have C := Lib.hid (fun w => l05Next_any l d t okd noC false (.inr ⟨hg, rfl, rfl⟩) w)
        obtain ⟨rfl, rfl⟩ := runRes_no H.out (fun g => hg (by have := g k (by have := HN.out; omega); rw [hd, ← HD.out] at this; exact this))
        clear hg okd hd RO c1
        go_upto_region 5 with (fail)
        go_cut [10, 11] from 13 to 35 (fun s10 s11 wx => ∃ p : Nat, s10 = .pointer (some ⟨p, 0, none⟩) ∧ s11 = .bool false ∧ Hid (Below wr.heap.size wr wx))
        case first =>
          go_wp2_with fail
          refine wp_region_held_drew (S := fun w' => (w'.cell? ⟨w.heap.size, 0, none⟩ = some (.int .i64 l.m) ∧ w'.cell? ⟨w.heap.size, 1, none⟩ = some (.int .i64 l.c) ∧ w'.cell? ⟨w.heap.size + 1, 0, none⟩ = some (.int .i64 d.o) ∧ w'.cell? ⟨w.heap.size + 1, 1, none⟩ = some (.int .i64 d.h) ∧ w'.cell? ⟨w.heap.size + 1, 2, none⟩ = some (.int .i64 d.t) ∧ w'.cell? ⟨ba, oa + k, none⟩ = some (.int .i64 t))) (by kernel_rfl) (KS.out _ (Below.refl _ _).drew) (fun hHeld => ?_)
          have D0 : Hid (Below wr.heap.size wr (World.drew wr)) := (Below.refl _ _).drew
          refine wpAnyH_take (i := 0) (v := ?_) (by (simp only [List.getElem?_toArray, List.getElem?_cons_succ, List.getElem?_cons_zero]); (try exact rfl)) (by kernel_rfl) (by kernel_rfl) (by kernel_rfl) (by intro _ _ _ h; exact h) (Or.inl ⟨by rfl, ?_⟩) (by assumption) ?_
          rotate_left
          · intro w hSw
            try dsimp only at hSw
            go_simp
            try with_reducible rfl
          try simp only [Act.put, List.setIfInBounds_toArray, List.set_cons_zero, List.set_cons_succ]
          refine wpAnyH_take (i := 1) (v := ?_) (by (simp only [List.getElem?_toArray, List.getElem?_cons_succ, List.getElem?_cons_zero]); (try exact rfl)) (by kernel_rfl) (by kernel_rfl) (by kernel_rfl) (by intro _ _ _ h; exact h) (Or.inl ⟨by rfl, ?_⟩) (by assumption) ?_
          rotate_left
          · intro w hSw
            try dsimp only at hSw
            go_simp
            try with_reducible rfl
          try simp only [Act.put, List.setIfInBounds_toArray, List.set_cons_zero, List.set_cons_succ]
          refine wpAnyH_take (i := 2) (v := ?_) (by (simp only [List.getElem?_toArray, List.getElem?_cons_succ, List.getElem?_cons_zero]); (try exact rfl)) (by kernel_rfl) (by kernel_rfl) (by kernel_rfl) (by intro _ _ _ h; exact h) (Or.inl ⟨by rfl, ?_⟩) (by assumption) ?_
          rotate_left
          · intro w hSw
            try dsimp only at hSw
            go_simp
            try with_reducible rfl
          try simp only [Act.put, List.setIfInBounds_toArray, List.set_cons_zero, List.set_cons_succ]
          refine wpAnyH_take (i := 3) (v := ?_) (by (simp only [List.getElem?_toArray, List.getElem?_cons_succ, List.getElem?_cons_zero]); (try exact rfl)) (by kernel_rfl) (by kernel_rfl) (by kernel_rfl) (by intro _ _ _ h; exact h) (Or.inl ⟨by rfl, ?_⟩) (by assumption) ?_
          rotate_left
          · intro w hSw
            try dsimp only at hSw
            go_simp
            try with_reducible rfl
          try simp only [Act.put, List.setIfInBounds_toArray, List.set_cons_zero, List.set_cons_succ]
          refine wpAnyH_take (i := 4) (v := ?_) (by (simp only [List.getElem?_toArray, List.getElem?_cons_succ, List.getElem?_cons_zero]); (try exact rfl)) (by kernel_rfl) (by kernel_rfl) (by kernel_rfl) (by intro _ _ _ h; exact h) (Or.inl ⟨by rfl, ?_⟩) (by assumption) ?_
          rotate_left
          · intro w hSw
            try dsimp only at hSw
            go_simp
            try with_reducible rfl
          try simp only [Act.put, List.setIfInBounds_toArray, List.set_cons_zero, List.set_cons_succ]
          refine wpAnyH_take (i := 5) (v := ?_) (by (simp only [List.getElem?_toArray, List.getElem?_cons_succ, List.getElem?_cons_zero]); (try exact rfl)) (by kernel_rfl) (by kernel_rfl) (by kernel_rfl) (by intro _ _ _ h; exact h) (Or.inl ⟨by rfl, ?_⟩) (by assumption) ?_
          rotate_left
          · intro w hSw
            try dsimp only at hSw
            go_simp
            try with_reducible rfl
          try simp only [Act.put, List.setIfInBounds_toArray, List.set_cons_zero, List.set_cons_succ]
          refine wpAnyH_ready (rs := [6, 10]) (by kernel_rfl) (by simp) ?_
          refine (AllReadyH.cons (by (simp only [List.getElem?_toArray, List.getElem?_cons_succ, List.getElem?_cons_zero]); (try exact rfl)) (fun K hK => ?_) (AllReadyH.cons (by (simp only [List.getElem?_toArray, List.getElem?_cons_succ, List.getElem?_cons_zero]); (try exact rfl)) (fun K hK => ?_) AllReadyH.nil))
          go_simp
          go_at_call 51
          refine (C.out _).mono ?_
          rintro e ub_1 ⟨rfl, bb⟩
          have Dub_1 : Hid (Below wr.heap.size wr ub_1) := Below.trans D0.out (bb.mono D0.out.size)
          clear bb
          (first | refine hK.out _ _ ?_ (fun hHeld => ?_) | (go_wp2_with fail; refine hK.out _ _ ?_ (fun hHeld => ?_)))
          · try dsimp only
            exact KS.out _ Dub_1.out
          clear hK K
          try simp only [Act.put, List.setIfInBounds_toArray, List.set_cons_zero, List.set_cons_succ]
          refine wpAnyH_take (i := 7) (v := ?_) (by (simp only [List.getElem?_toArray, List.getElem?_cons_succ, List.getElem?_cons_zero]); (try exact rfl)) (by kernel_rfl) (by kernel_rfl) (by kernel_rfl) (by intro _ _ _ h; exact h) (Or.inl ⟨by rfl, ?_⟩) (by assumption) ?_
          rotate_left
          · intro w hSw
            try dsimp only at hSw
            go_simp
            try with_reducible rfl
          try simp only [Act.put, List.setIfInBounds_toArray, List.set_cons_zero, List.set_cons_succ]
          refine wpAnyH_take (i := 8) (v := ?_) (by (simp only [List.getElem?_toArray, List.getElem?_cons_succ, List.getElem?_cons_zero]); (try exact rfl)) (by kernel_rfl) (by kernel_rfl) (by kernel_rfl) (by intro _ _ _ h; exact h) (Or.inl ⟨by rfl, ?_⟩) (by assumption) ?_
          rotate_left
          · intro w hSw
            try dsimp only at hSw
            go_simp
            try with_reducible rfl
          try simp only [Act.put, List.setIfInBounds_toArray, List.set_cons_zero, List.set_cons_succ]
          refine wpAnyH_take (i := 9) (v := ?_) (by (simp only [List.getElem?_toArray, List.getElem?_cons_succ, List.getElem?_cons_zero]); (try exact rfl)) (by kernel_rfl) (by kernel_rfl) (by kernel_rfl) (by intro _ _ _ h; exact h) (Or.inl ⟨by rfl, ?_⟩) (by assumption) ?_
          rotate_left
          · intro w hSw
            try dsimp only at hSw
            go_simp
            try with_reducible rfl
          try simp only [Act.put, List.setIfInBounds_toArray, List.set_cons_zero, List.set_cons_succ]
          refine wpAnyH_ready (rs := [10]) (by kernel_rfl) (by simp) ?_
          refine (AllReadyH.cons (by (simp only [List.getElem?_toArray, List.getElem?_cons_succ, List.getElem?_cons_zero]); (try exact rfl)) (fun K hK => ?_) AllReadyH.nil)
          go_simp
          generalize hA : World.alloc ub_1 (.cells #[.int .i64 0, .int .i64 0, .int .i64 0] 31) = ab_2
          obtain ⟨pn, hp⟩ : ∃ p, p = ub_1.heap.size := ⟨_, rfl⟩
          have ba : Below ub_1.heap.size ub_1 ab_2 := by rw [← hA]; exact Below.alloc (Below.refl _ _) (Nat.le_refl _) _
          have Znab_2 := Lib.hid (show ab_2.heap[pn]? = some (.cells #[.int .i64 0, .int .i64 0, .int .i64 0] 31 (0, 0)) from by rw [← hA, hp]; exact heap_alloc_new _ _)
          have tpn : wr.heap.size ≤ pn := by rw [hp]; exact Dub_1.out.size
          have Dab_2 : Hid (Below wr.heap.size wr ab_2) := Below.trans Dub_1.out (ba.mono Dub_1.out.size)
          rw [← hp]
          clear hA hp ba
          (first | refine hK.out _ _ ?_ (fun hHeld => ?_) | (go_wp2_with fail; refine hK.out _ _ ?_ (fun hHeld => ?_)))
          · try dsimp only
            exact KS.out _ Dab_2.out
          clear hK K
          try simp only [Act.put, List.setIfInBounds_toArray, List.set_cons_zero, List.set_cons_succ]
          refine wpAnyH_ready (rs := [11]) (by kernel_rfl) (by simp) ?_
          refine AllReadyH.cons (by (simp only [List.getElem?_toArray, List.getElem?_cons_succ, List.getElem?_cons_zero]); (try exact rfl)) (fun K hK => ?_) AllReadyH.nil
          refine step_store_Co rfl _ _ rfl pn (⟨0, 0, 0⟩ : Co) noC _ rfl rfl Znab_2.out ?_
          intro eb_3 hE oE bE
          have Deb_3 : Hid (Below wr.heap.size wr eb_3) := Below.trans Dab_2.out (bE.mono tpn)
          have Zneb_3 := Lib.hid hE
          clear hE oE bE
          refine hK.out _ _ ?_ (fun hHeld => ?_)
          · try dsimp only
            exact KS.out _ Deb_3.out
          clear hK K
          try simp only [Act.put, List.setIfInBounds_toArray, List.set_cons_zero, List.set_cons_succ]
          refine wpAnyH_take (i := 12) (v := ?_) (by (simp only [List.getElem?_toArray, List.getElem?_cons_succ, List.getElem?_cons_zero]); (try exact rfl)) (by kernel_rfl) (by kernel_rfl) (by kernel_rfl) (by intro _ _ _ h; exact h) (Or.inl ⟨by rfl, ?_⟩) (by assumption) ?_
          rotate_left
          · intro w hSw
            try dsimp only at hSw
            go_simp
            try with_reducible rfl
          try simp only [Act.put, List.setIfInBounds_toArray, List.set_cons_zero, List.set_cons_succ]
          refine wpAnyH_done (by kernel_rfl) ?_ _
          go_wp2_with fail
          go_meet
          exact ⟨pn, rfl, rfl, Deb_3⟩
          go_simp
          generalize hA : World.drew (World.alloc wr (.cells #[.int .i64 0, .int .i64 0, .int .i64 0] 31)) = ab_4
          obtain ⟨pn, hp⟩ : ∃ p, p = wr.heap.size := ⟨_, rfl⟩
          have ba : Below (World.drew wr).heap.size (World.drew wr) ab_4 := by rw [← hA]; exact (Below.alloc (Below.refl _ _) (Nat.le_refl _) _ : Below _ (World.drew wr) (World.alloc (World.drew wr) _))
          have Znab_4 := Lib.hid (show ab_4.heap[pn]? = some (.cells #[.int .i64 0, .int .i64 0, .int .i64 0] 31 (0, 0)) from by rw [← hA, hp]; exact heap_alloc_new wr _)
          have tpn : wr.heap.size ≤ pn := by rw [hp]; exact Nat.le_refl _
          have Dab_4 : Hid (Below wr.heap.size wr ab_4) := Below.trans D0.out (ba.mono D0.out.size)
          rw [← hp]
          clear hA hp ba
          (first | refine hK.out _ _ ?_ (fun hHeld => ?_) | (go_wp2_with fail; refine hK.out _ _ ?_ (fun hHeld => ?_)))
          · try dsimp only
            exact KS.out _ Dab_4.out
          clear hK K
          try simp only [Act.put, List.setIfInBounds_toArray, List.set_cons_zero, List.set_cons_succ]
          refine wpAnyH_ready (rs := [6]) (by kernel_rfl) (by simp) ?_
          refine (AllReadyH.cons (by (simp only [List.getElem?_toArray, List.getElem?_cons_succ, List.getElem?_cons_zero]); (try exact rfl)) (fun K hK => ?_) AllReadyH.nil)
          go_simp
          go_at_call 51
          refine (C.out _).mono ?_
          rintro e ub_5 ⟨rfl, bb⟩
          have Dub_5 : Hid (Below wr.heap.size wr ub_5) := Below.trans Dab_4.out (bb.mono Dab_4.out.size)
          have Znub_5 := Lib.hid ((bb.block pn (box_lt Znab_4.out)).trans Znab_4.out)
          clear bb
          (first | refine hK.out _ _ ?_ (fun hHeld => ?_) | (go_wp2_with fail; refine hK.out _ _ ?_ (fun hHeld => ?_)))
          · try dsimp only
            exact KS.out _ Dub_5.out
          clear hK K
          try simp only [Act.put, List.setIfInBounds_toArray, List.set_cons_zero, List.set_cons_succ]
          refine wpAnyH_take (i := 7) (v := ?_) (by (simp only [List.getElem?_toArray, List.getElem?_cons_succ, List.getElem?_cons_zero]); (try exact rfl)) (by kernel_rfl) (by kernel_rfl) (by kernel_rfl) (by intro _ _ _ h; exact h) (Or.inl ⟨by rfl, ?_⟩) (by assumption) ?_
          rotate_left
          · intro w hSw
            try dsimp only at hSw
            go_simp
            try with_reducible rfl
          try simp only [Act.put, List.setIfInBounds_toArray, List.set_cons_zero, List.set_cons_succ]
          refine wpAnyH_take (i := 8) (v := ?_) (by (simp only [List.getElem?_toArray, List.getElem?_cons_succ, List.getElem?_cons_zero]); (try exact rfl)) (by kernel_rfl) (by kernel_rfl) (by kernel_rfl) (by intro _ _ _ h; exact h) (Or.inl ⟨by rfl, ?_⟩) (by assumption) ?_
          rotate_left
          · intro w hSw
            try dsimp only at hSw
            go_simp
            try with_reducible rfl
          try simp only [Act.put, List.setIfInBounds_toArray, List.set_cons_zero, List.set_cons_succ]
          refine wpAnyH_take (i := 9) (v := ?_) (by (simp only [List.getElem?_toArray, List.getElem?_cons_succ, List.getElem?_cons_zero]); (try exact rfl)) (by kernel_rfl) (by kernel_rfl) (by kernel_rfl) (by intro _ _ _ h; exact h) (Or.inl ⟨by rfl, ?_⟩) (by assumption) ?_
          rotate_left
          · intro w hSw
            try dsimp only at hSw
            go_simp
            try with_reducible rfl
          try simp only [Act.put, List.setIfInBounds_toArray, List.set_cons_zero, List.set_cons_succ]
          refine wpAnyH_ready (rs := [11]) (by kernel_rfl) (by simp) ?_
          refine AllReadyH.cons (by (simp only [List.getElem?_toArray, List.getElem?_cons_succ, List.getElem?_cons_zero]); (try exact rfl)) (fun K hK => ?_) AllReadyH.nil
          refine step_store_Co rfl _ _ rfl pn (⟨0, 0, 0⟩ : Co) noC _ rfl rfl Znub_5.out ?_
          intro eb_6 hE oE bE
          have Deb_6 : Hid (Below wr.heap.size wr eb_6) := Below.trans Dub_5.out (bE.mono tpn)
          have Zneb_6 := Lib.hid hE
          clear hE oE bE
          refine hK.out _ _ ?_ (fun hHeld => ?_)
          · try dsimp only
            exact KS.out _ Deb_6.out
          clear hK K
          try simp only [Act.put, List.setIfInBounds_toArray, List.set_cons_zero, List.set_cons_succ]
          refine wpAnyH_take (i := 12) (v := ?_) (by (simp only [List.getElem?_toArray, List.getElem?_cons_succ, List.getElem?_cons_zero]); (try exact rfl)) (by kernel_rfl) (by kernel_rfl) (by kernel_rfl) (by intro _ _ _ h; exact h) (Or.inl ⟨by rfl, ?_⟩) (by assumption) ?_
          rotate_left
          · intro w hSw
            try dsimp only at hSw
            go_simp
            try with_reducible rfl
          try simp only [Act.put, List.setIfInBounds_toArray, List.set_cons_zero, List.set_cons_succ]
          refine wpAnyH_done (by kernel_rfl) ?_ _
          go_wp2_with fail
          go_meet
          exact ⟨pn, rfl, rfl, Deb_6⟩
        case rest =>
          obtain ⟨p, rfl, rfl, DX⟩ := hcut
          obtain ⟨wx, hwx⟩ : ∃ x, x = wc := ⟨_, rfl⟩
          rw [← hwx] at DX
          rw [← hwx]
          clear hwx C KS
          have B2 : Hid (Below w.heap.size w wx) := BK.out.trans (DX.out.mono (by omega))
          go_wp2
          go_ret2
          exact ⟨_, rfl, World.ownsRow_nil _ _ _ _, B2.out⟩
    · obtain rfl : k = n := by omega
      obtain ⟨rfl, rfl⟩ := runRes_yes H.out (by rw [← HN.out]; exact RO.out)
      have OK2 : Hid (OwnS 31 3 encCo wr (w.heap.size + 2) (.slice (some ⟨ag, 0, none⟩) k cap0) (coursesTo c ts ts.length)) := by rw [← HN.out]; exact OK
      clear OK
      go_wp2
      go_ret2
      exact ⟨_, rfl, OK2.out.mono (by omega), BK.out⟩
end Go.Proofs.Ytkdecpnbbpmooaa
