/- The turns that can be taken, and the courses that can follow. -/
import Derived.Test.YtkdecpnbbpmooaaSteerX
import Derived.Test.YtkdecpnbbpmooaaGoods
import Derived.Deep.AppendLies
import Derived.Deep.DeepCutAuto
namespace Go.Proofs.Ytkdecpnbbpmooaa
open Go.ChangeShapes Go.WideShapes Go.ChangeAt Go.RowKit
set_option linter.unusedVariables false
set_option linter.unusedSimpArgs false

theorem goes_dec (l : Lm) (c : Co) : ∃ P : Int → Bool, ∀ t, P t = true ↔ Goes l c t := by
  refine ⟨fun t => @decide (Goes l c t) (Classical.propDecidable _), fun t => ?_⟩
  simp
theorem nextRes_P {Q : Prop} {b : Bool} (c : Co) (t : Int) (h : b = true ↔ Q) : ∃ o, NextRes Q c t o b ∧ (b = true → o = nextC c t) := by
  cases hb : b with
  | true => exact ⟨nextC c t, .inl ⟨h.mp hb, rfl, rfl⟩, fun _ => rfl⟩
  | false => exact ⟨noC, .inr ⟨fun q => (by have := h.mpr q; rw [hb] at this; cases this), rfl, rfl⟩, fun e => by cases e⟩
/-- The courses that can follow, in ascending order of their turns. -/
def follows (l : Lm) (c : Co) (P : Int → Bool) (N : Nat) : List Co := (goodL (-l.m) P N).map (nextC c)
theorem info_i64' : (Try.prog.info? 2).map (fun i => (i.zero, i.size, i.bytes)) = some (some (.int .i64 0), 1, 8) := by kernel_rfl
theorem info_Co' : (Try.prog.info? 31).map (fun i => (i.zero, i.size, i.bytes)) = some (some (.agg #[.int .i64 0, .int .i64 0, .int .i64 0]), 3, 24) := by kernel_rfl
theorem cbox2 (w : World) (o p : Obj) : ((w.alloc o).alloc p).heap[w.heap.size + 1]? = some p := by
  have h := heap_alloc_new (w.alloc o) p
  rwa [World.size_alloc] at h
theorem ownI_none (w : World) : OwnI (w.alloc (.cells #[] 2)) w.heap.size (.slice (some ⟨w.heap.size, 0, none⟩) 0 0) [] := by
  refine ⟨by simp, .inr ⟨w.heap.size, 0, _, rfl, Nat.le_refl _, heap_alloc_new w _, Nat.le_refl _, by unfold maxLen; omega, by simp, by simp⟩⟩

set_option maxRecDepth 100000 in
set_option maxHeartbeats 4000000 in
theorem specTurns_yes (l : Lm) (c : Co) (ok : OkC l c) (P : Int → Bool) (hP : ∀ t, P t = true ↔ Goes l c t) (N : Nat) (hN : (N : Int) = 2 * l.m + 1) (w : World) :
    Calls Try.prog 21 #[(.agg #[.int .i64 l.m, .int .i64 l.c]), (.agg #[.int .i64 c.o, .int .i64 c.h, .int .i64 c.t])] w fun e w' => ∃ v, e = .returned (.tuple #[v, .bool true]) ∧ OwnI w' w.heap.size v (goodL (-l.m) P N) ∧ Below w.heap.size w w' := by
  obtain ⟨i0, hi, hz0, hz1, hz2⟩ := info_parts info_i64'
  have lm := ok.1.1
  obtain ⟨m1, m2⟩ := lm
  have C1 := Lib.hid (fun w => l05Is_any l c true ⟨fun _ => ok, fun _ => rfl⟩ w)
  have C2 : Hid (∀ (t : Int), ∃ o : Co, ∀ w : World, Calls Try.prog 51 #[(.agg #[.int .i64 l.m, .int .i64 l.c]), (.agg #[.int .i64 c.o, .int .i64 c.h, .int .i64 c.t]), .int .i64 t] w fun e w' => e = .returned (.tuple #[(.agg #[.int .i64 o.o, .int .i64 o.h, .int .i64 o.t]), .bool (P t)]) ∧ Below w.heap.size w w') := by
    intro t
    obtain ⟨o, h, -⟩ := nextRes_P c t (hP t)
    exact ⟨o, fun w => l05Next_any l c t ok o (P t) h w⟩
  have HN := Lib.hid hN
  clear ok hP hN
  go_enter Try.func21, Try.ntmps21
  go_wp2_with fail
  refine (C1.out _).mono ?_
  rintro e u ⟨rfl, b1⟩
  have su : w.heap.size + 2 ≤ u.heap.size := by have := b1.size; simp only [World.size_alloc] at this; omega
  have BU : Hid (Below w.heap.size w u) := Below.trans (by go_grown) (b1.mono (by simp only [World.size_alloc]; omega))
  have NL := Lib.hid ((b1.block (w.heap.size) (by simp only [World.size_alloc]; omega)).trans (boxN2_0 w _ _))
  have NC := Lib.hid ((b1.block (w.heap.size + 1) (by simp only [World.size_alloc]; omega)).trans (boxN2_1 w _ _))
  clear b1 C1
  obtain ⟨⟨k0, k1⟩, -⟩ := boxLm_at NL.out
  have own0 : Hid (OwnI (u.alloc (.cells #[] 2)) u.heap.size (.slice (some ⟨u.heap.size, 0, none⟩) 0 0) (goodL (-l.m) P 0)) := ownI_none u
  have B0 : Hid (Below u.heap.size u (u.alloc (.cells #[] 2))) := by show Below _ _ _; go_grown
  have nz1 : ¬ w.heap.size = u.heap.size := by omega
  have nl1 : w.heap.size < u.heap.size := by omega
  go_wp2
  clear k0 k1 nz1 nl1
  go_loopw [6, 7] (fun v i wr => ∃ k : Nat, k ≤ N ∧ i = .int .i64 (-l.m + (k : Int)) ∧ (∃ ag n cap, v = .slice (some ⟨ag, 0, none⟩) n cap) ∧ Hid (OwnI wr u.heap.size v (goodL (-l.m) P k)) ∧ Hid (Below u.heap.size u wr)) (fun _ i _ => N - (intOf i + l.m).toNat)
  case atStart => exact ⟨0, by omega, by simp, ⟨_, _, _, rfl⟩, own0, B0⟩
  case round =>
    obtain ⟨k, hk, rfl, ⟨ag, L, cap0, rfl⟩, OK, BK⟩ := hrel
    clear own0 B0
    have hL : L = (goodL (-l.m) P k).length := by
      obtain ⟨a, c, h, _⟩ := OK.out.rd
      simp only [Value.slice.injEq] at h
      exact h.2.1
    have lN : N ≤ 7 := by have := HN.out; omega
    have lL : L ≤ 100 := by have := goodL_len (-l.m) P k; omega
    have HL := Lib.hid hL
    clear hL
    obtain ⟨⟨k0, k1⟩, -⟩ := boxLm_at ((BK.out.block _ (by omega)).trans NL.out)
    obtain ⟨⟨j0, j1, j2⟩, -⟩ := boxCo_at ((BK.out.block _ (by omega)).trans NC.out)
    have sz := BK.out.size
    by_cases hlt : k < N
    · have le : -l.m + (k : Int) ≤ l.m := by have := HN.out; omega
      have q1 : IntKind.i64.wrap (-l.m + (k : Int) + 1) = -l.m + ((k + 1 : Nat) : Int) := by push_cast; rw [← Int.add_assoc]; exact IntWalk.i64_in _ (by omega)
      obtain ⟨o, C⟩ := C2.out (-l.m + (k : Int))
      have agl := (OK.out.lt ag rfl)
      cases hp : P (-l.m + (k : Int)) with
      | true =>
        rw [hp] at C
        have C3 := Lib.hid C
        have GS : Hid (goodL (-l.m) P (k + 1) = goodL (-l.m) P k ++ [-l.m + (k : Int)]) := goodL_yes _ _ _ hp
        clear C hp
        go_wp2_with fail
        refine (C3.out _).mono ?_
        rintro e w2 ⟨rfl, b2⟩
        have z2 := b2.size
        have O2 : Hid (OwnI w2 u.heap.size (.slice (some ⟨ag, 0, none⟩) L cap0) (goodL (-l.m) P k)) := OK.out.below b2 fun j e => (OK.out.lt j e).2
        have B2 : Hid (Below u.heap.size u w2) := BK.out.trans (b2.mono sz)
        have own := O2.out
        unfold OwnI at own
        rw [← HL.out] at own
        have OWN := Lib.hid own
        clear own b2 OK BK C3 k0 k1 j0 j1 j2
        go_wp2_with (at_builtin; refine wpList_append_lies _ rfl _ _ _ rfl u.heap.size 2 i0 _ 1 8 Try.underlying38 hi hz0 hz1 hz2 rfl (by omega) _ _ _ rfl ((OWN.out.alloc _).alloc _) ⟨w2.heap.size + 1, 0, none⟩ 1 1 [.int .i64 (-l.m + (k : Int))] rfl rfl (World.news_of_block (cs := #[.int .i64 (-l.m + (k : Int))]) (t := 2) (fr := (0, 0)) (cbox2 w2 _ _)) (by simp [Value.oneCell']) (by omega) (by unfold maxLen; omega) (by omega) (by simp only [World.size_alloc]; omega) _ rfl ?_)
        intro gg cap1 w5 hown1 hgrow hat hlt'
        have O5 : Hid (OwnI w5 u.heap.size (.slice (some ⟨gg, 0, none⟩) (L + 1) cap1) (goodL (-l.m) P (k + 1))) := by
          show OwnI _ _ _ _
          unfold OwnI
          rw [GS.out, List.length_append, ← HL.out, List.map_append]
          exact hown1
        have gr := grownBy_trans' (grownBy_trans' (World.grownBy_alloc w2 _ _) (World.grownBy_alloc _ _ _)) hgrow
        have B5 : Hid (Below u.heap.size u w5) := B2.out.grown gr (by omega) (fun j e => (O2.out.lt j e).1)
        clear hown1 hgrow hat hlt' OWN O2 B2 gr
        go_wp2
        exact ⟨⟨k + 1, by omega, by push_cast; rfl, ⟨_, _, _, rfl⟩, O5, B5⟩, by simp only [intOf]; omega⟩
      | false =>
        rw [hp] at C
        have C3 := Lib.hid C
        have GS : Hid (goodL (-l.m) P (k + 1) = goodL (-l.m) P k) := goodL_no _ _ _ hp
        clear C hp
        go_wp2_with fail
        refine (C3.out _).mono ?_
        rintro e w2 ⟨rfl, b2⟩
        have z2 := b2.size
        have O2 : Hid (OwnI w2 u.heap.size (.slice (some ⟨ag, 0, none⟩) L cap0) (goodL (-l.m) P k)) := OK.out.below b2 fun j e => (OK.out.lt j e).2
        have B2 : Hid (Below u.heap.size u w2) := BK.out.trans (b2.mono sz)
        clear b2 OK BK C3 k0 k1 j0 j1 j2
        have O3 : Hid (OwnI (w2.alloc (.cells #[.int .i64 o.o, .int .i64 o.h, .int .i64 o.t] 31)) u.heap.size (.slice (some ⟨ag, 0, none⟩) L cap0) (goodL (-l.m) P (k + 1))) := by
          show OwnI _ _ _ _
          rw [GS.out]
          exact O2.out.below (Below.alloc (Below.refl w2.heap.size w2) (Nat.le_refl _) _) fun j e => (O2.out.lt j e).2
        have B3 : Hid (Below u.heap.size u (w2.alloc (.cells #[.int .i64 o.o, .int .i64 o.h, .int .i64 o.t] 31))) := B2.out.alloc (by omega) _
        clear O2 B2
        go_wp2
        exact ⟨⟨k + 1, by omega, by push_cast; rfl, ⟨_, _, _, rfl⟩, O3, B3⟩, by simp only [intOf]; omega⟩
    · obtain rfl : k = N := by omega
      have nle : ¬ -l.m + (k : Int) ≤ l.m := by have := HN.out; omega
      go_wp2
      go_ret2
      exact ⟨_, rfl, OK.out.mono (by omega), BU.out.trans (BK.out.mono (by omega))⟩

set_option maxHeartbeats 2000000 in
theorem specTurns_no (l : Lm) (c : Co) (ok : ¬ OkC l c) (w : World) :
    Calls Try.prog 21 #[(.agg #[.int .i64 l.m, .int .i64 l.c]), (.agg #[.int .i64 c.o, .int .i64 c.h, .int .i64 c.t])] w fun e w' => ∃ v, e = .returned (.tuple #[v, .bool false]) ∧ OwnI w' w.heap.size v [] ∧ Below w.heap.size w w' := by
  have C1 := Lib.hid (fun w => l05Is_any l c false ⟨(fun e => by cases e), (fun e => absurd e ok)⟩ w)
  clear ok
  go_enter Try.func21, Try.ntmps21
  go_wp2_with fail
  refine (C1.out _).mono ?_
  rintro e u ⟨rfl, b1⟩
  have BU : Hid (Below w.heap.size w u) := Below.trans (by go_grown) (b1.mono (by simp only [World.size_alloc]; omega))
  clear b1 C1
  go_wp2
  go_ret2
  exact ⟨_, rfl, World.ownsRow_nil _ _ _ _, BU.out⟩

theorem ownS_none (w w' : World) (cap : Nat) (h : w'.ownsRow w.heap.size 31 3 (.slice (some ⟨w.heap.size, 0, none⟩) 0 cap) 0 []) : OwnS 31 3 encCo w' w.heap.size (.slice (some ⟨w.heap.size, 0, none⟩) 0 cap) [] := h

set_option maxRecDepth 100000 in
set_option maxHeartbeats 4000000 in
theorem nextCourses_any (l : Lm) (c : Co) (ok : OkC l c) (P : Int → Bool) (hP : ∀ t, P t = true ↔ Goes l c t) (N : Nat) (hN : (N : Int) = 2 * l.m + 1) (w : World) :
    Calls Try.prog 53 #[(.agg #[.int .i64 l.m, .int .i64 l.c]), (.agg #[.int .i64 c.o, .int .i64 c.h, .int .i64 c.t])] w fun e w' => ∃ v, e = .returned v ∧ OwnS 31 3 encCo w' w.heap.size v (follows l c P N) ∧ Below w.heap.size w w' := by
  obtain ⟨i0, hi, hz0, hz1, hz2⟩ := info_parts info_Co'
  have lm := ok.1.1
  obtain ⟨m1, m2⟩ := lm
  have C2 : Hid (∀ (t : Int), ∃ o : Co, (P t = true → o = nextC c t) ∧ ∀ w : World, Calls Try.prog 19 #[(.agg #[.int .i64 l.m, .int .i64 l.c]), (.agg #[.int .i64 c.o, .int .i64 c.h, .int .i64 c.t]), .int .i64 t] w fun e w' => e = .returned (.tuple #[(.agg #[.int .i64 o.o, .int .i64 o.h, .int .i64 o.t]), .bool (P t)]) ∧ Below w.heap.size w w') := by
    intro t
    obtain ⟨o, h, h2⟩ := nextRes_P c t (show P t = true ↔ OkC l c ∧ Goes l c t from (hP t).trans ⟨fun x => ⟨ok, x⟩, fun x => x.2⟩)
    exact ⟨o, h2, fun w => implNextC_any l c t o (P t) h w⟩
  have HN := Lib.hid hN
  have WW : Hid ((((w.alloc (.cells #[.int .i64 l.m, .int .i64 l.c] 25)).alloc (.cells #[.int .i64 c.o, .int .i64 c.h, .int .i64 c.t] 31)).heap[w.heap.size]? = some (.cells #[.int .i64 l.m, .int .i64 l.c] 25 (0, 0)) ∧ ((w.alloc (.cells #[.int .i64 l.m, .int .i64 l.c] 25)).alloc (.cells #[.int .i64 c.o, .int .i64 c.h, .int .i64 c.t] 31)).heap[w.heap.size + 1]? = some (.cells #[.int .i64 c.o, .int .i64 c.h, .int .i64 c.t] 31 (0, 0))) ∧ ((w.alloc (.cells #[.int .i64 l.m, .int .i64 l.c] 25)).alloc (.cells #[.int .i64 c.o, .int .i64 c.h, .int .i64 c.t] 31)).heap.size = w.heap.size + 2) := ⟨⟨boxN2_0 w _ _, boxN2_1 w _ _⟩, by simp⟩
  have BU : Hid (Below w.heap.size w ((w.alloc (.cells #[.int .i64 l.m, .int .i64 l.c] 25)).alloc (.cells #[.int .i64 c.o, .int .i64 c.h, .int .i64 c.t] 31))) := by show Below _ _ _; go_grown
  clear ok hP hN
  go_enter Try.func53, Try.ntmps53
  go_upto_region 1 with (fail)
  generalize hu : ((w.alloc (.cells #[.int .i64 l.m, .int .i64 l.c] 25)).alloc (.cells #[.int .i64 c.o, .int .i64 c.h, .int .i64 c.t] 31)) = u at WW BU ⊢
  clear hu
  obtain ⟨⟨nl, nc⟩, sue⟩ := WW.out
  have NL := Lib.hid nl
  have NC := Lib.hid nc
  have su : w.heap.size + 2 ≤ u.heap.size := by omega
  clear WW nl nc sue
  go_wp2_with (at_make; refine wpList_make_own _ rfl _ _ _ rfl u.heap.size 31 i0 _ 3 Try.underlying43 hi hz0 hz1 .i64 .i64 _ 7 rfl rfl rfl (by rw [hz2]; omega) (by unfold maxLen; omega) (Nat.le_refl _) ?_)
  intro u2 hown hg
  have own0 : Hid (OwnS 31 3 encCo u2 u.heap.size (.slice (some ⟨u.heap.size, 0, none⟩) 0 7) (follows l c P 0)) := ownS_none u u2 7 hown
  have B0 : Hid (Below u.heap.size u u2) := (Below.refl _ _).grown hg (Nat.le_refl _) (fun k h => by cases h)
  clear hown hg
  obtain ⟨⟨k0, k1⟩, -⟩ := boxLm_at ((B0.out.block _ (by omega)).trans NL.out)
  go_wp2
  clear k0 k1
  go_loopw [5, 6] (fun v i wr => ∃ k : Nat, k ≤ N ∧ i = .int .i64 (-l.m + (k : Int)) ∧ (∃ ag n cap, v = .slice (some ⟨ag, 0, none⟩) n cap) ∧ Hid (OwnS 31 3 encCo wr u.heap.size v (follows l c P k)) ∧ Hid (Below u.heap.size u wr)) (fun _ i _ => N - (intOf i + l.m).toNat)
  case atStart => exact ⟨0, by omega, by simp, ⟨_, _, _, rfl⟩, own0, B0⟩
  case round =>
    obtain ⟨k, hk, rfl, ⟨ag, L, cap0, rfl⟩, OK, BK⟩ := hrel
    clear own0 B0
    have hL : L = (follows l c P k).length := by
      obtain ⟨a, c, h, _⟩ := OK.out.rd encCo_len
      simp only [Value.slice.injEq] at h
      exact h.2.1
    have lN : N ≤ 7 := by have := HN.out; omega
    have lL : L ≤ 100 := by have := goodL_len (-l.m) P k; unfold follows at hL; rw [List.length_map] at hL; omega
    have HL := Lib.hid hL
    clear hL
    obtain ⟨⟨k0, k1⟩, -⟩ := boxLm_at ((BK.out.block _ (by omega)).trans NL.out)
    obtain ⟨⟨j0, j1, j2⟩, -⟩ := boxCo_at ((BK.out.block _ (by omega)).trans NC.out)
    have sz := BK.out.size
    by_cases hlt : k < N
    · have le : -l.m + (k : Int) ≤ l.m := by have := HN.out; omega
      have q1 : IntKind.i64.wrap (-l.m + (k : Int) + 1) = -l.m + ((k + 1 : Nat) : Int) := by push_cast; rw [← Int.add_assoc]; exact IntWalk.i64_in _ (by omega)
      obtain ⟨o, ho, C⟩ := C2.out (-l.m + (k : Int))
      have agl := (OK.out.lt ag rfl)
      cases hp : P (-l.m + (k : Int)) with
      | true =>
        rw [hp] at C
        have C3 := Lib.hid C
        have GS : Hid (follows l c P (k + 1) = follows l c P k ++ [o]) := by show _ = _; unfold follows; rw [goodL_yes _ _ _ hp, List.map_append, ho hp]; rfl
        clear C hp ho
        go_wp2_with fail
        refine (C3.out _).mono ?_
        rintro e w2 ⟨rfl, b2⟩
        have z2 := b2.size
        have O2 : Hid (OwnS 31 3 encCo w2 u.heap.size (.slice (some ⟨ag, 0, none⟩) L cap0) (follows l c P k)) := OK.out.later b2
        have B2 : Hid (Below u.heap.size u w2) := BK.out.trans (b2.mono sz)
        have own := O2.out
        unfold OwnS at own
        rw [← HL.out] at own
        have OWN := Lib.hid own
        clear own b2 OK BK C3 k0 k1 j0 j1 j2
        go_wp2_with (at_builtin; refine wpList_append_lies _ rfl _ _ _ rfl u.heap.size 31 i0 _ 3 24 Try.underlying43 hi hz0 hz1 hz2 rfl (by omega) _ _ _ rfl ((OWN.out.alloc _).alloc _) ⟨w2.heap.size + 1, 0, none⟩ 1 1 [.int .i64 o.o, .int .i64 o.h, .int .i64 o.t] rfl rfl (World.news_of_block (cs := #[.int .i64 o.o, .int .i64 o.h, .int .i64 o.t]) (t := 31) (fr := (0, 0)) (cbox2 w2 _ _)) (by simp [Value.oneCell']) (by omega) (by unfold maxLen; omega) (by omega) (by simp only [World.size_alloc]; omega) _ rfl ?_)
        intro gg cap1 w5 hown1 hgrow hat hlt'
        have O5 : Hid (OwnS 31 3 encCo w5 u.heap.size (.slice (some ⟨gg, 0, none⟩) (L + 1) cap1) (follows l c P (k + 1))) := by
          show OwnS _ _ _ _ _ _ _
          unfold OwnS
          rw [GS.out, List.length_append, ← HL.out, List.flatMap_append]
          exact hown1
        have gr := grownBy_trans' (grownBy_trans' (World.grownBy_alloc w2 _ _) (World.grownBy_alloc _ _ _)) hgrow
        have B5 : Hid (Below u.heap.size u w5) := B2.out.grown gr (by omega) (fun j e => (O2.out.lt j e).1)
        clear hown1 hgrow hat hlt' OWN O2 B2 gr
        go_wp2
        exact ⟨⟨k + 1, by omega, by push_cast; rfl, ⟨_, _, _, rfl⟩, O5, B5⟩, by simp only [intOf]; omega⟩
      | false =>
        rw [hp] at C
        have C3 := Lib.hid C
        have GS : Hid (follows l c P (k + 1) = follows l c P k) := by show _ = _; unfold follows; rw [goodL_no _ _ _ hp]
        clear C hp ho
        go_wp2_with fail
        refine (C3.out _).mono ?_
        rintro e w2 ⟨rfl, b2⟩
        have z2 := b2.size
        have O2 : Hid (OwnS 31 3 encCo w2 u.heap.size (.slice (some ⟨ag, 0, none⟩) L cap0) (follows l c P k)) := OK.out.later b2
        have B2 : Hid (Below u.heap.size u w2) := BK.out.trans (b2.mono sz)
        clear b2 OK BK C3 k0 k1 j0 j1 j2
        have O3 : Hid (OwnS 31 3 encCo (w2.alloc (.cells #[.int .i64 o.o, .int .i64 o.h, .int .i64 o.t] 31)) u.heap.size (.slice (some ⟨ag, 0, none⟩) L cap0) (follows l c P (k + 1))) := by
          show OwnS _ _ _ _ _ _ _
          rw [GS.out]
          exact O2.out.later (Below.alloc (Below.refl w2.heap.size w2) (Nat.le_refl _) _)
        have B3 : Hid (Below u.heap.size u (w2.alloc (.cells #[.int .i64 o.o, .int .i64 o.h, .int .i64 o.t] 31))) := B2.out.alloc (by omega) _
        clear O2 B2
        go_wp2
        exact ⟨⟨k + 1, by omega, by push_cast; rfl, ⟨_, _, _, rfl⟩, O3, B3⟩, by simp only [intOf]; omega⟩
    · obtain rfl : k = N := by omega
      have nle : ¬ -l.m + (k : Int) ≤ l.m := by have := HN.out; omega
      go_wp2
      go_ret
      exact ⟨_, rfl, OK.out.mono (by omega), BU.out.trans (BK.out.mono (by omega))⟩
end Go.Proofs.Ytkdecpnbbpmooaa
