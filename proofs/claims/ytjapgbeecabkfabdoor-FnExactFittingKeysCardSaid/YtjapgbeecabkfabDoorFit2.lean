/- FittingKeys of the specification. -/
import Derived.Test.YtjapgbeecabkfabDoorFit
namespace Go.Proofs.YtjapgbeecabkfabDoor
open Go.ChangeShapes Go.WideShapes Go.ChangeAt Go.RowKit
set_option linter.unusedVariables false
set_option linter.unusedSimpArgs false

theorem abox (w : World) (o : Mc) (k : Nat) : ((w.alloc (.cells #[.int .i64 o.u.s, .int .i64 o.u.h, .int .i64 o.u.y, .int .i64 o.u.p, .int .i64 o.t.s, .int .i64 o.t.h, .int .i64 o.t.y, .int .i64 o.t.p, .int .i64 o.a] 30)).alloc (.cells #[.int .i64 (k : Int)] 2)).heap[w.heap.size + 1]? = some (.cells #[.int .i64 (k : Int)] 2 (0, 0)) := by
  have h := heap_alloc_new (w.alloc (.cells #[.int .i64 o.u.s, .int .i64 o.u.h, .int .i64 o.u.y, .int .i64 o.u.p, .int .i64 o.t.s, .int .i64 o.t.h, .int .i64 o.t.y, .int .i64 o.t.p, .int .i64 o.a] 30)) (.cells #[.int .i64 (k : Int)] 2)
  rwa [World.size_alloc] at h

set_option maxRecDepth 100000 in
set_option maxHeartbeats 4000000 in
theorem l04Fitting_any (g : Nat) (m : Mc) (hm : OkM m) (P : Int → Bool) (hP : ∀ n, P n = true ↔ buildV m ⟨1, n⟩) (w : World) (hg : w.heap[g]? = some (.cells #[.int .i64 m.u.s, .int .i64 m.u.h, .int .i64 m.u.y, .int .i64 m.u.p, .int .i64 m.t.s, .int .i64 m.t.h, .int .i64 m.t.y, .int .i64 m.t.p, .int .i64 m.a] 30 (0, 0))) :
    Calls Tryd.prog 51 #[.pointer (some ⟨g, 0, none⟩)] w fun e w' => ∃ v, e = .returned v ∧ OwnI w' w.heap.size v (goodL 0 P 16) ∧ Below w.heap.size w w' := by
  have lg := (boxMc_at hg).2.2
  obtain ⟨i0, hi, hz0, hz1, hz2⟩ := infoI_parts
  have c2 : Hid (∀ (n : Int) (w : World), w.heap[g]? = some (.cells #[.int .i64 m.u.s, .int .i64 m.u.h, .int .i64 m.u.y, .int .i64 m.u.p, .int .i64 m.t.s, .int .i64 m.t.h, .int .i64 m.t.y, .int .i64 m.t.p, .int .i64 m.a] 30 (0, 0)) → ∃ o : Mc, Calls Tryd.prog 45 #[.pointer (some ⟨g, 0, none⟩), .agg #[.int .i64 1, .int .i64 n]] w fun e w' => e = .returned (.tuple #[(.agg #[.int .i64 o.u.s, .int .i64 o.u.h, .int .i64 o.u.y, .int .i64 o.u.p, .int .i64 o.t.s, .int .i64 o.t.h, .int .i64 o.t.y, .int .i64 o.t.p, .int .i64 o.a]), .bool (P n)]) ∧ Below w.heap.size w w') := by
    intro n w hg
    exact ⟨_, l04Build_any g _ m _ ⟨1, n⟩ hm.1 (P n) ((hP n).trans ⟨fun h => h.2, fun h => ⟨hm, h⟩⟩) rfl w hg⟩
  have own0 : Hid (OwnI (w.alloc (.cells #[] 2)) w.heap.size (.slice (some ⟨w.heap.size, 0, none⟩) 0 0) (goodL 0 P 0)) := ownI_lit w [] (by simp)
  have B0 : Hid (Below w.heap.size w (w.alloc (.cells #[] 2))) := by show Below _ _ _; go_grown
  have N0 : Hid ((w.alloc (.cells #[] 2)).heap[g]? = some (.cells #[.int .i64 m.u.s, .int .i64 m.u.h, .int .i64 m.u.y, .int .i64 m.u.p, .int .i64 m.t.s, .int .i64 m.t.h, .int .i64 m.t.y, .int .i64 m.t.p, .int .i64 m.a] 30 (0, 0))) := (Below.heap_alloc _ _ _ lg).trans hg
  clear hm hP hg
  go_enter Tryd.func51, Tryd.ntmps51
  go_wp2
  go_loopw [3, 4] (fun v i wr => ∃ k : Nat, k ≤ 16 ∧ i = .int .i64 (k : Int) ∧ (∃ ag n cap, v = .slice (some ⟨ag, 0, none⟩) n cap) ∧ Hid (OwnI wr w.heap.size v (goodL 0 P k)) ∧ Hid (Below w.heap.size w wr) ∧ Hid (wr.heap[g]? = some (.cells #[.int .i64 m.u.s, .int .i64 m.u.h, .int .i64 m.u.y, .int .i64 m.u.p, .int .i64 m.t.s, .int .i64 m.t.h, .int .i64 m.t.y, .int .i64 m.t.p, .int .i64 m.a] 30 (0, 0)))) (fun _ i _ => 16 - (intOf i).toNat)
  case atStart => exact ⟨0, by omega, by simp, ⟨_, _, _, rfl⟩, own0, B0, N0⟩
  case round =>
    obtain ⟨k, hk, rfl, ⟨ag, L, cap0, rfl⟩, OK, BK, NK⟩ := hrel
    clear own0 B0 N0
    have hL : L = (goodL 0 P k).length := by
      obtain ⟨a, c, h, _⟩ := OK.out.rd
      simp only [Value.slice.injEq] at h
      exact h.2.1
    have lL : L ≤ 100 := by have := goodL_len 0 P k; omega
    have HL := Lib.hid hL
    clear hL
    by_cases hlt : k < 16
    · have lt : (k : Int) < 16 := by omega
      have q1 : IntKind.i64.wrap ((k : Int) + 1) = ((k + 1 : Nat) : Int) := by push_cast; exact IntWalk.i64_in _ (by omega)
      have sz := BK.out.size
      have agl := (OK.out.lt ag rfl)
      obtain ⟨o, C⟩ := c2.out k _ NK.out
      cases hp : P (k : Int) with
      | true =>
        rw [hp] at C
        have C1 := Lib.hid C
        have GS : Hid (goodL 0 P (k + 1) = goodL 0 P k ++ [(k : Int)]) := by show _ = _; rw [goodL_succ, Int.zero_add, hp]; simp
        clear C hp
        go_wp2_with fail
        refine C1.out.mono ?_
        rintro e w2 ⟨rfl, b2⟩
        have z2 := b2.size
        have O2 : Hid (OwnI w2 w.heap.size (.slice (some ⟨ag, 0, none⟩) L cap0) (goodL 0 P k)) := OK.out.below b2 fun j e => (OK.out.lt j e).2
        have B2 : Hid (Below w.heap.size w w2) := BK.out.trans (b2.mono sz)
        have N2 := Lib.hid ((b2.block g (by omega)).trans NK.out)
        have ga : ag < w2.heap.size := (O2.out.lt ag rfl).2
        have ne : ¬ ag = w2.heap.size := by omega
        clear b2 OK BK NK C1
        have own := O2.out
        unfold OwnI at own
        rw [← HL.out] at own
        have OWN := Lib.hid own
        clear own
        go_wp2_with (at_builtin; refine wpList_append_lies _ rfl _ _ _ rfl w.heap.size 2 i0 _ 1 8 Tryd.underlying38 hi hz0 hz1 hz2 rfl (by omega) _ _ _ rfl ((OWN.out.alloc _).alloc _) ⟨w2.heap.size + 1, 0, none⟩ 1 1 [.int .i64 (k : Int)] rfl rfl (World.news_of_block (cs := #[.int .i64 (k : Int)]) (t := 2) (fr := (0, 0)) (abox w2 o k)) (by simp [Value.oneCell']) (by omega) (by unfold maxLen; omega) (by omega) (by simp only [World.size_alloc]; omega) _ rfl ?_)
        intro gg cap1 w5 hown1 hgrow hat hlt'
        have O5 : Hid (OwnI w5 w.heap.size (.slice (some ⟨gg, 0, none⟩) (L + 1) cap1) (goodL 0 P (k + 1))) := by
          show OwnI _ _ _ _
          unfold OwnI
          rw [GS.out, List.length_append, ← HL.out, List.map_append]
          exact hown1
        have gr := grownBy_trans' (grownBy_trans' (World.grownBy_alloc w2 _ _) (World.grownBy_alloc _ _ _)) hgrow
        have B5 : Hid (Below w.heap.size w w5) := B2.out.grown gr (by omega) (fun j e => (O2.out.lt j e).1)
        have N5 : Hid (w5.heap[g]? = some (.cells #[.int .i64 m.u.s, .int .i64 m.u.h, .int .i64 m.u.y, .int .i64 m.u.p, .int .i64 m.t.s, .int .i64 m.t.h, .int .i64 m.t.y, .int .i64 m.t.p, .int .i64 m.a] 30 (0, 0))) := (gr.block g (by omega) (fun h => by have := (O2.out.lt g h.symm).1; omega)).trans N2.out
        clear hown1 hgrow hat hlt' OWN O2 B2 gr N2
        go_wp2
        exact ⟨⟨k + 1, by omega, by push_cast; rfl, ⟨_, _, _, rfl⟩, O5, B5, N5⟩, by simp only [intOf]; omega⟩
      | false =>
        rw [hp] at C
        have C1 := Lib.hid C
        have GS : Hid (goodL 0 P (k + 1) = goodL 0 P k) := by show _ = _; rw [goodL_succ, Int.zero_add, hp]; simp
        clear C hp
        go_wp2_with fail
        refine C1.out.mono ?_
        rintro e w2 ⟨rfl, b2⟩
        have z2 := b2.size
        have O2 : Hid (OwnI w2 w.heap.size (.slice (some ⟨ag, 0, none⟩) L cap0) (goodL 0 P k)) := OK.out.below b2 fun j e => (OK.out.lt j e).2
        have B2 : Hid (Below w.heap.size w w2) := BK.out.trans (b2.mono sz)
        have N2 := Lib.hid ((b2.block g (by omega)).trans NK.out)
        have ga : ag < w2.heap.size := (O2.out.lt ag rfl).2
        have ne : ¬ ag = w2.heap.size := by omega
        clear b2 OK BK NK C1
        have O3 : Hid (OwnI (w2.alloc (.cells #[.int .i64 o.u.s, .int .i64 o.u.h, .int .i64 o.u.y, .int .i64 o.u.p, .int .i64 o.t.s, .int .i64 o.t.h, .int .i64 o.t.y, .int .i64 o.t.p, .int .i64 o.a] 30)) w.heap.size (.slice (some ⟨ag, 0, none⟩) L cap0) (goodL 0 P (k + 1))) := by
          show OwnI _ _ _ _
          rw [GS.out]
          exact O2.out.below (Below.alloc (Below.refl w2.heap.size w2) (Nat.le_refl _) _) fun j e => (O2.out.lt j e).2
        have B3 : Hid (Below w.heap.size w (w2.alloc (.cells #[.int .i64 o.u.s, .int .i64 o.u.h, .int .i64 o.u.y, .int .i64 o.u.p, .int .i64 o.t.s, .int .i64 o.t.h, .int .i64 o.t.y, .int .i64 o.t.p, .int .i64 o.a] 30))) := B2.out.alloc (by omega) _
        have N3 : Hid ((w2.alloc (.cells #[.int .i64 o.u.s, .int .i64 o.u.h, .int .i64 o.u.y, .int .i64 o.u.p, .int .i64 o.t.s, .int .i64 o.t.h, .int .i64 o.t.y, .int .i64 o.t.p, .int .i64 o.a] 30)).heap[g]? = some (.cells #[.int .i64 m.u.s, .int .i64 m.u.h, .int .i64 m.u.y, .int .i64 m.u.p, .int .i64 m.t.s, .int .i64 m.t.h, .int .i64 m.t.y, .int .i64 m.t.p, .int .i64 m.a] 30 (0, 0))) := (Below.heap_alloc _ _ _ (by omega)).trans N2.out
        clear O2 B2 N2
        go_wp2
        exact ⟨⟨k + 1, by omega, by push_cast; rfl, ⟨_, _, _, rfl⟩, O3, B3, N3⟩, by simp only [intOf]; omega⟩
    · obtain rfl : k = 16 := by omega
      go_wp2
      go_ret
      exact ⟨_, rfl, OK.out, BK.out⟩

set_option maxHeartbeats 2000000 in
theorem specFit_yes (m : Mc) (h : OkM m) (P : Int → Bool) (hP : ∀ n, P n = true ↔ buildV m ⟨1, n⟩) (w : World) :
    Calls Tryd.prog 17 #[(.agg #[.int .i64 m.u.s, .int .i64 m.u.h, .int .i64 m.u.y, .int .i64 m.u.p, .int .i64 m.t.s, .int .i64 m.t.h, .int .i64 m.t.y, .int .i64 m.t.p, .int .i64 m.a])] w fun e w' => ∃ v, e = .returned (.tuple #[v, .bool true]) ∧ OwnI w' w.heap.size v (goodL 0 P 16) ∧ Below w.heap.size w w' := by
  have c1 := Lib.hid (fun g t w hg => l04Is_any g t m true ⟨fun _ => h, fun _ => rfl⟩ w hg)
  have c2 := Lib.hid (fun g w hg => l04Fitting_any g m h P hP w hg)
  clear h hP
  go_enter Tryd.func17, Tryd.ntmps17
  go_wp2_with fail
  refine (c1.out _ _ _ (heap_alloc_new w (.cells #[.int .i64 m.u.s, .int .i64 m.u.h, .int .i64 m.u.y, .int .i64 m.u.p, .int .i64 m.t.s, .int .i64 m.t.h, .int .i64 m.t.y, .int .i64 m.t.p, .int .i64 m.a] 30))).mono ?_
  rintro e w1 ⟨rfl, b1⟩
  have B1 : Hid (Below w.heap.size w w1) := Below.trans (by show Below _ _ _; go_grown) (b1.mono (by simp))
  have N1 := Lib.hid ((b1.block w.heap.size (by simp)).trans (heap_alloc_new w (.cells #[.int .i64 m.u.s, .int .i64 m.u.h, .int .i64 m.u.y, .int .i64 m.u.p, .int .i64 m.t.s, .int .i64 m.t.h, .int .i64 m.t.y, .int .i64 m.t.p, .int .i64 m.a] 30)))
  clear b1
  go_wp2_with fail
  refine (c2.out _ _ N1.out).mono ?_
  rintro e w2 ⟨v, rfl, o2, b2⟩
  have O2 := Lib.hid (o2.mono B1.out.size)
  have B2 := Lib.hid (B1.out.trans (b2.mono B1.out.size))
  clear o2 b2
  go_wp2
  go_returns
  exact ⟨_, rfl, O2.out, B2.out⟩

set_option maxHeartbeats 2000000 in
theorem specFit_no (m : Mc) (h : ¬ OkM m) (w : World) :
    Calls Tryd.prog 17 #[(.agg #[.int .i64 m.u.s, .int .i64 m.u.h, .int .i64 m.u.y, .int .i64 m.u.p, .int .i64 m.t.s, .int .i64 m.t.h, .int .i64 m.t.y, .int .i64 m.t.p, .int .i64 m.a])] w fun e w' => ∃ v, e = .returned (.tuple #[v, .bool false]) ∧ OwnI w' w.heap.size v [] ∧ Below w.heap.size w w' := by
  have c1 := Lib.hid (fun g t w hg => l04Is_any g t m false ⟨fun e => (by cases e), fun e => absurd e h⟩ w hg)
  clear h
  go_enter Tryd.func17, Tryd.ntmps17
  go_wp2_with fail
  refine (c1.out _ _ _ (heap_alloc_new w (.cells #[.int .i64 m.u.s, .int .i64 m.u.h, .int .i64 m.u.y, .int .i64 m.u.p, .int .i64 m.t.s, .int .i64 m.t.h, .int .i64 m.t.y, .int .i64 m.t.p, .int .i64 m.a] 30))).mono ?_
  rintro e w1 ⟨rfl, b1⟩
  have B1 : Hid (Below w.heap.size w w1) := Below.trans (by show Below _ _ _; go_grown) (b1.mono (by simp))
  clear b1
  go_wp2
  go_returns
  exact ⟨_, rfl, World.ownsRow_nil _ _ _ _, B1.out⟩

theorem exFittingKeys (q : Mc) : ∃ (ys : List Int) (b : Bool), ys.length ≤ 1048576 ∧
    Hid (∀ (w : World), TKeys w → Calls Tryd.prog 17 #[(.agg #[.int .i64 q.u.s, .int .i64 q.u.h, .int .i64 q.u.y, .int .i64 q.u.p, .int .i64 q.t.s, .int .i64 q.t.h, .int .i64 q.t.y, .int .i64 q.t.p, .int .i64 q.a])] w fun e w' => ∃ v, e = .returned (.tuple #[v, .bool b]) ∧ OwnI w' w.heap.size v ys ∧ Below w.heap.size w w') ∧
    Hid (∀ (w : World), TKeys w → Calls Tryd.prog 18 #[(.agg #[.int .i64 q.u.s, .int .i64 q.u.h, .int .i64 q.u.y, .int .i64 q.u.p, .int .i64 q.t.s, .int .i64 q.t.h, .int .i64 q.t.y, .int .i64 q.t.p, .int .i64 q.a])] w fun e w' => ∃ v, e = .returned (.tuple #[v, .bool b]) ∧ OwnI w' w.heap.size v ys ∧ Below w.heap.size w w') := by
  obtain ⟨P, hP⟩ := fitP q
  by_cases h : OkM q
  · exact ⟨goodL 0 P 16, true, by have := goodL_len 0 P 16; omega, fun w _ => specFit_yes q h P hP w, fun w T => implFit_yes q h P hP w T⟩
  · exact ⟨[], false, by simp, fun w _ => specFit_no q h w, fun w _ => implFit_no q h w⟩
end Go.Proofs.YtjapgbeecabkfabDoor
