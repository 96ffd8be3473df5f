/- FittingKeys on both sides. -/
import Derived.Test.YtjapgbeecabkfabDoorBuildEx
import Derived.Test.YtjapgbeecabkfabDoorNum
namespace Go.Proofs.YtjapgbeecabkfabDoor
open Go.ChangeShapes Go.WideShapes Go.ChangeAt Go.RowKit
set_option linter.unusedVariables false
set_option linter.unusedSimpArgs false

set_option maxRecDepth 100000 in
set_option maxHeartbeats 4000000 in
theorem numbersBuild_any (m : Mc) (lo : Int) (N : Nat) (P : Int → Bool) (l0 : -1000 ≤ lo) (l1 : lo ≤ 1000) (hN : N ≤ 100) (c : Hid (∀ (n : Int) (w : World), -1000 ≤ n → n ≤ 2000 → TKeys w → Calls Tryd.prog 54 #[(.agg #[.int .i64 m.u.s, .int .i64 m.u.h, .int .i64 m.u.y, .int .i64 m.u.p, .int .i64 m.t.s, .int .i64 m.t.h, .int .i64 m.t.y, .int .i64 m.t.p, .int .i64 m.a]), .int .i64 n] w fun e w' => e = .returned (.bool (P n)) ∧ Below w.heap.size w w')) (w : World) (T : TKeys w) :
    Calls Tryd.prog 53 #[.int .i64 lo, .int .i64 (lo + N - 1), .func (.func 54) #[(.agg #[.int .i64 m.u.s, .int .i64 m.u.h, .int .i64 m.u.y, .int .i64 m.u.p, .int .i64 m.t.s, .int .i64 m.t.h, .int .i64 m.t.y, .int .i64 m.t.p, .int .i64 m.a])] #[]] w fun e w' => ∃ v, e = .returned v ∧ OwnI w' w.heap.size v (goodL lo P N) ∧ Below w.heap.size w w' := by
  obtain ⟨i0, hi, hz0, hz1, hz2⟩ := infoI_parts
  obtain ⟨hi', hhi⟩ : ∃ h, h = lo + N - 1 := ⟨_, rfl⟩
  rw [← hhi]
  have O0 : Hid (OwnI w w.heap.size (.slice none 0 0) (goodL lo P 0)) := World.ownsRow_nil _ _ _ _
  have B0 : Hid (Below w.heap.size w w) := Below.refl _ _
  have HH := Lib.hid hhi
  clear hhi
  have HT := Lib.hid T
  clear T
  go_enter Tryd.func53, Tryd.ntmps53
  go_wp2
  go_loopw [7, 8] (fun v i wr => ∃ k : Nat, k ≤ N ∧ i = .int .i64 (lo + k) ∧ Hid (OwnI wr w.heap.size v (goodL lo P k)) ∧ Hid (Below w.heap.size w wr)) (fun _ i _ => N - (intOf i - lo).toNat)
  case atStart => exact ⟨0, by omega, by simp, O0, B0⟩
  case round =>
    obtain ⟨k, hk, rfl, OK, BK⟩ := hrel
    clear O0 B0
    obtain ⟨a0, cap0, rfl, -⟩ := OK.out.rd
    obtain ⟨L, hL⟩ : ∃ L, L = (goodL lo P k).length := ⟨_, rfl⟩
    have lL : L ≤ 100 := by have := goodL_len lo P k; omega
    rw [← hL] at OK ⊢
    have HL := Lib.hid hL
    clear hL
    by_cases hlt : k < N
    · have le : lo + (k : Int) ≤ hi' := by have := HH.out; omega
      have q1 : IntKind.i64.wrap (lo + (k : Int) + 1) = lo + ((k + 1 : Nat) : Int) := by push_cast; rw [← Int.add_assoc]; exact IntWalk.i64_in _ (by omega)
      have sz := BK.out.size
      have c1 := c.out (lo + k)
      cases hp : P (lo + k) with
      | true =>
        rw [hp] at c1
        have C1 := Lib.hid c1
        have GS : Hid (goodL lo P (k + 1) = goodL lo P k ++ [lo + (k : Int)]) := by show _ = _; rw [goodL_succ, hp]; rfl
        clear c1 hp
        go_wp2_with fail
        refine (C1.out _ (by omega) (by omega) (HT.out.later BK.out)).mono ?_
        rintro e w2 ⟨rfl, b2⟩
        have z2 := b2.size
        have O2 : Hid (OwnI w2 w.heap.size _ (goodL lo P k)) := OK.out.below b2 fun j e => (OK.out.lt j e).2
        have B2 : Hid (Below w.heap.size w w2) := BK.out.trans (b2.mono sz)
        have own := O2.out
        unfold OwnI at own
        rw [← HL.out] at own
        have OWN := Lib.hid own
        clear own b2 OK
        go_wp2_with (at_builtin; refine wpList_append_lies _ rfl _ _ _ rfl w.heap.size 2 i0 _ 1 8 Tryd.underlying38 hi hz0 hz1 hz2 rfl (by omega) _ _ _ rfl (OWN.out.alloc _) ⟨w2.heap.size, 0, none⟩ 1 1 [.int .i64 (lo + (k : Int))] rfl rfl (World.news_of_block (cs := #[.int .i64 (lo + (k : Int))]) (t := 2) (fr := (0, 0)) (heap_alloc_new w2 _)) (by simp [Value.oneCell']) (by omega) (by unfold maxLen; omega) (by omega) (by simp only [World.size_alloc]; omega) _ rfl ?_)
        intro gg cap1 w5 hown1 hgrow hat hlt'
        have O5 : Hid (OwnI w5 w.heap.size (.slice (some ⟨gg, 0, none⟩) (L + 1) cap1) (goodL lo P (k + 1))) := by
          show OwnI _ _ _ _
          unfold OwnI
          rw [GS.out, List.length_append, ← HL.out, List.map_append]
          exact hown1
        have B5 : Hid (Below w.heap.size w w5) := B2.out.grown (grownBy_trans' (World.grownBy_alloc w2 _ _) hgrow) (by omega) (fun j e => (O2.out.lt j e).1)
        clear hown1 hgrow hat hlt' OWN O2 B2 C1
        go_wp2
        exact ⟨⟨k + 1, by omega, by push_cast; rfl, O5, B5⟩, by simp only [intOf]; omega⟩
      | false =>
        rw [hp] at c1
        have C1 := Lib.hid c1
        have GS : Hid (goodL lo P (k + 1) = goodL lo P k) := by show _ = _; rw [goodL_succ, hp]; rfl
        clear c1 hp
        go_wp2_with fail
        refine (C1.out _ (by omega) (by omega) (HT.out.later BK.out)).mono ?_
        rintro e w2 ⟨rfl, b2⟩
        have O2 : Hid (OwnI w2 w.heap.size (.slice a0 L cap0) (goodL lo P (k + 1))) := by
          have h := OK.out.below b2 fun j e => (OK.out.lt j e).2
          show OwnI _ _ _ _
          rw [GS.out]; exact h
        have B2 : Hid (Below w.heap.size w w2) := BK.out.trans (b2.mono sz)
        clear b2 OK BK C1
        go_wp2
        exact ⟨⟨k + 1, by omega, by push_cast; rfl, O2, B2⟩, by simp only [intOf]; omega⟩
    · obtain rfl : k = N := by omega
      have nle : ¬ lo + (k : Int) ≤ hi' := by have := HH.out; omega
      go_wp2
      go_ret
      exact ⟨_, rfl, OK.out, BK.out⟩

theorem fitP (m : Mc) : ∃ P : Int → Bool, ∀ n, P n = true ↔ buildV m ⟨1, n⟩ := by
  classical
  exact ⟨fun n => decide (buildV m ⟨1, n⟩), fun n => by simp⟩

set_option maxHeartbeats 2000000 in
theorem canBuild_any (m : Mc) (n : Int) (v : Bool) (hv : v = true ↔ buildV m ⟨1, n⟩) (w : World) (T : TKeys w) :
    Calls Tryd.prog 54 #[(.agg #[.int .i64 m.u.s, .int .i64 m.u.h, .int .i64 m.u.y, .int .i64 m.u.p, .int .i64 m.t.s, .int .i64 m.t.h, .int .i64 m.t.y, .int .i64 m.t.p, .int .i64 m.a]), .int .i64 n] w fun e w' => e = .returned (.bool v) ∧ Below w.heap.size w w' := by
  obtain ⟨o, ho⟩ : ∃ o, o = if v then buildR m ⟨1, n⟩ else (⟨⟨0, 0, 0, 0⟩, ⟨0, 0, 0, 0⟩, 0⟩ : Mc) := ⟨_, rfl⟩
  have c1 := Lib.hid (fun w T => implBuild_any m o ⟨1, n⟩ v hv ho w T)
  have HT := Lib.hid T
  clear hv ho T
  go_enter Tryd.func54, Tryd.ntmps54
  go_wp2_with fail
  refine (c1.out _ (HT.out.later (by show Below _ _ _; go_grown))).mono ?_
  rintro e w1 ⟨rfl, b1⟩
  have B1 : Hid (Below w.heap.size w w1) := Below.trans (by show Below _ _ _; go_grown) (b1.mono (by simp))
  have z1 := B1.out.size
  clear b1 c1
  go_wp2
  go_ret
  exact ⟨rfl, B1.out.alloc (by omega) _⟩

set_option maxHeartbeats 2000000 in
theorem implFit_yes (m : Mc) (h : OkM m) (P : Int → Bool) (hP : ∀ n, P n = true ↔ buildV m ⟨1, n⟩) (w : World) (T : TKeys w) :
    Calls Tryd.prog 18 #[(.agg #[.int .i64 m.u.s, .int .i64 m.u.h, .int .i64 m.u.y, .int .i64 m.u.p, .int .i64 m.t.s, .int .i64 m.t.h, .int .i64 m.t.y, .int .i64 m.t.p, .int .i64 m.a])] w fun e w' => ∃ v, e = .returned (.tuple #[v, .bool true]) ∧ OwnI w' w.heap.size v (goodL 0 P 16) ∧ Below w.heap.size w w' := by
  have c0 := Lib.hid (fun (n : Int) w (_ : -1000 ≤ n) (_ : n ≤ 2000) (T : TKeys w) => canBuild_any m n (P n) (hP n) w T)
  have c1 := Lib.hid (fun w => implValid_any m true ⟨fun _ => h, fun _ => rfl⟩ w)
  have c2 := Lib.hid (fun w T => numbersBuild_any m 0 16 P (by omega) (by omega) (by omega) c0 w T)
  have HT := Lib.hid T
  clear h hP T c0
  go_enter Tryd.func18, Tryd.ntmps18
  go_wp2_with fail
  refine (c1.out _).mono ?_
  rintro e w1 ⟨rfl, b1⟩
  have B1 : Hid (Below w.heap.size w w1) := Below.trans (by show Below _ _ _; go_grown) (b1.mono (by simp))
  obtain ⟨⟨k0, k1, k2, k3, k4, k5, k6, k7, k8⟩, -, -⟩ := boxMc_at (q := m) ((b1.block w.heap.size (by simp)).trans (heap_alloc_new w (.cells #[.int .i64 m.u.s, .int .i64 m.u.h, .int .i64 m.u.y, .int .i64 m.u.p, .int .i64 m.t.s, .int .i64 m.t.h, .int .i64 m.t.y, .int .i64 m.t.p, .int .i64 m.a] 30)))
  clear b1 c1
  go_wp2_with fail
  refine (c2.out _ (HT.out.later B1.out)).mono ?_
  rintro e w2 ⟨v, rfl, o2, b2⟩
  have O2 := Lib.hid (o2.mono B1.out.size)
  have B2 := Lib.hid (B1.out.trans (b2.mono B1.out.size))
  clear o2 b2 c2 k0 k1 k2 k3 k4 k5 k6 k7 k8
  go_wp2
  go_returns
  exact ⟨_, rfl, O2.out, B2.out⟩

set_option maxHeartbeats 2000000 in
theorem implFit_no (m : Mc) (h : ¬ OkM m) (w : World) :
    Calls Tryd.prog 18 #[(.agg #[.int .i64 m.u.s, .int .i64 m.u.h, .int .i64 m.u.y, .int .i64 m.u.p, .int .i64 m.t.s, .int .i64 m.t.h, .int .i64 m.t.y, .int .i64 m.t.p, .int .i64 m.a])] w fun e w' => ∃ v, e = .returned (.tuple #[v, .bool false]) ∧ OwnI w' w.heap.size v [] ∧ Below w.heap.size w w' := by
  have c1 := Lib.hid (fun w => implValid_any m false ⟨fun e => (by cases e), fun e => absurd e h⟩ w)
  clear h
  go_enter Tryd.func18, Tryd.ntmps18
  go_wp2_with fail
  refine (c1.out _).mono ?_
  rintro e w1 ⟨rfl, b1⟩
  have B1 : Hid (Below w.heap.size w w1) := Below.trans (by show Below _ _ _; go_grown) (b1.mono (by simp))
  clear b1
  go_wp2
  go_returns
  exact ⟨_, rfl, World.ownsRow_nil _ _ _ _, B1.out⟩
end Go.Proofs.YtjapgbeecabkfabDoor
