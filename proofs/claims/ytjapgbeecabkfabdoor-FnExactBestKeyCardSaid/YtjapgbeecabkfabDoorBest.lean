/- BestKey on both sides. -/
import Derived.Test.YtjapgbeecabkfabDoorLook3
namespace Go.Proofs.YtjapgbeecabkfabDoor
open Go.ChangeShapes Go.WideShapes Go.ChangeAt Go.RowKit
set_option linter.unusedVariables false
set_option linter.unusedSimpArgs false

/-- The best key of the first k, and its outlook (-1: there is none). -/
def bestS (X : Int → Int) (V : Int → Bool) : Nat → Int × Int
  | 0 => (0, -1)
  | k + 1 => if V k = true ∧ (bestS X V k).2 < X k then ((k : Int), X k) else bestS X V k

def BestL (X : Int → Int) (V : Int → Bool) (k : Nat) (b g : Int) (f : Bool) : Prop := ∃ M : Int, bestS X V k = (b, M) ∧ (f = true ↔ 0 ≤ M) ∧ (f = true → g = M)
theorem bestS_bd (X : Int → Int) (V : Int → Bool) (h : ∀ n, V n = true → 0 ≤ X n) (k : Nat) : (bestS X V k).2 = -1 ∨ 0 ≤ (bestS X V k).2 := by
  induction k with
  | zero => exact .inl rfl
  | succ k ih =>
    unfold bestS
    by_cases c : V k = true ∧ (bestS X V k).2 < X k
    · rw [if_pos c]; exact .inr (h _ c.1)
    · rw [if_neg c]; exact ih
theorem bestS_none (X : Int → Int) (V : Int → Bool) (h : ∀ n, V n = false) (k : Nat) : bestS X V k = (0, -1) := by
  induction k with
  | zero => rfl
  | succ k ih => unfold bestS; rw [if_neg (by simp [h k]), ih]
theorem bestS_yes {X : Int → Int} {V : Int → Bool} {k : Nat} {b M : Int} (h : bestS X V k = (b, M)) (hv : V k = true) (hx : M < X k) : bestS X V (k + 1) = ((k : Int), X k) := by
  unfold bestS; rw [if_pos ⟨hv, by rw [h]; exact hx⟩]
theorem bestS_no {X : Int → Int} {V : Int → Bool} {k : Nat} {b M : Int} (h : bestS X V k = (b, M)) (hv : ¬ (V k = true ∧ M < X k)) : bestS X V (k + 1) = (b, M) := by
  unfold bestS; rw [if_neg (by rw [h]; exact hv)]; exact h

set_option maxRecDepth 100000 in
set_option maxHeartbeats 8000000 in
theorem implBest_any (m : Mc) (X : Int → Int) (V : Int → Bool) (hO : ∀ n, OutIs m n (X n) (V n)) (hV : ∀ n, V n = true → 0 ≤ X n) (b M : Int) (f : Bool) (hb : bestS X V 16 = (b, M)) (hf : f = true ↔ 0 ≤ M) (w : World) (T : TKeys w) :
    Calls Tryd.prog 25 #[(.agg #[.int .i64 m.u.s, .int .i64 m.u.h, .int .i64 m.u.y, .int .i64 m.u.p, .int .i64 m.t.s, .int .i64 m.t.h, .int .i64 m.t.y, .int .i64 m.t.p, .int .i64 m.a])] w fun e w' => e = .returned (.tuple #[.int .i64 b, .bool f]) ∧ Below w.heap.size w w' := by
  have c1 := Lib.hid (fun (n : Int) (w : World) (T : TKeys w) => implLook_any m n (X n) (V n) (hO n) w T)
  have HT := Lib.hid T
  have HB := Lib.hid hb
  have HF := Lib.hid hf
  have HV := Lib.hid hV
  have N0 : Hid ((w.alloc (.cells #[.int .i64 m.u.s, .int .i64 m.u.h, .int .i64 m.u.y, .int .i64 m.u.p, .int .i64 m.t.s, .int .i64 m.t.h, .int .i64 m.t.y, .int .i64 m.t.p, .int .i64 m.a] 30)).heap[w.heap.size]? = some (.cells #[.int .i64 m.u.s, .int .i64 m.u.h, .int .i64 m.u.y, .int .i64 m.u.p, .int .i64 m.t.s, .int .i64 m.t.h, .int .i64 m.t.y, .int .i64 m.t.p, .int .i64 m.a] 30 (0, 0))) := heap_alloc_new _ _
  have B0 : Hid (Below w.heap.size w (w.alloc (.cells #[.int .i64 m.u.s, .int .i64 m.u.h, .int .i64 m.u.y, .int .i64 m.u.p, .int .i64 m.t.s, .int .i64 m.t.h, .int .i64 m.t.y, .int .i64 m.t.p, .int .i64 m.a] 30))) := by show Below _ _ _; go_grown
  have S0 : Hid (BestL X V 0 0 0 false) := ⟨-1, rfl, by simp, fun e => by cases e⟩
  clear hO hV hb hf T
  go_enter Tryd.func25, Tryd.ntmps25
  go_wp2
  go_loopw [4, 5, 6, 10] (fun bs gr fd i wr => ∃ (k : Nat) (b g : Int) (f : Bool), k ≤ 16 ∧ bs = .int .i64 b ∧ gr = .int .i64 g ∧ fd = .bool f ∧ i = .int .i64 (k : Int) ∧ w.heap.size < wr.heap.size ∧ Hid (BestL X V k b g f) ∧ Hid (wr.heap[w.heap.size]? = some (.cells #[.int .i64 m.u.s, .int .i64 m.u.h, .int .i64 m.u.y, .int .i64 m.u.p, .int .i64 m.t.s, .int .i64 m.t.h, .int .i64 m.t.y, .int .i64 m.t.p, .int .i64 m.a] 30 (0, 0))) ∧ Hid (Below w.heap.size w wr)) (fun _ _ _ i _ => 16 - (intOf i).toNat)
  case atStart => exact ⟨0, 0, 0, false, by omega, rfl, rfl, rfl, by simp, by simp, S0, N0, B0⟩
  case round =>
    obtain ⟨k, b', g, f', hk, rfl, rfl, rfl, rfl, zr, SK, NK, BK⟩ := hrel
    clear N0 B0 S0
    by_cases hlt : k < 16
    · have lt : (k : Int) < 16 := by omega
      have C := Lib.hid (c1.out (k : Int))
      obtain ⟨M', s1, s2, s3⟩ := SK.out
      have q1 : IntKind.i64.wrap ((k : Int) + 1) = ((k + 1 : Nat) : Int) := by push_cast; exact IntWalk.i64_in _ (by omega)
      obtain ⟨⟨k0, k1, k2, k3, k4, k5, k6, k7, k8⟩, -, -⟩ := boxMc_at (q := m) NK.out
      have md := bestS_bd X V HV.out k
      rw [s1] at md
      obtain ⟨x, hx⟩ : ∃ x, x = X (k : Int) := ⟨_, rfl⟩
      cases hv : V (k : Int) with
      | false =>
        have ST : Hid (BestL X V (k + 1) b' g f') := ⟨M', bestS_no s1 (by simp [hv]), s2, s3⟩
        rw [hv, ← hx] at C
        clear SK s1 s2 s3 md hx hv
        go_wp2_with fail
        refine (C.out _ (HT.out.later BK.out)).mono ?_
        rintro e w2 ⟨rfl, b2⟩
        have N2 : Hid (w2.heap[w.heap.size]? = some (.cells #[.int .i64 m.u.s, .int .i64 m.u.h, .int .i64 m.u.y, .int .i64 m.u.p, .int .i64 m.t.s, .int .i64 m.t.h, .int .i64 m.t.y, .int .i64 m.t.p, .int .i64 m.a] 30 (0, 0))) := (b2.block _ zr).trans NK.out
        have B2 : Hid (Below w.heap.size w w2) := BK.out.trans (b2.mono (by omega))
        have z2 : w.heap.size < w2.heap.size := by have := b2.size; omega
        clear b2 NK BK zr C k0 k1 k2 k3 k4 k5 k6 k7 k8
        go_wp2
        exact ⟨⟨k + 1, _, _, _, by omega, rfl, rfl, rfl, by push_cast; rfl, z2, ST, N2, B2⟩, by simp only [intOf]; omega⟩
      | true =>
        have x0 : 0 ≤ x := by rw [hx]; exact HV.out _ hv
        rw [hv, ← hx] at C
        cases f' with
        | false =>
          have hM : M' = -1 := by
            rcases md with h | h
            · exact h
            · have := s2.mpr h; cases this
          have ST : Hid (BestL X V (k + 1) (k : Int) x true) := ⟨x, by rw [hx]; exact bestS_yes s1 hv (by rw [← hx]; omega), by simp [x0], fun _ => rfl⟩
          clear SK s1 s2 s3 md hx hv hM
          go_wp2_with fail
          refine (C.out _ (HT.out.later BK.out)).mono ?_
          rintro e w2 ⟨rfl, b2⟩
          have N2 : Hid (w2.heap[w.heap.size]? = some (.cells #[.int .i64 m.u.s, .int .i64 m.u.h, .int .i64 m.u.y, .int .i64 m.u.p, .int .i64 m.t.s, .int .i64 m.t.h, .int .i64 m.t.y, .int .i64 m.t.p, .int .i64 m.a] 30 (0, 0))) := (b2.block _ zr).trans NK.out
          have B2 : Hid (Below w.heap.size w w2) := BK.out.trans (b2.mono (by omega))
          have z2 : w.heap.size < w2.heap.size := by have := b2.size; omega
          clear b2 NK BK zr C k0 k1 k2 k3 k4 k5 k6 k7 k8
          go_wp2
          exact ⟨⟨k + 1, _, _, _, by omega, rfl, rfl, rfl, by push_cast; rfl, z2, ST, N2, B2⟩, by simp only [intOf]; omega⟩
        | true =>
          have gM : g = M' := s3 rfl
          by_cases gt : g < x
          · have ST : Hid (BestL X V (k + 1) (k : Int) x true) := ⟨x, by rw [hx]; exact bestS_yes s1 hv (by rw [← hx]; omega), by simp [x0], fun _ => rfl⟩
            clear SK s1 s2 s3 md hx hv gM
            go_wp2_with fail
            refine (C.out _ (HT.out.later BK.out)).mono ?_
            rintro e w2 ⟨rfl, b2⟩
            have N2 : Hid (w2.heap[w.heap.size]? = some (.cells #[.int .i64 m.u.s, .int .i64 m.u.h, .int .i64 m.u.y, .int .i64 m.u.p, .int .i64 m.t.s, .int .i64 m.t.h, .int .i64 m.t.y, .int .i64 m.t.p, .int .i64 m.a] 30 (0, 0))) := (b2.block _ zr).trans NK.out
            have B2 : Hid (Below w.heap.size w w2) := BK.out.trans (b2.mono (by omega))
            have z2 : w.heap.size < w2.heap.size := by have := b2.size; omega
            clear b2 NK BK zr C k0 k1 k2 k3 k4 k5 k6 k7 k8
            go_wp2
            exact ⟨⟨k + 1, _, _, _, by omega, rfl, rfl, rfl, by push_cast; rfl, z2, ST, N2, B2⟩, by simp only [intOf]; omega⟩
          · have ST : Hid (BestL X V (k + 1) b' g true) := ⟨M', bestS_no s1 (fun h => gt (by rw [gM, hx]; exact h.2)), s2, s3⟩
            clear SK s1 s2 s3 md hx hv gM
            go_wp2_with fail
            refine (C.out _ (HT.out.later BK.out)).mono ?_
            rintro e w2 ⟨rfl, b2⟩
            have N2 : Hid (w2.heap[w.heap.size]? = some (.cells #[.int .i64 m.u.s, .int .i64 m.u.h, .int .i64 m.u.y, .int .i64 m.u.p, .int .i64 m.t.s, .int .i64 m.t.h, .int .i64 m.t.y, .int .i64 m.t.p, .int .i64 m.a] 30 (0, 0))) := (b2.block _ zr).trans NK.out
            have B2 : Hid (Below w.heap.size w w2) := BK.out.trans (b2.mono (by omega))
            have z2 : w.heap.size < w2.heap.size := by have := b2.size; omega
            clear b2 NK BK zr C k0 k1 k2 k3 k4 k5 k6 k7 k8
            go_wp2
            exact ⟨⟨k + 1, _, _, _, by omega, rfl, rfl, rfl, by push_cast; rfl, z2, ST, N2, B2⟩, by simp only [intOf]; omega⟩
    · obtain rfl : k = 16 := by omega
      obtain ⟨M', s1, s2, s3⟩ := SK.out
      have e := s1.symm.trans HB.out
      obtain rfl : b' = b := congrArg Prod.fst e
      obtain rfl : M' = M := congrArg Prod.snd e
      obtain rfl : f' = f := by
        have h := s2.trans HF.out.symm
        cases f' <;> cases f <;> simp_all
      clear SK s1 s2 s3 e HB HF c1
      go_wp2
      go_returns
      exact ⟨rfl, BK.out⟩

set_option maxRecDepth 100000 in
set_option maxHeartbeats 8000000 in
theorem specBest_yes (m : Mc) (hm : OkM m) (X : Int → Int) (V : Int → Bool) (hO : ∀ n, OutIs m n (X n) (V n)) (b M : Int) (f : Bool) (hb : bestS X V 16 = (b, M)) (hf : f = true ↔ 0 ≤ M) (w : World) :
    Calls Tryd.prog 24 #[(.agg #[.int .i64 m.u.s, .int .i64 m.u.h, .int .i64 m.u.y, .int .i64 m.u.p, .int .i64 m.t.s, .int .i64 m.t.h, .int .i64 m.t.y, .int .i64 m.t.p, .int .i64 m.a])] w fun e w' => e = .returned (.tuple #[.int .i64 b, .bool f]) ∧ Below w.heap.size w w' := by
  have c0 := Lib.hid (fun g t w hg => l04Is_any g t m true ⟨fun _ => hm, fun _ => rfl⟩ w hg)
  have c1 : Hid (∀ (n : Int) (g : Nat) (w : World), w.heap[g]? = some (.cells #[.int .i64 m.u.s, .int .i64 m.u.h, .int .i64 m.u.y, .int .i64 m.u.p, .int .i64 m.t.s, .int .i64 m.t.h, .int .i64 m.t.y, .int .i64 m.t.p, .int .i64 m.a] 30 (0, 0)) → Calls Tryd.prog 56 #[.pointer (some ⟨g, 0, none⟩), .int .i64 n] w fun e w' => e = .returned (.tuple #[.int .i64 (X n), .bool (V n)]) ∧ Below w.heap.size w w') := by
    intro n g w hg
    have h := hO n
    exact l04Outlook_any g m hm n (X n) (V n) ⟨h.1.trans ⟨fun h => h.2, fun h => ⟨hm, h⟩⟩, h.2⟩ w hg
  have HB := Lib.hid hb
  have HF := Lib.hid hf
  have S0 : Hid (bestS X V 0 = (0, -1)) := rfl
  clear hO hb hf hm
  go_enter Tryd.func24, Tryd.ntmps24
  go_wp2_with fail
  refine (c0.out _ _ _ (heap_alloc_new w (.cells #[.int .i64 m.u.s, .int .i64 m.u.h, .int .i64 m.u.y, .int .i64 m.u.p, .int .i64 m.t.s, .int .i64 m.t.h, .int .i64 m.t.y, .int .i64 m.t.p, .int .i64 m.a] 30))).mono ?_
  rintro e w1 ⟨rfl, b1⟩
  have B1 : Hid (Below w.heap.size w w1) := Below.trans (by show Below _ _ _; go_grown) (b1.mono (by simp))
  have N1 : Hid (w1.heap[w.heap.size]? = some (.cells #[.int .i64 m.u.s, .int .i64 m.u.h, .int .i64 m.u.y, .int .i64 m.u.p, .int .i64 m.t.s, .int .i64 m.t.h, .int .i64 m.t.y, .int .i64 m.t.p, .int .i64 m.a] 30 (0, 0))) := (b1.block w.heap.size (by simp)).trans (heap_alloc_new w (.cells #[.int .i64 m.u.s, .int .i64 m.u.h, .int .i64 m.u.y, .int .i64 m.u.p, .int .i64 m.t.s, .int .i64 m.t.h, .int .i64 m.t.y, .int .i64 m.t.p, .int .i64 m.a] 30))
  have z1 : w.heap.size < w1.heap.size := by have := b1.size; simp only [World.size_alloc] at this; omega
  clear b1 c0
  go_wp2_with fail
  go_loopw [4, 5, 6] (fun bs mo i wr => ∃ (k : Nat) (b M : Int), k ≤ 16 ∧ bs = .int .i64 b ∧ mo = .int .i64 M ∧ i = .int .i64 (k : Int) ∧ w.heap.size < wr.heap.size ∧ Hid (bestS X V k = (b, M)) ∧ Hid (wr.heap[w.heap.size]? = some (.cells #[.int .i64 m.u.s, .int .i64 m.u.h, .int .i64 m.u.y, .int .i64 m.u.p, .int .i64 m.t.s, .int .i64 m.t.h, .int .i64 m.t.y, .int .i64 m.t.p, .int .i64 m.a] 30 (0, 0))) ∧ Hid (Below w.heap.size w wr)) (fun _ _ i _ => 16 - (intOf i).toNat)
  case atStart => exact ⟨0, 0, -1, by omega, rfl, rfl, by simp, z1, S0, N1, B1⟩
  case round =>
    obtain ⟨k, b', M', hk, rfl, rfl, rfl, zr, SK, NK, BK⟩ := hrel
    clear N1 B1 S0 z1
    by_cases hlt : k < 16
    · have lt : (k : Int) < 16 := by omega
      have C := Lib.hid (c1.out (k : Int))
      have s1 := SK.out
      have q1 : IntKind.i64.wrap ((k : Int) + 1) = ((k + 1 : Nat) : Int) := by push_cast; exact IntWalk.i64_in _ (by omega)
      obtain ⟨x, hx⟩ : ∃ x, x = X (k : Int) := ⟨_, rfl⟩
      cases hv : V (k : Int) with
      | false =>
        have ST : Hid (bestS X V (k + 1) = (b', M')) := bestS_no s1 (by simp [hv])
        rw [hv, ← hx] at C
        clear SK s1 hx hv
        go_wp2_with fail
        refine (C.out _ _ NK.out).mono ?_
        rintro e w2 ⟨rfl, b2⟩
        have N2 : Hid (w2.heap[w.heap.size]? = some (.cells #[.int .i64 m.u.s, .int .i64 m.u.h, .int .i64 m.u.y, .int .i64 m.u.p, .int .i64 m.t.s, .int .i64 m.t.h, .int .i64 m.t.y, .int .i64 m.t.p, .int .i64 m.a] 30 (0, 0))) := (b2.block _ zr).trans NK.out
        have B2 : Hid (Below w.heap.size w w2) := BK.out.trans (b2.mono (by omega))
        have z2 : w.heap.size < w2.heap.size := by have := b2.size; omega
        clear b2 NK BK zr C
        go_wp2
        exact ⟨⟨k + 1, _, _, by omega, rfl, rfl, by push_cast; rfl, z2, ST, N2, B2⟩, by simp only [intOf]; omega⟩
      | true =>
        rw [hv, ← hx] at C
        by_cases gt : M' < x
        · have ST : Hid (bestS X V (k + 1) = ((k : Int), x)) := by show _ = _; rw [hx]; exact bestS_yes s1 hv (by rw [← hx]; exact gt)
          clear SK s1 hx hv
          go_wp2_with fail
          refine (C.out _ _ NK.out).mono ?_
          rintro e w2 ⟨rfl, b2⟩
          have N2 : Hid (w2.heap[w.heap.size]? = some (.cells #[.int .i64 m.u.s, .int .i64 m.u.h, .int .i64 m.u.y, .int .i64 m.u.p, .int .i64 m.t.s, .int .i64 m.t.h, .int .i64 m.t.y, .int .i64 m.t.p, .int .i64 m.a] 30 (0, 0))) := (b2.block _ zr).trans NK.out
          have B2 : Hid (Below w.heap.size w w2) := BK.out.trans (b2.mono (by omega))
          have z2 : w.heap.size < w2.heap.size := by have := b2.size; omega
          clear b2 NK BK zr C
          go_wp2
          exact ⟨⟨k + 1, _, _, by omega, rfl, rfl, by push_cast; rfl, z2, ST, N2, B2⟩, by simp only [intOf]; omega⟩
        · have ST : Hid (bestS X V (k + 1) = (b', M')) := bestS_no s1 (fun h => gt (by rw [hx]; exact h.2))
          clear SK s1 hx hv
          go_wp2_with fail
          refine (C.out _ _ NK.out).mono ?_
          rintro e w2 ⟨rfl, b2⟩
          have N2 : Hid (w2.heap[w.heap.size]? = some (.cells #[.int .i64 m.u.s, .int .i64 m.u.h, .int .i64 m.u.y, .int .i64 m.u.p, .int .i64 m.t.s, .int .i64 m.t.h, .int .i64 m.t.y, .int .i64 m.t.p, .int .i64 m.a] 30 (0, 0))) := (b2.block _ zr).trans NK.out
          have B2 : Hid (Below w.heap.size w w2) := BK.out.trans (b2.mono (by omega))
          have z2 : w.heap.size < w2.heap.size := by have := b2.size; omega
          clear b2 NK BK zr C
          go_wp2
          exact ⟨⟨k + 1, _, _, by omega, rfl, rfl, by push_cast; rfl, z2, ST, N2, B2⟩, by simp only [intOf]; omega⟩
    · obtain rfl : k = 16 := by omega
      have e := SK.out.symm.trans HB.out
      obtain rfl : b' = b := congrArg Prod.fst e
      obtain rfl : M' = M := congrArg Prod.snd e
      have df : decide (0 ≤ M') = f := by
        have h := HF.out
        by_cases c : 0 ≤ M'
        · rw [h.mpr c]; simp [c]
        · have : f = false := b_false h c
          rw [this]; simp [c]
      clear SK e HB HF c1
      go_wp2
      go_returns
      exact ⟨rfl, BK.out⟩

set_option maxHeartbeats 2000000 in
theorem specBest_no (m : Mc) (h : ¬ OkM m) (w : World) :
    Calls Tryd.prog 24 #[(.agg #[.int .i64 m.u.s, .int .i64 m.u.h, .int .i64 m.u.y, .int .i64 m.u.p, .int .i64 m.t.s, .int .i64 m.t.h, .int .i64 m.t.y, .int .i64 m.t.p, .int .i64 m.a])] w fun e w' => e = .returned (.tuple #[.int .i64 0, .bool false]) ∧ Below w.heap.size w w' := by
  have c1 := Lib.hid (fun g t w hg => l04Is_any g t m false ⟨fun e => (by cases e), fun e => absurd e h⟩ w hg)
  clear h
  go_enter Tryd.func24, Tryd.ntmps24
  go_wp2_with fail
  refine (c1.out _ _ _ (heap_alloc_new w (.cells #[.int .i64 m.u.s, .int .i64 m.u.h, .int .i64 m.u.y, .int .i64 m.u.p, .int .i64 m.t.s, .int .i64 m.t.h, .int .i64 m.t.y, .int .i64 m.t.p, .int .i64 m.a] 30))).mono ?_
  rintro e w1 ⟨rfl, b1⟩
  have B1 : Hid (Below w.heap.size w w1) := Below.trans (by show Below _ _ _; go_grown) (b1.mono (by simp))
  clear b1
  go_wp2
  go_returns
  exact ⟨rfl, B1.out⟩

theorem outs_ex (m : Mc) : ∃ (X : Int → Int) (V : Int → Bool), (∀ n, OutIs m n (X n) (V n)) ∧ ∀ n, V n = true → 0 ≤ X n := by
  classical
  refine ⟨fun n => (out_ex m n).choose, fun n => (out_ex m n).choose_spec.choose, fun n => (out_ex m n).choose_spec.choose_spec, fun n hv => ?_⟩
  have h := (out_ex m n).choose_spec.choose_spec
  have hl := h.2.1 hv
  exact (h.1.mp hv).2.2.2.2.2.1 _ hl.1

theorem exBestKey (q : Mc) : ∃ (b : Int) (f : Bool),
    Hid (∀ (w : World), TKeys w → Calls Tryd.prog 24 #[(.agg #[.int .i64 q.u.s, .int .i64 q.u.h, .int .i64 q.u.y, .int .i64 q.u.p, .int .i64 q.t.s, .int .i64 q.t.h, .int .i64 q.t.y, .int .i64 q.t.p, .int .i64 q.a])] w fun e w' => e = .returned (.tuple #[.int .i64 b, .bool f]) ∧ Below w.heap.size w w') ∧
    Hid (∀ (w : World), TKeys w → Calls Tryd.prog 25 #[(.agg #[.int .i64 q.u.s, .int .i64 q.u.h, .int .i64 q.u.y, .int .i64 q.u.p, .int .i64 q.t.s, .int .i64 q.t.h, .int .i64 q.t.y, .int .i64 q.t.p, .int .i64 q.a])] w fun e w' => e = .returned (.tuple #[.int .i64 b, .bool f]) ∧ Below w.heap.size w w') := by
  obtain ⟨X, V, hO, hV⟩ := outs_ex q
  by_cases h : OkM q
  · obtain ⟨f, hf⟩ : ∃ f : Bool, f = true ↔ 0 ≤ (bestS X V 16).2 := ⟨decide (0 ≤ (bestS X V 16).2), by simp⟩
    exact ⟨(bestS X V 16).1, f, fun w _ => specBest_yes q h X V hO _ _ f rfl hf w, fun w T => implBest_any q X V hO hV _ _ f rfl hf w T⟩
  · have hn : ∀ n, V n = false := fun n => by
      cases e : V n with
      | false => rfl
      | true => exact absurd ((hO n).1.mp e).1 h
    exact ⟨0, false, fun w _ => specBest_no q h w, fun w T => implBest_any q X V hO hV 0 (-1) false (bestS_none X V hn 16) (by simp) w T⟩
end Go.Proofs.YtjapgbeecabkfabDoor
