/- PushMachine on both sides. -/
import Derived.Test.YtjapgbeecabkfaaPush
import Derived.Test.YtjapgbeecabkfaaSpecS
import Derived.Test.YtjapgbeecabkfaaVal
namespace Go.Proofs.Ytjapgbeecabkfaa
open Go.ChangeShapes Go.WideShapes Go.ChangeAt Go.RowKit
set_option linter.unusedVariables false
set_option linter.unusedSimpArgs false

theorem zbox (w : World) (m : Mc) : ((w.alloc (.cells #[.int .i64 m.u.s, .int .i64 m.u.h, .int .i64 m.u.y, .int .i64 m.u.p, .int .i64 m.t.s, .int .i64 m.t.h, .int .i64 m.t.y, .int .i64 m.t.p, .int .i64 m.a] 29)).alloc (.cells #[.int .i64 0, .int .i64 0, .int .i64 0, .int .i64 0, .int .i64 0, .int .i64 0, .int .i64 0, .int .i64 0, .int .i64 0] 29)).heap[w.heap.size + 1]? = some (.cells #[.int .i64 0, .int .i64 0, .int .i64 0, .int .i64 0, .int .i64 0, .int .i64 0, .int .i64 0, .int .i64 0, .int .i64 0] 29 (0, 0)) := by
  have h := heap_alloc_new (w.alloc (.cells #[.int .i64 m.u.s, .int .i64 m.u.h, .int .i64 m.u.y, .int .i64 m.u.p, .int .i64 m.t.s, .int .i64 m.t.h, .int .i64 m.t.y, .int .i64 m.t.p, .int .i64 m.a] 29)) (.cells #[.int .i64 0, .int .i64 0, .int .i64 0, .int .i64 0, .int .i64 0, .int .i64 0, .int .i64 0, .int .i64 0, .int .i64 0] 29)
  rwa [World.size_alloc] at h
theorem mbox (w : World) (m : Mc) : ((w.alloc (.cells #[.int .i64 m.u.s, .int .i64 m.u.h, .int .i64 m.u.y, .int .i64 m.u.p, .int .i64 m.t.s, .int .i64 m.t.h, .int .i64 m.t.y, .int .i64 m.t.p, .int .i64 m.a] 29)).alloc (.cells #[.int .i64 0, .int .i64 0, .int .i64 0, .int .i64 0, .int .i64 0, .int .i64 0, .int .i64 0, .int .i64 0, .int .i64 0] 29)).heap[w.heap.size]? = some (.cells #[.int .i64 m.u.s, .int .i64 m.u.h, .int .i64 m.u.y, .int .i64 m.u.p, .int .i64 m.t.s, .int .i64 m.t.h, .int .i64 m.t.y, .int .i64 m.t.p, .int .i64 m.a] 29 (0, 0)) :=
  (Below.heap_alloc _ _ _ (by simp)).trans (heap_alloc_new w (.cells #[.int .i64 m.u.s, .int .i64 m.u.h, .int .i64 m.u.y, .int .i64 m.u.p, .int .i64 m.t.s, .int .i64 m.t.h, .int .i64 m.t.y, .int .i64 m.t.p, .int .i64 m.a] 29))
theorem wbelow (w : World) (m : Mc) : Below w.heap.size w ((w.alloc (.cells #[.int .i64 m.u.s, .int .i64 m.u.h, .int .i64 m.u.y, .int .i64 m.u.p, .int .i64 m.t.s, .int .i64 m.t.h, .int .i64 m.t.y, .int .i64 m.t.p, .int .i64 m.a] 29)).alloc (.cells #[.int .i64 0, .int .i64 0, .int .i64 0, .int .i64 0, .int .i64 0, .int .i64 0, .int .i64 0, .int .i64 0, .int .i64 0] 29)) := by go_grown
theorem wsize (w : World) (m : Mc) : ((w.alloc (.cells #[.int .i64 m.u.s, .int .i64 m.u.h, .int .i64 m.u.y, .int .i64 m.u.p, .int .i64 m.t.s, .int .i64 m.t.h, .int .i64 m.t.y, .int .i64 m.t.p, .int .i64 m.a] 29)).alloc (.cells #[.int .i64 0, .int .i64 0, .int .i64 0, .int .i64 0, .int .i64 0, .int .i64 0, .int .i64 0, .int .i64 0, .int .i64 0] 29)).heap.size = w.heap.size + 2 := by simp

set_option maxHeartbeats 2000000 in
theorem l04Push_no (g : Nat) (b r : Int) (h : ¬ (OkTurn b ∧ OkTurn r)) (w : World) (lg : g < w.heap.size) :
    Calls Try.prog 71 #[.pointer (some ⟨g, 0, none⟩), .int .i64 b, .int .i64 r] w fun e w' => e = .returned (.tuple #[(.agg #[.int .i64 0, .int .i64 0, .int .i64 0, .int .i64 0, .int .i64 0, .int .i64 0, .int .i64 0, .int .i64 0, .int .i64 0]), .bool false]) ∧ Below w.heap.size w w' := by
  have c1 := Lib.hid (fun w => l02Turn_any b r false ⟨fun e => (by cases e), fun e => absurd e h⟩ w)
  have RR : Hid ((w.alloc (.cells #[.int .i64 0, .int .i64 0, .int .i64 0, .int .i64 0, .int .i64 0, .int .i64 0, .int .i64 0, .int .i64 0, .int .i64 0] 29)).heap[w.heap.size]? = some (.cells #[.int .i64 0, .int .i64 0, .int .i64 0, .int .i64 0, .int .i64 0, .int .i64 0, .int .i64 0, .int .i64 0, .int .i64 0] 29 (0, 0))) := heap_alloc_new _ _
  have BB : Hid (Below w.heap.size w (w.alloc (.cells #[.int .i64 0, .int .i64 0, .int .i64 0, .int .i64 0, .int .i64 0, .int .i64 0, .int .i64 0, .int .i64 0, .int .i64 0] 29))) := by show Below _ _ _; go_grown
  clear h
  go_enter Try.func71, Try.ntmps71
  go_wp2_with fail
  refine (c1.out _).mono ?_
  rintro e w' ⟨rfl, rfl⟩
  go_wp2_with (first | (refine wpList_store_M rfl _ _ rfl (w.heap.size) (⟨⟨0, 0, 0, 0⟩, ⟨0, 0, 0, 0⟩, 0⟩ : Mc) (⟨⟨0, 0, 0, 0⟩, ⟨0, 0, 0, 0⟩, 0⟩ : Mc) _ rfl rfl RR.out ?_; intro wE hE oE bE) | fail)
  have PE := Lib.hid hE
  have BE : Hid (Below w.heap.size w wE) := BB.out.trans (bE.mono (by omega))
  clear hE oE bE
  obtain ⟨⟨g0, g1, g2, g3, g4, g5, g6, g7, g8⟩, -, -⟩ := boxMc_at (q := (⟨⟨0, 0, 0, 0⟩, ⟨0, 0, 0, 0⟩, 0⟩ : Mc)) PE.out
  try dsimp only at g0 g1 g2 g3 g4 g5 g6 g7 g8
  go_wp2
  refine bodyPost_ret (v := .tuple #[(.agg #[.int .i64 0, .int .i64 0, .int .i64 0, .int .i64 0, .int .i64 0, .int .i64 0, .int .i64 0, .int .i64 0, .int .i64 0]), .bool false]) (by simp [results, Try.results71, go_sem, g0, g1, g2, g3, g4, g5, g6, g7, g8]; try rfl) rfl ⟨rfl, BE.out⟩

def pushV (m : Mc) (b r : Int) : Prop := OkM m ∧ OkTurn b ∧ OkTurn r ∧ OkM (pushM m b r)

set_option maxHeartbeats 4000000 in
theorem specPush_any (m o : Mc) (b r : Int) (v : Bool) (hv : v = true ↔ pushV m b r) (ho : o = if v then pushM m b r else (⟨⟨0, 0, 0, 0⟩, ⟨0, 0, 0, 0⟩, 0⟩ : Mc)) (w : World) :
    Calls Try.prog 33 #[(.agg #[.int .i64 m.u.s, .int .i64 m.u.h, .int .i64 m.u.y, .int .i64 m.u.p, .int .i64 m.t.s, .int .i64 m.t.h, .int .i64 m.t.y, .int .i64 m.t.p, .int .i64 m.a]), .int .i64 b, .int .i64 r] w fun e w' => e = .returned (.tuple #[(.agg #[.int .i64 o.u.s, .int .i64 o.u.h, .int .i64 o.u.y, .int .i64 o.u.p, .int .i64 o.t.s, .int .i64 o.t.h, .int .i64 o.t.y, .int .i64 o.t.p, .int .i64 o.a]), .bool v]) ∧ Below w.heap.size w w' := by
  obtain ⟨v1, hv1⟩ := okM_dec m
  have c1 := Lib.hid (fun g t w hg => l04Is_any g t m v1 hv1 w hg)
  cases v1 with
  | false =>
    have hm : ¬ OkM m := fun h => by cases hv1.mpr h
    obtain rfl : v = false := b_false hv fun h => hm h.1
    obtain rfl : o = (⟨⟨0, 0, 0, 0⟩, ⟨0, 0, 0, 0⟩, 0⟩ : Mc) := ho
    clear hv hv1 hm
    go_enter Try.func33, Try.ntmps33
    go_wp2_with fail
    refine (c1.out _ _ _ (mbox w m)).mono ?_
    rintro e w1 ⟨rfl, b1⟩
    have RR : Hid (w1.heap[w.heap.size + 1]? = some (.cells #[.int .i64 0, .int .i64 0, .int .i64 0, .int .i64 0, .int .i64 0, .int .i64 0, .int .i64 0, .int .i64 0, .int .i64 0] 29 (0, 0))) := (b1.block (w.heap.size + 1) (by rw [wsize]; omega)).trans (zbox w m)
    have BB : Hid (Below w.heap.size w w1) := (wbelow w m).trans (b1.mono (by rw [wsize]; omega))
    clear b1 c1
    go_wp2_with (first | (refine wpList_store_M rfl _ _ rfl (w.heap.size + 1) (⟨⟨0, 0, 0, 0⟩, ⟨0, 0, 0, 0⟩, 0⟩ : Mc) (⟨⟨0, 0, 0, 0⟩, ⟨0, 0, 0, 0⟩, 0⟩ : Mc) _ rfl rfl RR.out ?_; intro wE hE oE bE) | fail)
    have PE := Lib.hid hE
    have BE : Hid (Below w.heap.size w wE) := BB.out.trans (bE.mono (by omega))
    clear hE oE bE
    obtain ⟨⟨g0, g1, g2, g3, g4, g5, g6, g7, g8⟩, -, -⟩ := boxMc_at (q := (⟨⟨0, 0, 0, 0⟩, ⟨0, 0, 0, 0⟩, 0⟩ : Mc)) PE.out
    try dsimp only at g0 g1 g2 g3 g4 g5 g6 g7 g8
    go_wp2
    refine bodyPost_ret (v := .tuple #[(.agg #[.int .i64 0, .int .i64 0, .int .i64 0, .int .i64 0, .int .i64 0, .int .i64 0, .int .i64 0, .int .i64 0, .int .i64 0]), .bool false]) (by simp [results, Try.results33, go_sem, g0, g1, g2, g3, g4, g5, g6, g7, g8]; try rfl) rfl ⟨rfl, BE.out⟩
  | true =>
    have hm := hv1.mp rfl
    have c2 : Hid (∀ (w : World), ∀ g, w.heap[g]? = some (.cells #[.int .i64 m.u.s, .int .i64 m.u.h, .int .i64 m.u.y, .int .i64 m.u.p, .int .i64 m.t.s, .int .i64 m.t.h, .int .i64 m.t.y, .int .i64 m.t.p, .int .i64 m.a] 29 (0, 0)) → Calls Try.prog 71 #[.pointer (some ⟨g, 0, none⟩), .int .i64 b, .int .i64 r] w fun e w' => e = .returned (.tuple #[(.agg #[.int .i64 o.u.s, .int .i64 o.u.h, .int .i64 o.u.y, .int .i64 o.u.p, .int .i64 o.t.s, .int .i64 o.t.h, .int .i64 o.t.y, .int .i64 o.t.p, .int .i64 o.a]), .bool v]) ∧ Below w.heap.size w w') := by
      intro w g hg
      by_cases ht : OkTurn b ∧ OkTurn r
      · have := l04Push_near g _ m b r hm.1 ht.1 ht.2 v ⟨fun h => (hv.mp h).2.2.2, fun h => hv.mpr ⟨hm, ht.1, ht.2, h⟩⟩ w hg
        cases v with
        | true => obtain rfl : o = pushM m b r := ho; simpa using this
        | false => obtain rfl : o = (⟨⟨0, 0, 0, 0⟩, ⟨0, 0, 0, 0⟩, 0⟩ : Mc) := ho; simpa using this
      · obtain rfl : v = false := b_false hv fun h => ht ⟨h.2.1, h.2.2.1⟩
        obtain rfl : o = (⟨⟨0, 0, 0, 0⟩, ⟨0, 0, 0, 0⟩, 0⟩ : Mc) := ho
        exact l04Push_no g b r ht w (boxMc_at hg).2.2
    clear hv hv1 hm ho
    go_enter Try.func33, Try.ntmps33
    go_wp2_with fail
    refine (c1.out _ _ _ (mbox w m)).mono ?_
    rintro e w1 ⟨rfl, b1⟩
    have R1 : Hid (w1.heap[w.heap.size + 1]? = some (.cells #[.int .i64 0, .int .i64 0, .int .i64 0, .int .i64 0, .int .i64 0, .int .i64 0, .int .i64 0, .int .i64 0, .int .i64 0] 29 (0, 0))) := (b1.block (w.heap.size + 1) (by rw [wsize]; omega)).trans (zbox w m)
    have M1 : Hid (w1.heap[w.heap.size]? = some (.cells #[.int .i64 m.u.s, .int .i64 m.u.h, .int .i64 m.u.y, .int .i64 m.u.p, .int .i64 m.t.s, .int .i64 m.t.h, .int .i64 m.t.y, .int .i64 m.t.p, .int .i64 m.a] 29 (0, 0))) := (b1.block (w.heap.size) (by rw [wsize]; omega)).trans (mbox w m)
    have B1 : Hid (Below w.heap.size w w1) := (wbelow w m).trans (b1.mono (by rw [wsize]; omega))
    have z1 : w.heap.size + 2 ≤ w1.heap.size := by have := b1.size; rw [wsize] at this; exact this
    clear b1 c1
    go_wp2_with fail
    refine (c2.out _ _ M1.out).mono ?_
    rintro e w2 ⟨rfl, b2⟩
    have RR : Hid (w2.heap[w.heap.size + 1]? = some (.cells #[.int .i64 0, .int .i64 0, .int .i64 0, .int .i64 0, .int .i64 0, .int .i64 0, .int .i64 0, .int .i64 0, .int .i64 0] 29 (0, 0))) := (b2.block (w.heap.size + 1) (by omega)).trans R1.out
    have BB : Hid (Below w.heap.size w w2) := B1.out.trans (b2.mono (by omega))
    clear b2 c2 R1 M1 B1
    go_wp2_with (first | (refine wpList_store_M rfl _ _ rfl (w.heap.size + 1) (⟨⟨0, 0, 0, 0⟩, ⟨0, 0, 0, 0⟩, 0⟩ : Mc) o _ rfl rfl RR.out ?_; intro wE hE oE bE) | fail)
    have PE := Lib.hid hE
    have BE : Hid (Below w.heap.size w wE) := BB.out.trans (bE.mono (by omega))
    clear hE oE bE
    obtain ⟨⟨g0, g1, g2, g3, g4, g5, g6, g7, g8⟩, -, -⟩ := boxMc_at (q := o) PE.out
    try dsimp only at g0 g1 g2 g3 g4 g5 g6 g7 g8
    go_wp2
    refine bodyPost_ret (v := .tuple #[(.agg #[.int .i64 o.u.s, .int .i64 o.u.h, .int .i64 o.u.y, .int .i64 o.u.p, .int .i64 o.t.s, .int .i64 o.t.h, .int .i64 o.t.y, .int .i64 o.t.p, .int .i64 o.a]), .bool v]) (by simp [results, Try.results33, go_sem, g0, g1, g2, g3, g4, g5, g6, g7, g8]; try rfl) rfl ⟨rfl, BE.out⟩

set_option maxHeartbeats 4000000 in
theorem implPush_any (m o : Mc) (b r : Int) (v : Bool) (hv : v = true ↔ pushV m b r) (ho : o = if v then pushM m b r else (⟨⟨0, 0, 0, 0⟩, ⟨0, 0, 0, 0⟩, 0⟩ : Mc)) (w : World) :
    Calls Try.prog 34 #[(.agg #[.int .i64 m.u.s, .int .i64 m.u.h, .int .i64 m.u.y, .int .i64 m.u.p, .int .i64 m.t.s, .int .i64 m.t.h, .int .i64 m.t.y, .int .i64 m.t.p, .int .i64 m.a]), .int .i64 b, .int .i64 r] w fun e w' => e = .returned (.tuple #[(.agg #[.int .i64 o.u.s, .int .i64 o.u.h, .int .i64 o.u.y, .int .i64 o.u.p, .int .i64 o.t.s, .int .i64 o.t.h, .int .i64 o.t.y, .int .i64 o.t.p, .int .i64 o.a]), .bool v]) ∧ Below w.heap.size w w' := by
  obtain ⟨v1, hv1⟩ := okM_dec m
  have c1 := Lib.hid (fun w => siteOf_any m v1 hv1 w)
  have HV := Lib.hid hv
  have HV1 := Lib.hid hv1
  have HO := Lib.hid ho
  clear hv hv1 ho
  go_enter Try.func34, Try.ntmps34
  go_wp2_with fail
  refine (c1.out _).mono ?_
  rintro e w1 ⟨g, q, lg, rfl, g1, nq, hq, b1⟩
  have R1 : Hid (w1.heap[w.heap.size + 1]? = some (.cells #[.int .i64 0, .int .i64 0, .int .i64 0, .int .i64 0, .int .i64 0, .int .i64 0, .int .i64 0, .int .i64 0, .int .i64 0] 29 (0, 0))) := (b1.block (w.heap.size + 1) (by rw [wsize]; omega)).trans (zbox w m)
  have B1 : Hid (Below w.heap.size w w1) := (wbelow w m).trans (b1.mono (by rw [wsize]; omega))
  rw [wsize] at lg
  obtain ⟨v2, hv2⟩ : ∃ v2 : Bool, v2 = true ↔ OkTurn b ∧ OkTurn r ∧ OkM (pushM q b r) := by
    by_cases h : OkTurn b ∧ OkTurn r ∧ OkM (pushM q b r)
    · exact ⟨true, by simp [h]⟩
    · exact ⟨false, by simp [h]⟩
  have c2 := Lib.hid (push_any g q (!v1) b r nq v2 hv2 w1 g1)
  have KEY : Hid (∀ q2 : Mc, (v2 = true → q2 = pushM q b r) → v = (!((!v1) || !v2)) ∧ o = if ((!v1) || !v2) then (⟨⟨0, 0, 0, 0⟩, ⟨0, 0, 0, 0⟩, 0⟩ : Mc) else q2) := by
    intro q2 h2
    have hv := HV.out
    have ho := HO.out
    cases v1 with
    | false =>
      have hm : ¬ OkM m := fun h => by cases HV1.out.mpr h
      obtain rfl : v = false := b_false hv fun h => hm h.1
      exact ⟨by simp, by simpa using ho⟩
    | true =>
      have e := hq rfl
      subst e
      cases v2 with
      | false =>
        obtain rfl : v = false := b_false hv fun h => by cases hv2.mpr h.2
        exact ⟨by simp, by simpa using ho⟩
      | true =>
        obtain rfl : v = true := hv.mpr ⟨HV1.out.mp rfl, hv2.mp rfl⟩
        refine ⟨by simp, ?_⟩
        rw [h2 rfl]
        simpa using ho
  clear b1 c1 HV HO HV1 g1 nq hq hv2
  go_wp2_with fail
  refine c2.out.mono ?_
  rintro e w2 ⟨q2, rfl, g2, n2, h2, b2⟩
  have R2 : Hid (w2.heap[w.heap.size + 1]? = some (.cells #[.int .i64 0, .int .i64 0, .int .i64 0, .int .i64 0, .int .i64 0, .int .i64 0, .int .i64 0, .int .i64 0, .int .i64 0] 29 (0, 0))) := (b2.block (w.heap.size + 1) (by omega)).trans R1.out
  have B2 : Hid (Below w.heap.size w w2) := B1.out.trans (b2.mono (by omega))
  obtain ⟨k1, k2⟩ := KEY.out q2 h2
  have c3 := Lib.hid (result_any g q2 o ((!v1) || !v2) k2 w2 g2)
  rw [← k1] at c3
  have z2 : w.heap.size + 2 ≤ w2.heap.size := by have := (boxSt_at g2).2.2; omega
  clear k1 k2 KEY c2 g2 n2 h2 b2 R1 B1
  go_wp2_with fail
  refine c3.out.mono ?_
  rintro e w3 ⟨rfl, b3⟩
  have RR : Hid (w3.heap[w.heap.size + 1]? = some (.cells #[.int .i64 0, .int .i64 0, .int .i64 0, .int .i64 0, .int .i64 0, .int .i64 0, .int .i64 0, .int .i64 0, .int .i64 0] 29 (0, 0))) := (b3.block (w.heap.size + 1) (by omega)).trans R2.out
  have BB : Hid (Below w.heap.size w w3) := B2.out.trans (b3.mono (by omega))
  clear b3 c3 R2 B2
  go_wp2_with (first | (refine wpList_store_M rfl _ _ rfl (w.heap.size + 1) (⟨⟨0, 0, 0, 0⟩, ⟨0, 0, 0, 0⟩, 0⟩ : Mc) o _ rfl rfl RR.out ?_; intro wE hE oE bE) | fail)
  have PE := Lib.hid hE
  have BE : Hid (Below w.heap.size w wE) := BB.out.trans (bE.mono (by omega))
  clear hE oE bE
  obtain ⟨⟨g0, g1, g2, g3, g4, g5, g6, g7, g8⟩, -, -⟩ := boxMc_at (q := o) PE.out
  try dsimp only at g0 g1 g2 g3 g4 g5 g6 g7 g8
  go_wp2
  refine bodyPost_ret (v := .tuple #[(.agg #[.int .i64 o.u.s, .int .i64 o.u.h, .int .i64 o.u.y, .int .i64 o.u.p, .int .i64 o.t.s, .int .i64 o.t.h, .int .i64 o.t.y, .int .i64 o.t.p, .int .i64 o.a]), .bool v]) (by simp [results, Try.results34, go_sem, g0, g1, g2, g3, g4, g5, g6, g7, g8]; try rfl) rfl ⟨rfl, BE.out⟩

theorem exPushMachine (q : Mc) (b r : Int) : ∃ (o : Mc) (v : Bool),
    Hid (∀ (w : World), (fun _ => True) w → Calls Try.prog 33 #[(.agg #[.int .i64 q.u.s, .int .i64 q.u.h, .int .i64 q.u.y, .int .i64 q.u.p, .int .i64 q.t.s, .int .i64 q.t.h, .int .i64 q.t.y, .int .i64 q.t.p, .int .i64 q.a]), .int .i64 b, .int .i64 r] w fun e w' => e = .returned (.tuple #[(.agg #[.int .i64 o.u.s, .int .i64 o.u.h, .int .i64 o.u.y, .int .i64 o.u.p, .int .i64 o.t.s, .int .i64 o.t.h, .int .i64 o.t.y, .int .i64 o.t.p, .int .i64 o.a]), .bool v]) ∧ Below w.heap.size w w') ∧
    Hid (∀ (w : World), (fun _ => True) w → Calls Try.prog 34 #[(.agg #[.int .i64 q.u.s, .int .i64 q.u.h, .int .i64 q.u.y, .int .i64 q.u.p, .int .i64 q.t.s, .int .i64 q.t.h, .int .i64 q.t.y, .int .i64 q.t.p, .int .i64 q.a]), .int .i64 b, .int .i64 r] w fun e w' => e = .returned (.tuple #[(.agg #[.int .i64 o.u.s, .int .i64 o.u.h, .int .i64 o.u.y, .int .i64 o.u.p, .int .i64 o.t.s, .int .i64 o.t.h, .int .i64 o.t.y, .int .i64 o.t.p, .int .i64 o.a]), .bool v]) ∧ Below w.heap.size w w') := by
  obtain ⟨v, hv⟩ : ∃ v : Bool, v = true ↔ pushV q b r := by
    by_cases h : pushV q b r
    · exact ⟨true, by simp [h]⟩
    · exact ⟨false, by simp [h]⟩
  exact ⟨_, v, fun w _ => specPush_any q _ b r v hv rfl w, fun w _ => implPush_any q _ b r v hv rfl w⟩
end Go.Proofs.Ytjapgbeecabkfaa
