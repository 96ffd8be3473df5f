/- The specification builds a ring. -/
import Derived.Test.YtjapgbeecabkfabDoorPushEx
import Derived.Test.YtjapgbeecabkfabDoorRingK2
import Derived.Deep.RegionHeld3
namespace Go.Proofs.YtjapgbeecabkfabDoor
open Go.ChangeShapes Go.WideShapes Go.ChangeAt Go.RowKit
set_option linter.unusedVariables false
set_option linter.unusedSimpArgs false

theorem turnR_ok (q : Rg) (h : OkR q) : OkTurn (bendR q) ∧ OkTurn (riseR q) := by
  obtain ⟨⟨a, b⟩, ⟨c, d⟩⟩ := turn_bd q h
  unfold OkTurn
  omega
def buildR (m : Mc) (r : Rg) : Mc := buildM m (bendR r) (riseR r)

set_option maxRecDepth 100000 in
set_option maxHeartbeats 4000000 in
theorem l04Build_any (g : Nat) (t : TypeId) (m o : Mc) (r : Rg) (hm : NearM m) (v : Bool) (hv : v = true ↔ OkR r ∧ OkM (buildR m r)) (ho : o = if v then buildR m r else (⟨⟨0, 0, 0, 0⟩, ⟨0, 0, 0, 0⟩, 0⟩ : Mc)) (w : World) (hg : w.heap[g]? = some (.cells #[.int .i64 m.u.s, .int .i64 m.u.h, .int .i64 m.u.y, .int .i64 m.u.p, .int .i64 m.t.s, .int .i64 m.t.h, .int .i64 m.t.y, .int .i64 m.t.p, .int .i64 m.a] t (0, 0))) :
    Calls Tryd.prog 45 #[.pointer (some ⟨g, 0, none⟩), (.agg #[.int .i64 r.k, .int .i64 r.y])] w fun e w' => e = .returned (.tuple #[(.agg #[.int .i64 o.u.s, .int .i64 o.u.h, .int .i64 o.u.y, .int .i64 o.u.p, .int .i64 o.t.s, .int .i64 o.t.h, .int .i64 o.t.y, .int .i64 o.t.p, .int .i64 o.a]), .bool v]) ∧ Below w.heap.size w w' := by
  have lg := (boxMc_at hg).2.2
  have Z0 : Hid (((w.alloc (.cells #[.int .i64 r.k, .int .i64 r.y] 34)).alloc (.cells #[.int .i64 0, .int .i64 0, .int .i64 0, .int .i64 0, .int .i64 0, .int .i64 0, .int .i64 0, .int .i64 0, .int .i64 0] 30)).heap[w.heap.size + 1]? = some (.cells #[.int .i64 0, .int .i64 0, .int .i64 0, .int .i64 0, .int .i64 0, .int .i64 0, .int .i64 0, .int .i64 0, .int .i64 0] 30 (0, 0))) := by
    have h := heap_alloc_new (w.alloc (.cells #[.int .i64 r.k, .int .i64 r.y] 34)) (.cells #[.int .i64 0, .int .i64 0, .int .i64 0, .int .i64 0, .int .i64 0, .int .i64 0, .int .i64 0, .int .i64 0, .int .i64 0] 30)
    rwa [World.size_alloc] at h
  have N0 : Hid (((w.alloc (.cells #[.int .i64 r.k, .int .i64 r.y] 34)).alloc (.cells #[.int .i64 0, .int .i64 0, .int .i64 0, .int .i64 0, .int .i64 0, .int .i64 0, .int .i64 0, .int .i64 0, .int .i64 0] 30)).heap[w.heap.size]? = some (.cells #[.int .i64 r.k, .int .i64 r.y] 34 (0, 0))) := (Below.heap_alloc _ _ _ (by simp)).trans (heap_alloc_new w (.cells #[.int .i64 r.k, .int .i64 r.y] 34))
  have W0 : Hid (Below w.heap.size w ((w.alloc (.cells #[.int .i64 r.k, .int .i64 r.y] 34)).alloc (.cells #[.int .i64 0, .int .i64 0, .int .i64 0, .int .i64 0, .int .i64 0, .int .i64 0, .int .i64 0, .int .i64 0, .int .i64 0] 30))) := by show Below _ _ _; go_grown
  by_cases hr : OkR r
  · have hv' : v = true ↔ OkM (buildR m r) := hv.trans ⟨fun h => h.2, fun h => ⟨hr, h⟩⟩
    have ht := turnR_ok r hr
    have c1 := Lib.hid (fun w => l03Is_any r true ⟨fun _ => hr, fun _ => rfl⟩ w)
    have c2 := Lib.hid (fun w => l03Turn_any r hr w)
    have c3 := Lib.hid (fun w => l02Next_any m.t (bendR r) (riseR r) (hm.2.1.room ht.1 ht.2) w)
    have c4 := Lib.hid (fun g t w hg => l04Is_any g t (buildR m r) v hv' w hg)
    obtain ⟨n, hn'⟩ : ∃ n, n = buildR m r := ⟨_, rfl⟩
    have e1 : stepP m.t (bendR r) (riseR r) = n.t := by rw [hn']; rfl
    have e2 : m.u = n.u := by rw [hn']; rfl
    have e3 : m.a - 1500 = n.a := by rw [hn']; rfl
    rw [e1] at c3
    rw [← hn'] at c4 ho
    have q1 : IntKind.i64.wrap (m.a - 1500) = n.a := by rw [← e3]; exact IntWalk.i64_in _ (by have := hm.2.2; omega)
    have KS0 : Hid (∀ w', Below w.heap.size w w' → (w'.cell? ⟨g, 0, none⟩ = some (.int .i64 n.u.s) ∧ w'.cell? ⟨g, 1, none⟩ = some (.int .i64 n.u.h) ∧ w'.cell? ⟨g, 2, none⟩ = some (.int .i64 n.u.y) ∧ w'.cell? ⟨g, 3, none⟩ = some (.int .i64 n.u.p) ∧ w'.cell? ⟨g, 4, none⟩ = some (.int .i64 m.t.s) ∧ w'.cell? ⟨g, 5, none⟩ = some (.int .i64 m.t.h) ∧ w'.cell? ⟨g, 6, none⟩ = some (.int .i64 m.t.y) ∧ w'.cell? ⟨g, 7, none⟩ = some (.int .i64 m.t.p) ∧ w'.cell? ⟨g, 8, none⟩ = some (.int .i64 m.a))) := by
      intro w' b'
      rw [← e2]
      exact (boxMc_at ((b'.block g lg).trans hg)).1
    have HO := Lib.hid ho
    obtain ⟨bd, hbd⟩ : ∃ x, x = bendR r := ⟨_, rfl⟩
    obtain ⟨rs, hrs⟩ : ∃ x, x = riseR r := ⟨_, rfl⟩
    rw [← hbd, ← hrs] at c2 c3
    clear hm hr hv hv' ht hg e1 e2 e3 hn' ho hbd hrs
    go_enter Tryd.func45, Tryd.ntmps45
    go_wp2_with fail
    refine (c1.out _).mono ?_
    rintro e w1 ⟨rfl, b1⟩
    have R1 : Hid (w1.heap[w.heap.size + 1]? = some (.cells #[.int .i64 0, .int .i64 0, .int .i64 0, .int .i64 0, .int .i64 0, .int .i64 0, .int .i64 0, .int .i64 0, .int .i64 0] 30 (0, 0))) := (b1.block (w.heap.size + 1) (by simp only [World.size_alloc]; omega)).trans Z0.out
    have N1 := (b1.block w.heap.size (by simp only [World.size_alloc]; omega)).trans N0.out
    have r0 := cell_of_row w1 w.heap.size 0 _ _ _ N1
    have r1 := cell_of_row w1 w.heap.size 1 _ _ _ N1
    have B1 : Hid (Below w.heap.size w w1) := W0.out.trans (b1.mono (by simp only [World.size_alloc]; omega))
    have z1 : w.heap.size + 2 ≤ w1.heap.size := by have := b1.size; simp only [World.size_alloc] at this; omega
    clear b1 N1 c1 Z0 N0 W0
    go_wp2_with fail
    refine (c2.out _).mono ?_
    rintro e w2 ⟨rfl, b2⟩
    have R2 : Hid (w2.heap[w.heap.size + 1]? = some (.cells #[.int .i64 0, .int .i64 0, .int .i64 0, .int .i64 0, .int .i64 0, .int .i64 0, .int .i64 0, .int .i64 0, .int .i64 0] 30 (0, 0))) := (b2.block (w.heap.size + 1) (by omega)).trans R1.out
    have B2 : Hid (Below w.heap.size w w2) := B1.out.trans (b2.mono (by omega))
    have z2 : w.heap.size + 2 ≤ w2.heap.size := by have := b2.size; omega
    have KS : Hid (∀ w', Below w.heap.size w2 w' → (w'.cell? ⟨g, 0, none⟩ = some (.int .i64 n.u.s) ∧ w'.cell? ⟨g, 1, none⟩ = some (.int .i64 n.u.h) ∧ w'.cell? ⟨g, 2, none⟩ = some (.int .i64 n.u.y) ∧ w'.cell? ⟨g, 3, none⟩ = some (.int .i64 n.u.p) ∧ w'.cell? ⟨g, 4, none⟩ = some (.int .i64 m.t.s) ∧ w'.cell? ⟨g, 5, none⟩ = some (.int .i64 m.t.h) ∧ w'.cell? ⟨g, 6, none⟩ = some (.int .i64 m.t.y) ∧ w'.cell? ⟨g, 7, none⟩ = some (.int .i64 m.t.p) ∧ w'.cell? ⟨g, 8, none⟩ = some (.int .i64 m.a))) := fun w' b => KS0.out w' (B2.out.trans b)
    clear b2 c2 r0 r1 R1 B1 KS0
    go_wp2_with fail
    go_region_held3 (fun w' => (w'.cell? ⟨g, 0, none⟩ = some (.int .i64 n.u.s) ∧ w'.cell? ⟨g, 1, none⟩ = some (.int .i64 n.u.h) ∧ w'.cell? ⟨g, 2, none⟩ = some (.int .i64 n.u.y) ∧ w'.cell? ⟨g, 3, none⟩ = some (.int .i64 n.u.p) ∧ w'.cell? ⟨g, 4, none⟩ = some (.int .i64 m.t.s) ∧ w'.cell? ⟨g, 5, none⟩ = some (.int .i64 m.t.h) ∧ w'.cell? ⟨g, 6, none⟩ = some (.int .i64 m.t.y) ∧ w'.cell? ⟨g, 7, none⟩ = some (.int .i64 m.t.p) ∧ w'.cell? ⟨g, 8, none⟩ = some (.int .i64 m.a)))
      (first | exact KS.out _ (by have := D3.out; go_grown) | exact KS.out _ (Below.drew (by go_grown)) | exact KS.out _ (Below.refl _ _).drew)
      ((go_at_call 81; refine (c3.out _).mono ?_; rintro e w3 ⟨rfl, hw3⟩; have D3 : Hid (Below w.heap.size w2 w3) := by (rw [hw3]; show Below _ _ _; go_grown)))
    · rename_i hHeld
      clear hHeld hw3 D3 c3 KS
      go_wp2_with fail
      refine (c4.out _ 30 _ (by simp only [heap_drew, heap_alloc_get, World.size_alloc, if_true]; repeat (first | rw [if_pos rfl] | rw [if_neg (by omega)]))).mono ?_
      rintro e w5 ⟨rfl, b5⟩
      have RR : Hid (w5.heap[w.heap.size + 1]? = some (.cells #[.int .i64 0, .int .i64 0, .int .i64 0, .int .i64 0, .int .i64 0, .int .i64 0, .int .i64 0, .int .i64 0, .int .i64 0] 30 (0, 0))) := (b5.block (w.heap.size + 1) (by show _ < (((w2.alloc _).alloc _).alloc _).heap.size; simp only [World.size_alloc]; omega)).trans ((by show (((w2.alloc _).alloc _).alloc _).heap[_]? = _; rw [Below.heap_alloc _ _ _ (by simp only [World.size_alloc]; omega), Below.heap_alloc _ _ _ (by simp only [World.size_alloc]; omega), Below.heap_alloc _ _ _ (by omega)]; exact R2.out))
      have BB : Hid (Below w.heap.size w w5) := Below.trans B2.out (Below.trans (by show Below w.heap.size w2 _; exact Below.drew (by go_grown)) (b5.mono (by show _ ≤ (((w2.alloc _).alloc _).alloc _).heap.size; simp only [World.size_alloc]; omega)))
      have nn : w5.heap[w2.heap.size + 1 + 1]? = some (.cells #[.int .i64 n.u.s, .int .i64 n.u.h, .int .i64 n.u.y, .int .i64 n.u.p, .int .i64 n.t.s, .int .i64 n.t.h, .int .i64 n.t.y, .int .i64 n.t.p, .int .i64 n.a] 30 (0, 0)) := (b5.block (w2.heap.size + 1 + 1) (by show _ < (((w2.alloc _).alloc _).alloc _).heap.size; simp only [World.size_alloc]; omega)).trans (by simp only [heap_drew, heap_alloc_get, World.size_alloc, if_true]; repeat (first | rw [if_pos rfl] | rw [if_neg (by omega)]))
      obtain ⟨⟨k0, k1, k2, k3, k4, k5, k6, k7, k8⟩, -, -⟩ := boxMc_at nn
      clear nn b5 c4 R2 B2
      cases v with
      | true =>
        obtain rfl : o = n := HO.out
        go_wp2_with (first | (refine wpList_store_M rfl _ _ rfl (w.heap.size + 1) (⟨⟨0, 0, 0, 0⟩, ⟨0, 0, 0, 0⟩, 0⟩ : Mc) o _ rfl rfl RR.out ?_; intro wE hE oE bE) | fail)
        have PE := Lib.hid hE
        have BE : Hid (Below w.heap.size w wE) := BB.out.trans (bE.mono (by omega))
        clear hE oE bE
        obtain ⟨⟨g0, g1, g2, g3, g4, g5, g6, g7, g8⟩, -, -⟩ := boxMc_at (q := o) PE.out
        try dsimp only at g0 g1 g2 g3 g4 g5 g6 g7 g8
        go_wp2
        refine bodyPost_ret (v := .tuple #[(.agg #[.int .i64 o.u.s, .int .i64 o.u.h, .int .i64 o.u.y, .int .i64 o.u.p, .int .i64 o.t.s, .int .i64 o.t.h, .int .i64 o.t.y, .int .i64 o.t.p, .int .i64 o.a]), .bool true]) (by simp [results, Tryd.results45, go_sem, g0, g1, g2, g3, g4, g5, g6, g7, g8]; try rfl) rfl ⟨rfl, BE.out⟩
      | false =>
        obtain rfl : o = (⟨⟨0, 0, 0, 0⟩, ⟨0, 0, 0, 0⟩, 0⟩ : Mc) := HO.out
        clear k0 k1 k2 k3 k4 k5 k6 k7 k8
        go_wp2_with (first | (refine wpList_store_M rfl _ _ rfl (w.heap.size + 1) (⟨⟨0, 0, 0, 0⟩, ⟨0, 0, 0, 0⟩, 0⟩ : Mc) (⟨⟨0, 0, 0, 0⟩, ⟨0, 0, 0, 0⟩, 0⟩ : Mc) _ rfl rfl RR.out ?_; intro wE hE oE bE) | fail)
        have PE := Lib.hid hE
        have BE : Hid (Below w.heap.size w wE) := BB.out.trans (bE.mono (by omega))
        clear hE oE bE
        obtain ⟨⟨g0, g1, g2, g3, g4, g5, g6, g7, g8⟩, -, -⟩ := boxMc_at (q := (⟨⟨0, 0, 0, 0⟩, ⟨0, 0, 0, 0⟩, 0⟩ : Mc)) PE.out
        try dsimp only at g0 g1 g2 g3 g4 g5 g6 g7 g8
        go_wp2
        refine bodyPost_ret (v := .tuple #[(.agg #[.int .i64 0, .int .i64 0, .int .i64 0, .int .i64 0, .int .i64 0, .int .i64 0, .int .i64 0, .int .i64 0, .int .i64 0]), .bool false]) (by simp [results, Tryd.results45, go_sem, g0, g1, g2, g3, g4, g5, g6, g7, g8]; try rfl) rfl ⟨rfl, BE.out⟩
    · rename_i hHeld
      clear hHeld hw3 D3 c3 KS
      go_wp2_with fail
      refine (c4.out _ 30 _ (by simp only [heap_drew, heap_alloc_get, World.size_alloc, if_true]; repeat (first | rw [if_pos rfl] | rw [if_neg (by omega)]))).mono ?_
      rintro e w5 ⟨rfl, b5⟩
      have RR : Hid (w5.heap[w.heap.size + 1]? = some (.cells #[.int .i64 0, .int .i64 0, .int .i64 0, .int .i64 0, .int .i64 0, .int .i64 0, .int .i64 0, .int .i64 0, .int .i64 0] 30 (0, 0))) := (b5.block (w.heap.size + 1) (by show _ < (((w2.alloc _).alloc _).alloc _).heap.size; simp only [World.size_alloc]; omega)).trans ((by show (((w2.alloc _).alloc _).alloc _).heap[_]? = _; rw [Below.heap_alloc _ _ _ (by simp only [World.size_alloc]; omega), Below.heap_alloc _ _ _ (by simp only [World.size_alloc]; omega), Below.heap_alloc _ _ _ (by omega)]; exact R2.out))
      have BB : Hid (Below w.heap.size w w5) := Below.trans B2.out (Below.trans (by show Below w.heap.size w2 _; exact Below.drew (by go_grown)) (b5.mono (by show _ ≤ (((w2.alloc _).alloc _).alloc _).heap.size; simp only [World.size_alloc]; omega)))
      have nn : w5.heap[w2.heap.size]? = some (.cells #[.int .i64 n.u.s, .int .i64 n.u.h, .int .i64 n.u.y, .int .i64 n.u.p, .int .i64 n.t.s, .int .i64 n.t.h, .int .i64 n.t.y, .int .i64 n.t.p, .int .i64 n.a] 30 (0, 0)) := (b5.block (w2.heap.size) (by show _ < (((w2.alloc _).alloc _).alloc _).heap.size; simp only [World.size_alloc]; omega)).trans (by simp only [heap_drew, heap_alloc_get, World.size_alloc, if_true]; repeat (first | rw [if_pos rfl] | rw [if_neg (by omega)]))
      obtain ⟨⟨k0, k1, k2, k3, k4, k5, k6, k7, k8⟩, -, -⟩ := boxMc_at nn
      clear nn b5 c4 R2 B2
      cases v with
      | true =>
        obtain rfl : o = n := HO.out
        go_wp2_with (first | (refine wpList_store_M rfl _ _ rfl (w.heap.size + 1) (⟨⟨0, 0, 0, 0⟩, ⟨0, 0, 0, 0⟩, 0⟩ : Mc) o _ rfl rfl RR.out ?_; intro wE hE oE bE) | fail)
        have PE := Lib.hid hE
        have BE : Hid (Below w.heap.size w wE) := BB.out.trans (bE.mono (by omega))
        clear hE oE bE
        obtain ⟨⟨g0, g1, g2, g3, g4, g5, g6, g7, g8⟩, -, -⟩ := boxMc_at (q := o) PE.out
        try dsimp only at g0 g1 g2 g3 g4 g5 g6 g7 g8
        go_wp2
        refine bodyPost_ret (v := .tuple #[(.agg #[.int .i64 o.u.s, .int .i64 o.u.h, .int .i64 o.u.y, .int .i64 o.u.p, .int .i64 o.t.s, .int .i64 o.t.h, .int .i64 o.t.y, .int .i64 o.t.p, .int .i64 o.a]), .bool true]) (by simp [results, Tryd.results45, go_sem, g0, g1, g2, g3, g4, g5, g6, g7, g8]; try rfl) rfl ⟨rfl, BE.out⟩
      | false =>
        obtain rfl : o = (⟨⟨0, 0, 0, 0⟩, ⟨0, 0, 0, 0⟩, 0⟩ : Mc) := HO.out
        clear k0 k1 k2 k3 k4 k5 k6 k7 k8
        go_wp2_with (first | (refine wpList_store_M rfl _ _ rfl (w.heap.size + 1) (⟨⟨0, 0, 0, 0⟩, ⟨0, 0, 0, 0⟩, 0⟩ : Mc) (⟨⟨0, 0, 0, 0⟩, ⟨0, 0, 0, 0⟩, 0⟩ : Mc) _ rfl rfl RR.out ?_; intro wE hE oE bE) | fail)
        have PE := Lib.hid hE
        have BE : Hid (Below w.heap.size w wE) := BB.out.trans (bE.mono (by omega))
        clear hE oE bE
        obtain ⟨⟨g0, g1, g2, g3, g4, g5, g6, g7, g8⟩, -, -⟩ := boxMc_at (q := (⟨⟨0, 0, 0, 0⟩, ⟨0, 0, 0, 0⟩, 0⟩ : Mc)) PE.out
        try dsimp only at g0 g1 g2 g3 g4 g5 g6 g7 g8
        go_wp2
        refine bodyPost_ret (v := .tuple #[(.agg #[.int .i64 0, .int .i64 0, .int .i64 0, .int .i64 0, .int .i64 0, .int .i64 0, .int .i64 0, .int .i64 0, .int .i64 0]), .bool false]) (by simp [results, Tryd.results45, go_sem, g0, g1, g2, g3, g4, g5, g6, g7, g8]; try rfl) rfl ⟨rfl, BE.out⟩
  · obtain rfl : v = false := b_false hv fun h => hr h.1
    obtain rfl : o = (⟨⟨0, 0, 0, 0⟩, ⟨0, 0, 0, 0⟩, 0⟩ : Mc) := ho
    have c1 := Lib.hid (fun w => l03Is_any r false ⟨fun e => (by cases e), fun e => absurd e hr⟩ w)
    clear hv hr hm hg
    go_enter Tryd.func45, Tryd.ntmps45
    go_wp2_with fail
    refine (c1.out _).mono ?_
    rintro e w1 ⟨rfl, b1⟩
    have RR : Hid (w1.heap[w.heap.size + 1]? = some (.cells #[.int .i64 0, .int .i64 0, .int .i64 0, .int .i64 0, .int .i64 0, .int .i64 0, .int .i64 0, .int .i64 0, .int .i64 0] 30 (0, 0))) := (b1.block (w.heap.size + 1) (by simp only [World.size_alloc]; omega)).trans Z0.out
    have BB : Hid (Below w.heap.size w w1) := W0.out.trans (b1.mono (by simp only [World.size_alloc]; omega))
    clear b1 c1 Z0 N0 W0
    go_wp2_with (first | (refine wpList_store_M rfl _ _ rfl (w.heap.size + 1) (⟨⟨0, 0, 0, 0⟩, ⟨0, 0, 0, 0⟩, 0⟩ : Mc) (⟨⟨0, 0, 0, 0⟩, ⟨0, 0, 0, 0⟩, 0⟩ : Mc) _ rfl rfl RR.out ?_; intro wE hE oE bE) | fail)
    have PE := Lib.hid hE
    have BE : Hid (Below w.heap.size w wE) := BB.out.trans (bE.mono (by omega))
    clear hE oE bE
    obtain ⟨⟨g0, g1, g2, g3, g4, g5, g6, g7, g8⟩, -, -⟩ := boxMc_at (q := (⟨⟨0, 0, 0, 0⟩, ⟨0, 0, 0, 0⟩, 0⟩ : Mc)) PE.out
    try dsimp only at g0 g1 g2 g3 g4 g5 g6 g7 g8
    go_wp2
    refine bodyPost_ret (v := .tuple #[(.agg #[.int .i64 0, .int .i64 0, .int .i64 0, .int .i64 0, .int .i64 0, .int .i64 0, .int .i64 0, .int .i64 0, .int .i64 0]), .bool false]) (by simp [results, Tryd.results45, go_sem, g0, g1, g2, g3, g4, g5, g6, g7, g8]; try rfl) rfl ⟨rfl, BE.out⟩
end Go.Proofs.YtjapgbeecabkfabDoor
