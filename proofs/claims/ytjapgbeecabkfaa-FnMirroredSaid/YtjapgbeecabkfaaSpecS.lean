/- The specification's pushes. -/
import Derived.Test.YtjapgbeecabkfaaSpecM2
import Derived.Test.YtjapgbeecabkfaaMach2
namespace Go.Proofs.Ytjapgbeecabkfaa
open Go.ChangeShapes Go.WideShapes Go.ChangeAt Go.RowKit
set_option linter.unusedVariables false
set_option linter.unusedSimpArgs false

set_option maxRecDepth 100000 in
set_option maxHeartbeats 4000000 in
theorem l04Push_near (g : Nat) (t : TypeId) (m : Mc) (b r : Int) (hm : NearM m) (hb : OkTurn b) (hr : OkTurn r) (v : Bool) (hv : v = true ↔ OkM (pushM m b r)) (w : World) (hg : w.heap[g]? = some (.cells #[.int .i64 m.u.s, .int .i64 m.u.h, .int .i64 m.u.y, .int .i64 m.u.p, .int .i64 m.t.s, .int .i64 m.t.h, .int .i64 m.t.y, .int .i64 m.t.p, .int .i64 m.a] t (0, 0))) :
    Calls Try.prog 71 #[.pointer (some ⟨g, 0, none⟩), .int .i64 b, .int .i64 r] w fun e w' => e = .returned (.tuple #[if v then (.agg #[.int .i64 (pushM m b r).u.s, .int .i64 (pushM m b r).u.h, .int .i64 (pushM m b r).u.y, .int .i64 (pushM m b r).u.p, .int .i64 (pushM m b r).t.s, .int .i64 (pushM m b r).t.h, .int .i64 (pushM m b r).t.y, .int .i64 (pushM m b r).t.p, .int .i64 (pushM m b r).a]) else (.agg #[.int .i64 0, .int .i64 0, .int .i64 0, .int .i64 0, .int .i64 0, .int .i64 0, .int .i64 0, .int .i64 0, .int .i64 0]), .bool v]) ∧ Below w.heap.size w w' := by
  have c1 := Lib.hid (fun w => l02Turn_any b r true ⟨fun _ => ⟨hb, hr⟩, fun _ => rfl⟩ w)
  have c2 := Lib.hid (fun w => l02Next_any m.u b r (hm.1.room hb hr) w)
  have c3 := Lib.hid (fun g t w hg => l04Is_any g t (pushM m b r) v hv w hg)
  obtain ⟨n, hn'⟩ : ∃ n, n = pushM m b r := ⟨_, rfl⟩
  have e1 : stepP m.u b r = n.u := by rw [hn']; rfl
  have e2 : m.t = n.t := by rw [hn']; rfl
  have e3 : m.a + 1500 = n.a := by rw [hn']; rfl
  rw [e1] at c2
  rw [← hn'] at c3
  rw [← hn']
  have q1 : IntKind.i64.wrap (m.a + 1500) = n.a := by rw [← e3]; exact IntWalk.i64_in _ (by have := hm.2.2; omega)
  obtain ⟨⟨a0, a1, a2, a3, a4, a5, a6, a7, a8⟩, -, lg⟩ := boxMc_at hg
  have KS : Hid (∀ w', Below w.heap.size w w' → (w'.cell? ⟨g, 0, none⟩ = some (.int .i64 m.u.s) ∧ w'.cell? ⟨g, 1, none⟩ = some (.int .i64 m.u.h) ∧ w'.cell? ⟨g, 2, none⟩ = some (.int .i64 m.u.y) ∧ w'.cell? ⟨g, 3, none⟩ = some (.int .i64 m.u.p) ∧ w'.cell? ⟨g, 4, none⟩ = some (.int .i64 n.t.s) ∧ w'.cell? ⟨g, 5, none⟩ = some (.int .i64 n.t.h) ∧ w'.cell? ⟨g, 6, none⟩ = some (.int .i64 n.t.y) ∧ w'.cell? ⟨g, 7, none⟩ = some (.int .i64 n.t.p) ∧ w'.cell? ⟨g, 8, none⟩ = some (.int .i64 m.a))) := by
    intro w' b'
    rw [← e2]
    exact (boxMc_at ((b'.block g lg).trans hg)).1
  clear hm hb hr hg e1 e2 e3 hn' hv a0 a1 a2 a3 a4 a5 a6 a7 a8
  go_enter Try.func71, Try.ntmps71
  go_wp2_with fail
  refine (c1.out _).mono ?_
  rintro e w' ⟨rfl, rfl⟩
  go_wp2_with fail
  go_region_held3 (fun w' => (w'.cell? ⟨g, 0, none⟩ = some (.int .i64 m.u.s) ∧ w'.cell? ⟨g, 1, none⟩ = some (.int .i64 m.u.h) ∧ w'.cell? ⟨g, 2, none⟩ = some (.int .i64 m.u.y) ∧ w'.cell? ⟨g, 3, none⟩ = some (.int .i64 m.u.p) ∧ w'.cell? ⟨g, 4, none⟩ = some (.int .i64 n.t.s) ∧ w'.cell? ⟨g, 5, none⟩ = some (.int .i64 n.t.h) ∧ w'.cell? ⟨g, 6, none⟩ = some (.int .i64 n.t.y) ∧ w'.cell? ⟨g, 7, none⟩ = some (.int .i64 n.t.p) ∧ w'.cell? ⟨g, 8, none⟩ = some (.int .i64 m.a)))
    (first | exact KS.out _ (by have := D2.out; go_grown) | exact KS.out _ (Below.drew (by go_grown)))
    ((go_at_call 118; refine (c2.out _).mono ?_; rintro e w2 ⟨rfl, hw2⟩; have D2 : Hid (Below w.heap.size w w2) := by (rw [hw2]; show Below _ _ _; go_grown)))
  · rename_i hHeld
    clear hHeld hw2 D2 c1 c2 KS
    go_wp2_with fail
    refine (c3.out _ 29 _ (by simp only [heap_drew, heap_alloc_get, World.size_alloc, if_true]; repeat (first | rw [if_pos rfl] | rw [if_neg (by omega)]))).mono ?_
    rintro e w5 ⟨rfl, b5⟩
    have RR : Hid (w5.heap[w.heap.size]? = some (.cells #[.int .i64 0, .int .i64 0, .int .i64 0, .int .i64 0, .int .i64 0, .int .i64 0, .int .i64 0, .int .i64 0, .int .i64 0] 29 (0, 0))) := (b5.block w.heap.size (by show _ < ((((w.alloc _).alloc _).alloc _).alloc _).heap.size; simp only [World.size_alloc]; omega)).trans (by simp only [heap_drew, heap_alloc_get, World.size_alloc, if_true]; repeat (first | rw [if_pos rfl] | rw [if_neg (by omega)]))
    have BB : Hid (Below w.heap.size w w5) := Below.trans (by show Below _ _ _; exact Below.drew (by go_grown)) (b5.mono (by show _ ≤ ((((w.alloc _).alloc _).alloc _).alloc _).heap.size; simp only [World.size_alloc]; omega))
    have nn : w5.heap[w.heap.size + 1 + 1 + 1]? = some (.cells #[.int .i64 n.u.s, .int .i64 n.u.h, .int .i64 n.u.y, .int .i64 n.u.p, .int .i64 n.t.s, .int .i64 n.t.h, .int .i64 n.t.y, .int .i64 n.t.p, .int .i64 n.a] 29 (0, 0)) := (b5.block (w.heap.size + 1 + 1 + 1) (by show _ < ((((w.alloc _).alloc _).alloc _).alloc _).heap.size; simp only [World.size_alloc]; omega)).trans (by simp only [heap_drew, heap_alloc_get, World.size_alloc, if_true]; repeat (first | rw [if_pos rfl] | rw [if_neg (by omega)]))
    obtain ⟨⟨k0, k1, k2, k3, k4, k5, k6, k7, k8⟩, -, -⟩ := boxMc_at nn
    clear nn b5 c3
    cases v with
    | true =>
      go_wp2_with (first | (refine wpList_store_M rfl _ _ rfl (w.heap.size) (⟨⟨0, 0, 0, 0⟩, ⟨0, 0, 0, 0⟩, 0⟩ : Mc) n _ rfl rfl RR.out ?_; intro wE hE oE bE) | fail)
      have PE := Lib.hid hE
      have BE : Hid (Below w.heap.size w wE) := BB.out.trans (bE.mono (by omega))
      clear hE oE bE
      obtain ⟨⟨g0, g1, g2, g3, g4, g5, g6, g7, g8⟩, -, -⟩ := boxMc_at (q := n) PE.out
      try dsimp only at g0 g1 g2 g3 g4 g5 g6 g7 g8
      go_wp2
      refine bodyPost_ret (v := .tuple #[(.agg #[.int .i64 n.u.s, .int .i64 n.u.h, .int .i64 n.u.y, .int .i64 n.u.p, .int .i64 n.t.s, .int .i64 n.t.h, .int .i64 n.t.y, .int .i64 n.t.p, .int .i64 n.a]), .bool true]) (by simp [results, Try.results71, go_sem, g0, g1, g2, g3, g4, g5, g6, g7, g8]; try rfl) rfl ⟨rfl, BE.out⟩
    | false =>
      clear k0 k1 k2 k3 k4 k5 k6 k7 k8
      go_wp2_with (first | (refine wpList_store_M rfl _ _ rfl (w.heap.size) (⟨⟨0, 0, 0, 0⟩, ⟨0, 0, 0, 0⟩, 0⟩ : Mc) (⟨⟨0, 0, 0, 0⟩, ⟨0, 0, 0, 0⟩, 0⟩ : Mc) _ rfl rfl RR.out ?_; intro wE hE oE bE) | fail)
      have PE := Lib.hid hE
      have BE : Hid (Below w.heap.size w wE) := BB.out.trans (bE.mono (by omega))
      clear hE oE bE
      obtain ⟨⟨g0, g1, g2, g3, g4, g5, g6, g7, g8⟩, -, -⟩ := boxMc_at (q := (⟨⟨0, 0, 0, 0⟩, ⟨0, 0, 0, 0⟩, 0⟩ : Mc)) PE.out
      try dsimp only at g0 g1 g2 g3 g4 g5 g6 g7 g8
      go_wp2
      refine bodyPost_ret (v := .tuple #[(.agg #[.int .i64 0, .int .i64 0, .int .i64 0, .int .i64 0, .int .i64 0, .int .i64 0, .int .i64 0, .int .i64 0, .int .i64 0]), .bool false]) (by simp [results, Try.results71, go_sem, g0, g1, g2, g3, g4, g5, g6, g7, g8]; try rfl) rfl ⟨rfl, BE.out⟩
  · rename_i hHeld
    clear hHeld hw2 D2 c1 c2 KS
    go_wp2_with fail
    refine (c3.out _ 29 _ (by simp only [heap_drew, heap_alloc_get, World.size_alloc, if_true]; repeat (first | rw [if_pos rfl] | rw [if_neg (by omega)]))).mono ?_
    rintro e w5 ⟨rfl, b5⟩
    have RR : Hid (w5.heap[w.heap.size]? = some (.cells #[.int .i64 0, .int .i64 0, .int .i64 0, .int .i64 0, .int .i64 0, .int .i64 0, .int .i64 0, .int .i64 0, .int .i64 0] 29 (0, 0))) := (b5.block w.heap.size (by show _ < ((((w.alloc _).alloc _).alloc _).alloc _).heap.size; simp only [World.size_alloc]; omega)).trans (by simp only [heap_drew, heap_alloc_get, World.size_alloc, if_true]; repeat (first | rw [if_pos rfl] | rw [if_neg (by omega)]))
    have BB : Hid (Below w.heap.size w w5) := Below.trans (by show Below _ _ _; exact Below.drew (by go_grown)) (b5.mono (by show _ ≤ ((((w.alloc _).alloc _).alloc _).alloc _).heap.size; simp only [World.size_alloc]; omega))
    have nn : w5.heap[w.heap.size + 1]? = some (.cells #[.int .i64 n.u.s, .int .i64 n.u.h, .int .i64 n.u.y, .int .i64 n.u.p, .int .i64 n.t.s, .int .i64 n.t.h, .int .i64 n.t.y, .int .i64 n.t.p, .int .i64 n.a] 29 (0, 0)) := (b5.block (w.heap.size + 1) (by show _ < ((((w.alloc _).alloc _).alloc _).alloc _).heap.size; simp only [World.size_alloc]; omega)).trans (by simp only [heap_drew, heap_alloc_get, World.size_alloc, if_true]; repeat (first | rw [if_pos rfl] | rw [if_neg (by omega)]))
    obtain ⟨⟨k0, k1, k2, k3, k4, k5, k6, k7, k8⟩, -, -⟩ := boxMc_at nn
    clear nn b5 c3
    cases v with
    | true =>
      go_wp2_with (first | (refine wpList_store_M rfl _ _ rfl (w.heap.size) (⟨⟨0, 0, 0, 0⟩, ⟨0, 0, 0, 0⟩, 0⟩ : Mc) n _ rfl rfl RR.out ?_; intro wE hE oE bE) | fail)
      have PE := Lib.hid hE
      have BE : Hid (Below w.heap.size w wE) := BB.out.trans (bE.mono (by omega))
      clear hE oE bE
      obtain ⟨⟨g0, g1, g2, g3, g4, g5, g6, g7, g8⟩, -, -⟩ := boxMc_at (q := n) PE.out
      try dsimp only at g0 g1 g2 g3 g4 g5 g6 g7 g8
      go_wp2
      refine bodyPost_ret (v := .tuple #[(.agg #[.int .i64 n.u.s, .int .i64 n.u.h, .int .i64 n.u.y, .int .i64 n.u.p, .int .i64 n.t.s, .int .i64 n.t.h, .int .i64 n.t.y, .int .i64 n.t.p, .int .i64 n.a]), .bool true]) (by simp [results, Try.results71, go_sem, g0, g1, g2, g3, g4, g5, g6, g7, g8]; try rfl) rfl ⟨rfl, BE.out⟩
    | false =>
      clear k0 k1 k2 k3 k4 k5 k6 k7 k8
      go_wp2_with (first | (refine wpList_store_M rfl _ _ rfl (w.heap.size) (⟨⟨0, 0, 0, 0⟩, ⟨0, 0, 0, 0⟩, 0⟩ : Mc) (⟨⟨0, 0, 0, 0⟩, ⟨0, 0, 0, 0⟩, 0⟩ : Mc) _ rfl rfl RR.out ?_; intro wE hE oE bE) | fail)
      have PE := Lib.hid hE
      have BE : Hid (Below w.heap.size w wE) := BB.out.trans (bE.mono (by omega))
      clear hE oE bE
      obtain ⟨⟨g0, g1, g2, g3, g4, g5, g6, g7, g8⟩, -, -⟩ := boxMc_at (q := (⟨⟨0, 0, 0, 0⟩, ⟨0, 0, 0, 0⟩, 0⟩ : Mc)) PE.out
      try dsimp only at g0 g1 g2 g3 g4 g5 g6 g7 g8
      go_wp2
      refine bodyPost_ret (v := .tuple #[(.agg #[.int .i64 0, .int .i64 0, .int .i64 0, .int .i64 0, .int .i64 0, .int .i64 0, .int .i64 0, .int .i64 0, .int .i64 0]), .bool false]) (by simp [results, Try.results71, go_sem, g0, g1, g2, g3, g4, g5, g6, g7, g8]; try rfl) rfl ⟨rfl, BE.out⟩
end Go.Proofs.Ytjapgbeecabkfaa
