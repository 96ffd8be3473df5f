/- MirrorMachine on both sides. -/
import Derived.Test.YtjapgbeecabkfaaPushEx
import Derived.Deep.RegionHeld3
namespace Go.Proofs.Ytjapgbeecabkfaa
open Go.ChangeShapes Go.WideShapes Go.ChangeAt Go.RowKit
set_option linter.unusedVariables false
set_option linter.unusedSimpArgs false

def mirP (q : Ps) : Ps := ⟨-q.s, q.h, -q.y, q.p⟩
def mirM (m : Mc) : Mc := ⟨mirP m.u, mirP m.t, m.a⟩

theorem step_store_M {ops : Array Oper} {op : Oper} {a : Act} {w : World} {K : Act → World → Prop} {Q : Exit → Act → World → Prop} {E : Prop} (hgd : op.guard = none) (x y : Operand) (ho : op.op = .store 29 x y)
    (g : Nat) (q n : Mc) (t : TypeId) (hx : a.eval x = .pointer (some ⟨g, 0, none⟩)) (hy : a.eval y = (.agg #[.int .i64 n.u.s, .int .i64 n.u.h, .int .i64 n.u.y, .int .i64 n.u.p, .int .i64 n.t.s, .int .i64 n.t.h, .int .i64 n.t.y, .int .i64 n.t.p, .int .i64 n.a])) (hg : w.heap[g]? = some (.cells #[.int .i64 q.u.s, .int .i64 q.u.h, .int .i64 q.u.y, .int .i64 q.u.p, .int .i64 q.t.s, .int .i64 q.t.h, .int .i64 q.t.y, .int .i64 q.t.p, .int .i64 q.a] t (0, 0)))
    (h : ∀ w', w'.heap[g]? = some (.cells #[.int .i64 n.u.s, .int .i64 n.u.h, .int .i64 n.u.y, .int .i64 n.u.p, .int .i64 n.t.s, .int .i64 n.t.h, .int .i64 n.t.y, .int .i64 n.t.p, .int .i64 n.a] t (0, 0)) → (∀ j, j ≠ g → w'.heap[j]? = w.heap[j]?) → Below g w w' → K (a.put op.dst undef) w') :
    if Region.wanted op (yielded ops a.tmps) = true then op.wp Try.prog a w K Q else E := by
  have hw : Region.wanted op (yielded ops a.tmps) = true := by simp [Region.wanted, hgd]
  rw [if_pos hw]
  refine wp_store_mid 29 x y ho g 0 #[.int .i64 n.u.s, .int .i64 n.u.h, .int .i64 n.u.y, .int .i64 n.u.p, .int .i64 n.t.s, .int .i64 n.t.h, .int .i64 n.t.y, .int .i64 n.t.p, .int .i64 n.a] hx hy ?_ info_M (by simp [Value.oneCell']) ?_
  · intro j hj
    rw [Nat.zero_add]
    obtain ⟨⟨c0, c1, c2, c3, c4, c5, c6, c7, c8⟩, ⟨f0, f1, f2, f3, f4, f5, f6, f7, f8⟩, -⟩ := boxMc_at hg
    match j, hj with
    | 0, _ => exact ⟨by rw [c0]; rfl, f0⟩
    | 1, _ => exact ⟨by rw [c1]; rfl, f1⟩
    | 2, _ => exact ⟨by rw [c2]; rfl, f2⟩
    | 3, _ => exact ⟨by rw [c3]; rfl, f3⟩
    | 4, _ => exact ⟨by rw [c4]; rfl, f4⟩
    | 5, _ => exact ⟨by rw [c5]; rfl, f5⟩
    | 6, _ => exact ⟨by rw [c6]; rfl, f6⟩
    | 7, _ => exact ⟨by rw [c7]; rfl, f7⟩
    | 8, _ => exact ⟨by rw [c8]; rfl, f8⟩
  · refine h _ (boxMc_put hg n) ?_ ?_
    · intro j hj
      show (((((((((w.setCell ⟨g, 0, none⟩ (.int .i64 n.u.s)).setCell ⟨g, 1, none⟩ (.int .i64 n.u.h)).setCell ⟨g, 2, none⟩ (.int .i64 n.u.y)).setCell ⟨g, 3, none⟩ (.int .i64 n.u.p)).setCell ⟨g, 4, none⟩ (.int .i64 n.t.s)).setCell ⟨g, 5, none⟩ (.int .i64 n.t.h)).setCell ⟨g, 6, none⟩ (.int .i64 n.t.y)).setCell ⟨g, 7, none⟩ (.int .i64 n.t.p)).setCell ⟨g, 8, none⟩ (.int .i64 n.a)).heap[j]? = _
      rw [Below.heap_setCell _ _ _ _ hj, Below.heap_setCell _ _ _ _ hj, Below.heap_setCell _ _ _ _ hj, Below.heap_setCell _ _ _ _ hj, Below.heap_setCell _ _ _ _ hj, Below.heap_setCell _ _ _ _ hj, Below.heap_setCell _ _ _ _ hj, Below.heap_setCell _ _ _ _ hj, Below.heap_setCell _ _ _ _ hj]
    · exact ((((((((((Below.refl g w).setCell (p := ⟨g, 0, none⟩) (Nat.le_refl g) (.int .i64 n.u.s)).setCell (p := ⟨g, 1, none⟩) (Nat.le_refl g) (.int .i64 n.u.h)).setCell (p := ⟨g, 2, none⟩) (Nat.le_refl g) (.int .i64 n.u.y)).setCell (p := ⟨g, 3, none⟩) (Nat.le_refl g) (.int .i64 n.u.p)).setCell (p := ⟨g, 4, none⟩) (Nat.le_refl g) (.int .i64 n.t.s)).setCell (p := ⟨g, 5, none⟩) (Nat.le_refl g) (.int .i64 n.t.h)).setCell (p := ⟨g, 6, none⟩) (Nat.le_refl g) (.int .i64 n.t.y)).setCell (p := ⟨g, 7, none⟩) (Nat.le_refl g) (.int .i64 n.t.p)).setCell (p := ⟨g, 8, none⟩) (Nat.le_refl g) (.int .i64 n.a))

set_option maxHeartbeats 1000000 in
theorem mirrored_any (q : Ps) (h : OkP q) (w : World) :
    Calls Try.prog 76 #[(.agg #[.int .i64 q.s, .int .i64 q.h, .int .i64 q.y, .int .i64 q.p])] w fun e w' => e = .returned (.agg #[.int .i64 (mirP q).s, .int .i64 (mirP q).h, .int .i64 (mirP q).y, .int .i64 (mirP q).p]) ∧ Below w.heap.size w w' := by
  have q1 : IntKind.i64.wrap (-q.s) = -q.s := IntWalk.i64_in _ (by have := h.1.1; have := h.1.2; omega)
  have q2 : IntKind.i64.wrap (-q.y) = -q.y := IntWalk.i64_in _ (by have := h.2.2.1.1; have := h.2.2.1.2; omega)
  clear h
  go_enter Try.func76, Try.ntmps76
  go_wp2
  go_returns
  exact ⟨rfl, by go_grown⟩

set_option maxHeartbeats 1000000 in
theorem l04Mirror_any (q : Ps) (h : OkP q) (w : World) :
    Calls Try.prog 75 #[(.agg #[.int .i64 q.s, .int .i64 q.h, .int .i64 q.y, .int .i64 q.p])] w fun e w' => e = .returned (.agg #[.int .i64 (mirP q).s, .int .i64 (mirP q).h, .int .i64 (mirP q).y, .int .i64 (mirP q).p]) ∧ Below w.heap.size w w' := by
  have q1 : IntKind.i64.wrap (-q.s) = -q.s := IntWalk.i64_in _ (by have := h.1.1; have := h.1.2; omega)
  have q2 : IntKind.i64.wrap (-q.y) = -q.y := IntWalk.i64_in _ (by have := h.2.2.1.1; have := h.2.2.1.2; omega)
  clear h
  go_enter Try.func75, Try.ntmps75
  go_wp2
  go_returns
  exact ⟨rfl, by go_grown⟩

set_option maxHeartbeats 2000000 in
theorem specMirror_no (m : Mc) (h : ¬ OkM m) (w : World) :
    Calls Try.prog 35 #[(.agg #[.int .i64 m.u.s, .int .i64 m.u.h, .int .i64 m.u.y, .int .i64 m.u.p, .int .i64 m.t.s, .int .i64 m.t.h, .int .i64 m.t.y, .int .i64 m.t.p, .int .i64 m.a])] w fun e w' => e = .returned (.tuple #[(.agg #[.int .i64 0, .int .i64 0, .int .i64 0, .int .i64 0, .int .i64 0, .int .i64 0, .int .i64 0, .int .i64 0, .int .i64 0]), .bool false]) ∧ Below w.heap.size w w' := by
  have c1 := Lib.hid (fun g t w hg => l04Is_any g t m false ⟨fun e => (by cases e), fun e => absurd e h⟩ w hg)
  clear h
  go_enter Try.func35, Try.ntmps35
  go_wp2_with fail
  refine (c1.out _ _ _ (mbox w m)).mono ?_
  rintro e w1 ⟨rfl, b1⟩
  have R1 : Hid (w1.heap[w.heap.size + 1]? = some (.cells #[.int .i64 0, .int .i64 0, .int .i64 0, .int .i64 0, .int .i64 0, .int .i64 0, .int .i64 0, .int .i64 0, .int .i64 0] 29 (0, 0))) := (b1.block (w.heap.size + 1) (by rw [wsize]; omega)).trans (zbox w m)
  have M1 : Hid (w1.heap[w.heap.size]? = some (.cells #[.int .i64 m.u.s, .int .i64 m.u.h, .int .i64 m.u.y, .int .i64 m.u.p, .int .i64 m.t.s, .int .i64 m.t.h, .int .i64 m.t.y, .int .i64 m.t.p, .int .i64 m.a] 29 (0, 0))) := (b1.block (w.heap.size) (by rw [wsize]; omega)).trans (mbox w m)
  have B1 : Hid (Below w.heap.size w w1) := (wbelow w m).trans (b1.mono (by rw [wsize]; omega))
  have z1 : w.heap.size + 2 ≤ w1.heap.size := by have := b1.size; rw [wsize] at this; exact this
  clear b1 c1
  have RR := R1
  have BB := B1
  go_wp2_with (first | (refine wpList_store_M rfl _ _ rfl (w.heap.size + 1) (⟨⟨0, 0, 0, 0⟩, ⟨0, 0, 0, 0⟩, 0⟩ : Mc) (⟨⟨0, 0, 0, 0⟩, ⟨0, 0, 0, 0⟩, 0⟩ : Mc) _ rfl rfl RR.out ?_; intro wE hE oE bE) | fail)
  have PE := Lib.hid hE
  have BE : Hid (Below w.heap.size w wE) := BB.out.trans (bE.mono (by omega))
  clear hE oE bE
  obtain ⟨⟨g0, g1, g2, g3, g4, g5, g6, g7, g8⟩, -, -⟩ := boxMc_at (q := (⟨⟨0, 0, 0, 0⟩, ⟨0, 0, 0, 0⟩, 0⟩ : Mc)) PE.out
  try dsimp only at g0 g1 g2 g3 g4 g5 g6 g7 g8
  go_wp2
  refine bodyPost_ret (v := .tuple #[(.agg #[.int .i64 0, .int .i64 0, .int .i64 0, .int .i64 0, .int .i64 0, .int .i64 0, .int .i64 0, .int .i64 0, .int .i64 0]), .bool false]) (by simp [results, Try.results35, go_sem, g0, g1, g2, g3, g4, g5, g6, g7, g8]; try rfl) rfl ⟨rfl, BE.out⟩

set_option maxRecDepth 100000 in
set_option maxHeartbeats 4000000 in
theorem specMirror_yes (m : Mc) (h : OkM m) (w : World) :
    Calls Try.prog 35 #[(.agg #[.int .i64 m.u.s, .int .i64 m.u.h, .int .i64 m.u.y, .int .i64 m.u.p, .int .i64 m.t.s, .int .i64 m.t.h, .int .i64 m.t.y, .int .i64 m.t.p, .int .i64 m.a])] w fun e w' => e = .returned (.tuple #[(.agg #[.int .i64 (mirM m).u.s, .int .i64 (mirM m).u.h, .int .i64 (mirM m).u.y, .int .i64 (mirM m).u.p, .int .i64 (mirM m).t.s, .int .i64 (mirM m).t.h, .int .i64 (mirM m).t.y, .int .i64 (mirM m).t.p, .int .i64 (mirM m).a]), .bool true]) ∧ Below w.heap.size w w' := by
  have c1 := Lib.hid (fun g t w hg => l04Is_any g t m true ⟨fun _ => h, fun _ => rfl⟩ w hg)
  have C2 := Lib.hid (fun w => l04Mirror_any m.u h.1.1 w)
  have C3 := Lib.hid (fun w => l04Mirror_any m.t h.1.2.1 w)
  clear h
  go_enter Try.func35, Try.ntmps35
  go_wp2_with fail
  refine (c1.out _ _ _ (mbox w m)).mono ?_
  rintro e w1 ⟨rfl, b1⟩
  have R1 : Hid (w1.heap[w.heap.size + 1]? = some (.cells #[.int .i64 0, .int .i64 0, .int .i64 0, .int .i64 0, .int .i64 0, .int .i64 0, .int .i64 0, .int .i64 0, .int .i64 0] 29 (0, 0))) := (b1.block (w.heap.size + 1) (by rw [wsize]; omega)).trans (zbox w m)
  have M1 : Hid (w1.heap[w.heap.size]? = some (.cells #[.int .i64 m.u.s, .int .i64 m.u.h, .int .i64 m.u.y, .int .i64 m.u.p, .int .i64 m.t.s, .int .i64 m.t.h, .int .i64 m.t.y, .int .i64 m.t.p, .int .i64 m.a] 29 (0, 0))) := (b1.block (w.heap.size) (by rw [wsize]; omega)).trans (mbox w m)
  have B1 : Hid (Below w.heap.size w w1) := (wbelow w m).trans (b1.mono (by rw [wsize]; omega))
  have z1 : w.heap.size + 2 ≤ w1.heap.size := by have := b1.size; rw [wsize] at this; exact this
  clear b1 c1
  have KS : Hid (∀ w', Below (w.heap.size + 1) w1 w' → (w'.cell? ⟨w.heap.size, 0, none⟩ = some (.int .i64 m.u.s) ∧ w'.cell? ⟨w.heap.size, 1, none⟩ = some (.int .i64 m.u.h) ∧ w'.cell? ⟨w.heap.size, 2, none⟩ = some (.int .i64 m.u.y) ∧ w'.cell? ⟨w.heap.size, 3, none⟩ = some (.int .i64 m.u.p) ∧ w'.cell? ⟨w.heap.size, 4, none⟩ = some (.int .i64 m.t.s) ∧ w'.cell? ⟨w.heap.size, 5, none⟩ = some (.int .i64 m.t.h) ∧ w'.cell? ⟨w.heap.size, 6, none⟩ = some (.int .i64 m.t.y) ∧ w'.cell? ⟨w.heap.size, 7, none⟩ = some (.int .i64 m.t.p) ∧ w'.cell? ⟨w.heap.size, 8, none⟩ = some (.int .i64 m.a))) := by
    intro w' b
    exact (boxMc_at ((b.block w.heap.size (by omega)).trans M1.out)).1
  go_wp2_with fail
  refine wp_region_held_drew (S := fun w' => (w'.cell? ⟨w.heap.size, 0, none⟩ = some (.int .i64 m.u.s) ∧ w'.cell? ⟨w.heap.size, 1, none⟩ = some (.int .i64 m.u.h) ∧ w'.cell? ⟨w.heap.size, 2, none⟩ = some (.int .i64 m.u.y) ∧ w'.cell? ⟨w.heap.size, 3, none⟩ = some (.int .i64 m.u.p) ∧ w'.cell? ⟨w.heap.size, 4, none⟩ = some (.int .i64 m.t.s) ∧ w'.cell? ⟨w.heap.size, 5, none⟩ = some (.int .i64 m.t.h) ∧ w'.cell? ⟨w.heap.size, 6, none⟩ = some (.int .i64 m.t.y) ∧ w'.cell? ⟨w.heap.size, 7, none⟩ = some (.int .i64 m.t.p) ∧ w'.cell? ⟨w.heap.size, 8, none⟩ = some (.int .i64 m.a))) (by kernel_rfl) (KS.out _ (Below.refl _ _).drew) (fun hHeld => ?_)
  refine wpAnyH_take (i := 0) (v := ?_) (by (simp only [List.getElem?_toArray, List.getElem?_cons_succ, List.getElem?_cons_zero]); (try exact rfl)) (by kernel_rfl) (by kernel_rfl) (by kernel_rfl) (by intro _ _ _ h; exact h) (Or.inl ⟨by rfl, ?_⟩) (by assumption) ?_
  rotate_left
  · intro w hSw
    try dsimp only at hSw
    go_simp
    try with_reducible rfl
  try simp only [Act.put, List.setIfInBounds_toArray, List.set_cons_zero, List.set_cons_succ]
  refine wpAnyH_take (i := 1) (v := ?_) (by (simp only [List.getElem?_toArray, List.getElem?_cons_succ, List.getElem?_cons_zero]); (try exact rfl)) (by kernel_rfl) (by kernel_rfl) (by kernel_rfl) (by intro _ _ _ h; exact h) (Or.inl ⟨by rfl, ?_⟩) (by assumption) ?_
  rotate_left
  · intro w hSw
    try dsimp only at hSw
    go_simp
    try with_reducible rfl
  try simp only [Act.put, List.setIfInBounds_toArray, List.set_cons_zero, List.set_cons_succ]
  refine wpAnyH_take (i := 3) (v := ?_) (by (simp only [List.getElem?_toArray, List.getElem?_cons_succ, List.getElem?_cons_zero]); (try exact rfl)) (by kernel_rfl) (by kernel_rfl) (by kernel_rfl) (by intro _ _ _ h; exact h) (Or.inl ⟨by rfl, ?_⟩) (by assumption) ?_
  rotate_left
  · intro w hSw
    try dsimp only at hSw
    go_simp
    try with_reducible rfl
  try simp only [Act.put, List.setIfInBounds_toArray, List.set_cons_zero, List.set_cons_succ]
  refine wpAnyH_take (i := 4) (v := ?_) (by (simp only [List.getElem?_toArray, List.getElem?_cons_succ, List.getElem?_cons_zero]); (try exact rfl)) (by kernel_rfl) (by kernel_rfl) (by kernel_rfl) (by intro _ _ _ h; exact h) (Or.inl ⟨by rfl, ?_⟩) (by assumption) ?_
  rotate_left
  · intro w hSw
    try dsimp only at hSw
    go_simp
    try with_reducible rfl
  try simp only [Act.put, List.setIfInBounds_toArray, List.set_cons_zero, List.set_cons_succ]
  refine wpAnyH_take (i := 6) (v := ?_) (by (simp only [List.getElem?_toArray, List.getElem?_cons_succ, List.getElem?_cons_zero]); (try exact rfl)) (by kernel_rfl) (by kernel_rfl) (by kernel_rfl) (by intro _ _ _ h; exact h) (Or.inl ⟨by rfl, ?_⟩) (by assumption) ?_
  rotate_left
  · intro w hSw
    try dsimp only at hSw
    go_simp
    try with_reducible rfl
  try simp only [Act.put, List.setIfInBounds_toArray, List.set_cons_zero, List.set_cons_succ]
  refine wpAnyH_take (i := 7) (v := ?_) (by (simp only [List.getElem?_toArray, List.getElem?_cons_succ, List.getElem?_cons_zero]); (try exact rfl)) (by kernel_rfl) (by kernel_rfl) (by kernel_rfl) (by intro _ _ _ h; exact h) (Or.inl ⟨by rfl, ?_⟩) (by assumption) ?_
  rotate_left
  · intro w hSw
    try dsimp only at hSw
    go_simp
    try with_reducible rfl
  try simp only [Act.put, List.setIfInBounds_toArray, List.set_cons_zero, List.set_cons_succ]
  refine wpAnyH_ready (rs := [2]) (by kernel_rfl) (by simp) ?_
  refine AllReadyH.cons (by (simp only [List.getElem?_toArray, List.getElem?_cons_succ, List.getElem?_cons_zero]); (try exact rfl)) (fun K hK => ?_) AllReadyH.nil
  go_simp
  go_at_call 75
  refine (C2.out _).mono ?_
  rintro e w2 ⟨rfl, b2⟩
  have D2 : Hid (Below w1.heap.size w1 w2) := (Below.refl _ _).drew.trans b2
  (first | refine hK.out _ _ ?_ (fun hHeld => ?_) | (go_wp2_with fail; refine hK.out _ _ ?_ (fun hHeld => ?_)))
  · try dsimp only
    exact KS.out _ (Below.mono D2.out (by omega))
  clear hK K
  try simp only [Act.put, List.setIfInBounds_toArray, List.set_cons_zero, List.set_cons_succ]
  refine wpAnyH_ready (rs := [5]) (by kernel_rfl) (by simp) ?_
  refine AllReadyH.cons (by (simp only [List.getElem?_toArray, List.getElem?_cons_succ, List.getElem?_cons_zero]); (try exact rfl)) (fun K hK => ?_) AllReadyH.nil
  go_simp
  go_at_call 75
  refine (C3.out _).mono ?_
  rintro e w3 ⟨rfl, b3⟩
  have D3 : Hid (Below w1.heap.size w1 w3) := D2.out.trans (b3.mono D2.out.size)
  have R3 : Hid (w3.heap[w.heap.size + 1]? = some (.cells #[.int .i64 0, .int .i64 0, .int .i64 0, .int .i64 0, .int .i64 0, .int .i64 0, .int .i64 0, .int .i64 0, .int .i64 0] 29 (0, 0))) := (D3.out.block (w.heap.size + 1) (by omega)).trans R1.out
  (first | refine hK.out _ _ ?_ (fun hHeld => ?_) | (go_wp2_with fail; refine hK.out _ _ ?_ (fun hHeld => ?_)))
  · try dsimp only
    exact KS.out _ (Below.mono D3.out (by omega))
  clear hK K
  try simp only [Act.put, List.setIfInBounds_toArray, List.set_cons_zero, List.set_cons_succ]
  refine wpAnyH_take (i := 8) (v := ?_) (by (simp only [List.getElem?_toArray, List.getElem?_cons_succ, List.getElem?_cons_zero]); (try exact rfl)) (by kernel_rfl) (by kernel_rfl) (by kernel_rfl) (by intro _ _ _ h; exact h) (Or.inl ⟨by rfl, ?_⟩) (by assumption) ?_
  rotate_left
  · intro w hSw
    try dsimp only at hSw
    go_simp
    try with_reducible rfl
  try simp only [Act.put, List.setIfInBounds_toArray, List.set_cons_zero, List.set_cons_succ]
  refine wpAnyH_ready (rs := [9]) (by kernel_rfl) (by simp) ?_
  refine AllReadyH.cons (by (simp only [List.getElem?_toArray, List.getElem?_cons_succ, List.getElem?_cons_zero]); (try exact rfl)) (fun K hK => ?_) AllReadyH.nil
  refine step_store_M rfl _ _ rfl (w.heap.size + 1) (⟨⟨0, 0, 0, 0⟩, ⟨0, 0, 0, 0⟩, 0⟩ : Mc) (mirM m) _ rfl rfl R3.out ?_
  intro wE hE oE bE
  have PE := Lib.hid hE
  have DE : Hid (Below (w.heap.size + 1) w1 wE) := Below.trans (D3.out.mono (by omega)) bE
  clear hE oE bE
  refine hK.out _ _ ?_ (fun hHeld => ?_)
  · try dsimp only
    exact KS.out _ DE.out
  clear hK K
  try simp only [Act.put, List.setIfInBounds_toArray, List.set_cons_zero, List.set_cons_succ]
  refine wpAnyH_take (i := 10) (v := ?_) (by (simp only [List.getElem?_toArray, List.getElem?_cons_succ, List.getElem?_cons_zero]); (try exact rfl)) (by kernel_rfl) (by kernel_rfl) (by kernel_rfl) (by intro _ _ _ h; exact h) (Or.inl ⟨by rfl, ?_⟩) (by assumption) ?_
  rotate_left
  · intro w hSw
    try dsimp only at hSw
    go_simp
    try with_reducible rfl
  try simp only [Act.put, List.setIfInBounds_toArray, List.set_cons_zero, List.set_cons_succ]
  refine wpAnyH_done (by kernel_rfl) ?_ _
  all_goals
    have BE : Hid (Below w.heap.size w wE) := B1.out.trans (DE.out.mono (by omega))
    obtain ⟨⟨g0, g1, g2, g3, g4, g5, g6, g7, g8⟩, -, -⟩ := boxMc_at (q := mirM m) PE.out
    go_wp2
    refine bodyPost_ret (v := .tuple #[(.agg #[.int .i64 (mirM m).u.s, .int .i64 (mirM m).u.h, .int .i64 (mirM m).u.y, .int .i64 (mirM m).u.p, .int .i64 (mirM m).t.s, .int .i64 (mirM m).t.h, .int .i64 (mirM m).t.y, .int .i64 (mirM m).t.p, .int .i64 (mirM m).a]), .bool true]) (by simp [results, Try.results35, go_sem, g0, g1, g2, g3, g4, g5, g6, g7, g8]; try rfl) rfl ⟨rfl, BE.out⟩

set_option maxHeartbeats 2000000 in
theorem implMirror_no (m : Mc) (h : ¬ OkM m) (w : World) :
    Calls Try.prog 36 #[(.agg #[.int .i64 m.u.s, .int .i64 m.u.h, .int .i64 m.u.y, .int .i64 m.u.p, .int .i64 m.t.s, .int .i64 m.t.h, .int .i64 m.t.y, .int .i64 m.t.p, .int .i64 m.a])] w fun e w' => e = .returned (.tuple #[(.agg #[.int .i64 0, .int .i64 0, .int .i64 0, .int .i64 0, .int .i64 0, .int .i64 0, .int .i64 0, .int .i64 0, .int .i64 0]), .bool false]) ∧ Below w.heap.size w w' := by
  have c1 := Lib.hid (fun w => implValid_any m false ⟨fun e => (by cases e), fun e => absurd e h⟩ w)
  clear h
  go_enter Try.func36, Try.ntmps36
  go_wp2_with fail
  refine (c1.out _).mono ?_
  rintro e w1 ⟨rfl, b1⟩
  have R1 : Hid (w1.heap[w.heap.size + 1]? = some (.cells #[.int .i64 0, .int .i64 0, .int .i64 0, .int .i64 0, .int .i64 0, .int .i64 0, .int .i64 0, .int .i64 0, .int .i64 0] 29 (0, 0))) := (b1.block (w.heap.size + 1) (by rw [wsize]; omega)).trans (zbox w m)
  have M1 : Hid (w1.heap[w.heap.size]? = some (.cells #[.int .i64 m.u.s, .int .i64 m.u.h, .int .i64 m.u.y, .int .i64 m.u.p, .int .i64 m.t.s, .int .i64 m.t.h, .int .i64 m.t.y, .int .i64 m.t.p, .int .i64 m.a] 29 (0, 0))) := (b1.block (w.heap.size) (by rw [wsize]; omega)).trans (mbox w m)
  have B1 : Hid (Below w.heap.size w w1) := (wbelow w m).trans (b1.mono (by rw [wsize]; omega))
  have z1 : w.heap.size + 2 ≤ w1.heap.size := by have := b1.size; rw [wsize] at this; exact this
  clear b1 c1
  have RR := R1
  have BB := B1
  go_wp2_with (first | (refine wpList_store_M rfl _ _ rfl (w.heap.size + 1) (⟨⟨0, 0, 0, 0⟩, ⟨0, 0, 0, 0⟩, 0⟩ : Mc) (⟨⟨0, 0, 0, 0⟩, ⟨0, 0, 0, 0⟩, 0⟩ : Mc) _ rfl rfl RR.out ?_; intro wE hE oE bE) | fail)
  have PE := Lib.hid hE
  have BE : Hid (Below w.heap.size w wE) := BB.out.trans (bE.mono (by omega))
  clear hE oE bE
  obtain ⟨⟨g0, g1, g2, g3, g4, g5, g6, g7, g8⟩, -, -⟩ := boxMc_at (q := (⟨⟨0, 0, 0, 0⟩, ⟨0, 0, 0, 0⟩, 0⟩ : Mc)) PE.out
  try dsimp only at g0 g1 g2 g3 g4 g5 g6 g7 g8
  go_wp2
  refine bodyPost_ret (v := .tuple #[(.agg #[.int .i64 0, .int .i64 0, .int .i64 0, .int .i64 0, .int .i64 0, .int .i64 0, .int .i64 0, .int .i64 0, .int .i64 0]), .bool false]) (by simp [results, Try.results36, go_sem, g0, g1, g2, g3, g4, g5, g6, g7, g8]; try rfl) rfl ⟨rfl, BE.out⟩

set_option maxRecDepth 100000 in
set_option maxHeartbeats 4000000 in
theorem implMirror_yes (m : Mc) (h : OkM m) (w : World) :
    Calls Try.prog 36 #[(.agg #[.int .i64 m.u.s, .int .i64 m.u.h, .int .i64 m.u.y, .int .i64 m.u.p, .int .i64 m.t.s, .int .i64 m.t.h, .int .i64 m.t.y, .int .i64 m.t.p, .int .i64 m.a])] w fun e w' => e = .returned (.tuple #[(.agg #[.int .i64 (mirM m).u.s, .int .i64 (mirM m).u.h, .int .i64 (mirM m).u.y, .int .i64 (mirM m).u.p, .int .i64 (mirM m).t.s, .int .i64 (mirM m).t.h, .int .i64 (mirM m).t.y, .int .i64 (mirM m).t.p, .int .i64 (mirM m).a]), .bool true]) ∧ Below w.heap.size w w' := by
  have c1 := Lib.hid (fun w => implValid_any m true ⟨fun _ => h, fun _ => rfl⟩ w)
  have C2 := Lib.hid (fun w => mirrored_any m.u h.1.1 w)
  have C3 := Lib.hid (fun w => mirrored_any m.t h.1.2.1 w)
  clear h
  go_enter Try.func36, Try.ntmps36
  go_wp2_with fail
  refine (c1.out _).mono ?_
  rintro e w1 ⟨rfl, b1⟩
  have R1 : Hid (w1.heap[w.heap.size + 1]? = some (.cells #[.int .i64 0, .int .i64 0, .int .i64 0, .int .i64 0, .int .i64 0, .int .i64 0, .int .i64 0, .int .i64 0, .int .i64 0] 29 (0, 0))) := (b1.block (w.heap.size + 1) (by rw [wsize]; omega)).trans (zbox w m)
  have M1 : Hid (w1.heap[w.heap.size]? = some (.cells #[.int .i64 m.u.s, .int .i64 m.u.h, .int .i64 m.u.y, .int .i64 m.u.p, .int .i64 m.t.s, .int .i64 m.t.h, .int .i64 m.t.y, .int .i64 m.t.p, .int .i64 m.a] 29 (0, 0))) := (b1.block (w.heap.size) (by rw [wsize]; omega)).trans (mbox w m)
  have B1 : Hid (Below w.heap.size w w1) := (wbelow w m).trans (b1.mono (by rw [wsize]; omega))
  have z1 : w.heap.size + 2 ≤ w1.heap.size := by have := b1.size; rw [wsize] at this; exact this
  clear b1 c1
  have KS : Hid (∀ w', Below (w.heap.size + 1) w1 w' → (w'.cell? ⟨w.heap.size, 0, none⟩ = some (.int .i64 m.u.s) ∧ w'.cell? ⟨w.heap.size, 1, none⟩ = some (.int .i64 m.u.h) ∧ w'.cell? ⟨w.heap.size, 2, none⟩ = some (.int .i64 m.u.y) ∧ w'.cell? ⟨w.heap.size, 3, none⟩ = some (.int .i64 m.u.p) ∧ w'.cell? ⟨w.heap.size, 4, none⟩ = some (.int .i64 m.t.s) ∧ w'.cell? ⟨w.heap.size, 5, none⟩ = some (.int .i64 m.t.h) ∧ w'.cell? ⟨w.heap.size, 6, none⟩ = some (.int .i64 m.t.y) ∧ w'.cell? ⟨w.heap.size, 7, none⟩ = some (.int .i64 m.t.p) ∧ w'.cell? ⟨w.heap.size, 8, none⟩ = some (.int .i64 m.a))) := by
    intro w' b
    exact (boxMc_at ((b.block w.heap.size (by omega)).trans M1.out)).1
  go_wp2_with fail
  refine wp_region_held_drew (S := fun w' => (w'.cell? ⟨w.heap.size, 0, none⟩ = some (.int .i64 m.u.s) ∧ w'.cell? ⟨w.heap.size, 1, none⟩ = some (.int .i64 m.u.h) ∧ w'.cell? ⟨w.heap.size, 2, none⟩ = some (.int .i64 m.u.y) ∧ w'.cell? ⟨w.heap.size, 3, none⟩ = some (.int .i64 m.u.p) ∧ w'.cell? ⟨w.heap.size, 4, none⟩ = some (.int .i64 m.t.s) ∧ w'.cell? ⟨w.heap.size, 5, none⟩ = some (.int .i64 m.t.h) ∧ w'.cell? ⟨w.heap.size, 6, none⟩ = some (.int .i64 m.t.y) ∧ w'.cell? ⟨w.heap.size, 7, none⟩ = some (.int .i64 m.t.p) ∧ w'.cell? ⟨w.heap.size, 8, none⟩ = some (.int .i64 m.a))) (by kernel_rfl) (KS.out _ (Below.refl _ _).drew) (fun hHeld => ?_)
  refine wpAnyH_take (i := 0) (v := ?_) (by (simp only [List.getElem?_toArray, List.getElem?_cons_succ, List.getElem?_cons_zero]); (try exact rfl)) (by kernel_rfl) (by kernel_rfl) (by kernel_rfl) (by intro _ _ _ h; exact h) (Or.inl ⟨by rfl, ?_⟩) (by assumption) ?_
  rotate_left
  · intro w hSw
    try dsimp only at hSw
    go_simp
    try with_reducible rfl
  try simp only [Act.put, List.setIfInBounds_toArray, List.set_cons_zero, List.set_cons_succ]
  refine wpAnyH_take (i := 1) (v := ?_) (by (simp only [List.getElem?_toArray, List.getElem?_cons_succ, List.getElem?_cons_zero]); (try exact rfl)) (by kernel_rfl) (by kernel_rfl) (by kernel_rfl) (by intro _ _ _ h; exact h) (Or.inl ⟨by rfl, ?_⟩) (by assumption) ?_
  rotate_left
  · intro w hSw
    try dsimp only at hSw
    go_simp
    try with_reducible rfl
  try simp only [Act.put, List.setIfInBounds_toArray, List.set_cons_zero, List.set_cons_succ]
  refine wpAnyH_take (i := 3) (v := ?_) (by (simp only [List.getElem?_toArray, List.getElem?_cons_succ, List.getElem?_cons_zero]); (try exact rfl)) (by kernel_rfl) (by kernel_rfl) (by kernel_rfl) (by intro _ _ _ h; exact h) (Or.inl ⟨by rfl, ?_⟩) (by assumption) ?_
  rotate_left
  · intro w hSw
    try dsimp only at hSw
    go_simp
    try with_reducible rfl
  try simp only [Act.put, List.setIfInBounds_toArray, List.set_cons_zero, List.set_cons_succ]
  refine wpAnyH_take (i := 4) (v := ?_) (by (simp only [List.getElem?_toArray, List.getElem?_cons_succ, List.getElem?_cons_zero]); (try exact rfl)) (by kernel_rfl) (by kernel_rfl) (by kernel_rfl) (by intro _ _ _ h; exact h) (Or.inl ⟨by rfl, ?_⟩) (by assumption) ?_
  rotate_left
  · intro w hSw
    try dsimp only at hSw
    go_simp
    try with_reducible rfl
  try simp only [Act.put, List.setIfInBounds_toArray, List.set_cons_zero, List.set_cons_succ]
  refine wpAnyH_take (i := 6) (v := ?_) (by (simp only [List.getElem?_toArray, List.getElem?_cons_succ, List.getElem?_cons_zero]); (try exact rfl)) (by kernel_rfl) (by kernel_rfl) (by kernel_rfl) (by intro _ _ _ h; exact h) (Or.inl ⟨by rfl, ?_⟩) (by assumption) ?_
  rotate_left
  · intro w hSw
    try dsimp only at hSw
    go_simp
    try with_reducible rfl
  try simp only [Act.put, List.setIfInBounds_toArray, List.set_cons_zero, List.set_cons_succ]
  refine wpAnyH_take (i := 7) (v := ?_) (by (simp only [List.getElem?_toArray, List.getElem?_cons_succ, List.getElem?_cons_zero]); (try exact rfl)) (by kernel_rfl) (by kernel_rfl) (by kernel_rfl) (by intro _ _ _ h; exact h) (Or.inl ⟨by rfl, ?_⟩) (by assumption) ?_
  rotate_left
  · intro w hSw
    try dsimp only at hSw
    go_simp
    try with_reducible rfl
  try simp only [Act.put, List.setIfInBounds_toArray, List.set_cons_zero, List.set_cons_succ]
  refine wpAnyH_ready (rs := [2]) (by kernel_rfl) (by simp) ?_
  refine AllReadyH.cons (by (simp only [List.getElem?_toArray, List.getElem?_cons_succ, List.getElem?_cons_zero]); (try exact rfl)) (fun K hK => ?_) AllReadyH.nil
  go_simp
  go_at_call 76
  refine (C2.out _).mono ?_
  rintro e w2 ⟨rfl, b2⟩
  have D2 : Hid (Below w1.heap.size w1 w2) := (Below.refl _ _).drew.trans b2
  (first | refine hK.out _ _ ?_ (fun hHeld => ?_) | (go_wp2_with fail; refine hK.out _ _ ?_ (fun hHeld => ?_)))
  · try dsimp only
    exact KS.out _ (Below.mono D2.out (by omega))
  clear hK K
  try simp only [Act.put, List.setIfInBounds_toArray, List.set_cons_zero, List.set_cons_succ]
  refine wpAnyH_ready (rs := [5]) (by kernel_rfl) (by simp) ?_
  refine AllReadyH.cons (by (simp only [List.getElem?_toArray, List.getElem?_cons_succ, List.getElem?_cons_zero]); (try exact rfl)) (fun K hK => ?_) AllReadyH.nil
  go_simp
  go_at_call 76
  refine (C3.out _).mono ?_
  rintro e w3 ⟨rfl, b3⟩
  have D3 : Hid (Below w1.heap.size w1 w3) := D2.out.trans (b3.mono D2.out.size)
  have R3 : Hid (w3.heap[w.heap.size + 1]? = some (.cells #[.int .i64 0, .int .i64 0, .int .i64 0, .int .i64 0, .int .i64 0, .int .i64 0, .int .i64 0, .int .i64 0, .int .i64 0] 29 (0, 0))) := (D3.out.block (w.heap.size + 1) (by omega)).trans R1.out
  (first | refine hK.out _ _ ?_ (fun hHeld => ?_) | (go_wp2_with fail; refine hK.out _ _ ?_ (fun hHeld => ?_)))
  · try dsimp only
    exact KS.out _ (Below.mono D3.out (by omega))
  clear hK K
  try simp only [Act.put, List.setIfInBounds_toArray, List.set_cons_zero, List.set_cons_succ]
  refine wpAnyH_take (i := 8) (v := ?_) (by (simp only [List.getElem?_toArray, List.getElem?_cons_succ, List.getElem?_cons_zero]); (try exact rfl)) (by kernel_rfl) (by kernel_rfl) (by kernel_rfl) (by intro _ _ _ h; exact h) (Or.inl ⟨by rfl, ?_⟩) (by assumption) ?_
  rotate_left
  · intro w hSw
    try dsimp only at hSw
    go_simp
    try with_reducible rfl
  try simp only [Act.put, List.setIfInBounds_toArray, List.set_cons_zero, List.set_cons_succ]
  refine wpAnyH_ready (rs := [9]) (by kernel_rfl) (by simp) ?_
  refine AllReadyH.cons (by (simp only [List.getElem?_toArray, List.getElem?_cons_succ, List.getElem?_cons_zero]); (try exact rfl)) (fun K hK => ?_) AllReadyH.nil
  refine step_store_M rfl _ _ rfl (w.heap.size + 1) (⟨⟨0, 0, 0, 0⟩, ⟨0, 0, 0, 0⟩, 0⟩ : Mc) (mirM m) _ rfl rfl R3.out ?_
  intro wE hE oE bE
  have PE := Lib.hid hE
  have DE : Hid (Below (w.heap.size + 1) w1 wE) := Below.trans (D3.out.mono (by omega)) bE
  clear hE oE bE
  refine hK.out _ _ ?_ (fun hHeld => ?_)
  · try dsimp only
    exact KS.out _ DE.out
  clear hK K
  try simp only [Act.put, List.setIfInBounds_toArray, List.set_cons_zero, List.set_cons_succ]
  refine wpAnyH_take (i := 10) (v := ?_) (by (simp only [List.getElem?_toArray, List.getElem?_cons_succ, List.getElem?_cons_zero]); (try exact rfl)) (by kernel_rfl) (by kernel_rfl) (by kernel_rfl) (by intro _ _ _ h; exact h) (Or.inl ⟨by rfl, ?_⟩) (by assumption) ?_
  rotate_left
  · intro w hSw
    try dsimp only at hSw
    go_simp
    try with_reducible rfl
  try simp only [Act.put, List.setIfInBounds_toArray, List.set_cons_zero, List.set_cons_succ]
  refine wpAnyH_done (by kernel_rfl) ?_ _
  all_goals
    have BE : Hid (Below w.heap.size w wE) := B1.out.trans (DE.out.mono (by omega))
    obtain ⟨⟨g0, g1, g2, g3, g4, g5, g6, g7, g8⟩, -, -⟩ := boxMc_at (q := mirM m) PE.out
    go_wp2
    refine bodyPost_ret (v := .tuple #[(.agg #[.int .i64 (mirM m).u.s, .int .i64 (mirM m).u.h, .int .i64 (mirM m).u.y, .int .i64 (mirM m).u.p, .int .i64 (mirM m).t.s, .int .i64 (mirM m).t.h, .int .i64 (mirM m).t.y, .int .i64 (mirM m).t.p, .int .i64 (mirM m).a]), .bool true]) (by simp [results, Try.results36, go_sem, g0, g1, g2, g3, g4, g5, g6, g7, g8]; try rfl) rfl ⟨rfl, BE.out⟩

theorem exMirrorMachine (q : Mc) : ∃ (o : Mc) (v : Bool),
    Hid (∀ (w : World), (fun _ => True) w → Calls Try.prog 35 #[(.agg #[.int .i64 q.u.s, .int .i64 q.u.h, .int .i64 q.u.y, .int .i64 q.u.p, .int .i64 q.t.s, .int .i64 q.t.h, .int .i64 q.t.y, .int .i64 q.t.p, .int .i64 q.a])] w fun e w' => e = .returned (.tuple #[(.agg #[.int .i64 o.u.s, .int .i64 o.u.h, .int .i64 o.u.y, .int .i64 o.u.p, .int .i64 o.t.s, .int .i64 o.t.h, .int .i64 o.t.y, .int .i64 o.t.p, .int .i64 o.a]), .bool v]) ∧ Below w.heap.size w w') ∧
    Hid (∀ (w : World), (fun _ => True) w → Calls Try.prog 36 #[(.agg #[.int .i64 q.u.s, .int .i64 q.u.h, .int .i64 q.u.y, .int .i64 q.u.p, .int .i64 q.t.s, .int .i64 q.t.h, .int .i64 q.t.y, .int .i64 q.t.p, .int .i64 q.a])] w fun e w' => e = .returned (.tuple #[(.agg #[.int .i64 o.u.s, .int .i64 o.u.h, .int .i64 o.u.y, .int .i64 o.u.p, .int .i64 o.t.s, .int .i64 o.t.h, .int .i64 o.t.y, .int .i64 o.t.p, .int .i64 o.a]), .bool v]) ∧ Below w.heap.size w w') := by
  by_cases h : OkM q
  · exact ⟨mirM q, true, fun w _ => specMirror_yes q h w, fun w _ => implMirror_yes q h w⟩
  · exact ⟨(⟨⟨0, 0, 0, 0⟩, ⟨0, 0, 0, 0⟩, 0⟩ : Mc), false, fun w _ => specMirror_no q h w, fun w _ => implMirror_no q h w⟩
end Go.Proofs.Ytjapgbeecabkfaa
