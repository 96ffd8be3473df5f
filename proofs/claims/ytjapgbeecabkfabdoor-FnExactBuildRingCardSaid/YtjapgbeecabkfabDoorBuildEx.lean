/- BuildRing on both sides. -/
import Derived.Test.YtjapgbeecabkfabDoorBuild
import Derived.Deep.RegionHeld3
namespace Go.Proofs.YtjapgbeecabkfabDoor
open Go.ChangeShapes Go.WideShapes Go.ChangeAt Go.RowKit
set_option linter.unusedVariables false
set_option linter.unusedSimpArgs false

theorem step_store_M {ops : Array Oper} {op : Oper} {a : Act} {w : World} {K : Act → World → Prop} {Q : Exit → Act → World → Prop} {E : Prop} (hgd : op.guard = none) (x y : Operand) (ho : op.op = .store 30 x y)
    (g : Nat) (q n : Mc) (t : TypeId) (hx : a.eval x = .pointer (some ⟨g, 0, none⟩)) (hy : a.eval y = (.agg #[.int .i64 n.u.s, .int .i64 n.u.h, .int .i64 n.u.y, .int .i64 n.u.p, .int .i64 n.t.s, .int .i64 n.t.h, .int .i64 n.t.y, .int .i64 n.t.p, .int .i64 n.a])) (hg : w.heap[g]? = some (.cells #[.int .i64 q.u.s, .int .i64 q.u.h, .int .i64 q.u.y, .int .i64 q.u.p, .int .i64 q.t.s, .int .i64 q.t.h, .int .i64 q.t.y, .int .i64 q.t.p, .int .i64 q.a] t (0, 0)))
    (h : ∀ w', w'.heap[g]? = some (.cells #[.int .i64 n.u.s, .int .i64 n.u.h, .int .i64 n.u.y, .int .i64 n.u.p, .int .i64 n.t.s, .int .i64 n.t.h, .int .i64 n.t.y, .int .i64 n.t.p, .int .i64 n.a] t (0, 0)) → (∀ j, j ≠ g → w'.heap[j]? = w.heap[j]?) → Below g w w' → K (a.put op.dst undef) w') :
    if Region.wanted op (yielded ops a.tmps) = true then op.wp Tryd.prog a w K Q else E := by
  have hw : Region.wanted op (yielded ops a.tmps) = true := by simp [Region.wanted, hgd]
  rw [if_pos hw]
  refine wp_store_mid 30 x y ho g 0 #[.int .i64 n.u.s, .int .i64 n.u.h, .int .i64 n.u.y, .int .i64 n.u.p, .int .i64 n.t.s, .int .i64 n.t.h, .int .i64 n.t.y, .int .i64 n.t.p, .int .i64 n.a] hx hy ?_ info_M (by simp [Value.oneCell']) ?_
  · intro j hj
    rw [Nat.zero_add]
    obtain ⟨⟨c0, c1, c2, c3, c4, c5, c6, c7, c8⟩, ⟨f0, f1, f2, f3, f4, f5, f6, f7, f8⟩, -⟩ := boxMc_at hg
    match j, hj with
    | 0, _ => exact ⟨by rw [c0]; rfl, f0⟩
    | 1, _ => exact ⟨by rw [c1]; rfl, f1⟩
    | 2, _ => exact ⟨by rw [c2]; rfl, f2⟩
    | 3, _ => exact ⟨by rw [c3]; rfl, f3⟩
    | 4, _ => exact ⟨by rw [c4]; rfl, f4⟩
    | 5, _ => exact ⟨by rw [c5]; rfl, f5⟩
    | 6, _ => exact ⟨by rw [c6]; rfl, f6⟩
    | 7, _ => exact ⟨by rw [c7]; rfl, f7⟩
    | 8, _ => exact ⟨by rw [c8]; rfl, f8⟩
  · refine h _ (boxMc_put hg n) ?_ ?_
    · intro j hj
      show (((((((((w.setCell ⟨g, 0, none⟩ (.int .i64 n.u.s)).setCell ⟨g, 1, none⟩ (.int .i64 n.u.h)).setCell ⟨g, 2, none⟩ (.int .i64 n.u.y)).setCell ⟨g, 3, none⟩ (.int .i64 n.u.p)).setCell ⟨g, 4, none⟩ (.int .i64 n.t.s)).setCell ⟨g, 5, none⟩ (.int .i64 n.t.h)).setCell ⟨g, 6, none⟩ (.int .i64 n.t.y)).setCell ⟨g, 7, none⟩ (.int .i64 n.t.p)).setCell ⟨g, 8, none⟩ (.int .i64 n.a)).heap[j]? = _
      rw [Below.heap_setCell _ _ _ _ hj, Below.heap_setCell _ _ _ _ hj, Below.heap_setCell _ _ _ _ hj, Below.heap_setCell _ _ _ _ hj, Below.heap_setCell _ _ _ _ hj, Below.heap_setCell _ _ _ _ hj, Below.heap_setCell _ _ _ _ hj, Below.heap_setCell _ _ _ _ hj, Below.heap_setCell _ _ _ _ hj]
    · exact ((((((((((Below.refl g w).setCell (p := ⟨g, 0, none⟩) (Nat.le_refl g) (.int .i64 n.u.s)).setCell (p := ⟨g, 1, none⟩) (Nat.le_refl g) (.int .i64 n.u.h)).setCell (p := ⟨g, 2, none⟩) (Nat.le_refl g) (.int .i64 n.u.y)).setCell (p := ⟨g, 3, none⟩) (Nat.le_refl g) (.int .i64 n.u.p)).setCell (p := ⟨g, 4, none⟩) (Nat.le_refl g) (.int .i64 n.t.s)).setCell (p := ⟨g, 5, none⟩) (Nat.le_refl g) (.int .i64 n.t.h)).setCell (p := ⟨g, 6, none⟩) (Nat.le_refl g) (.int .i64 n.t.y)).setCell (p := ⟨g, 7, none⟩) (Nat.le_refl g) (.int .i64 n.t.p)).setCell (p := ⟨g, 8, none⟩) (Nat.le_refl g) (.int .i64 n.a))


def buildV (m : Mc) (r : Rg) : Prop := OkM m ∧ OkR r ∧ OkM (buildR m r)
theorem buildV_dec (m : Mc) (r : Rg) : ∃ v : Bool, v = true ↔ buildV m r := by
  by_cases h : buildV m r
  · exact ⟨true, by simp [h]⟩
  · exact ⟨false, by simp [h]⟩
theorem rv_ex (q : Mc) (r : Rg) : ∃ v : Bool, v = true ↔ OkR r ∧ OkM (buildR q r) := by
  by_cases h : OkR r ∧ OkM (buildR q r)
  · exact ⟨true, by simp [h]⟩
  · exact ⟨false, by simp [h]⟩

theorem key_build (m o q : Mc) (r : Rg) (v v1 v2 : Bool) (hv : v = true ↔ buildV m r) (hv1 : v1 = true ↔ OkM m) (hq : v1 = true → q = m) (hv2 : v2 = true ↔ OkR r ∧ OkM (buildR q r)) (ho : o = if v then buildR m r else (⟨⟨0, 0, 0, 0⟩, ⟨0, 0, 0, 0⟩, 0⟩ : Mc)) :
    ∀ q2 : Mc, (v2 = true → q2 = buildR q r) → v = (!((!v1) || !v2)) ∧ o = if ((!v1) || !v2) then (⟨⟨0, 0, 0, 0⟩, ⟨0, 0, 0, 0⟩, 0⟩ : Mc) else q2 := by
  intro q2 h2
  cases v1 with
  | false =>
    have hm : ¬ OkM m := fun h => by cases hv1.mpr h
    obtain rfl : v = false := b_false hv fun h => hm h.1
    exact ⟨by simp, by simpa using ho⟩
  | true =>
    have e := hq rfl
    subst e
    cases v2 with
    | false =>
      obtain rfl : v = false := b_false hv fun h => by cases hv2.mpr h.2
      exact ⟨by simp, by simpa using ho⟩
    | true =>
      obtain rfl : v = true := hv.mpr ⟨hv1.mp rfl, hv2.mp rfl⟩
      refine ⟨by simp, ?_⟩
      rw [h2 rfl]
      simpa using ho

theorem rsize (w : World) (m : Mc) (r : Rg) : (((w.alloc (.cells #[.int .i64 m.u.s, .int .i64 m.u.h, .int .i64 m.u.y, .int .i64 m.u.p, .int .i64 m.t.s, .int .i64 m.t.h, .int .i64 m.t.y, .int .i64 m.t.p, .int .i64 m.a] 30)).alloc (.cells #[.int .i64 r.k, .int .i64 r.y] 34)).alloc (.cells #[.int .i64 0, .int .i64 0, .int .i64 0, .int .i64 0, .int .i64 0, .int .i64 0, .int .i64 0, .int .i64 0, .int .i64 0] 30)).heap.size = w.heap.size + 3 := by simp
theorem rge (w : World) (m : Mc) (r : Rg) : w.heap.size + 3 ≤ (((w.alloc (.cells #[.int .i64 m.u.s, .int .i64 m.u.h, .int .i64 m.u.y, .int .i64 m.u.p, .int .i64 m.t.s, .int .i64 m.t.h, .int .i64 m.t.y, .int .i64 m.t.p, .int .i64 m.a] 30)).alloc (.cells #[.int .i64 r.k, .int .i64 r.y] 34)).alloc (.cells #[.int .i64 0, .int .i64 0, .int .i64 0, .int .i64 0, .int .i64 0, .int .i64 0, .int .i64 0, .int .i64 0, .int .i64 0] 30)).heap.size := by rw [rsize]; exact Nat.le_refl _
theorem rle (w : World) (m : Mc) (r : Rg) {g : Nat} (h : (((w.alloc (.cells #[.int .i64 m.u.s, .int .i64 m.u.h, .int .i64 m.u.y, .int .i64 m.u.p, .int .i64 m.t.s, .int .i64 m.t.h, .int .i64 m.t.y, .int .i64 m.t.p, .int .i64 m.a] 30)).alloc (.cells #[.int .i64 r.k, .int .i64 r.y] 34)).alloc (.cells #[.int .i64 0, .int .i64 0, .int .i64 0, .int .i64 0, .int .i64 0, .int .i64 0, .int .i64 0, .int .i64 0, .int .i64 0] 30)).heap.size ≤ g) : w.heap.size + 3 ≤ g := by rw [rsize] at h; exact h
theorem rbelow (w : World) (m : Mc) (r : Rg) : Below w.heap.size w (((w.alloc (.cells #[.int .i64 m.u.s, .int .i64 m.u.h, .int .i64 m.u.y, .int .i64 m.u.p, .int .i64 m.t.s, .int .i64 m.t.h, .int .i64 m.t.y, .int .i64 m.t.p, .int .i64 m.a] 30)).alloc (.cells #[.int .i64 r.k, .int .i64 r.y] 34)).alloc (.cells #[.int .i64 0, .int .i64 0, .int .i64 0, .int .i64 0, .int .i64 0, .int .i64 0, .int .i64 0, .int .i64 0, .int .i64 0] 30)) := by go_grown
theorem rbox (w : World) (m : Mc) (r : Rg) : (((w.alloc (.cells #[.int .i64 m.u.s, .int .i64 m.u.h, .int .i64 m.u.y, .int .i64 m.u.p, .int .i64 m.t.s, .int .i64 m.t.h, .int .i64 m.t.y, .int .i64 m.t.p, .int .i64 m.a] 30)).alloc (.cells #[.int .i64 r.k, .int .i64 r.y] 34)).alloc (.cells #[.int .i64 0, .int .i64 0, .int .i64 0, .int .i64 0, .int .i64 0, .int .i64 0, .int .i64 0, .int .i64 0, .int .i64 0] 30)).heap[w.heap.size + 2]? = some (.cells #[.int .i64 0, .int .i64 0, .int .i64 0, .int .i64 0, .int .i64 0, .int .i64 0, .int .i64 0, .int .i64 0, .int .i64 0] 30 (0, 0)) := by
  have h := heap_alloc_new ((w.alloc (.cells #[.int .i64 m.u.s, .int .i64 m.u.h, .int .i64 m.u.y, .int .i64 m.u.p, .int .i64 m.t.s, .int .i64 m.t.h, .int .i64 m.t.y, .int .i64 m.t.p, .int .i64 m.a] 30)).alloc (.cells #[.int .i64 r.k, .int .i64 r.y] 34)) (.cells #[.int .i64 0, .int .i64 0, .int .i64 0, .int .i64 0, .int .i64 0, .int .i64 0, .int .i64 0, .int .i64 0, .int .i64 0] 30)
  rwa [World.size_alloc, World.size_alloc] at h
theorem rbox1 (w : World) (m : Mc) (r : Rg) : (((w.alloc (.cells #[.int .i64 m.u.s, .int .i64 m.u.h, .int .i64 m.u.y, .int .i64 m.u.p, .int .i64 m.t.s, .int .i64 m.t.h, .int .i64 m.t.y, .int .i64 m.t.p, .int .i64 m.a] 30)).alloc (.cells #[.int .i64 r.k, .int .i64 r.y] 34)).alloc (.cells #[.int .i64 0, .int .i64 0, .int .i64 0, .int .i64 0, .int .i64 0, .int .i64 0, .int .i64 0, .int .i64 0, .int .i64 0] 30)).heap[w.heap.size + 1]? = some (.cells #[.int .i64 r.k, .int .i64 r.y] 34 (0, 0)) := by
  rw [Below.heap_alloc _ _ _ (by simp)]
  have h := heap_alloc_new (w.alloc (.cells #[.int .i64 m.u.s, .int .i64 m.u.h, .int .i64 m.u.y, .int .i64 m.u.p, .int .i64 m.t.s, .int .i64 m.t.h, .int .i64 m.t.y, .int .i64 m.t.p, .int .i64 m.a] 30)) (.cells #[.int .i64 r.k, .int .i64 r.y] 34)
  rwa [World.size_alloc] at h
theorem rbox0 (w : World) (m : Mc) (r : Rg) : (((w.alloc (.cells #[.int .i64 m.u.s, .int .i64 m.u.h, .int .i64 m.u.y, .int .i64 m.u.p, .int .i64 m.t.s, .int .i64 m.t.h, .int .i64 m.t.y, .int .i64 m.t.p, .int .i64 m.a] 30)).alloc (.cells #[.int .i64 r.k, .int .i64 r.y] 34)).alloc (.cells #[.int .i64 0, .int .i64 0, .int .i64 0, .int .i64 0, .int .i64 0, .int .i64 0, .int .i64 0, .int .i64 0, .int .i64 0] 30)).heap[w.heap.size]? = some (.cells #[.int .i64 m.u.s, .int .i64 m.u.h, .int .i64 m.u.y, .int .i64 m.u.p, .int .i64 m.t.s, .int .i64 m.t.h, .int .i64 m.t.y, .int .i64 m.t.p, .int .i64 m.a] 30 (0, 0)) := by
  rw [Below.heap_alloc _ _ _ (by simp; omega), Below.heap_alloc _ _ _ (by simp)]
  exact heap_alloc_new w (.cells #[.int .i64 m.u.s, .int .i64 m.u.h, .int .i64 m.u.y, .int .i64 m.u.p, .int .i64 m.t.s, .int .i64 m.t.h, .int .i64 m.t.y, .int .i64 m.t.p, .int .i64 m.a] 30)

set_option maxRecDepth 100000 in
set_option maxHeartbeats 4000000 in
theorem implBuild_any (m o : Mc) (r : Rg) (v : Bool) (hv : v = true ↔ buildV m r) (ho : o = if v then buildR m r else (⟨⟨0, 0, 0, 0⟩, ⟨0, 0, 0, 0⟩, 0⟩ : Mc)) (w : World) (T : TKeys w) :
    Calls Tryd.prog 15 #[(.agg #[.int .i64 m.u.s, .int .i64 m.u.h, .int .i64 m.u.y, .int .i64 m.u.p, .int .i64 m.t.s, .int .i64 m.t.h, .int .i64 m.t.y, .int .i64 m.t.p, .int .i64 m.a]), (.agg #[.int .i64 r.k, .int .i64 r.y])] w fun e w' => e = .returned (.tuple #[(.agg #[.int .i64 o.u.s, .int .i64 o.u.h, .int .i64 o.u.y, .int .i64 o.u.p, .int .i64 o.t.s, .int .i64 o.t.h, .int .i64 o.t.y, .int .i64 o.t.p, .int .i64 o.a]), .bool v]) ∧ Below w.heap.size w w' := by
  obtain ⟨v1, hv1⟩ := okM_dec m
  have c1 := Lib.hid (fun w => siteOf_any m v1 hv1 w)
  have HV := Lib.hid hv
  have HV1 := Lib.hid hv1
  have HO := Lib.hid ho
  have HT := Lib.hid T
  have KS : Hid (∀ w', Below (w.heap.size + 2) (((w.alloc (.cells #[.int .i64 m.u.s, .int .i64 m.u.h, .int .i64 m.u.y, .int .i64 m.u.p, .int .i64 m.t.s, .int .i64 m.t.h, .int .i64 m.t.y, .int .i64 m.t.p, .int .i64 m.a] 30)).alloc (.cells #[.int .i64 r.k, .int .i64 r.y] 34)).alloc (.cells #[.int .i64 0, .int .i64 0, .int .i64 0, .int .i64 0, .int .i64 0, .int .i64 0, .int .i64 0, .int .i64 0, .int .i64 0] 30)) w' → (w'.cell? ⟨w.heap.size, 0, none⟩ = some (.int .i64 m.u.s) ∧ w'.cell? ⟨w.heap.size, 1, none⟩ = some (.int .i64 m.u.h) ∧ w'.cell? ⟨w.heap.size, 2, none⟩ = some (.int .i64 m.u.y) ∧ w'.cell? ⟨w.heap.size, 3, none⟩ = some (.int .i64 m.u.p) ∧ w'.cell? ⟨w.heap.size, 4, none⟩ = some (.int .i64 m.t.s) ∧ w'.cell? ⟨w.heap.size, 5, none⟩ = some (.int .i64 m.t.h) ∧ w'.cell? ⟨w.heap.size, 6, none⟩ = some (.int .i64 m.t.y) ∧ w'.cell? ⟨w.heap.size, 7, none⟩ = some (.int .i64 m.t.p) ∧ w'.cell? ⟨w.heap.size, 8, none⟩ = some (.int .i64 m.a) ∧ w'.cell? ⟨w.heap.size + 1, 0, none⟩ = some (.int .i64 r.k) ∧ w'.cell? ⟨w.heap.size + 1, 1, none⟩ = some (.int .i64 r.y))) := by
    intro w' b
    obtain ⟨k0, k1, k2, k3, k4, k5, k6, k7, k8⟩ := (boxMc_at ((b.block w.heap.size (by omega)).trans (rbox0 w m r))).1
    have e := (b.block (w.heap.size + 1) (by omega)).trans (rbox1 w m r)
    exact ⟨k0, k1, k2, k3, k4, k5, k6, k7, k8, cell_of_row w' _ 0 _ _ _ e, cell_of_row w' _ 1 _ _ _ e⟩
  clear hv hv1 ho T
  go_enter Tryd.func15, Tryd.ntmps15
  go_wp2_with fail
  refine wp_region_held_drew (S := fun w' => (w'.cell? ⟨w.heap.size, 0, none⟩ = some (.int .i64 m.u.s) ∧ w'.cell? ⟨w.heap.size, 1, none⟩ = some (.int .i64 m.u.h) ∧ w'.cell? ⟨w.heap.size, 2, none⟩ = some (.int .i64 m.u.y) ∧ w'.cell? ⟨w.heap.size, 3, none⟩ = some (.int .i64 m.u.p) ∧ w'.cell? ⟨w.heap.size, 4, none⟩ = some (.int .i64 m.t.s) ∧ w'.cell? ⟨w.heap.size, 5, none⟩ = some (.int .i64 m.t.h) ∧ w'.cell? ⟨w.heap.size, 6, none⟩ = some (.int .i64 m.t.y) ∧ w'.cell? ⟨w.heap.size, 7, none⟩ = some (.int .i64 m.t.p) ∧ w'.cell? ⟨w.heap.size, 8, none⟩ = some (.int .i64 m.a) ∧ w'.cell? ⟨w.heap.size + 1, 0, none⟩ = some (.int .i64 r.k) ∧ w'.cell? ⟨w.heap.size + 1, 1, none⟩ = some (.int .i64 r.y))) (by kernel_rfl) (KS.out _ (Below.refl _ _).drew) (fun hHeld => ?_)
  refine wpAnyH_take (i := 0) (v := ?_) (by (simp only [List.getElem?_toArray, List.getElem?_cons_succ, List.getElem?_cons_zero]); (try exact rfl)) (by kernel_rfl) (by kernel_rfl) (by kernel_rfl) (by intro _ _ _ h; exact h) (Or.inl ⟨by rfl, ?_⟩) (by assumption) ?_
  rotate_left
  · intro w hSw
    try dsimp only at hSw
    go_simp
    try with_reducible rfl
  try simp only [Act.put, List.setIfInBounds_toArray, List.set_cons_zero, List.set_cons_succ]
  refine wpAnyH_take (i := 2) (v := ?_) (by (simp only [List.getElem?_toArray, List.getElem?_cons_succ, List.getElem?_cons_zero]); (try exact rfl)) (by kernel_rfl) (by kernel_rfl) (by kernel_rfl) (by intro _ _ _ h; exact h) (Or.inl ⟨by rfl, ?_⟩) (by assumption) ?_
  rotate_left
  · intro w hSw
    try dsimp only at hSw
    go_simp
    try with_reducible rfl
  try simp only [Act.put, List.setIfInBounds_toArray, List.set_cons_zero, List.set_cons_succ]
  refine wpAnyH_ready (rs := [1]) (by kernel_rfl) (by simp) ?_
  refine AllReadyH.cons (by (simp only [List.getElem?_toArray, List.getElem?_cons_succ, List.getElem?_cons_zero]); (try exact rfl)) (fun K hK => ?_) AllReadyH.nil
  go_simp
  go_at_call 47
  refine (c1.out _).mono ?_
  rintro e w1 ⟨g, q, lg, rfl, g1, nq, hq, b1⟩
  have D1 : Hid (Below (w.heap.size + 3) (((w.alloc (.cells #[.int .i64 m.u.s, .int .i64 m.u.h, .int .i64 m.u.y, .int .i64 m.u.p, .int .i64 m.t.s, .int .i64 m.t.h, .int .i64 m.t.y, .int .i64 m.t.p, .int .i64 m.a] 30)).alloc (.cells #[.int .i64 r.k, .int .i64 r.y] 34)).alloc (.cells #[.int .i64 0, .int .i64 0, .int .i64 0, .int .i64 0, .int .i64 0, .int .i64 0, .int .i64 0, .int .i64 0, .int .i64 0] 30)) w1) := (Below.refl _ _).drew.trans (b1.mono (rge w m r))
  have lg' : w.heap.size + 3 ≤ g := rle w m r lg
  obtain ⟨v2, hv2⟩ := rv_ex q r
  have c2 := Lib.hid (build_any g q (!v1) r nq v2 hv2 w1 (HT.out.later (Below.trans (rbelow w m r) (D1.out.mono (by omega)))) g1)
  have KEY : Hid (∀ q2 : Mc, (v2 = true → q2 = buildR q r) → v = (!((!v1) || !v2)) ∧ o = if ((!v1) || !v2) then (⟨⟨0, 0, 0, 0⟩, ⟨0, 0, 0, 0⟩, 0⟩ : Mc) else q2) := key_build m o q r v v1 v2 HV.out HV1.out hq hv2 HO.out
  clear lg g1 nq hq b1 hv2
  (first | refine hK.out _ _ ?_ (fun hHeld => ?_) | (go_wp2_with fail; refine hK.out _ _ ?_ (fun hHeld => ?_)))
  · try dsimp only
    exact KS.out _ (Below.mono D1.out (by omega))
  clear hK K
  try simp only [Act.put, List.setIfInBounds_toArray, List.set_cons_zero, List.set_cons_succ]
  refine wpAnyH_ready (rs := [3]) (by kernel_rfl) (by simp) ?_
  refine AllReadyH.cons (by (simp only [List.getElem?_toArray, List.getElem?_cons_succ, List.getElem?_cons_zero]); (try exact rfl)) (fun K hK => ?_) AllReadyH.nil
  go_simp
  go_at_call 48
  refine c2.out.mono ?_
  rintro e w2 ⟨q2, rfl, g2, n2, h2, b2⟩
  have D2 : Hid (Below (w.heap.size + 3) (((w.alloc (.cells #[.int .i64 m.u.s, .int .i64 m.u.h, .int .i64 m.u.y, .int .i64 m.u.p, .int .i64 m.t.s, .int .i64 m.t.h, .int .i64 m.t.y, .int .i64 m.t.p, .int .i64 m.a] 30)).alloc (.cells #[.int .i64 r.k, .int .i64 r.y] 34)).alloc (.cells #[.int .i64 0, .int .i64 0, .int .i64 0, .int .i64 0, .int .i64 0, .int .i64 0, .int .i64 0, .int .i64 0, .int .i64 0] 30)) w2) := D1.out.trans (b2.mono lg')
  obtain ⟨k1, k2⟩ := KEY.out q2 h2
  have c3 := Lib.hid (result_any g q2 o ((!v1) || !v2) k2 w2 g2)
  rw [← k1] at c3
  clear k1 k2 KEY g2 n2 h2 b2
  (first | refine hK.out _ _ ?_ (fun hHeld => ?_) | (go_wp2_with fail; refine hK.out _ _ ?_ (fun hHeld => ?_)))
  · try dsimp only
    exact KS.out _ (Below.mono D2.out (by omega))
  clear hK K
  try simp only [Act.put, List.setIfInBounds_toArray, List.set_cons_zero, List.set_cons_succ]
  refine wpAnyH_ready (rs := [4]) (by kernel_rfl) (by simp) ?_
  refine AllReadyH.cons (by (simp only [List.getElem?_toArray, List.getElem?_cons_succ, List.getElem?_cons_zero]); (try exact rfl)) (fun K hK => ?_) AllReadyH.nil
  go_simp
  go_at_call 49
  refine c3.out.mono ?_
  rintro e w3 ⟨rfl, b3⟩
  have D3 : Hid (Below (w.heap.size + 3) (((w.alloc (.cells #[.int .i64 m.u.s, .int .i64 m.u.h, .int .i64 m.u.y, .int .i64 m.u.p, .int .i64 m.t.s, .int .i64 m.t.h, .int .i64 m.t.y, .int .i64 m.t.p, .int .i64 m.a] 30)).alloc (.cells #[.int .i64 r.k, .int .i64 r.y] 34)).alloc (.cells #[.int .i64 0, .int .i64 0, .int .i64 0, .int .i64 0, .int .i64 0, .int .i64 0, .int .i64 0, .int .i64 0, .int .i64 0] 30)) w3) := D2.out.trans (b3.mono (rle w m r D2.out.size))
  have R3 : Hid (w3.heap[w.heap.size + 2]? = some (.cells #[.int .i64 0, .int .i64 0, .int .i64 0, .int .i64 0, .int .i64 0, .int .i64 0, .int .i64 0, .int .i64 0, .int .i64 0] 30 (0, 0))) := (D3.out.block (w.heap.size + 2) (by omega)).trans (rbox w m r)
  (first | refine hK.out _ _ ?_ (fun hHeld => ?_) | (go_wp2_with fail; refine hK.out _ _ ?_ (fun hHeld => ?_)))
  · try dsimp only
    exact KS.out _ (Below.mono D3.out (by omega))
  clear hK K
  try simp only [Act.put, List.setIfInBounds_toArray, List.set_cons_zero, List.set_cons_succ]
  refine wpAnyH_take (i := 5) (v := ?_) (by (simp only [List.getElem?_toArray, List.getElem?_cons_succ, List.getElem?_cons_zero]); (try exact rfl)) (by kernel_rfl) (by kernel_rfl) (by kernel_rfl) (by intro _ _ _ h; exact h) (Or.inl ⟨by rfl, ?_⟩) (by assumption) ?_
  rotate_left
  · intro w hSw
    try dsimp only at hSw
    go_simp
    try with_reducible rfl
  try simp only [Act.put, List.setIfInBounds_toArray, List.set_cons_zero, List.set_cons_succ]
  refine wpAnyH_take (i := 6) (v := ?_) (by (simp only [List.getElem?_toArray, List.getElem?_cons_succ, List.getElem?_cons_zero]); (try exact rfl)) (by kernel_rfl) (by kernel_rfl) (by kernel_rfl) (by intro _ _ _ h; exact h) (Or.inl ⟨by rfl, ?_⟩) (by assumption) ?_
  rotate_left
  · intro w hSw
    try dsimp only at hSw
    go_simp
    try with_reducible rfl
  try simp only [Act.put, List.setIfInBounds_toArray, List.set_cons_zero, List.set_cons_succ]
  refine wpAnyH_ready (rs := [7]) (by kernel_rfl) (by simp) ?_
  refine AllReadyH.cons (by (simp only [List.getElem?_toArray, List.getElem?_cons_succ, List.getElem?_cons_zero]); (try exact rfl)) (fun K hK => ?_) AllReadyH.nil
  refine step_store_M rfl _ _ rfl (w.heap.size + 2) (⟨⟨0, 0, 0, 0⟩, ⟨0, 0, 0, 0⟩, 0⟩ : Mc) o _ rfl rfl R3.out ?_
  intro wE hE oE bE
  have PE := Lib.hid hE
  have DE : Hid (Below (w.heap.size + 2) (((w.alloc (.cells #[.int .i64 m.u.s, .int .i64 m.u.h, .int .i64 m.u.y, .int .i64 m.u.p, .int .i64 m.t.s, .int .i64 m.t.h, .int .i64 m.t.y, .int .i64 m.t.p, .int .i64 m.a] 30)).alloc (.cells #[.int .i64 r.k, .int .i64 r.y] 34)).alloc (.cells #[.int .i64 0, .int .i64 0, .int .i64 0, .int .i64 0, .int .i64 0, .int .i64 0, .int .i64 0, .int .i64 0, .int .i64 0] 30)) wE) := Below.trans (D3.out.mono (by omega)) bE
  clear hE oE bE
  refine hK.out _ _ ?_ (fun hHeld => ?_)
  · try dsimp only
    exact KS.out _ DE.out
  clear hK K
  try simp only [Act.put, List.setIfInBounds_toArray, List.set_cons_zero, List.set_cons_succ]
  refine wpAnyH_take (i := 8) (v := ?_) (by (simp only [List.getElem?_toArray, List.getElem?_cons_succ, List.getElem?_cons_zero]); (try exact rfl)) (by kernel_rfl) (by kernel_rfl) (by kernel_rfl) (by intro _ _ _ h; exact h) (Or.inl ⟨by rfl, ?_⟩) (by assumption) ?_
  rotate_left
  · intro w hSw
    try dsimp only at hSw
    go_simp
    try with_reducible rfl
  try simp only [Act.put, List.setIfInBounds_toArray, List.set_cons_zero, List.set_cons_succ]
  refine wpAnyH_done (by kernel_rfl) ?_ _
  have BE : Hid (Below w.heap.size w wE) := Below.trans (rbelow w m r) (DE.out.mono (by omega))
  obtain ⟨⟨g0, g1, g2, g3, g4, g5, g6, g7, g8⟩, -, -⟩ := boxMc_at (q := o) PE.out
  go_wp2
  refine bodyPost_ret (v := .tuple #[(.agg #[.int .i64 o.u.s, .int .i64 o.u.h, .int .i64 o.u.y, .int .i64 o.u.p, .int .i64 o.t.s, .int .i64 o.t.h, .int .i64 o.t.y, .int .i64 o.t.p, .int .i64 o.a]), .bool v]) (by simp [results, Tryd.results15, go_sem, g0, g1, g2, g3, g4, g5, g6, g7, g8]; try rfl) rfl ⟨rfl, BE.out⟩

set_option maxHeartbeats 4000000 in
theorem specBuild_any (m o : Mc) (r : Rg) (v : Bool) (hv : v = true ↔ buildV m r) (ho : o = if v then buildR m r else (⟨⟨0, 0, 0, 0⟩, ⟨0, 0, 0, 0⟩, 0⟩ : Mc)) (w : World) :
    Calls Tryd.prog 12 #[(.agg #[.int .i64 m.u.s, .int .i64 m.u.h, .int .i64 m.u.y, .int .i64 m.u.p, .int .i64 m.t.s, .int .i64 m.t.h, .int .i64 m.t.y, .int .i64 m.t.p, .int .i64 m.a]), (.agg #[.int .i64 r.k, .int .i64 r.y])] w fun e w' => e = .returned (.tuple #[(.agg #[.int .i64 o.u.s, .int .i64 o.u.h, .int .i64 o.u.y, .int .i64 o.u.p, .int .i64 o.t.s, .int .i64 o.t.h, .int .i64 o.t.y, .int .i64 o.t.p, .int .i64 o.a]), .bool v]) ∧ Below w.heap.size w w' := by
  obtain ⟨v1, hv1⟩ := okM_dec m
  have c1 := Lib.hid (fun g t w hg => l04Is_any g t m v1 hv1 w hg)
  cases v1 with
  | false =>
    have hm : ¬ OkM m := fun h => by cases hv1.mpr h
    obtain rfl : v = false := b_false hv fun h => hm h.1
    obtain rfl : o = (⟨⟨0, 0, 0, 0⟩, ⟨0, 0, 0, 0⟩, 0⟩ : Mc) := ho
    clear hv hv1 hm
    go_enter Tryd.func12, Tryd.ntmps12
    go_wp2_with fail
    refine (c1.out _ _ _ (rbox0 w m r)).mono ?_
    rintro e w1 ⟨rfl, b1⟩
    have RR : Hid (w1.heap[w.heap.size + 2]? = some (.cells #[.int .i64 0, .int .i64 0, .int .i64 0, .int .i64 0, .int .i64 0, .int .i64 0, .int .i64 0, .int .i64 0, .int .i64 0] 30 (0, 0))) := (b1.block (w.heap.size + 2) (by rw [rsize]; omega)).trans (rbox w m r)
    have BB : Hid (Below w.heap.size w w1) := (rbelow w m r).trans (b1.mono (by rw [rsize]; omega))
    clear b1 c1
    go_wp2_with (first | (refine wpList_store_M rfl _ _ rfl (w.heap.size + 2) (⟨⟨0, 0, 0, 0⟩, ⟨0, 0, 0, 0⟩, 0⟩ : Mc) (⟨⟨0, 0, 0, 0⟩, ⟨0, 0, 0, 0⟩, 0⟩ : Mc) _ rfl rfl RR.out ?_; intro wE hE oE bE) | fail)
    have PE := Lib.hid hE
    have BE : Hid (Below w.heap.size w wE) := BB.out.trans (bE.mono (by omega))
    clear hE oE bE
    obtain ⟨⟨g0, g1, g2, g3, g4, g5, g6, g7, g8⟩, -, -⟩ := boxMc_at (q := (⟨⟨0, 0, 0, 0⟩, ⟨0, 0, 0, 0⟩, 0⟩ : Mc)) PE.out
    try dsimp only at g0 g1 g2 g3 g4 g5 g6 g7 g8
    go_wp2
    refine bodyPost_ret (v := .tuple #[(.agg #[.int .i64 0, .int .i64 0, .int .i64 0, .int .i64 0, .int .i64 0, .int .i64 0, .int .i64 0, .int .i64 0, .int .i64 0]), .bool false]) (by simp [results, Tryd.results12, go_sem, g0, g1, g2, g3, g4, g5, g6, g7, g8]; try rfl) rfl ⟨rfl, BE.out⟩
  | true =>
    have hm := hv1.mp rfl
    have c2 : Hid (∀ (w : World) g, w.heap[g]? = some (.cells #[.int .i64 m.u.s, .int .i64 m.u.h, .int .i64 m.u.y, .int .i64 m.u.p, .int .i64 m.t.s, .int .i64 m.t.h, .int .i64 m.t.y, .int .i64 m.t.p, .int .i64 m.a] 30 (0, 0)) → Calls Tryd.prog 45 #[.pointer (some ⟨g, 0, none⟩), (.agg #[.int .i64 r.k, .int .i64 r.y])] w fun e w' => e = .returned (.tuple #[(.agg #[.int .i64 o.u.s, .int .i64 o.u.h, .int .i64 o.u.y, .int .i64 o.u.p, .int .i64 o.t.s, .int .i64 o.t.h, .int .i64 o.t.y, .int .i64 o.t.p, .int .i64 o.a]), .bool v]) ∧ Below w.heap.size w w') := by
      intro w g hg
      exact l04Build_any g _ m o r hm.1 v (hv.trans ⟨fun h => h.2, fun h => ⟨hm, h⟩⟩) ho w hg
    clear hv hv1 hm ho
    go_enter Tryd.func12, Tryd.ntmps12
    go_wp2_with fail
    refine (c1.out _ _ _ (rbox0 w m r)).mono ?_
    rintro e w1 ⟨rfl, b1⟩
    have R1 : Hid (w1.heap[w.heap.size + 2]? = some (.cells #[.int .i64 0, .int .i64 0, .int .i64 0, .int .i64 0, .int .i64 0, .int .i64 0, .int .i64 0, .int .i64 0, .int .i64 0] 30 (0, 0))) := (b1.block (w.heap.size + 2) (by rw [rsize]; omega)).trans (rbox w m r)
    have M1 : Hid (w1.heap[w.heap.size]? = some (.cells #[.int .i64 m.u.s, .int .i64 m.u.h, .int .i64 m.u.y, .int .i64 m.u.p, .int .i64 m.t.s, .int .i64 m.t.h, .int .i64 m.t.y, .int .i64 m.t.p, .int .i64 m.a] 30 (0, 0))) := (b1.block (w.heap.size) (by rw [rsize]; omega)).trans (rbox0 w m r)
    have n1 := (b1.block (w.heap.size + 1) (by rw [rsize]; omega)).trans (rbox1 w m r)
    have B1 : Hid (Below w.heap.size w w1) := (rbelow w m r).trans (b1.mono (by rw [rsize]; omega))
    have z1 : w.heap.size + 3 ≤ w1.heap.size := by have := b1.size; rw [rsize] at this; exact this
    have r0 := cell_of_row w1 (w.heap.size + 1) 0 _ _ _ n1
    have r1 := cell_of_row w1 (w.heap.size + 1) 1 _ _ _ n1
    clear b1 c1 n1
    go_wp2_with fail
    refine (c2.out _ _ M1.out).mono ?_
    rintro e w2 ⟨rfl, b2⟩
    have RR : Hid (w2.heap[w.heap.size + 2]? = some (.cells #[.int .i64 0, .int .i64 0, .int .i64 0, .int .i64 0, .int .i64 0, .int .i64 0, .int .i64 0, .int .i64 0, .int .i64 0] 30 (0, 0))) := (b2.block (w.heap.size + 2) (by omega)).trans R1.out
    have BB : Hid (Below w.heap.size w w2) := B1.out.trans (b2.mono (by omega))
    clear b2 c2 R1 M1 B1 r0 r1
    go_wp2_with (first | (refine wpList_store_M rfl _ _ rfl (w.heap.size + 2) (⟨⟨0, 0, 0, 0⟩, ⟨0, 0, 0, 0⟩, 0⟩ : Mc) o _ rfl rfl RR.out ?_; intro wE hE oE bE) | fail)
    have PE := Lib.hid hE
    have BE : Hid (Below w.heap.size w wE) := BB.out.trans (bE.mono (by omega))
    clear hE oE bE
    obtain ⟨⟨g0, g1, g2, g3, g4, g5, g6, g7, g8⟩, -, -⟩ := boxMc_at (q := o) PE.out
    try dsimp only at g0 g1 g2 g3 g4 g5 g6 g7 g8
    go_wp2
    refine bodyPost_ret (v := .tuple #[(.agg #[.int .i64 o.u.s, .int .i64 o.u.h, .int .i64 o.u.y, .int .i64 o.u.p, .int .i64 o.t.s, .int .i64 o.t.h, .int .i64 o.t.y, .int .i64 o.t.p, .int .i64 o.a]), .bool v]) (by simp [results, Tryd.results12, go_sem, g0, g1, g2, g3, g4, g5, g6, g7, g8]; try rfl) rfl ⟨rfl, BE.out⟩

theorem exBuildRing (q : Mc) (r : Rg) : ∃ (o : Mc) (v : Bool),
    Hid (∀ (w : World), TKeys w → Calls Tryd.prog 12 #[(.agg #[.int .i64 q.u.s, .int .i64 q.u.h, .int .i64 q.u.y, .int .i64 q.u.p, .int .i64 q.t.s, .int .i64 q.t.h, .int .i64 q.t.y, .int .i64 q.t.p, .int .i64 q.a]), (.agg #[.int .i64 r.k, .int .i64 r.y])] w fun e w' => e = .returned (.tuple #[(.agg #[.int .i64 o.u.s, .int .i64 o.u.h, .int .i64 o.u.y, .int .i64 o.u.p, .int .i64 o.t.s, .int .i64 o.t.h, .int .i64 o.t.y, .int .i64 o.t.p, .int .i64 o.a]), .bool v]) ∧ Below w.heap.size w w') ∧
    Hid (∀ (w : World), TKeys w → Calls Tryd.prog 15 #[(.agg #[.int .i64 q.u.s, .int .i64 q.u.h, .int .i64 q.u.y, .int .i64 q.u.p, .int .i64 q.t.s, .int .i64 q.t.h, .int .i64 q.t.y, .int .i64 q.t.p, .int .i64 q.a]), (.agg #[.int .i64 r.k, .int .i64 r.y])] w fun e w' => e = .returned (.tuple #[(.agg #[.int .i64 o.u.s, .int .i64 o.u.h, .int .i64 o.u.y, .int .i64 o.u.p, .int .i64 o.t.s, .int .i64 o.t.h, .int .i64 o.t.y, .int .i64 o.t.p, .int .i64 o.a]), .bool v]) ∧ Below w.heap.size w w') := by
  obtain ⟨v, hv⟩ := buildV_dec q r
  exact ⟨_, v, fun w _ => specBuild_any q _ r v hv rfl w, fun w T => implBuild_any q _ r v hv rfl w T⟩
end Go.Proofs.YtjapgbeecabkfabDoor
