/- OutlookOf of the program. -/
import Derived.Test.YtjapgbeecabkfabDoorLook
import Derived.Test.YtjapgbeecabkfabDoorSiteG
namespace Go.Proofs.YtjapgbeecabkfabDoor
open Go.ChangeShapes Go.WideShapes Go.ChangeAt Go.RowKit
set_option linter.unusedVariables false
set_option linter.unusedSimpArgs false

theorem lt_alloc (w : World) (o : Obj) : w.heap.size < (w.alloc o).heap.size := by simp
theorem pv_ex (q : Mc) : ∃ v : Bool, v = true ↔ OkTurn 0 ∧ OkTurn 0 ∧ OkM (pushM q 0 0) := by
  by_cases h : OkTurn 0 ∧ OkTurn 0 ∧ OkM (pushM q 0 0)
  · exact ⟨true, by simp [h]⟩
  · exact ⟨false, by simp [h]⟩
theorem size3 (w : World) (m : Mc) (key : Int) : (((w.alloc (.cells #[.int .i64 m.u.s, .int .i64 m.u.h, .int .i64 m.u.y, .int .i64 m.u.p, .int .i64 m.t.s, .int .i64 m.t.h, .int .i64 m.t.y, .int .i64 m.t.p, .int .i64 m.a] 30)).alloc (.cells #[.int .i64 1, .int .i64 key] 34)).alloc (.cells #[.int .i64 0, .int .i64 0] 34)).heap.size = w.heap.size + 3 := by simp
theorem below3 (w : World) (m : Mc) (key : Int) : Below w.heap.size w (((w.alloc (.cells #[.int .i64 m.u.s, .int .i64 m.u.h, .int .i64 m.u.y, .int .i64 m.u.p, .int .i64 m.t.s, .int .i64 m.t.h, .int .i64 m.t.y, .int .i64 m.t.p, .int .i64 m.a] 30)).alloc (.cells #[.int .i64 1, .int .i64 key] 34)).alloc (.cells #[.int .i64 0, .int .i64 0] 34)) := by go_grown
theorem le3 (w : World) (m : Mc) (key : Int) {B : Nat} {x : World} (h : Below B (((w.alloc (.cells #[.int .i64 m.u.s, .int .i64 m.u.h, .int .i64 m.u.y, .int .i64 m.u.p, .int .i64 m.t.s, .int .i64 m.t.h, .int .i64 m.t.y, .int .i64 m.t.p, .int .i64 m.a] 30)).alloc (.cells #[.int .i64 1, .int .i64 key] 34)).alloc (.cells #[.int .i64 0, .int .i64 0] 34)) x) : w.heap.size + 3 ≤ x.heap.size := by
  have := h.size
  rw [size3] at this
  exact this
theorem box3_b (w : World) (m : Mc) (key : Int) : (((w.alloc (.cells #[.int .i64 m.u.s, .int .i64 m.u.h, .int .i64 m.u.y, .int .i64 m.u.p, .int .i64 m.t.s, .int .i64 m.t.h, .int .i64 m.t.y, .int .i64 m.t.p, .int .i64 m.a] 30)).alloc (.cells #[.int .i64 1, .int .i64 key] 34)).alloc (.cells #[.int .i64 0, .int .i64 0] 34)).heap[w.heap.size + 2]? = some (.cells #[.int .i64 0, .int .i64 0] 34 (0, 0)) := by
  have h := heap_alloc_new ((w.alloc (.cells #[.int .i64 m.u.s, .int .i64 m.u.h, .int .i64 m.u.y, .int .i64 m.u.p, .int .i64 m.t.s, .int .i64 m.t.h, .int .i64 m.t.y, .int .i64 m.t.p, .int .i64 m.a] 30)).alloc (.cells #[.int .i64 1, .int .i64 key] 34)) (.cells #[.int .i64 0, .int .i64 0] 34)
  rwa [World.size_alloc, World.size_alloc] at h
theorem box3_a (w : World) (m : Mc) (key : Int) : (((w.alloc (.cells #[.int .i64 m.u.s, .int .i64 m.u.h, .int .i64 m.u.y, .int .i64 m.u.p, .int .i64 m.t.s, .int .i64 m.t.h, .int .i64 m.t.y, .int .i64 m.t.p, .int .i64 m.a] 30)).alloc (.cells #[.int .i64 1, .int .i64 key] 34)).alloc (.cells #[.int .i64 0, .int .i64 0] 34)).heap[w.heap.size + 1]? = some (.cells #[.int .i64 1, .int .i64 key] 34 (0, 0)) := by
  rw [Below.heap_alloc _ _ _ (by simp)]
  have h := heap_alloc_new (w.alloc (.cells #[.int .i64 m.u.s, .int .i64 m.u.h, .int .i64 m.u.y, .int .i64 m.u.p, .int .i64 m.t.s, .int .i64 m.t.h, .int .i64 m.t.y, .int .i64 m.t.p, .int .i64 m.a] 30)) (.cells #[.int .i64 1, .int .i64 key] 34)
  rwa [World.size_alloc] at h
theorem box3_m (w : World) (m : Mc) (key : Int) : (((w.alloc (.cells #[.int .i64 m.u.s, .int .i64 m.u.h, .int .i64 m.u.y, .int .i64 m.u.p, .int .i64 m.t.s, .int .i64 m.t.h, .int .i64 m.t.y, .int .i64 m.t.p, .int .i64 m.a] 30)).alloc (.cells #[.int .i64 1, .int .i64 key] 34)).alloc (.cells #[.int .i64 0, .int .i64 0] 34)).heap[w.heap.size]? = some (.cells #[.int .i64 m.u.s, .int .i64 m.u.h, .int .i64 m.u.y, .int .i64 m.u.p, .int .i64 m.t.s, .int .i64 m.t.h, .int .i64 m.t.y, .int .i64 m.t.p, .int .i64 m.a] 30 (0, 0)) := by
  rw [Below.heap_alloc _ _ _ (by simp; omega), Below.heap_alloc _ _ _ (by simp)]
  exact heap_alloc_new w (.cells #[.int .i64 m.u.s, .int .i64 m.u.h, .int .i64 m.u.y, .int .i64 m.u.p, .int .i64 m.t.s, .int .i64 m.t.h, .int .i64 m.t.y, .int .i64 m.t.p, .int .i64 m.a] 30)

theorem bool4 (v1 v2 v3 v4 : Bool) (hn : ¬ (v1 = true ∧ v2 = true ∧ v3 = true ∧ v4 = true)) : ((((!v1) || !v2) || !v3) || !v4) = true := by
  revert hn
  cases v1 <;> cases v2 <;> cases v3 <;> cases v4 <;> simp

theorem key_look (m : Mc) (key : Int) (v1 v2 v3 v4 : Bool) (q q2 q3 q4 : Mc) (v : Bool) (o : Mc) (hv1 : v1 = true ↔ OkM m) (hv : v = true ↔ OkM m ∧ lookV m key) (ho : o = if v then lookM m key else (⟨⟨0, 0, 0, 0⟩, ⟨0, 0, 0, 0⟩, 0⟩ : Mc)) (hq : v1 = true → q = m)
    (hv2 : v2 = true ↔ OkR ⟨1, key⟩ ∧ OkM (buildR q ⟨1, key⟩)) (h2 : v2 = true → q2 = buildR q ⟨1, key⟩) (hv3 : v3 = true ↔ OkTurn 0 ∧ OkTurn 0 ∧ OkM (pushM q2 0 0)) (h3 : v3 = true → q3 = pushM q2 0 0)
    (hv4 : v4 = true ↔ OkR ⟨0, 0⟩ ∧ OkM (buildR q3 ⟨0, 0⟩)) (h4 : v4 = true → q4 = buildR q3 ⟨0, 0⟩) :
    v = (!((((!v1) || !v2) || !v3) || !v4)) ∧ o = if ((((!v1) || !v2) || !v3) || !v4) then (⟨⟨0, 0, 0, 0⟩, ⟨0, 0, 0, 0⟩, 0⟩ : Mc) else q4 := by
  have key1 : v = true ↔ v1 = true ∧ v2 = true ∧ v3 = true ∧ v4 = true := by
    rw [hv]
    constructor
    · rintro ⟨a, b, c, d, e⟩
      have e1 := hq (hv1.mpr a)
      have x2 : v2 = true := hv2.mpr ⟨b, e1 ▸ c⟩
      have e2 := h2 x2
      rw [e1] at e2
      have x3 : v3 = true := hv3.mpr ⟨turn0, turn0, e2 ▸ d⟩
      have e3 := h3 x3
      rw [e2] at e3
      have x4 : v4 = true := hv4.mpr ⟨okR0, e3 ▸ e⟩
      exact ⟨hv1.mpr a, x2, x3, x4⟩
    · rintro ⟨a, b, c, d⟩
      have e1 := hq a
      have e2 := h2 b
      have e3 := h3 c
      have y2 := hv2.mp b
      have y3 := hv3.mp c
      have y4 := hv4.mp d
      rw [e1] at e2 y2
      rw [e2] at e3 y3
      rw [e3] at y4
      exact ⟨hv1.mp a, y2.1, y2.2, y3.2.2, y4.2⟩
  cases v with
  | false =>
    have hn : ¬ (v1 = true ∧ v2 = true ∧ v3 = true ∧ v4 = true) := fun h => by cases key1.mpr h
    have hs : ((((!v1) || !v2) || !v3) || !v4) = true := by
      exact bool4 v1 v2 v3 v4 hn
    rw [hs]
    exact ⟨rfl, by simpa using ho⟩
  | true =>
    obtain ⟨a, b, c, d⟩ := key1.mp rfl
    have e1 := hq a
    have e2 := h2 b
    have e3 := h3 c
    have e4 := h4 d
    subst a; subst b; subst c; subst d
    refine ⟨by simp, ?_⟩
    rw [e4, e3, e2, e1]
    simpa [lookM] using ho

set_option maxRecDepth 100000 in
set_option maxHeartbeats 16000000 in
theorem implLook_any (m : Mc) (key x : Int) (v : Bool) (hx : (v = true ↔ OkM m ∧ lookV m key) ∧ (v = true → LeastOf (gapsM (lookM m key)) x) ∧ (v = false → x = 0)) (w : World) (T : TKeys w) :
    Calls Tryd.prog 23 #[(.agg #[.int .i64 m.u.s, .int .i64 m.u.h, .int .i64 m.u.y, .int .i64 m.u.p, .int .i64 m.t.s, .int .i64 m.t.h, .int .i64 m.t.y, .int .i64 m.t.p, .int .i64 m.a]), .int .i64 key] w fun e w' => e = .returned (.tuple #[.int .i64 x, .bool v]) ∧ Below w.heap.size w w' := by
  obtain ⟨v1, hv1⟩ := okM_dec m
  obtain ⟨o, ho⟩ : ∃ o, o = if v then lookM m key else (⟨⟨0, 0, 0, 0⟩, ⟨0, 0, 0, 0⟩, 0⟩ : Mc) := ⟨_, rfl⟩
  have c1 := Lib.hid (fun w => siteOf_any m v1 hv1 w)
  have HX := Lib.hid hx
  have HV := Lib.hid hx.1
  have HV1 := Lib.hid hv1
  have HO := Lib.hid ho
  have HT := Lib.hid T
  have KS : Hid (∀ w', Below (w.heap.size + 3) (((w.alloc (.cells #[.int .i64 m.u.s, .int .i64 m.u.h, .int .i64 m.u.y, .int .i64 m.u.p, .int .i64 m.t.s, .int .i64 m.t.h, .int .i64 m.t.y, .int .i64 m.t.p, .int .i64 m.a] 30)).alloc (.cells #[.int .i64 1, .int .i64 key] 34)).alloc (.cells #[.int .i64 0, .int .i64 0] 34)) w' → (w'.cell? ⟨w.heap.size, 0, none⟩ = some (.int .i64 m.u.s) ∧ w'.cell? ⟨w.heap.size, 1, none⟩ = some (.int .i64 m.u.h) ∧ w'.cell? ⟨w.heap.size, 2, none⟩ = some (.int .i64 m.u.y) ∧ w'.cell? ⟨w.heap.size, 3, none⟩ = some (.int .i64 m.u.p) ∧ w'.cell? ⟨w.heap.size, 4, none⟩ = some (.int .i64 m.t.s) ∧ w'.cell? ⟨w.heap.size, 5, none⟩ = some (.int .i64 m.t.h) ∧ w'.cell? ⟨w.heap.size, 6, none⟩ = some (.int .i64 m.t.y) ∧ w'.cell? ⟨w.heap.size, 7, none⟩ = some (.int .i64 m.t.p) ∧ w'.cell? ⟨w.heap.size, 8, none⟩ = some (.int .i64 m.a) ∧ w'.cell? ⟨w.heap.size + 1, 0, none⟩ = some (.int .i64 1) ∧ w'.cell? ⟨w.heap.size + 1, 1, none⟩ = some (.int .i64 key) ∧ w'.cell? ⟨w.heap.size + 2, 0, none⟩ = some (.int .i64 0) ∧ w'.cell? ⟨w.heap.size + 2, 1, none⟩ = some (.int .i64 0))) := by
    intro w' b
    obtain ⟨k0, k1, k2, k3, k4, k5, k6, k7, k8⟩ := (boxMc_at ((b.block w.heap.size (by omega)).trans (box3_m w m key))).1
    have e := (b.block (w.heap.size + 1) (by omega)).trans (box3_a w m key)
    have e2 := (b.block (w.heap.size + 2) (by omega)).trans (box3_b w m key)
    exact ⟨k0, k1, k2, k3, k4, k5, k6, k7, k8, cell_of_row w' _ 0 _ _ _ e, cell_of_row w' _ 1 _ _ _ e, cell_of_row w' _ 0 _ _ _ e2, cell_of_row w' _ 1 _ _ _ e2⟩
  have DW : Hid (Below (w.heap.size + 3) (((w.alloc (.cells #[.int .i64 m.u.s, .int .i64 m.u.h, .int .i64 m.u.y, .int .i64 m.u.p, .int .i64 m.t.s, .int .i64 m.t.h, .int .i64 m.t.y, .int .i64 m.t.p, .int .i64 m.a] 30)).alloc (.cells #[.int .i64 1, .int .i64 key] 34)).alloc (.cells #[.int .i64 0, .int .i64 0] 34)) (((w.alloc (.cells #[.int .i64 m.u.s, .int .i64 m.u.h, .int .i64 m.u.y, .int .i64 m.u.p, .int .i64 m.t.s, .int .i64 m.t.h, .int .i64 m.t.y, .int .i64 m.t.p, .int .i64 m.a] 30)).alloc (.cells #[.int .i64 1, .int .i64 key] 34)).alloc (.cells #[.int .i64 0, .int .i64 0] 34)).drew) := (Below.refl _ _).drew
  clear hx hv1 ho T
  go_enter Tryd.func23, Tryd.ntmps23
  go_wp2_with fail
  refine wp_region_held_drew (S := fun w' => (w'.cell? ⟨w.heap.size, 0, none⟩ = some (.int .i64 m.u.s) ∧ w'.cell? ⟨w.heap.size, 1, none⟩ = some (.int .i64 m.u.h) ∧ w'.cell? ⟨w.heap.size, 2, none⟩ = some (.int .i64 m.u.y) ∧ w'.cell? ⟨w.heap.size, 3, none⟩ = some (.int .i64 m.u.p) ∧ w'.cell? ⟨w.heap.size, 4, none⟩ = some (.int .i64 m.t.s) ∧ w'.cell? ⟨w.heap.size, 5, none⟩ = some (.int .i64 m.t.h) ∧ w'.cell? ⟨w.heap.size, 6, none⟩ = some (.int .i64 m.t.y) ∧ w'.cell? ⟨w.heap.size, 7, none⟩ = some (.int .i64 m.t.p) ∧ w'.cell? ⟨w.heap.size, 8, none⟩ = some (.int .i64 m.a) ∧ w'.cell? ⟨w.heap.size + 1, 0, none⟩ = some (.int .i64 1) ∧ w'.cell? ⟨w.heap.size + 1, 1, none⟩ = some (.int .i64 key) ∧ w'.cell? ⟨w.heap.size + 2, 0, none⟩ = some (.int .i64 0) ∧ w'.cell? ⟨w.heap.size + 2, 1, none⟩ = some (.int .i64 0))) (by kernel_rfl) (KS.out _ (Below.refl _ _).drew) (fun hHeld => ?_)
  refine wpAnyH_take (i := 0) (v := ?_) (by (simp only [List.getElem?_toArray, List.getElem?_cons_succ, List.getElem?_cons_zero]); (try exact rfl)) (by kernel_rfl) (by kernel_rfl) (by kernel_rfl) (by intro _ _ _ h; exact h) (Or.inl ⟨by rfl, ?_⟩) (by assumption) ?_
  rotate_left
  · intro w hSw
    try dsimp only at hSw
    go_simp
    try with_reducible rfl
  try simp only [Act.put, List.setIfInBounds_toArray, List.set_cons_zero, List.set_cons_succ]
  refine wpAnyH_take (i := 2) (v := ?_) (by (simp only [List.getElem?_toArray, List.getElem?_cons_succ, List.getElem?_cons_zero]); (try exact rfl)) (by kernel_rfl) (by kernel_rfl) (by kernel_rfl) (by intro _ _ _ h; exact h) (Or.inl ⟨by rfl, ?_⟩) (by assumption) ?_
  rotate_left
  · intro w hSw
    try dsimp only at hSw
    go_simp
    try with_reducible rfl
  try simp only [Act.put, List.setIfInBounds_toArray, List.set_cons_zero, List.set_cons_succ]
  refine wpAnyH_take (i := 5) (v := ?_) (by (simp only [List.getElem?_toArray, List.getElem?_cons_succ, List.getElem?_cons_zero]); (try exact rfl)) (by kernel_rfl) (by kernel_rfl) (by kernel_rfl) (by intro _ _ _ h; exact h) (Or.inl ⟨by rfl, ?_⟩) (by assumption) ?_
  rotate_left
  · intro w hSw
    try dsimp only at hSw
    go_simp
    try with_reducible rfl
  try simp only [Act.put, List.setIfInBounds_toArray, List.set_cons_zero, List.set_cons_succ]
  refine wpAnyH_ready (rs := [1, 11]) (by kernel_rfl) (by simp) ?_
  refine (AllReadyH.cons (by (simp only [List.getElem?_toArray, List.getElem?_cons_succ, List.getElem?_cons_zero]); (try exact rfl)) (fun K hK => ?_) (AllReadyH.cons (by (simp only [List.getElem?_toArray, List.getElem?_cons_succ, List.getElem?_cons_zero]); (try exact rfl)) (fun K hK => ?_) AllReadyH.nil))
  · go_simp
    go_at_call 47
    refine (c1.out _).mono ?_
    rintro e u1 ⟨g, q, lg, rfl, g1, nq, hq, b1⟩
    have lg' : w.heap.size + 3 ≤ g := Nat.le_trans (le3 w m key DW.out) lg
    have Du1 : Hid (Below (w.heap.size + 3) (((w.alloc (.cells #[.int .i64 m.u.s, .int .i64 m.u.h, .int .i64 m.u.y, .int .i64 m.u.p, .int .i64 m.t.s, .int .i64 m.t.h, .int .i64 m.t.y, .int .i64 m.t.p, .int .i64 m.a] 30)).alloc (.cells #[.int .i64 1, .int .i64 key] 34)).alloc (.cells #[.int .i64 0, .int .i64 0] 34)) u1) := Below.trans DW.out (b1.mono (le3 w m key DW.out))
    have GS := g1
    clear g1 b1 lg
    (first | refine hK.out _ _ ?_ (fun hHeld => ?_) | (go_wp2_with fail; refine hK.out _ _ ?_ (fun hHeld => ?_)))
    · try dsimp only
      exact KS.out _ (Below.mono Du1.out (by omega))
    clear hK K
    try simp only [Act.put, List.setIfInBounds_toArray, List.set_cons_zero, List.set_cons_succ]
    refine wpAnyH_ready (rs := [3, 11]) (by kernel_rfl) (by simp) ?_
    refine (AllReadyH.cons (by (simp only [List.getElem?_toArray, List.getElem?_cons_succ, List.getElem?_cons_zero]); (try exact rfl)) (fun K hK => ?_) (AllReadyH.cons (by (simp only [List.getElem?_toArray, List.getElem?_cons_succ, List.getElem?_cons_zero]); (try exact rfl)) (fun K hK => ?_) AllReadyH.nil))
    · go_simp
      obtain ⟨v2, hv2⟩ := rv_ex q ⟨1, key⟩
      go_at_call 48
      refine (buildG_any g q (!v1) ⟨1, key⟩ nq v2 hv2 _ (HT.out.later (Below.trans (below3 w m key) (Du1.out.mono (by omega)))) GS).mono ?_
      rintro e u3 ⟨q2, rfl, g3, n2, h2, b3⟩
      have Du3 : Hid (Below (w.heap.size + 3) (((w.alloc (.cells #[.int .i64 m.u.s, .int .i64 m.u.h, .int .i64 m.u.y, .int .i64 m.u.p, .int .i64 m.t.s, .int .i64 m.t.h, .int .i64 m.t.y, .int .i64 m.t.p, .int .i64 m.a] 30)).alloc (.cells #[.int .i64 1, .int .i64 key] 34)).alloc (.cells #[.int .i64 0, .int .i64 0] 34)) u3) := Below.trans Du1.out (grown_below b3 lg' (le3 w m key Du1.out))
      have GS := g3
      clear g3 b3
      (first | refine hK.out _ _ ?_ (fun hHeld => ?_) | (go_wp2_with fail; refine hK.out _ _ ?_ (fun hHeld => ?_)))
      · try dsimp only
        exact KS.out _ (Below.mono Du3.out (by omega))
      clear hK K
      try simp only [Act.put, List.setIfInBounds_toArray, List.set_cons_zero, List.set_cons_succ]
      refine wpAnyH_ready (rs := [4, 11]) (by kernel_rfl) (by simp) ?_
      refine (AllReadyH.cons (by (simp only [List.getElem?_toArray, List.getElem?_cons_succ, List.getElem?_cons_zero]); (try exact rfl)) (fun K hK => ?_) (AllReadyH.cons (by (simp only [List.getElem?_toArray, List.getElem?_cons_succ, List.getElem?_cons_zero]); (try exact rfl)) (fun K hK => ?_) AllReadyH.nil))
      · go_simp
        obtain ⟨v3, hv3⟩ := pv_ex q2
        go_at_call 57
        refine (pushG_any g q2 ((!v1) || !v2) 0 0 n2 v3 hv3 _ GS).mono ?_
        rintro e u4 ⟨q3, rfl, g4, n3, h3, b4⟩
        have Du4 : Hid (Below (w.heap.size + 3) (((w.alloc (.cells #[.int .i64 m.u.s, .int .i64 m.u.h, .int .i64 m.u.y, .int .i64 m.u.p, .int .i64 m.t.s, .int .i64 m.t.h, .int .i64 m.t.y, .int .i64 m.t.p, .int .i64 m.a] 30)).alloc (.cells #[.int .i64 1, .int .i64 key] 34)).alloc (.cells #[.int .i64 0, .int .i64 0] 34)) u4) := Below.trans Du3.out (grown_below b4 lg' (le3 w m key Du3.out))
        have GS := g4
        clear g4 b4
        (first | refine hK.out _ _ ?_ (fun hHeld => ?_) | (go_wp2_with fail; refine hK.out _ _ ?_ (fun hHeld => ?_)))
        · try dsimp only
          exact KS.out _ (Below.mono Du4.out (by omega))
        clear hK K
        try simp only [Act.put, List.setIfInBounds_toArray, List.set_cons_zero, List.set_cons_succ]
        refine wpAnyH_ready (rs := [6, 11]) (by kernel_rfl) (by simp) ?_
        refine (AllReadyH.cons (by (simp only [List.getElem?_toArray, List.getElem?_cons_succ, List.getElem?_cons_zero]); (try exact rfl)) (fun K hK => ?_) (AllReadyH.cons (by (simp only [List.getElem?_toArray, List.getElem?_cons_succ, List.getElem?_cons_zero]); (try exact rfl)) (fun K hK => ?_) AllReadyH.nil))
        · go_simp
          obtain ⟨v4, hv4⟩ := rv_ex q3 ⟨0, 0⟩
          go_at_call 48
          refine (buildG_any g q3 (((!v1) || !v2) || !v3) ⟨0, 0⟩ n3 v4 hv4 _ (HT.out.later (Below.trans (below3 w m key) (Du4.out.mono (by omega)))) GS).mono ?_
          rintro e u6 ⟨q4, rfl, g6, n4, h4, b6⟩
          have Du6 : Hid (Below (w.heap.size + 3) (((w.alloc (.cells #[.int .i64 m.u.s, .int .i64 m.u.h, .int .i64 m.u.y, .int .i64 m.u.p, .int .i64 m.t.s, .int .i64 m.t.h, .int .i64 m.t.y, .int .i64 m.t.p, .int .i64 m.a] 30)).alloc (.cells #[.int .i64 1, .int .i64 key] 34)).alloc (.cells #[.int .i64 0, .int .i64 0] 34)) u6) := Below.trans Du4.out (grown_below b6 lg' (le3 w m key Du4.out))
          have GS := g6
          clear g6 b6
          (first | refine hK.out _ _ ?_ (fun hHeld => ?_) | (go_wp2_with fail; refine hK.out _ _ ?_ (fun hHeld => ?_)))
          · try dsimp only
            exact KS.out _ (Below.mono Du6.out (by omega))
          clear hK K
          try simp only [Act.put, List.setIfInBounds_toArray, List.set_cons_zero, List.set_cons_succ]
          refine wpAnyH_ready (rs := [7, 11]) (by kernel_rfl) (by simp) ?_
          refine (AllReadyH.cons (by (simp only [List.getElem?_toArray, List.getElem?_cons_succ, List.getElem?_cons_zero]); (try exact rfl)) (fun K hK => ?_) (AllReadyH.cons (by (simp only [List.getElem?_toArray, List.getElem?_cons_succ, List.getElem?_cons_zero]); (try exact rfl)) (fun K hK => ?_) AllReadyH.nil))
          · go_simp
            have KL := Lib.hid (key_look m key v1 v2 v3 v4 q q2 q3 q4 v o HV1.out HV.out HO.out hq hv2 h2 hv3 h3 hv4 h4)
            go_at_call 49
            refine (result_any g q4 o ((((!v1) || !v2) || !v3) || !v4) KL.out.2 _ GS).mono ?_
            rintro e u7 ⟨rfl, b7⟩
            rw [← KL.out.1]
            have Du7 : Hid (Below (w.heap.size + 3) (((w.alloc (.cells #[.int .i64 m.u.s, .int .i64 m.u.h, .int .i64 m.u.y, .int .i64 m.u.p, .int .i64 m.t.s, .int .i64 m.t.h, .int .i64 m.t.y, .int .i64 m.t.p, .int .i64 m.a] 30)).alloc (.cells #[.int .i64 1, .int .i64 key] 34)).alloc (.cells #[.int .i64 0, .int .i64 0] 34)) u7) := Below.trans Du6.out (b7.mono (le3 w m key Du6.out))
            (first | refine hK.out _ _ ?_ (fun hHeld => ?_) | (go_wp2_with fail; refine hK.out _ _ ?_ (fun hHeld => ?_)))
            · try dsimp only
              exact KS.out _ (Below.mono Du7.out (by omega))
            clear hK K
            try simp only [Act.put, List.setIfInBounds_toArray, List.set_cons_zero, List.set_cons_succ]
            refine wpAnyH_take (i := 8) (v := ?_) (by (simp only [List.getElem?_toArray, List.getElem?_cons_succ, List.getElem?_cons_zero]); (try exact rfl)) (by kernel_rfl) (by kernel_rfl) (by kernel_rfl) (by intro _ _ _ h; exact h) (Or.inl ⟨by rfl, ?_⟩) (by assumption) ?_
            rotate_left
            · intro w hSw
              try dsimp only at hSw
              go_simp
              try with_reducible rfl
            try simp only [Act.put, List.setIfInBounds_toArray, List.set_cons_zero, List.set_cons_succ]
            refine wpAnyH_take (i := 9) (v := ?_) (by (simp only [List.getElem?_toArray, List.getElem?_cons_succ, List.getElem?_cons_zero]); (try exact rfl)) (by kernel_rfl) (by kernel_rfl) (by kernel_rfl) (by intro _ _ _ h; exact h) (Or.inl ⟨by rfl, ?_⟩) (by assumption) ?_
            rotate_left
            · intro w hSw
              try dsimp only at hSw
              go_simp
              try with_reducible rfl
            try simp only [Act.put, List.setIfInBounds_toArray, List.set_cons_zero, List.set_cons_succ]
            refine wpAnyH_take (i := 10) (v := ?_) (by (simp only [List.getElem?_toArray, List.getElem?_cons_succ, List.getElem?_cons_zero]); (try exact rfl)) (by kernel_rfl) (by kernel_rfl) (by kernel_rfl) (by intro _ _ _ h; exact h) (Or.inl ⟨by rfl, ?_⟩) (by assumption) ?_
            rotate_left
            · intro w hSw
              try dsimp only at hSw
              go_simp
              try with_reducible rfl
            try simp only [Act.put, List.setIfInBounds_toArray, List.set_cons_zero, List.set_cons_succ]
            refine wpAnyH_ready (rs := [11]) (by kernel_rfl) (by simp) ?_
            refine (AllReadyH.cons (by (simp only [List.getElem?_toArray, List.getElem?_cons_succ, List.getElem?_cons_zero]); (try exact rfl)) (fun K hK => ?_) AllReadyH.nil)
            go_simp
            generalize hA : World.alloc u7 (.cells #[.int .i64 0, .int .i64 0, .int .i64 0, .int .i64 0, .int .i64 0, .int .i64 0, .int .i64 0, .int .i64 0, .int .i64 0] 30) = wa
            obtain ⟨p, hp⟩ : ∃ p, p = (u7).heap.size := ⟨_, rfl⟩
            have Dwa : Hid (Below (w.heap.size + 3) (((w.alloc (.cells #[.int .i64 m.u.s, .int .i64 m.u.h, .int .i64 m.u.y, .int .i64 m.u.p, .int .i64 m.t.s, .int .i64 m.t.h, .int .i64 m.t.y, .int .i64 m.t.p, .int .i64 m.a] 30)).alloc (.cells #[.int .i64 1, .int .i64 key] 34)).alloc (.cells #[.int .i64 0, .int .i64 0] 34)) wa) := by rw [← hA]; exact Below.alloc Du7.out (le3 w m key Du7.out) _
            have Zwa : wa.heap[p]? = some (.cells #[.int .i64 0, .int .i64 0, .int .i64 0, .int .i64 0, .int .i64 0, .int .i64 0, .int .i64 0, .int .i64 0, .int .i64 0] 30 (0, 0)) := by rw [← hA, hp]; exact heap_alloc_new _ _
            have Lwa : p < wa.heap.size := by rw [← hA, hp]; simp
            have p3 : w.heap.size + 3 ≤ p := by rw [hp]; exact le3 w m key Du7.out
            rw [← hp]
            clear hA hp
            (first | refine hK.out _ _ ?_ (fun hHeld => ?_) | (go_wp2_with fail; refine hK.out _ _ ?_ (fun hHeld => ?_)))
            · try dsimp only
              exact KS.out _ (Below.mono Dwa.out (by omega))
            clear hK K
            try simp only [Act.put, List.setIfInBounds_toArray, List.set_cons_zero, List.set_cons_succ]
            refine wpAnyH_ready (rs := [12]) (by kernel_rfl) (by simp) ?_
            refine AllReadyH.cons (by (simp only [List.getElem?_toArray, List.getElem?_cons_succ, List.getElem?_cons_zero]); (try exact rfl)) (fun K hK => ?_) AllReadyH.nil
            refine step_store_M rfl _ _ rfl p (⟨⟨0, 0, 0, 0⟩, ⟨0, 0, 0, 0⟩, 0⟩ : Mc) o _ rfl rfl Zwa ?_
            intro wE hE oE bE
            have PE := Lib.hid hE
            have DE : Hid (Below (w.heap.size + 3) (((w.alloc (.cells #[.int .i64 m.u.s, .int .i64 m.u.h, .int .i64 m.u.y, .int .i64 m.u.p, .int .i64 m.t.s, .int .i64 m.t.h, .int .i64 m.t.y, .int .i64 m.t.p, .int .i64 m.a] 30)).alloc (.cells #[.int .i64 1, .int .i64 key] 34)).alloc (.cells #[.int .i64 0, .int .i64 0] 34)) wE) := Below.trans Dwa.out (bE.mono p3)
            clear hE oE bE
            refine hK.out _ _ ?_ (fun hHeld => ?_)
            · try dsimp only
              exact KS.out _ (Below.mono DE.out (by omega))
            clear hK K
            try simp only [Act.put, List.setIfInBounds_toArray, List.set_cons_zero, List.set_cons_succ]
            refine wpAnyH_take (i := 13) (v := ?_) (by (simp only [List.getElem?_toArray, List.getElem?_cons_succ, List.getElem?_cons_zero]); (try exact rfl)) (by kernel_rfl) (by kernel_rfl) (by kernel_rfl) (by intro _ _ _ h; exact h) (Or.inl ⟨by rfl, ?_⟩) (by assumption) ?_
            rotate_left
            · intro w hSw
              try dsimp only at hSw
              go_simp
              try with_reducible rfl
            try simp only [Act.put, List.setIfInBounds_toArray, List.set_cons_zero, List.set_cons_succ]
            refine wpAnyH_done (by kernel_rfl) ?_ _
            have BE : Hid (Below w.heap.size w wE) := Below.trans (below3 w m key) (DE.out.mono (by omega))
            cases v with
            | false =>
              obtain rfl : x = 0 := HX.out.2.2 rfl
              clear KS
              go_wp2
              go_returns
              exact ⟨rfl, BE.out⟩
            | true =>
              obtain rfl : o = lookM m key := HO.out
              have ok := (HX.out.1.mp rfl).2.2.2.2
              have c8 := Lib.hid (fun w => gaps_any (lookM m key) ok.1 w)
              have c9 := Lib.hid (fun w => least_any _ _ _ _ x (HX.out.2.1 rfl) w)
              obtain ⟨⟨g0, g1, g2, g3, g4, g5, g6, g7, g8⟩, -, -⟩ := boxMc_at (q := lookM m key) PE.out
              clear KS ok
              go_wp2_with fail
              refine (c8.out _).mono ?_
              rintro e w8 ⟨rfl, b8⟩
              have B8 : Hid (Below w.heap.size w w8) := BE.out.trans (b8.mono BE.out.size)
              clear b8
              go_wp2_with fail
              refine (c9.out _).mono ?_
              rintro e w9 ⟨rfl, b9⟩
              have B9 : Hid (Below w.heap.size w w9) := B8.out.trans (b9.mono B8.out.size)
              clear b9
              go_wp2
              go_returns
              exact ⟨rfl, B9.out⟩
          · go_simp
            generalize hA : World.alloc u6 (.cells #[.int .i64 0, .int .i64 0, .int .i64 0, .int .i64 0, .int .i64 0, .int .i64 0, .int .i64 0, .int .i64 0, .int .i64 0] 30) = wa
            obtain ⟨p, hp⟩ : ∃ p, p = (u6).heap.size := ⟨_, rfl⟩
            have Dwa : Hid (Below (w.heap.size + 3) (((w.alloc (.cells #[.int .i64 m.u.s, .int .i64 m.u.h, .int .i64 m.u.y, .int .i64 m.u.p, .int .i64 m.t.s, .int .i64 m.t.h, .int .i64 m.t.y, .int .i64 m.t.p, .int .i64 m.a] 30)).alloc (.cells #[.int .i64 1, .int .i64 key] 34)).alloc (.cells #[.int .i64 0, .int .i64 0] 34)) wa) := by rw [← hA]; exact Below.alloc Du6.out (le3 w m key Du6.out) _
            have Zwa : wa.heap[p]? = some (.cells #[.int .i64 0, .int .i64 0, .int .i64 0, .int .i64 0, .int .i64 0, .int .i64 0, .int .i64 0, .int .i64 0, .int .i64 0] 30 (0, 0)) := by rw [← hA, hp]; exact heap_alloc_new _ _
            have Lwa : p < wa.heap.size := by rw [← hA, hp]; simp
            have p3 : w.heap.size + 3 ≤ p := by rw [hp]; exact le3 w m key Du6.out
            have np : ¬ p = g := by have := (boxSt_at GS).2.2; omega
            replace GS := (Below.heap_alloc u6 (.cells #[.int .i64 0, .int .i64 0, .int .i64 0, .int .i64 0, .int .i64 0, .int .i64 0, .int .i64 0, .int .i64 0, .int .i64 0] 30) _ (boxSt_at GS).2.2).trans GS
            rw [hA] at GS
            rw [← hp]
            clear hA hp
            (first | refine hK.out _ _ ?_ (fun hHeld => ?_) | (go_wp2_with fail; refine hK.out _ _ ?_ (fun hHeld => ?_)))
            · try dsimp only
              exact KS.out _ (Below.mono Dwa.out (by omega))
            clear hK K
            try simp only [Act.put, List.setIfInBounds_toArray, List.set_cons_zero, List.set_cons_succ]
            refine wpAnyH_ready (rs := [7]) (by kernel_rfl) (by simp) ?_
            refine (AllReadyH.cons (by (simp only [List.getElem?_toArray, List.getElem?_cons_succ, List.getElem?_cons_zero]); (try exact rfl)) (fun K hK => ?_) AllReadyH.nil)
            go_simp
            have KL := Lib.hid (key_look m key v1 v2 v3 v4 q q2 q3 q4 v o HV1.out HV.out HO.out hq hv2 h2 hv3 h3 hv4 h4)
            go_at_call 49
            refine (result_any g q4 o ((((!v1) || !v2) || !v3) || !v4) KL.out.2 _ GS).mono ?_
            rintro e u7 ⟨rfl, b7⟩
            rw [← KL.out.1]
            have Du7 : Hid (Below (w.heap.size + 3) (((w.alloc (.cells #[.int .i64 m.u.s, .int .i64 m.u.h, .int .i64 m.u.y, .int .i64 m.u.p, .int .i64 m.t.s, .int .i64 m.t.h, .int .i64 m.t.y, .int .i64 m.t.p, .int .i64 m.a] 30)).alloc (.cells #[.int .i64 1, .int .i64 key] 34)).alloc (.cells #[.int .i64 0, .int .i64 0] 34)) u7) := Below.trans Dwa.out (b7.mono (le3 w m key Dwa.out))
            have Zu7 := (b7.block p (by omega)).trans Zwa
            have Lu7 : p < u7.heap.size := Nat.lt_of_lt_of_le Lwa b7.size
            (first | refine hK.out _ _ ?_ (fun hHeld => ?_) | (go_wp2_with fail; refine hK.out _ _ ?_ (fun hHeld => ?_)))
            · try dsimp only
              exact KS.out _ (Below.mono Du7.out (by omega))
            clear hK K
            try simp only [Act.put, List.setIfInBounds_toArray, List.set_cons_zero, List.set_cons_succ]
            refine wpAnyH_take (i := 8) (v := ?_) (by (simp only [List.getElem?_toArray, List.getElem?_cons_succ, List.getElem?_cons_zero]); (try exact rfl)) (by kernel_rfl) (by kernel_rfl) (by kernel_rfl) (by intro _ _ _ h; exact h) (Or.inl ⟨by rfl, ?_⟩) (by assumption) ?_
            rotate_left
            · intro w hSw
              try dsimp only at hSw
              go_simp
              try with_reducible rfl
            try simp only [Act.put, List.setIfInBounds_toArray, List.set_cons_zero, List.set_cons_succ]
            refine wpAnyH_take (i := 9) (v := ?_) (by (simp only [List.getElem?_toArray, List.getElem?_cons_succ, List.getElem?_cons_zero]); (try exact rfl)) (by kernel_rfl) (by kernel_rfl) (by kernel_rfl) (by intro _ _ _ h; exact h) (Or.inl ⟨by rfl, ?_⟩) (by assumption) ?_
            rotate_left
            · intro w hSw
              try dsimp only at hSw
              go_simp
              try with_reducible rfl
            try simp only [Act.put, List.setIfInBounds_toArray, List.set_cons_zero, List.set_cons_succ]
            refine wpAnyH_take (i := 10) (v := ?_) (by (simp only [List.getElem?_toArray, List.getElem?_cons_succ, List.getElem?_cons_zero]); (try exact rfl)) (by kernel_rfl) (by kernel_rfl) (by kernel_rfl) (by intro _ _ _ h; exact h) (Or.inl ⟨by rfl, ?_⟩) (by assumption) ?_
            rotate_left
            · intro w hSw
              try dsimp only at hSw
              go_simp
              try with_reducible rfl
            try simp only [Act.put, List.setIfInBounds_toArray, List.set_cons_zero, List.set_cons_succ]
            refine wpAnyH_ready (rs := [12]) (by kernel_rfl) (by simp) ?_
            refine AllReadyH.cons (by (simp only [List.getElem?_toArray, List.getElem?_cons_succ, List.getElem?_cons_zero]); (try exact rfl)) (fun K hK => ?_) AllReadyH.nil
            refine step_store_M rfl _ _ rfl p (⟨⟨0, 0, 0, 0⟩, ⟨0, 0, 0, 0⟩, 0⟩ : Mc) o _ rfl rfl Zu7 ?_
            intro wE hE oE bE
            have PE := Lib.hid hE
            have DE : Hid (Below (w.heap.size + 3) (((w.alloc (.cells #[.int .i64 m.u.s, .int .i64 m.u.h, .int .i64 m.u.y, .int .i64 m.u.p, .int .i64 m.t.s, .int .i64 m.t.h, .int .i64 m.t.y, .int .i64 m.t.p, .int .i64 m.a] 30)).alloc (.cells #[.int .i64 1, .int .i64 key] 34)).alloc (.cells #[.int .i64 0, .int .i64 0] 34)) wE) := Below.trans Du7.out (bE.mono p3)
            clear hE oE bE
            refine hK.out _ _ ?_ (fun hHeld => ?_)
            · try dsimp only
              exact KS.out _ (Below.mono DE.out (by omega))
            clear hK K
            try simp only [Act.put, List.setIfInBounds_toArray, List.set_cons_zero, List.set_cons_succ]
            refine wpAnyH_take (i := 13) (v := ?_) (by (simp only [List.getElem?_toArray, List.getElem?_cons_succ, List.getElem?_cons_zero]); (try exact rfl)) (by kernel_rfl) (by kernel_rfl) (by kernel_rfl) (by intro _ _ _ h; exact h) (Or.inl ⟨by rfl, ?_⟩) (by assumption) ?_
            rotate_left
            · intro w hSw
              try dsimp only at hSw
              go_simp
              try with_reducible rfl
            try simp only [Act.put, List.setIfInBounds_toArray, List.set_cons_zero, List.set_cons_succ]
            refine wpAnyH_done (by kernel_rfl) ?_ _
            have BE : Hid (Below w.heap.size w wE) := Below.trans (below3 w m key) (DE.out.mono (by omega))
            cases v with
            | false =>
              obtain rfl : x = 0 := HX.out.2.2 rfl
              clear KS
              go_wp2
              go_returns
              exact ⟨rfl, BE.out⟩
            | true =>
              obtain rfl : o = lookM m key := HO.out
              have ok := (HX.out.1.mp rfl).2.2.2.2
              have c8 := Lib.hid (fun w => gaps_any (lookM m key) ok.1 w)
              have c9 := Lib.hid (fun w => least_any _ _ _ _ x (HX.out.2.1 rfl) w)
              obtain ⟨⟨g0, g1, g2, g3, g4, g5, g6, g7, g8⟩, -, -⟩ := boxMc_at (q := lookM m key) PE.out
              clear KS ok
              go_wp2_with fail
              refine (c8.out _).mono ?_
              rintro e w8 ⟨rfl, b8⟩
              have B8 : Hid (Below w.heap.size w w8) := BE.out.trans (b8.mono BE.out.size)
              clear b8
              go_wp2_with fail
              refine (c9.out _).mono ?_
              rintro e w9 ⟨rfl, b9⟩
              have B9 : Hid (Below w.heap.size w w9) := B8.out.trans (b9.mono B8.out.size)
              clear b9
              go_wp2
              go_returns
              exact ⟨rfl, B9.out⟩
        · go_simp
          generalize hA : World.alloc u4 (.cells #[.int .i64 0, .int .i64 0, .int .i64 0, .int .i64 0, .int .i64 0, .int .i64 0, .int .i64 0, .int .i64 0, .int .i64 0] 30) = wa
          obtain ⟨p, hp⟩ : ∃ p, p = (u4).heap.size := ⟨_, rfl⟩
          have Dwa : Hid (Below (w.heap.size + 3) (((w.alloc (.cells #[.int .i64 m.u.s, .int .i64 m.u.h, .int .i64 m.u.y, .int .i64 m.u.p, .int .i64 m.t.s, .int .i64 m.t.h, .int .i64 m.t.y, .int .i64 m.t.p, .int .i64 m.a] 30)).alloc (.cells #[.int .i64 1, .int .i64 key] 34)).alloc (.cells #[.int .i64 0, .int .i64 0] 34)) wa) := by rw [← hA]; exact Below.alloc Du4.out (le3 w m key Du4.out) _
          have Zwa : wa.heap[p]? = some (.cells #[.int .i64 0, .int .i64 0, .int .i64 0, .int .i64 0, .int .i64 0, .int .i64 0, .int .i64 0, .int .i64 0, .int .i64 0] 30 (0, 0)) := by rw [← hA, hp]; exact heap_alloc_new _ _
          have Lwa : p < wa.heap.size := by rw [← hA, hp]; simp
          have p3 : w.heap.size + 3 ≤ p := by rw [hp]; exact le3 w m key Du4.out
          have np : ¬ p = g := by have := (boxSt_at GS).2.2; omega
          replace GS := (Below.heap_alloc u4 (.cells #[.int .i64 0, .int .i64 0, .int .i64 0, .int .i64 0, .int .i64 0, .int .i64 0, .int .i64 0, .int .i64 0, .int .i64 0] 30) _ (boxSt_at GS).2.2).trans GS
          rw [hA] at GS
          rw [← hp]
          clear hA hp
          (first | refine hK.out _ _ ?_ (fun hHeld => ?_) | (go_wp2_with fail; refine hK.out _ _ ?_ (fun hHeld => ?_)))
          · try dsimp only
            exact KS.out _ (Below.mono Dwa.out (by omega))
          clear hK K
          try simp only [Act.put, List.setIfInBounds_toArray, List.set_cons_zero, List.set_cons_succ]
          refine wpAnyH_ready (rs := [6]) (by kernel_rfl) (by simp) ?_
          refine (AllReadyH.cons (by (simp only [List.getElem?_toArray, List.getElem?_cons_succ, List.getElem?_cons_zero]); (try exact rfl)) (fun K hK => ?_) AllReadyH.nil)
          go_simp
          obtain ⟨v4, hv4⟩ := rv_ex q3 ⟨0, 0⟩
          go_at_call 48
          refine (buildG_any g q3 (((!v1) || !v2) || !v3) ⟨0, 0⟩ n3 v4 hv4 _ (HT.out.later (Below.trans (below3 w m key) (Dwa.out.mono (by omega)))) GS).mono ?_
          rintro e u6 ⟨q4, rfl, g6, n4, h4, b6⟩
          have Du6 : Hid (Below (w.heap.size + 3) (((w.alloc (.cells #[.int .i64 m.u.s, .int .i64 m.u.h, .int .i64 m.u.y, .int .i64 m.u.p, .int .i64 m.t.s, .int .i64 m.t.h, .int .i64 m.t.y, .int .i64 m.t.p, .int .i64 m.a] 30)).alloc (.cells #[.int .i64 1, .int .i64 key] 34)).alloc (.cells #[.int .i64 0, .int .i64 0] 34)) u6) := Below.trans Dwa.out (grown_below b6 lg' (le3 w m key Dwa.out))
          have Zu6 := (b6.block p (by omega) (fun h => np (Option.some.inj h))).trans Zwa
          have Lu6 : p < u6.heap.size := Nat.lt_of_lt_of_le Lwa b6.size
          have GS := g6
          clear g6 b6
          (first | refine hK.out _ _ ?_ (fun hHeld => ?_) | (go_wp2_with fail; refine hK.out _ _ ?_ (fun hHeld => ?_)))
          · try dsimp only
            exact KS.out _ (Below.mono Du6.out (by omega))
          clear hK K
          try simp only [Act.put, List.setIfInBounds_toArray, List.set_cons_zero, List.set_cons_succ]
          refine wpAnyH_ready (rs := [7]) (by kernel_rfl) (by simp) ?_
          refine (AllReadyH.cons (by (simp only [List.getElem?_toArray, List.getElem?_cons_succ, List.getElem?_cons_zero]); (try exact rfl)) (fun K hK => ?_) AllReadyH.nil)
          go_simp
          have KL := Lib.hid (key_look m key v1 v2 v3 v4 q q2 q3 q4 v o HV1.out HV.out HO.out hq hv2 h2 hv3 h3 hv4 h4)
          go_at_call 49
          refine (result_any g q4 o ((((!v1) || !v2) || !v3) || !v4) KL.out.2 _ GS).mono ?_
          rintro e u7 ⟨rfl, b7⟩
          rw [← KL.out.1]
          have Du7 : Hid (Below (w.heap.size + 3) (((w.alloc (.cells #[.int .i64 m.u.s, .int .i64 m.u.h, .int .i64 m.u.y, .int .i64 m.u.p, .int .i64 m.t.s, .int .i64 m.t.h, .int .i64 m.t.y, .int .i64 m.t.p, .int .i64 m.a] 30)).alloc (.cells #[.int .i64 1, .int .i64 key] 34)).alloc (.cells #[.int .i64 0, .int .i64 0] 34)) u7) := Below.trans Du6.out (b7.mono (le3 w m key Du6.out))
          have Zu7 := (b7.block p (by omega)).trans Zu6
          have Lu7 : p < u7.heap.size := Nat.lt_of_lt_of_le Lu6 b7.size
          (first | refine hK.out _ _ ?_ (fun hHeld => ?_) | (go_wp2_with fail; refine hK.out _ _ ?_ (fun hHeld => ?_)))
          · try dsimp only
            exact KS.out _ (Below.mono Du7.out (by omega))
          clear hK K
          try simp only [Act.put, List.setIfInBounds_toArray, List.set_cons_zero, List.set_cons_succ]
          refine wpAnyH_take (i := 8) (v := ?_) (by (simp only [List.getElem?_toArray, List.getElem?_cons_succ, List.getElem?_cons_zero]); (try exact rfl)) (by kernel_rfl) (by kernel_rfl) (by kernel_rfl) (by intro _ _ _ h; exact h) (Or.inl ⟨by rfl, ?_⟩) (by assumption) ?_
          rotate_left
          · intro w hSw
            try dsimp only at hSw
            go_simp
            try with_reducible rfl
          try simp only [Act.put, List.setIfInBounds_toArray, List.set_cons_zero, List.set_cons_succ]
          refine wpAnyH_take (i := 9) (v := ?_) (by (simp only [List.getElem?_toArray, List.getElem?_cons_succ, List.getElem?_cons_zero]); (try exact rfl)) (by kernel_rfl) (by kernel_rfl) (by kernel_rfl) (by intro _ _ _ h; exact h) (Or.inl ⟨by rfl, ?_⟩) (by assumption) ?_
          rotate_left
          · intro w hSw
            try dsimp only at hSw
            go_simp
            try with_reducible rfl
          try simp only [Act.put, List.setIfInBounds_toArray, List.set_cons_zero, List.set_cons_succ]
          refine wpAnyH_take (i := 10) (v := ?_) (by (simp only [List.getElem?_toArray, List.getElem?_cons_succ, List.getElem?_cons_zero]); (try exact rfl)) (by kernel_rfl) (by kernel_rfl) (by kernel_rfl) (by intro _ _ _ h; exact h) (Or.inl ⟨by rfl, ?_⟩) (by assumption) ?_
          rotate_left
          · intro w hSw
            try dsimp only at hSw
            go_simp
            try with_reducible rfl
          try simp only [Act.put, List.setIfInBounds_toArray, List.set_cons_zero, List.set_cons_succ]
          refine wpAnyH_ready (rs := [12]) (by kernel_rfl) (by simp) ?_
          refine AllReadyH.cons (by (simp only [List.getElem?_toArray, List.getElem?_cons_succ, List.getElem?_cons_zero]); (try exact rfl)) (fun K hK => ?_) AllReadyH.nil
          refine step_store_M rfl _ _ rfl p (⟨⟨0, 0, 0, 0⟩, ⟨0, 0, 0, 0⟩, 0⟩ : Mc) o _ rfl rfl Zu7 ?_
          intro wE hE oE bE
          have PE := Lib.hid hE
          have DE : Hid (Below (w.heap.size + 3) (((w.alloc (.cells #[.int .i64 m.u.s, .int .i64 m.u.h, .int .i64 m.u.y, .int .i64 m.u.p, .int .i64 m.t.s, .int .i64 m.t.h, .int .i64 m.t.y, .int .i64 m.t.p, .int .i64 m.a] 30)).alloc (.cells #[.int .i64 1, .int .i64 key] 34)).alloc (.cells #[.int .i64 0, .int .i64 0] 34)) wE) := Below.trans Du7.out (bE.mono p3)
          clear hE oE bE
          refine hK.out _ _ ?_ (fun hHeld => ?_)
          · try dsimp only
            exact KS.out _ (Below.mono DE.out (by omega))
          clear hK K
          try simp only [Act.put, List.setIfInBounds_toArray, List.set_cons_zero, List.set_cons_succ]
          refine wpAnyH_take (i := 13) (v := ?_) (by (simp only [List.getElem?_toArray, List.getElem?_cons_succ, List.getElem?_cons_zero]); (try exact rfl)) (by kernel_rfl) (by kernel_rfl) (by kernel_rfl) (by intro _ _ _ h; exact h) (Or.inl ⟨by rfl, ?_⟩) (by assumption) ?_
          rotate_left
          · intro w hSw
            try dsimp only at hSw
            go_simp
            try with_reducible rfl
          try simp only [Act.put, List.setIfInBounds_toArray, List.set_cons_zero, List.set_cons_succ]
          refine wpAnyH_done (by kernel_rfl) ?_ _
          have BE : Hid (Below w.heap.size w wE) := Below.trans (below3 w m key) (DE.out.mono (by omega))
          cases v with
          | false =>
            obtain rfl : x = 0 := HX.out.2.2 rfl
            clear KS
            go_wp2
            go_returns
            exact ⟨rfl, BE.out⟩
          | true =>
            obtain rfl : o = lookM m key := HO.out
            have ok := (HX.out.1.mp rfl).2.2.2.2
            have c8 := Lib.hid (fun w => gaps_any (lookM m key) ok.1 w)
            have c9 := Lib.hid (fun w => least_any _ _ _ _ x (HX.out.2.1 rfl) w)
            obtain ⟨⟨g0, g1, g2, g3, g4, g5, g6, g7, g8⟩, -, -⟩ := boxMc_at (q := lookM m key) PE.out
            clear KS ok
            go_wp2_with fail
            refine (c8.out _).mono ?_
            rintro e w8 ⟨rfl, b8⟩
            have B8 : Hid (Below w.heap.size w w8) := BE.out.trans (b8.mono BE.out.size)
            clear b8
            go_wp2_with fail
            refine (c9.out _).mono ?_
            rintro e w9 ⟨rfl, b9⟩
            have B9 : Hid (Below w.heap.size w w9) := B8.out.trans (b9.mono B8.out.size)
            clear b9
            go_wp2
            go_returns
            exact ⟨rfl, B9.out⟩
      · go_simp
        generalize hA : World.alloc u3 (.cells #[.int .i64 0, .int .i64 0, .int .i64 0, .int .i64 0, .int .i64 0, .int .i64 0, .int .i64 0, .int .i64 0, .int .i64 0] 30) = wa
        obtain ⟨p, hp⟩ : ∃ p, p = (u3).heap.size := ⟨_, rfl⟩
        have Dwa : Hid (Below (w.heap.size + 3) (((w.alloc (.cells #[.int .i64 m.u.s, .int .i64 m.u.h, .int .i64 m.u.y, .int .i64 m.u.p, .int .i64 m.t.s, .int .i64 m.t.h, .int .i64 m.t.y, .int .i64 m.t.p, .int .i64 m.a] 30)).alloc (.cells #[.int .i64 1, .int .i64 key] 34)).alloc (.cells #[.int .i64 0, .int .i64 0] 34)) wa) := by rw [← hA]; exact Below.alloc Du3.out (le3 w m key Du3.out) _
        have Zwa : wa.heap[p]? = some (.cells #[.int .i64 0, .int .i64 0, .int .i64 0, .int .i64 0, .int .i64 0, .int .i64 0, .int .i64 0, .int .i64 0, .int .i64 0] 30 (0, 0)) := by rw [← hA, hp]; exact heap_alloc_new _ _
        have Lwa : p < wa.heap.size := by rw [← hA, hp]; simp
        have p3 : w.heap.size + 3 ≤ p := by rw [hp]; exact le3 w m key Du3.out
        have np : ¬ p = g := by have := (boxSt_at GS).2.2; omega
        replace GS := (Below.heap_alloc u3 (.cells #[.int .i64 0, .int .i64 0, .int .i64 0, .int .i64 0, .int .i64 0, .int .i64 0, .int .i64 0, .int .i64 0, .int .i64 0] 30) _ (boxSt_at GS).2.2).trans GS
        rw [hA] at GS
        rw [← hp]
        clear hA hp
        (first | refine hK.out _ _ ?_ (fun hHeld => ?_) | (go_wp2_with fail; refine hK.out _ _ ?_ (fun hHeld => ?_)))
        · try dsimp only
          exact KS.out _ (Below.mono Dwa.out (by omega))
        clear hK K
        try simp only [Act.put, List.setIfInBounds_toArray, List.set_cons_zero, List.set_cons_succ]
        refine wpAnyH_ready (rs := [4]) (by kernel_rfl) (by simp) ?_
        refine (AllReadyH.cons (by (simp only [List.getElem?_toArray, List.getElem?_cons_succ, List.getElem?_cons_zero]); (try exact rfl)) (fun K hK => ?_) AllReadyH.nil)
        go_simp
        obtain ⟨v3, hv3⟩ := pv_ex q2
        go_at_call 57
        refine (pushG_any g q2 ((!v1) || !v2) 0 0 n2 v3 hv3 _ GS).mono ?_
        rintro e u4 ⟨q3, rfl, g4, n3, h3, b4⟩
        have Du4 : Hid (Below (w.heap.size + 3) (((w.alloc (.cells #[.int .i64 m.u.s, .int .i64 m.u.h, .int .i64 m.u.y, .int .i64 m.u.p, .int .i64 m.t.s, .int .i64 m.t.h, .int .i64 m.t.y, .int .i64 m.t.p, .int .i64 m.a] 30)).alloc (.cells #[.int .i64 1, .int .i64 key] 34)).alloc (.cells #[.int .i64 0, .int .i64 0] 34)) u4) := Below.trans Dwa.out (grown_below b4 lg' (le3 w m key Dwa.out))
        have Zu4 := (b4.block p (by omega) (fun h => np (Option.some.inj h))).trans Zwa
        have Lu4 : p < u4.heap.size := Nat.lt_of_lt_of_le Lwa b4.size
        have GS := g4
        clear g4 b4
        (first | refine hK.out _ _ ?_ (fun hHeld => ?_) | (go_wp2_with fail; refine hK.out _ _ ?_ (fun hHeld => ?_)))
        · try dsimp only
          exact KS.out _ (Below.mono Du4.out (by omega))
        clear hK K
        try simp only [Act.put, List.setIfInBounds_toArray, List.set_cons_zero, List.set_cons_succ]
        refine wpAnyH_ready (rs := [6]) (by kernel_rfl) (by simp) ?_
        refine (AllReadyH.cons (by (simp only [List.getElem?_toArray, List.getElem?_cons_succ, List.getElem?_cons_zero]); (try exact rfl)) (fun K hK => ?_) AllReadyH.nil)
        go_simp
        obtain ⟨v4, hv4⟩ := rv_ex q3 ⟨0, 0⟩
        go_at_call 48
        refine (buildG_any g q3 (((!v1) || !v2) || !v3) ⟨0, 0⟩ n3 v4 hv4 _ (HT.out.later (Below.trans (below3 w m key) (Du4.out.mono (by omega)))) GS).mono ?_
        rintro e u6 ⟨q4, rfl, g6, n4, h4, b6⟩
        have Du6 : Hid (Below (w.heap.size + 3) (((w.alloc (.cells #[.int .i64 m.u.s, .int .i64 m.u.h, .int .i64 m.u.y, .int .i64 m.u.p, .int .i64 m.t.s, .int .i64 m.t.h, .int .i64 m.t.y, .int .i64 m.t.p, .int .i64 m.a] 30)).alloc (.cells #[.int .i64 1, .int .i64 key] 34)).alloc (.cells #[.int .i64 0, .int .i64 0] 34)) u6) := Below.trans Du4.out (grown_below b6 lg' (le3 w m key Du4.out))
        have Zu6 := (b6.block p (by omega) (fun h => np (Option.some.inj h))).trans Zu4
        have Lu6 : p < u6.heap.size := Nat.lt_of_lt_of_le Lu4 b6.size
        have GS := g6
        clear g6 b6
        (first | refine hK.out _ _ ?_ (fun hHeld => ?_) | (go_wp2_with fail; refine hK.out _ _ ?_ (fun hHeld => ?_)))
        · try dsimp only
          exact KS.out _ (Below.mono Du6.out (by omega))
        clear hK K
        try simp only [Act.put, List.setIfInBounds_toArray, List.set_cons_zero, List.set_cons_succ]
        refine wpAnyH_ready (rs := [7]) (by kernel_rfl) (by simp) ?_
        refine (AllReadyH.cons (by (simp only [List.getElem?_toArray, List.getElem?_cons_succ, List.getElem?_cons_zero]); (try exact rfl)) (fun K hK => ?_) AllReadyH.nil)
        go_simp
        have KL := Lib.hid (key_look m key v1 v2 v3 v4 q q2 q3 q4 v o HV1.out HV.out HO.out hq hv2 h2 hv3 h3 hv4 h4)
        go_at_call 49
        refine (result_any g q4 o ((((!v1) || !v2) || !v3) || !v4) KL.out.2 _ GS).mono ?_
        rintro e u7 ⟨rfl, b7⟩
        rw [← KL.out.1]
        have Du7 : Hid (Below (w.heap.size + 3) (((w.alloc (.cells #[.int .i64 m.u.s, .int .i64 m.u.h, .int .i64 m.u.y, .int .i64 m.u.p, .int .i64 m.t.s, .int .i64 m.t.h, .int .i64 m.t.y, .int .i64 m.t.p, .int .i64 m.a] 30)).alloc (.cells #[.int .i64 1, .int .i64 key] 34)).alloc (.cells #[.int .i64 0, .int .i64 0] 34)) u7) := Below.trans Du6.out (b7.mono (le3 w m key Du6.out))
        have Zu7 := (b7.block p (by omega)).trans Zu6
        have Lu7 : p < u7.heap.size := Nat.lt_of_lt_of_le Lu6 b7.size
        (first | refine hK.out _ _ ?_ (fun hHeld => ?_) | (go_wp2_with fail; refine hK.out _ _ ?_ (fun hHeld => ?_)))
        · try dsimp only
          exact KS.out _ (Below.mono Du7.out (by omega))
        clear hK K
        try simp only [Act.put, List.setIfInBounds_toArray, List.set_cons_zero, List.set_cons_succ]
        refine wpAnyH_take (i := 8) (v := ?_) (by (simp only [List.getElem?_toArray, List.getElem?_cons_succ, List.getElem?_cons_zero]); (try exact rfl)) (by kernel_rfl) (by kernel_rfl) (by kernel_rfl) (by intro _ _ _ h; exact h) (Or.inl ⟨by rfl, ?_⟩) (by assumption) ?_
        rotate_left
        · intro w hSw
          try dsimp only at hSw
          go_simp
          try with_reducible rfl
        try simp only [Act.put, List.setIfInBounds_toArray, List.set_cons_zero, List.set_cons_succ]
        refine wpAnyH_take (i := 9) (v := ?_) (by (simp only [List.getElem?_toArray, List.getElem?_cons_succ, List.getElem?_cons_zero]); (try exact rfl)) (by kernel_rfl) (by kernel_rfl) (by kernel_rfl) (by intro _ _ _ h; exact h) (Or.inl ⟨by rfl, ?_⟩) (by assumption) ?_
        rotate_left
        · intro w hSw
          try dsimp only at hSw
          go_simp
          try with_reducible rfl
        try simp only [Act.put, List.setIfInBounds_toArray, List.set_cons_zero, List.set_cons_succ]
        refine wpAnyH_take (i := 10) (v := ?_) (by (simp only [List.getElem?_toArray, List.getElem?_cons_succ, List.getElem?_cons_zero]); (try exact rfl)) (by kernel_rfl) (by kernel_rfl) (by kernel_rfl) (by intro _ _ _ h; exact h) (Or.inl ⟨by rfl, ?_⟩) (by assumption) ?_
        rotate_left
        · intro w hSw
          try dsimp only at hSw
          go_simp
          try with_reducible rfl
        try simp only [Act.put, List.setIfInBounds_toArray, List.set_cons_zero, List.set_cons_succ]
        refine wpAnyH_ready (rs := [12]) (by kernel_rfl) (by simp) ?_
        refine AllReadyH.cons (by (simp only [List.getElem?_toArray, List.getElem?_cons_succ, List.getElem?_cons_zero]); (try exact rfl)) (fun K hK => ?_) AllReadyH.nil
        refine step_store_M rfl _ _ rfl p (⟨⟨0, 0, 0, 0⟩, ⟨0, 0, 0, 0⟩, 0⟩ : Mc) o _ rfl rfl Zu7 ?_
        intro wE hE oE bE
        have PE := Lib.hid hE
        have DE : Hid (Below (w.heap.size + 3) (((w.alloc (.cells #[.int .i64 m.u.s, .int .i64 m.u.h, .int .i64 m.u.y, .int .i64 m.u.p, .int .i64 m.t.s, .int .i64 m.t.h, .int .i64 m.t.y, .int .i64 m.t.p, .int .i64 m.a] 30)).alloc (.cells #[.int .i64 1, .int .i64 key] 34)).alloc (.cells #[.int .i64 0, .int .i64 0] 34)) wE) := Below.trans Du7.out (bE.mono p3)
        clear hE oE bE
        refine hK.out _ _ ?_ (fun hHeld => ?_)
        · try dsimp only
          exact KS.out _ (Below.mono DE.out (by omega))
        clear hK K
        try simp only [Act.put, List.setIfInBounds_toArray, List.set_cons_zero, List.set_cons_succ]
        refine wpAnyH_take (i := 13) (v := ?_) (by (simp only [List.getElem?_toArray, List.getElem?_cons_succ, List.getElem?_cons_zero]); (try exact rfl)) (by kernel_rfl) (by kernel_rfl) (by kernel_rfl) (by intro _ _ _ h; exact h) (Or.inl ⟨by rfl, ?_⟩) (by assumption) ?_
        rotate_left
        · intro w hSw
          try dsimp only at hSw
          go_simp
          try with_reducible rfl
        try simp only [Act.put, List.setIfInBounds_toArray, List.set_cons_zero, List.set_cons_succ]
        refine wpAnyH_done (by kernel_rfl) ?_ _
        have BE : Hid (Below w.heap.size w wE) := Below.trans (below3 w m key) (DE.out.mono (by omega))
        cases v with
        | false =>
          obtain rfl : x = 0 := HX.out.2.2 rfl
          clear KS
          go_wp2
          go_returns
          exact ⟨rfl, BE.out⟩
        | true =>
          obtain rfl : o = lookM m key := HO.out
          have ok := (HX.out.1.mp rfl).2.2.2.2
          have c8 := Lib.hid (fun w => gaps_any (lookM m key) ok.1 w)
          have c9 := Lib.hid (fun w => least_any _ _ _ _ x (HX.out.2.1 rfl) w)
          obtain ⟨⟨g0, g1, g2, g3, g4, g5, g6, g7, g8⟩, -, -⟩ := boxMc_at (q := lookM m key) PE.out
          clear KS ok
          go_wp2_with fail
          refine (c8.out _).mono ?_
          rintro e w8 ⟨rfl, b8⟩
          have B8 : Hid (Below w.heap.size w w8) := BE.out.trans (b8.mono BE.out.size)
          clear b8
          go_wp2_with fail
          refine (c9.out _).mono ?_
          rintro e w9 ⟨rfl, b9⟩
          have B9 : Hid (Below w.heap.size w w9) := B8.out.trans (b9.mono B8.out.size)
          clear b9
          go_wp2
          go_returns
          exact ⟨rfl, B9.out⟩
    · go_simp
      generalize hA : World.alloc u1 (.cells #[.int .i64 0, .int .i64 0, .int .i64 0, .int .i64 0, .int .i64 0, .int .i64 0, .int .i64 0, .int .i64 0, .int .i64 0] 30) = wa
      obtain ⟨p, hp⟩ : ∃ p, p = (u1).heap.size := ⟨_, rfl⟩
      have Dwa : Hid (Below (w.heap.size + 3) (((w.alloc (.cells #[.int .i64 m.u.s, .int .i64 m.u.h, .int .i64 m.u.y, .int .i64 m.u.p, .int .i64 m.t.s, .int .i64 m.t.h, .int .i64 m.t.y, .int .i64 m.t.p, .int .i64 m.a] 30)).alloc (.cells #[.int .i64 1, .int .i64 key] 34)).alloc (.cells #[.int .i64 0, .int .i64 0] 34)) wa) := by rw [← hA]; exact Below.alloc Du1.out (le3 w m key Du1.out) _
      have Zwa : wa.heap[p]? = some (.cells #[.int .i64 0, .int .i64 0, .int .i64 0, .int .i64 0, .int .i64 0, .int .i64 0, .int .i64 0, .int .i64 0, .int .i64 0] 30 (0, 0)) := by rw [← hA, hp]; exact heap_alloc_new _ _
      have Lwa : p < wa.heap.size := by rw [← hA, hp]; simp
      have p3 : w.heap.size + 3 ≤ p := by rw [hp]; exact le3 w m key Du1.out
      have np : ¬ p = g := by have := (boxSt_at GS).2.2; omega
      replace GS := (Below.heap_alloc u1 (.cells #[.int .i64 0, .int .i64 0, .int .i64 0, .int .i64 0, .int .i64 0, .int .i64 0, .int .i64 0, .int .i64 0, .int .i64 0] 30) _ (boxSt_at GS).2.2).trans GS
      rw [hA] at GS
      rw [← hp]
      clear hA hp
      (first | refine hK.out _ _ ?_ (fun hHeld => ?_) | (go_wp2_with fail; refine hK.out _ _ ?_ (fun hHeld => ?_)))
      · try dsimp only
        exact KS.out _ (Below.mono Dwa.out (by omega))
      clear hK K
      try simp only [Act.put, List.setIfInBounds_toArray, List.set_cons_zero, List.set_cons_succ]
      refine wpAnyH_ready (rs := [3]) (by kernel_rfl) (by simp) ?_
      refine (AllReadyH.cons (by (simp only [List.getElem?_toArray, List.getElem?_cons_succ, List.getElem?_cons_zero]); (try exact rfl)) (fun K hK => ?_) AllReadyH.nil)
      go_simp
      obtain ⟨v2, hv2⟩ := rv_ex q ⟨1, key⟩
      go_at_call 48
      refine (buildG_any g q (!v1) ⟨1, key⟩ nq v2 hv2 _ (HT.out.later (Below.trans (below3 w m key) (Dwa.out.mono (by omega)))) GS).mono ?_
      rintro e u3 ⟨q2, rfl, g3, n2, h2, b3⟩
      have Du3 : Hid (Below (w.heap.size + 3) (((w.alloc (.cells #[.int .i64 m.u.s, .int .i64 m.u.h, .int .i64 m.u.y, .int .i64 m.u.p, .int .i64 m.t.s, .int .i64 m.t.h, .int .i64 m.t.y, .int .i64 m.t.p, .int .i64 m.a] 30)).alloc (.cells #[.int .i64 1, .int .i64 key] 34)).alloc (.cells #[.int .i64 0, .int .i64 0] 34)) u3) := Below.trans Dwa.out (grown_below b3 lg' (le3 w m key Dwa.out))
      have Zu3 := (b3.block p (by omega) (fun h => np (Option.some.inj h))).trans Zwa
      have Lu3 : p < u3.heap.size := Nat.lt_of_lt_of_le Lwa b3.size
      have GS := g3
      clear g3 b3
      (first | refine hK.out _ _ ?_ (fun hHeld => ?_) | (go_wp2_with fail; refine hK.out _ _ ?_ (fun hHeld => ?_)))
      · try dsimp only
        exact KS.out _ (Below.mono Du3.out (by omega))
      clear hK K
      try simp only [Act.put, List.setIfInBounds_toArray, List.set_cons_zero, List.set_cons_succ]
      refine wpAnyH_ready (rs := [4]) (by kernel_rfl) (by simp) ?_
      refine (AllReadyH.cons (by (simp only [List.getElem?_toArray, List.getElem?_cons_succ, List.getElem?_cons_zero]); (try exact rfl)) (fun K hK => ?_) AllReadyH.nil)
      go_simp
      obtain ⟨v3, hv3⟩ := pv_ex q2
      go_at_call 57
      refine (pushG_any g q2 ((!v1) || !v2) 0 0 n2 v3 hv3 _ GS).mono ?_
      rintro e u4 ⟨q3, rfl, g4, n3, h3, b4⟩
      have Du4 : Hid (Below (w.heap.size + 3) (((w.alloc (.cells #[.int .i64 m.u.s, .int .i64 m.u.h, .int .i64 m.u.y, .int .i64 m.u.p, .int .i64 m.t.s, .int .i64 m.t.h, .int .i64 m.t.y, .int .i64 m.t.p, .int .i64 m.a] 30)).alloc (.cells #[.int .i64 1, .int .i64 key] 34)).alloc (.cells #[.int .i64 0, .int .i64 0] 34)) u4) := Below.trans Du3.out (grown_below b4 lg' (le3 w m key Du3.out))
      have Zu4 := (b4.block p (by omega) (fun h => np (Option.some.inj h))).trans Zu3
      have Lu4 : p < u4.heap.size := Nat.lt_of_lt_of_le Lu3 b4.size
      have GS := g4
      clear g4 b4
      (first | refine hK.out _ _ ?_ (fun hHeld => ?_) | (go_wp2_with fail; refine hK.out _ _ ?_ (fun hHeld => ?_)))
      · try dsimp only
        exact KS.out _ (Below.mono Du4.out (by omega))
      clear hK K
      try simp only [Act.put, List.setIfInBounds_toArray, List.set_cons_zero, List.set_cons_succ]
      refine wpAnyH_ready (rs := [6]) (by kernel_rfl) (by simp) ?_
      refine (AllReadyH.cons (by (simp only [List.getElem?_toArray, List.getElem?_cons_succ, List.getElem?_cons_zero]); (try exact rfl)) (fun K hK => ?_) AllReadyH.nil)
      go_simp
      obtain ⟨v4, hv4⟩ := rv_ex q3 ⟨0, 0⟩
      go_at_call 48
      refine (buildG_any g q3 (((!v1) || !v2) || !v3) ⟨0, 0⟩ n3 v4 hv4 _ (HT.out.later (Below.trans (below3 w m key) (Du4.out.mono (by omega)))) GS).mono ?_
      rintro e u6 ⟨q4, rfl, g6, n4, h4, b6⟩
      have Du6 : Hid (Below (w.heap.size + 3) (((w.alloc (.cells #[.int .i64 m.u.s, .int .i64 m.u.h, .int .i64 m.u.y, .int .i64 m.u.p, .int .i64 m.t.s, .int .i64 m.t.h, .int .i64 m.t.y, .int .i64 m.t.p, .int .i64 m.a] 30)).alloc (.cells #[.int .i64 1, .int .i64 key] 34)).alloc (.cells #[.int .i64 0, .int .i64 0] 34)) u6) := Below.trans Du4.out (grown_below b6 lg' (le3 w m key Du4.out))
      have Zu6 := (b6.block p (by omega) (fun h => np (Option.some.inj h))).trans Zu4
      have Lu6 : p < u6.heap.size := Nat.lt_of_lt_of_le Lu4 b6.size
      have GS := g6
      clear g6 b6
      (first | refine hK.out _ _ ?_ (fun hHeld => ?_) | (go_wp2_with fail; refine hK.out _ _ ?_ (fun hHeld => ?_)))
      · try dsimp only
        exact KS.out _ (Below.mono Du6.out (by omega))
      clear hK K
      try simp only [Act.put, List.setIfInBounds_toArray, List.set_cons_zero, List.set_cons_succ]
      refine wpAnyH_ready (rs := [7]) (by kernel_rfl) (by simp) ?_
      refine (AllReadyH.cons (by (simp only [List.getElem?_toArray, List.getElem?_cons_succ, List.getElem?_cons_zero]); (try exact rfl)) (fun K hK => ?_) AllReadyH.nil)
      go_simp
      have KL := Lib.hid (key_look m key v1 v2 v3 v4 q q2 q3 q4 v o HV1.out HV.out HO.out hq hv2 h2 hv3 h3 hv4 h4)
      go_at_call 49
      refine (result_any g q4 o ((((!v1) || !v2) || !v3) || !v4) KL.out.2 _ GS).mono ?_
      rintro e u7 ⟨rfl, b7⟩
      rw [← KL.out.1]
      have Du7 : Hid (Below (w.heap.size + 3) (((w.alloc (.cells #[.int .i64 m.u.s, .int .i64 m.u.h, .int .i64 m.u.y, .int .i64 m.u.p, .int .i64 m.t.s, .int .i64 m.t.h, .int .i64 m.t.y, .int .i64 m.t.p, .int .i64 m.a] 30)).alloc (.cells #[.int .i64 1, .int .i64 key] 34)).alloc (.cells #[.int .i64 0, .int .i64 0] 34)) u7) := Below.trans Du6.out (b7.mono (le3 w m key Du6.out))
      have Zu7 := (b7.block p (by omega)).trans Zu6
      have Lu7 : p < u7.heap.size := Nat.lt_of_lt_of_le Lu6 b7.size
      (first | refine hK.out _ _ ?_ (fun hHeld => ?_) | (go_wp2_with fail; refine hK.out _ _ ?_ (fun hHeld => ?_)))
      · try dsimp only
        exact KS.out _ (Below.mono Du7.out (by omega))
      clear hK K
      try simp only [Act.put, List.setIfInBounds_toArray, List.set_cons_zero, List.set_cons_succ]
      refine wpAnyH_take (i := 8) (v := ?_) (by (simp only [List.getElem?_toArray, List.getElem?_cons_succ, List.getElem?_cons_zero]); (try exact rfl)) (by kernel_rfl) (by kernel_rfl) (by kernel_rfl) (by intro _ _ _ h; exact h) (Or.inl ⟨by rfl, ?_⟩) (by assumption) ?_
      rotate_left
      · intro w hSw
        try dsimp only at hSw
        go_simp
        try with_reducible rfl
      try simp only [Act.put, List.setIfInBounds_toArray, List.set_cons_zero, List.set_cons_succ]
      refine wpAnyH_take (i := 9) (v := ?_) (by (simp only [List.getElem?_toArray, List.getElem?_cons_succ, List.getElem?_cons_zero]); (try exact rfl)) (by kernel_rfl) (by kernel_rfl) (by kernel_rfl) (by intro _ _ _ h; exact h) (Or.inl ⟨by rfl, ?_⟩) (by assumption) ?_
      rotate_left
      · intro w hSw
        try dsimp only at hSw
        go_simp
        try with_reducible rfl
      try simp only [Act.put, List.setIfInBounds_toArray, List.set_cons_zero, List.set_cons_succ]
      refine wpAnyH_take (i := 10) (v := ?_) (by (simp only [List.getElem?_toArray, List.getElem?_cons_succ, List.getElem?_cons_zero]); (try exact rfl)) (by kernel_rfl) (by kernel_rfl) (by kernel_rfl) (by intro _ _ _ h; exact h) (Or.inl ⟨by rfl, ?_⟩) (by assumption) ?_
      rotate_left
      · intro w hSw
        try dsimp only at hSw
        go_simp
        try with_reducible rfl
      try simp only [Act.put, List.setIfInBounds_toArray, List.set_cons_zero, List.set_cons_succ]
      refine wpAnyH_ready (rs := [12]) (by kernel_rfl) (by simp) ?_
      refine AllReadyH.cons (by (simp only [List.getElem?_toArray, List.getElem?_cons_succ, List.getElem?_cons_zero]); (try exact rfl)) (fun K hK => ?_) AllReadyH.nil
      refine step_store_M rfl _ _ rfl p (⟨⟨0, 0, 0, 0⟩, ⟨0, 0, 0, 0⟩, 0⟩ : Mc) o _ rfl rfl Zu7 ?_
      intro wE hE oE bE
      have PE := Lib.hid hE
      have DE : Hid (Below (w.heap.size + 3) (((w.alloc (.cells #[.int .i64 m.u.s, .int .i64 m.u.h, .int .i64 m.u.y, .int .i64 m.u.p, .int .i64 m.t.s, .int .i64 m.t.h, .int .i64 m.t.y, .int .i64 m.t.p, .int .i64 m.a] 30)).alloc (.cells #[.int .i64 1, .int .i64 key] 34)).alloc (.cells #[.int .i64 0, .int .i64 0] 34)) wE) := Below.trans Du7.out (bE.mono p3)
      clear hE oE bE
      refine hK.out _ _ ?_ (fun hHeld => ?_)
      · try dsimp only
        exact KS.out _ (Below.mono DE.out (by omega))
      clear hK K
      try simp only [Act.put, List.setIfInBounds_toArray, List.set_cons_zero, List.set_cons_succ]
      refine wpAnyH_take (i := 13) (v := ?_) (by (simp only [List.getElem?_toArray, List.getElem?_cons_succ, List.getElem?_cons_zero]); (try exact rfl)) (by kernel_rfl) (by kernel_rfl) (by kernel_rfl) (by intro _ _ _ h; exact h) (Or.inl ⟨by rfl, ?_⟩) (by assumption) ?_
      rotate_left
      · intro w hSw
        try dsimp only at hSw
        go_simp
        try with_reducible rfl
      try simp only [Act.put, List.setIfInBounds_toArray, List.set_cons_zero, List.set_cons_succ]
      refine wpAnyH_done (by kernel_rfl) ?_ _
      have BE : Hid (Below w.heap.size w wE) := Below.trans (below3 w m key) (DE.out.mono (by omega))
      cases v with
      | false =>
        obtain rfl : x = 0 := HX.out.2.2 rfl
        clear KS
        go_wp2
        go_returns
        exact ⟨rfl, BE.out⟩
      | true =>
        obtain rfl : o = lookM m key := HO.out
        have ok := (HX.out.1.mp rfl).2.2.2.2
        have c8 := Lib.hid (fun w => gaps_any (lookM m key) ok.1 w)
        have c9 := Lib.hid (fun w => least_any _ _ _ _ x (HX.out.2.1 rfl) w)
        obtain ⟨⟨g0, g1, g2, g3, g4, g5, g6, g7, g8⟩, -, -⟩ := boxMc_at (q := lookM m key) PE.out
        clear KS ok
        go_wp2_with fail
        refine (c8.out _).mono ?_
        rintro e w8 ⟨rfl, b8⟩
        have B8 : Hid (Below w.heap.size w w8) := BE.out.trans (b8.mono BE.out.size)
        clear b8
        go_wp2_with fail
        refine (c9.out _).mono ?_
        rintro e w9 ⟨rfl, b9⟩
        have B9 : Hid (Below w.heap.size w w9) := B8.out.trans (b9.mono B8.out.size)
        clear b9
        go_wp2
        go_returns
        exact ⟨rfl, B9.out⟩
  · go_simp
    generalize hA : World.drew (World.alloc (((w.alloc (.cells #[.int .i64 m.u.s, .int .i64 m.u.h, .int .i64 m.u.y, .int .i64 m.u.p, .int .i64 m.t.s, .int .i64 m.t.h, .int .i64 m.t.y, .int .i64 m.t.p, .int .i64 m.a] 30)).alloc (.cells #[.int .i64 1, .int .i64 key] 34)).alloc (.cells #[.int .i64 0, .int .i64 0] 34)) (.cells #[.int .i64 0, .int .i64 0, .int .i64 0, .int .i64 0, .int .i64 0, .int .i64 0, .int .i64 0, .int .i64 0, .int .i64 0] 30)) = wa
    obtain ⟨p, hp⟩ : ∃ p, p = ((((w.alloc (.cells #[.int .i64 m.u.s, .int .i64 m.u.h, .int .i64 m.u.y, .int .i64 m.u.p, .int .i64 m.t.s, .int .i64 m.t.h, .int .i64 m.t.y, .int .i64 m.t.p, .int .i64 m.a] 30)).alloc (.cells #[.int .i64 1, .int .i64 key] 34)).alloc (.cells #[.int .i64 0, .int .i64 0] 34)).drew).heap.size := ⟨_, rfl⟩
    have Dwa : Hid (Below (w.heap.size + 3) (((w.alloc (.cells #[.int .i64 m.u.s, .int .i64 m.u.h, .int .i64 m.u.y, .int .i64 m.u.p, .int .i64 m.t.s, .int .i64 m.t.h, .int .i64 m.t.y, .int .i64 m.t.p, .int .i64 m.a] 30)).alloc (.cells #[.int .i64 1, .int .i64 key] 34)).alloc (.cells #[.int .i64 0, .int .i64 0] 34)) wa) := by rw [← hA]; exact Below.drew (Below.alloc (Below.refl _ _) (le3 w m key (Below.refl 0 _)) _)
    have Zwa : wa.heap[p]? = some (.cells #[.int .i64 0, .int .i64 0, .int .i64 0, .int .i64 0, .int .i64 0, .int .i64 0, .int .i64 0, .int .i64 0, .int .i64 0] 30 (0, 0)) := by rw [← hA, hp]; exact heap_alloc_new (((w.alloc (.cells #[.int .i64 m.u.s, .int .i64 m.u.h, .int .i64 m.u.y, .int .i64 m.u.p, .int .i64 m.t.s, .int .i64 m.t.h, .int .i64 m.t.y, .int .i64 m.t.p, .int .i64 m.a] 30)).alloc (.cells #[.int .i64 1, .int .i64 key] 34)).alloc (.cells #[.int .i64 0, .int .i64 0] 34)) _
    have Lwa : p < wa.heap.size := by rw [← hA, hp]; exact lt_alloc (((w.alloc (.cells #[.int .i64 m.u.s, .int .i64 m.u.h, .int .i64 m.u.y, .int .i64 m.u.p, .int .i64 m.t.s, .int .i64 m.t.h, .int .i64 m.t.y, .int .i64 m.t.p, .int .i64 m.a] 30)).alloc (.cells #[.int .i64 1, .int .i64 key] 34)).alloc (.cells #[.int .i64 0, .int .i64 0] 34)) _
    have p3 : w.heap.size + 3 ≤ p := by rw [hp]; exact le3 w m key DW.out
    have hp' : p = w.heap.size + 1 + 1 + 1 := by rw [hp]; show (((w.alloc (.cells #[.int .i64 m.u.s, .int .i64 m.u.h, .int .i64 m.u.y, .int .i64 m.u.p, .int .i64 m.t.s, .int .i64 m.t.h, .int .i64 m.t.y, .int .i64 m.t.p, .int .i64 m.a] 30)).alloc (.cells #[.int .i64 1, .int .i64 key] 34)).alloc (.cells #[.int .i64 0, .int .i64 0] 34)).heap.size = _; simp
    (first | rw [← hp] | rw [← hp'])
    clear hp'
    clear hA hp
    (first | refine hK.out _ _ ?_ (fun hHeld => ?_) | (go_wp2_with fail; refine hK.out _ _ ?_ (fun hHeld => ?_)))
    · try dsimp only
      exact KS.out _ (Below.mono Dwa.out (by omega))
    clear hK K
    try simp only [Act.put, List.setIfInBounds_toArray, List.set_cons_zero, List.set_cons_succ]
    refine wpAnyH_ready (rs := [1]) (by kernel_rfl) (by simp) ?_
    refine (AllReadyH.cons (by (simp only [List.getElem?_toArray, List.getElem?_cons_succ, List.getElem?_cons_zero]); (try exact rfl)) (fun K hK => ?_) AllReadyH.nil)
    go_simp
    go_at_call 47
    refine (c1.out _).mono ?_
    rintro e u1 ⟨g, q, lg, rfl, g1, nq, hq, b1⟩
    have lg' : w.heap.size + 3 ≤ g := Nat.le_trans (le3 w m key Dwa.out) lg
    have Du1 : Hid (Below (w.heap.size + 3) (((w.alloc (.cells #[.int .i64 m.u.s, .int .i64 m.u.h, .int .i64 m.u.y, .int .i64 m.u.p, .int .i64 m.t.s, .int .i64 m.t.h, .int .i64 m.t.y, .int .i64 m.t.p, .int .i64 m.a] 30)).alloc (.cells #[.int .i64 1, .int .i64 key] 34)).alloc (.cells #[.int .i64 0, .int .i64 0] 34)) u1) := Below.trans Dwa.out (b1.mono (le3 w m key Dwa.out))
    have Zu1 := (b1.block p (by omega)).trans Zwa
    have Lu1 : p < u1.heap.size := Nat.lt_of_lt_of_le Lwa b1.size
    have np : ¬ p = g := by omega
    have GS := g1
    clear g1 b1 lg
    (first | refine hK.out _ _ ?_ (fun hHeld => ?_) | (go_wp2_with fail; refine hK.out _ _ ?_ (fun hHeld => ?_)))
    · try dsimp only
      exact KS.out _ (Below.mono Du1.out (by omega))
    clear hK K
    try simp only [Act.put, List.setIfInBounds_toArray, List.set_cons_zero, List.set_cons_succ]
    refine wpAnyH_ready (rs := [3]) (by kernel_rfl) (by simp) ?_
    refine (AllReadyH.cons (by (simp only [List.getElem?_toArray, List.getElem?_cons_succ, List.getElem?_cons_zero]); (try exact rfl)) (fun K hK => ?_) AllReadyH.nil)
    go_simp
    obtain ⟨v2, hv2⟩ := rv_ex q ⟨1, key⟩
    go_at_call 48
    refine (buildG_any g q (!v1) ⟨1, key⟩ nq v2 hv2 _ (HT.out.later (Below.trans (below3 w m key) (Du1.out.mono (by omega)))) GS).mono ?_
    rintro e u3 ⟨q2, rfl, g3, n2, h2, b3⟩
    have Du3 : Hid (Below (w.heap.size + 3) (((w.alloc (.cells #[.int .i64 m.u.s, .int .i64 m.u.h, .int .i64 m.u.y, .int .i64 m.u.p, .int .i64 m.t.s, .int .i64 m.t.h, .int .i64 m.t.y, .int .i64 m.t.p, .int .i64 m.a] 30)).alloc (.cells #[.int .i64 1, .int .i64 key] 34)).alloc (.cells #[.int .i64 0, .int .i64 0] 34)) u3) := Below.trans Du1.out (grown_below b3 lg' (le3 w m key Du1.out))
    have Zu3 := (b3.block p (by omega) (fun h => np (Option.some.inj h))).trans Zu1
    have Lu3 : p < u3.heap.size := Nat.lt_of_lt_of_le Lu1 b3.size
    have GS := g3
    clear g3 b3
    (first | refine hK.out _ _ ?_ (fun hHeld => ?_) | (go_wp2_with fail; refine hK.out _ _ ?_ (fun hHeld => ?_)))
    · try dsimp only
      exact KS.out _ (Below.mono Du3.out (by omega))
    clear hK K
    try simp only [Act.put, List.setIfInBounds_toArray, List.set_cons_zero, List.set_cons_succ]
    refine wpAnyH_ready (rs := [4]) (by kernel_rfl) (by simp) ?_
    refine (AllReadyH.cons (by (simp only [List.getElem?_toArray, List.getElem?_cons_succ, List.getElem?_cons_zero]); (try exact rfl)) (fun K hK => ?_) AllReadyH.nil)
    go_simp
    obtain ⟨v3, hv3⟩ := pv_ex q2
    go_at_call 57
    refine (pushG_any g q2 ((!v1) || !v2) 0 0 n2 v3 hv3 _ GS).mono ?_
    rintro e u4 ⟨q3, rfl, g4, n3, h3, b4⟩
    have Du4 : Hid (Below (w.heap.size + 3) (((w.alloc (.cells #[.int .i64 m.u.s, .int .i64 m.u.h, .int .i64 m.u.y, .int .i64 m.u.p, .int .i64 m.t.s, .int .i64 m.t.h, .int .i64 m.t.y, .int .i64 m.t.p, .int .i64 m.a] 30)).alloc (.cells #[.int .i64 1, .int .i64 key] 34)).alloc (.cells #[.int .i64 0, .int .i64 0] 34)) u4) := Below.trans Du3.out (grown_below b4 lg' (le3 w m key Du3.out))
    have Zu4 := (b4.block p (by omega) (fun h => np (Option.some.inj h))).trans Zu3
    have Lu4 : p < u4.heap.size := Nat.lt_of_lt_of_le Lu3 b4.size
    have GS := g4
    clear g4 b4
    (first | refine hK.out _ _ ?_ (fun hHeld => ?_) | (go_wp2_with fail; refine hK.out _ _ ?_ (fun hHeld => ?_)))
    · try dsimp only
      exact KS.out _ (Below.mono Du4.out (by omega))
    clear hK K
    try simp only [Act.put, List.setIfInBounds_toArray, List.set_cons_zero, List.set_cons_succ]
    refine wpAnyH_ready (rs := [6]) (by kernel_rfl) (by simp) ?_
    refine (AllReadyH.cons (by (simp only [List.getElem?_toArray, List.getElem?_cons_succ, List.getElem?_cons_zero]); (try exact rfl)) (fun K hK => ?_) AllReadyH.nil)
    go_simp
    obtain ⟨v4, hv4⟩ := rv_ex q3 ⟨0, 0⟩
    go_at_call 48
    refine (buildG_any g q3 (((!v1) || !v2) || !v3) ⟨0, 0⟩ n3 v4 hv4 _ (HT.out.later (Below.trans (below3 w m key) (Du4.out.mono (by omega)))) GS).mono ?_
    rintro e u6 ⟨q4, rfl, g6, n4, h4, b6⟩
    have Du6 : Hid (Below (w.heap.size + 3) (((w.alloc (.cells #[.int .i64 m.u.s, .int .i64 m.u.h, .int .i64 m.u.y, .int .i64 m.u.p, .int .i64 m.t.s, .int .i64 m.t.h, .int .i64 m.t.y, .int .i64 m.t.p, .int .i64 m.a] 30)).alloc (.cells #[.int .i64 1, .int .i64 key] 34)).alloc (.cells #[.int .i64 0, .int .i64 0] 34)) u6) := Below.trans Du4.out (grown_below b6 lg' (le3 w m key Du4.out))
    have Zu6 := (b6.block p (by omega) (fun h => np (Option.some.inj h))).trans Zu4
    have Lu6 : p < u6.heap.size := Nat.lt_of_lt_of_le Lu4 b6.size
    have GS := g6
    clear g6 b6
    (first | refine hK.out _ _ ?_ (fun hHeld => ?_) | (go_wp2_with fail; refine hK.out _ _ ?_ (fun hHeld => ?_)))
    · try dsimp only
      exact KS.out _ (Below.mono Du6.out (by omega))
    clear hK K
    try simp only [Act.put, List.setIfInBounds_toArray, List.set_cons_zero, List.set_cons_succ]
    refine wpAnyH_ready (rs := [7]) (by kernel_rfl) (by simp) ?_
    refine (AllReadyH.cons (by (simp only [List.getElem?_toArray, List.getElem?_cons_succ, List.getElem?_cons_zero]); (try exact rfl)) (fun K hK => ?_) AllReadyH.nil)
    go_simp
    have KL := Lib.hid (key_look m key v1 v2 v3 v4 q q2 q3 q4 v o HV1.out HV.out HO.out hq hv2 h2 hv3 h3 hv4 h4)
    go_at_call 49
    refine (result_any g q4 o ((((!v1) || !v2) || !v3) || !v4) KL.out.2 _ GS).mono ?_
    rintro e u7 ⟨rfl, b7⟩
    rw [← KL.out.1]
    have Du7 : Hid (Below (w.heap.size + 3) (((w.alloc (.cells #[.int .i64 m.u.s, .int .i64 m.u.h, .int .i64 m.u.y, .int .i64 m.u.p, .int .i64 m.t.s, .int .i64 m.t.h, .int .i64 m.t.y, .int .i64 m.t.p, .int .i64 m.a] 30)).alloc (.cells #[.int .i64 1, .int .i64 key] 34)).alloc (.cells #[.int .i64 0, .int .i64 0] 34)) u7) := Below.trans Du6.out (b7.mono (le3 w m key Du6.out))
    have Zu7 := (b7.block p (by omega)).trans Zu6
    have Lu7 : p < u7.heap.size := Nat.lt_of_lt_of_le Lu6 b7.size
    (first | refine hK.out _ _ ?_ (fun hHeld => ?_) | (go_wp2_with fail; refine hK.out _ _ ?_ (fun hHeld => ?_)))
    · try dsimp only
      exact KS.out _ (Below.mono Du7.out (by omega))
    clear hK K
    try simp only [Act.put, List.setIfInBounds_toArray, List.set_cons_zero, List.set_cons_succ]
    refine wpAnyH_take (i := 8) (v := ?_) (by (simp only [List.getElem?_toArray, List.getElem?_cons_succ, List.getElem?_cons_zero]); (try exact rfl)) (by kernel_rfl) (by kernel_rfl) (by kernel_rfl) (by intro _ _ _ h; exact h) (Or.inl ⟨by rfl, ?_⟩) (by assumption) ?_
    rotate_left
    · intro w hSw
      try dsimp only at hSw
      go_simp
      try with_reducible rfl
    try simp only [Act.put, List.setIfInBounds_toArray, List.set_cons_zero, List.set_cons_succ]
    refine wpAnyH_take (i := 9) (v := ?_) (by (simp only [List.getElem?_toArray, List.getElem?_cons_succ, List.getElem?_cons_zero]); (try exact rfl)) (by kernel_rfl) (by kernel_rfl) (by kernel_rfl) (by intro _ _ _ h; exact h) (Or.inl ⟨by rfl, ?_⟩) (by assumption) ?_
    rotate_left
    · intro w hSw
      try dsimp only at hSw
      go_simp
      try with_reducible rfl
    try simp only [Act.put, List.setIfInBounds_toArray, List.set_cons_zero, List.set_cons_succ]
    refine wpAnyH_take (i := 10) (v := ?_) (by (simp only [List.getElem?_toArray, List.getElem?_cons_succ, List.getElem?_cons_zero]); (try exact rfl)) (by kernel_rfl) (by kernel_rfl) (by kernel_rfl) (by intro _ _ _ h; exact h) (Or.inl ⟨by rfl, ?_⟩) (by assumption) ?_
    rotate_left
    · intro w hSw
      try dsimp only at hSw
      go_simp
      try with_reducible rfl
    try simp only [Act.put, List.setIfInBounds_toArray, List.set_cons_zero, List.set_cons_succ]
    refine wpAnyH_ready (rs := [12]) (by kernel_rfl) (by simp) ?_
    refine AllReadyH.cons (by (simp only [List.getElem?_toArray, List.getElem?_cons_succ, List.getElem?_cons_zero]); (try exact rfl)) (fun K hK => ?_) AllReadyH.nil
    refine step_store_M rfl _ _ rfl p (⟨⟨0, 0, 0, 0⟩, ⟨0, 0, 0, 0⟩, 0⟩ : Mc) o _ rfl rfl Zu7 ?_
    intro wE hE oE bE
    have PE := Lib.hid hE
    have DE : Hid (Below (w.heap.size + 3) (((w.alloc (.cells #[.int .i64 m.u.s, .int .i64 m.u.h, .int .i64 m.u.y, .int .i64 m.u.p, .int .i64 m.t.s, .int .i64 m.t.h, .int .i64 m.t.y, .int .i64 m.t.p, .int .i64 m.a] 30)).alloc (.cells #[.int .i64 1, .int .i64 key] 34)).alloc (.cells #[.int .i64 0, .int .i64 0] 34)) wE) := Below.trans Du7.out (bE.mono p3)
    clear hE oE bE
    refine hK.out _ _ ?_ (fun hHeld => ?_)
    · try dsimp only
      exact KS.out _ (Below.mono DE.out (by omega))
    clear hK K
    try simp only [Act.put, List.setIfInBounds_toArray, List.set_cons_zero, List.set_cons_succ]
    refine wpAnyH_take (i := 13) (v := ?_) (by (simp only [List.getElem?_toArray, List.getElem?_cons_succ, List.getElem?_cons_zero]); (try exact rfl)) (by kernel_rfl) (by kernel_rfl) (by kernel_rfl) (by intro _ _ _ h; exact h) (Or.inl ⟨by rfl, ?_⟩) (by assumption) ?_
    rotate_left
    · intro w hSw
      try dsimp only at hSw
      go_simp
      try with_reducible rfl
    try simp only [Act.put, List.setIfInBounds_toArray, List.set_cons_zero, List.set_cons_succ]
    refine wpAnyH_done (by kernel_rfl) ?_ _
    have BE : Hid (Below w.heap.size w wE) := Below.trans (below3 w m key) (DE.out.mono (by omega))
    cases v with
    | false =>
      obtain rfl : x = 0 := HX.out.2.2 rfl
      clear KS
      go_wp2
      go_returns
      exact ⟨rfl, BE.out⟩
    | true =>
      obtain rfl : o = lookM m key := HO.out
      have ok := (HX.out.1.mp rfl).2.2.2.2
      have c8 := Lib.hid (fun w => gaps_any (lookM m key) ok.1 w)
      have c9 := Lib.hid (fun w => least_any _ _ _ _ x (HX.out.2.1 rfl) w)
      obtain ⟨⟨g0, g1, g2, g3, g4, g5, g6, g7, g8⟩, -, -⟩ := boxMc_at (q := lookM m key) PE.out
      clear KS ok
      go_wp2_with fail
      refine (c8.out _).mono ?_
      rintro e w8 ⟨rfl, b8⟩
      have B8 : Hid (Below w.heap.size w w8) := BE.out.trans (b8.mono BE.out.size)
      clear b8
      go_wp2_with fail
      refine (c9.out _).mono ?_
      rintro e w9 ⟨rfl, b9⟩
      have B9 : Hid (Below w.heap.size w w9) := B8.out.trans (b9.mono B8.out.size)
      clear b9
      go_wp2
      go_returns
      exact ⟨rfl, B9.out⟩
end Go.Proofs.YtjapgbeecabkfabDoor
