/- Adjusted heights, residuals and redundancies: the exact laws' two sides. (Written by tools/mkadjx.py.) -/
import Derived.Test.YtcmocilojloolaaDoorAdjT
import Derived.Test.YtcmocilojloolaaDoorFracI
namespace Go.Proofs.YtcmocilojloolaaDoor
open Go.ChangeShapes Go.WideShapes Go.ChangeAt Go.RowKit
set_option linter.unusedVariables false
set_option linter.unusedSimpArgs false

def adjZ (g : Sv) : List Int := solL g.p.toNat (rowsP (g.p.toNat - 1) g.x) (rightTo g.p.toNat g.x g.x.length)
def resZ (g : Sv) : List Int := errL (unitOf g) (adjZ g) g.x
def redZ (g : Sv) : List Int := redL g.p.toNat (unitOf g) (rowsP (g.p.toNat - 1) g.x) g.x
theorem adjZ_same {g k : Sv} (h : g.same k) : adjZ g = adjZ k := by unfold adjZ; rw [h.1, h.2]
theorem resZ_same {g k : Sv} (h : g.same k) : resZ g = resZ k := by unfold resZ; rw [unitOf_same h, adjZ_same h, h.2]
theorem redZ_same {g k : Sv} (h : g.same k) : redZ g = redZ k := by unfold redZ; rw [unitOf_same h, h.1, h.2]
theorem Con.bd {g : Sv} (hc : Con g) : (1 ≤ g.p.toNat ∧ g.p.toNat ≤ 5) ∧ g.x.length ≤ 8 ∧ (∀ x ∈ g.x, OkSt g.p.toNat x) ∧ (g.p.toNat : Int) = g.p := by
  have := hc.1.p0
  exact ⟨by omega, hc.1.n0, hc.1.sts, by omega⟩
theorem adjZ_bd {g : Sv} (hc : Con g) : (adjZ g).length ≤ 100 ∧ ∀ z ∈ adjZ g, Bd 81000000000000 z := by
  obtain ⟨h1, h2, h3, -⟩ := hc.bd
  exact ⟨by unfold adjZ; rw [solL_len]; omega, solL_bd h1 h3 h2 (rightTo_len _ _ _) (right_bd h3 h2)⟩
theorem resZ_bd {g : Sv} (hc : Con g) : (resZ g).length ≤ 100 ∧ ∀ z ∈ resZ g, Bd 1000000000000000000 z := by
  obtain ⟨h1, h2, h3, -⟩ := hc.bd
  refine ⟨by unfold resZ; rw [errL_len]; omega, fun z hz => ?_⟩
  simp only [resZ, errL, List.mem_map] at hz
  obtain ⟨x, hx, rfl⟩ := hz
  have ox := h3 x hx
  have b1 : Bd 100 x.r := by have := ox.r0; have := ox.r1; unfold Bd; omega
  have b2 : Bd 207360000 (unitOf g) := by have := unitOf_pos hc; unfold Bd; omega
  have b3 := getD_bd (by omega) (adjZ_bd hc).2 x.t.toNat
  have b4 := getD_bd (by omega) (adjZ_bd hc).2 x.f.toNat
  have b5 := b2.mul b1
  unfold errOf
  unfold Bd at *
  omega
theorem redZ_bd {g : Sv} (hc : Con g) : (redZ g).length ≤ 100 ∧ ∀ z ∈ redZ g, Bd 1000000000000000000 z := by
  obtain ⟨h1, h2, h3, -⟩ := hc.bd
  refine ⟨by unfold redZ; rw [redL_len]; omega, fun z hz => ?_⟩
  simp only [redZ, redL, List.mem_map] at hz
  obtain ⟨x, hx, rfl⟩ := hz
  have ox := h3 x hx
  have b1 : Bd 3 x.v := by have := ox.v0; have := ox.v1; unfold Bd; omega
  have b2 := unitOf_pos hc
  have b5 := b1.mul (cofV_bd h1 h3 h2 x.f.toNat x.t.toNat)
  unfold redF
  unfold Bd at *
  omega
theorem Con.svb {w : World} {G m n0 xc : Nat} {ty : TypeId} {xa : Option Addr} {xs : List St} (hc : Con ⟨(m : Int), xa, xc, xs⟩) (hG : w.heap[G]? = some (.cells #[.int .i64 m, .slice xa n0 xc] ty (0, 0))) (hr : RdS 4 encSt w (.slice xa n0 xc) xs) : SvB w G ty m (m - 1) n0 xc xa xs := by
  obtain ⟨hm, l8, ok, ht⟩ := hc.facts (n0 := n0)
  have e0 : n0 = xs.length := RdSv.len (g := ⟨(m : Int), xa, xc, xs⟩) ⟨hr⟩
  exact ⟨by omega, hG, hr, e0, by omega, ok, ht, by omega⟩
theorem unitOf_m (m : Nat) (xa : Option Addr) (xc : Nat) (xs : List St) : unitOf ⟨(m : Int), xa, xc, xs⟩ = det m (rowsP (m - 1) xs) := by simp [unitOf]
theorem adjZ_m (m : Nat) (xa : Option Addr) (xc : Nat) (xs : List St) : adjZ ⟨(m : Int), xa, xc, xs⟩ = solL m (rowsP (m - 1) xs) (rightTo m xs xs.length) := by simp [adjZ]
theorem resZ_m (m : Nat) (xa : Option Addr) (xc : Nat) (xs : List St) : resZ ⟨(m : Int), xa, xc, xs⟩ = errL (det m (rowsP (m - 1) xs)) (solL m (rowsP (m - 1) xs) (rightTo m xs xs.length)) xs := by unfold resZ; rw [unitOf_m, adjZ_m]
theorem redZ_m (m : Nat) (xa : Option Addr) (xc : Nat) (xs : List St) : redZ ⟨(m : Int), xa, xc, xs⟩ = redL m (det m (rowsP (m - 1) xs)) (rowsP (m - 1) xs) xs := by unfold redZ; rw [unitOf_m]; simp
theorem lowL_le (U : Int) (zs : List Int) (h : zs.length ≤ 100) : (lowL U zs).length ≤ 1048576 := by rw [lowL_len]; omega


set_option maxRecDepth 100000 in
set_option maxHeartbeats 4000000 in
theorem specAdjustSurvey_bad (g : Sv) (n0 : Nat) (w : World) (h : RdSv w n0 g) (l0 : n0 ≤ 1048576) (hc : ¬ Con g) :
    Calls Tryd.prog 22 #[(.agg #[.int .i64 g.p, .slice g.xa n0 g.xc])] w fun e w' => e = .returned (.tuple #[.int .i64 0, .slice none 0 0, .bool false]) ∧ Below w.heap.size w w' := by
  have W2 : Hid (Below w.heap.size w (w.alloc (.cells #[.int .i64 g.p, .slice g.xa n0 g.xc] 26))) := by show Below _ _ _; go_grown
  have C := Lib.hid (l10Whole_any w.heap.size 26 g n0 (w.alloc (.cells #[.int .i64 g.p, .slice g.xa n0 g.xc] 26)) (heap_alloc_new w _) (h.later W2.out) l0 false (by simp [hc]))
  clear h hc
  go_enter Tryd.func22, Tryd.ntmps22
  go_wp2_with fail
  refine C.out.mono ?_
  rintro e w2 ⟨rfl, b2⟩
  have B2 : Hid (Below w.heap.size w w2) := W2.out.trans (b2.mono (by simp only [World.size_alloc]; omega))
  clear b2 W2 C
  go_wp2
  go_ret3
  exact ⟨rfl, B2.out⟩
set_option maxRecDepth 100000 in
set_option maxHeartbeats 4000000 in
theorem specAdjustSurvey_ok (m n0 xc : Nat) (xa : Option Addr) (xs : List St) (D : Int) (Z : List Int) (w : World) (hr : RdS 4 encSt w (.slice xa n0 xc) xs) (hc : Con ⟨(m : Int), xa, xc, xs⟩) (hD : D = det m (rowsP (m - 1) xs)) (hDp : 0 < D ∧ D ≤ 207360000) (hZ : Z = solL m (rowsP (m - 1) xs) (rightTo m xs xs.length)) (lZ : Z.length ≤ 100) (bZ : ∀ z ∈ Z, Bd 1000000000000000000 z) :
    Calls Tryd.prog 22 #[.agg #[.int .i64 m, .slice xa n0 xc]] w fun e w' => ∃ u, e = .returned (.tuple #[.int .i64 (lowU D Z), u, .bool true]) ∧ OwnI w' w.heap.size u (lowL D Z) ∧ Below w.heap.size w w' := by
  have e0 : n0 = xs.length := RdSv.len (g := ⟨(m : Int), xa, xc, xs⟩) ⟨hr⟩
  have W1 : (w.alloc (.cells #[.int .i64 m, .slice xa n0 xc] 26)).heap[w.heap.size]? = some (.cells #[.int .i64 m, .slice xa n0 xc] 26 (0, 0)) := heap_alloc_new w _
  have W2 : Hid (Below w.heap.size w (w.alloc (.cells #[.int .i64 m, .slice xa n0 xc] 26))) := by show Below _ _ _; go_grown
  have W3 : (w.alloc (.cells #[.int .i64 m, .slice xa n0 xc] 26)).heap.size = w.heap.size + 1 := by simp
  have SB := Lib.hid (hc.svb W1 (hr.later W2.out))
  have C := Lib.hid (l10Whole_any w.heap.size 26 ⟨(m : Int), xa, xc, xs⟩ n0 (w.alloc (.cells #[.int .i64 m, .slice xa n0 xc] 26)) W1 ⟨hr.later W2.out⟩ (by have := hc.1.n0; simp only at this; omega) true (by simp [hc]))
  have C2 := Lib.hid (fun wq (hq : SvB wq w.heap.size 26 m (m - 1) n0 xc xa xs) => l10Adjusted_any w.heap.size 26 m (m - 1) n0 xc xa xs wq hq)
  have C3 := Lib.hid (fun v wq h => l10Lowest_any D (by omega) v Z wq h lZ bZ)
  rw [← hD] at C2
  rw [← e0] at hZ
  rw [← hZ] at C2
  clear hr hc W1 hD hZ bZ e0
  go_enter Tryd.func22, Tryd.ntmps22
  go_wp2_with fail
  refine C.out.mono ?_
  rintro e w2 ⟨rfl, b2⟩
  have B2 : Hid (Below w.heap.size w w2) := W2.out.trans (b2.mono (by omega))
  have CA := Lib.hid (C2.out w2 (SB.out.later b2))
  clear b2 W2 C C2 SB W3
  go_wp2_with fail
  refine CA.out.mono ?_
  rintro e w3 ⟨u, rfl, o3, b3⟩
  have B3 : Hid (Below w.heap.size w w3) := B2.out.trans (b3.mono B2.out.size)
  have CB := Lib.hid (C3.out _ w3 o3.rd)
  clear o3 b3 CA C3
  go_wp2_with fail
  refine CB.out.mono ?_
  rintro e w4 ⟨u, rfl, o4, b4⟩
  have O4 := Lib.hid (OwnI.mono o4 B3.out.size)
  have B4 : Hid (Below w.heap.size w w4) := B3.out.trans (b4.mono B3.out.size)
  clear o4 b4 CB
  go_wp2
  go_ret3
  exact ⟨_, rfl, O4.out, B4.out⟩
set_option maxRecDepth 100000 in
set_option maxHeartbeats 4000000 in
theorem implAdjustSurvey_bad (g : Sv) (n0 : Nat) (w : World) (h : RdSv w n0 g) (l0 : n0 ≤ 1048576) (hT : TSv w) (hc : ¬ Con g) :
    Calls Tryd.prog 15 #[(.agg #[.int .i64 g.p, .slice g.xa n0 g.xc])] w fun e w' => e = .returned (.tuple #[.int .i64 0, .slice none 0 0, .bool false]) ∧ Below w.heap.size w w' := by
  have W2 : Below w.heap.size w (w.alloc (.cells #[.int .i64 g.p, .slice g.xa n0 g.xc] 26)) := by go_grown
  have C := Lib.hid (fracH_bad g n0 (w.alloc (.cells #[.int .i64 g.p, .slice g.xa n0 g.xc] 26)) (h.later W2) l0 (hT.later W2) hc)
  clear h hc hT W2
  go_enter Tryd.func15, Tryd.ntmps15
  go_wp2_with fail
  refine C.out.mono ?_
  rintro e w2 ⟨rfl, b2⟩
  have B2 : Hid (Below w.heap.size w w2) := Below.trans (by go_grown) (b2.mono (by simp only [World.size_alloc]; omega))
  clear b2 C
  go_wp2
  go_ret3
  exact ⟨rfl, B2.out⟩
set_option maxRecDepth 100000 in
set_option maxHeartbeats 4000000 in
theorem implAdjustSurvey_ok (m n0 xc : Nat) (xa : Option Addr) (xs : List St) (D : Int) (Z : List Int) (w : World) (hr : RdS 4 encSt w (.slice xa n0 xc) xs) (hT : TSv w) (hc : Con ⟨(m : Int), xa, xc, xs⟩) (hD : D = det m (rowsP (m - 1) xs)) (hDp : 0 < D ∧ D ≤ 207360000) (hZ : Z = solL m (rowsP (m - 1) xs) (rightTo m xs xs.length)) (lZ : Z.length ≤ 100) (bZ : ∀ z ∈ Z, Bd 1000000000000000000 z) :
    Calls Tryd.prog 15 #[.agg #[.int .i64 m, .slice xa n0 xc]] w fun e w' => ∃ u, e = .returned (.tuple #[.int .i64 (lowU D Z), u, .bool true]) ∧ OwnI w' w.heap.size u (lowL D Z) ∧ Below w.heap.size w w' := by
  obtain ⟨hm, l8, ok, -⟩ := hc.facts (n0 := n0)
  have e0 : n0 = xs.length := RdSv.len (g := ⟨(m : Int), xa, xc, xs⟩) ⟨hr⟩
  have W2 : Below w.heap.size w (w.alloc (.cells #[.int .i64 m, .slice xa n0 xc] 26)) := by go_grown
  have W3 : (w.alloc (.cells #[.int .i64 m, .slice xa n0 xc] 26)).heap.size = w.heap.size + 1 := by simp
  have C := Lib.hid (fracH_ok m n0 xc xa xs D Z (w.alloc (.cells #[.int .i64 m, .slice xa n0 xc] 26)) (hr.later W2) (hT.later W2) hc hD (by omega) lZ bZ (fun wq B rb bs bl mx hbl => by
    have b : Below w.heap.size w wq := W2.trans (bl.mono (by omega))
    have h := netHeights_any B rb m n0 xc xa D bs xs wq mx hbl (hr.later b) e0 (by omega) ok (by omega)
    rw [hZ, ← e0]; exact h))
  clear hr hT hc hD hZ bZ ok e0 W2
  go_enter Tryd.func15, Tryd.ntmps15
  go_wp2_with fail
  refine C.out.mono ?_
  rintro e w2 ⟨u, rfl, o2, b2⟩
  have O2 := Lib.hid (OwnI.mono o2 (show w.heap.size ≤ (w.alloc (.cells #[.int .i64 m, .slice xa n0 xc] 26)).heap.size by omega))
  have B2 : Hid (Below w.heap.size w w2) := Below.trans (by go_grown) (b2.mono (by omega))
  clear b2 o2 C W3
  go_wp2
  go_ret3
  exact ⟨_, rfl, O2.out, B2.out⟩
theorem exAdjustSurvey (g0 : Sv) (n0 : Nat) (e0 : n0 = g0.x.length) (lt : (n0 : Int) ≤ 1048576) : ∃ (r0 : Int) (ys1 : List Int) (r2 : Bool), (ys1.length ≤ 1048576) ∧
    Hid (∀ (w : World) (k0 : Sv), TSv w → k0.same g0 → k0.caps n0 → RdSv w n0 k0 → Calls Tryd.prog 22 #[(.agg #[.int .i64 k0.p, .slice k0.xa n0 k0.xc])] w fun e w' => ∃ u1, e = .returned (.tuple #[.int .i64 r0, u1, .bool r2]) ∧ OwnIC w' w.heap.size w'.heap.size u1 ys1 ∧ Below w.heap.size w w') ∧
    Hid (∀ (w : World) (k0 : Sv), TSv w → k0.same g0 → k0.caps n0 → RdSv w n0 k0 → Calls Tryd.prog 15 #[(.agg #[.int .i64 k0.p, .slice k0.xa n0 k0.xc])] w fun e w' => ∃ u1, e = .returned (.tuple #[.int .i64 r0, u1, .bool r2]) ∧ OwnIC w' w.heap.size w'.heap.size u1 ys1 ∧ Below w.heap.size w w') := by
  have nl : ∀ w : World, OwnIC w w.heap.size w.heap.size (.slice none 0 0) [] := fun w => ⟨World.ownsRow_nil _ _ _ _, fun k e => by simp [Value.ownBlock] at e, Nat.le_refl _⟩
  have l0 : n0 ≤ 1048576 := by omega
  by_cases hc : Con g0
  · have hU := unitOf_pos hc
    obtain ⟨lZ, bZ⟩ := adjZ_bd hc
    have bZ' : ∀ z ∈ adjZ g0, Bd 1000000000000000000 z := fun z hz => (bZ z hz).mono (by decide)
    obtain ⟨-, -, -, hp⟩ := hc.bd
    refine ⟨lowU (unitOf g0) (adjZ g0), lowL (unitOf g0) (adjZ g0), true, lowL_le _ _ lZ, fun w k0 hT s cp h => ?_, fun w k0 hT s cp h => ?_⟩
    all_goals
      obtain ⟨p, xa, xc, xs⟩ := k0
      have s1 : p = g0.p := s.1
      rw [← hp] at s1
      subst s1
      have e1 := (unitOf_same s).symm
      have e2 := (adjZ_same s).symm
      have hc' := (con_same s).mpr hc
      rw [e1] at hU ⊢
      rw [e2] at lZ bZ' ⊢
      rw [unitOf_m] at hU ⊢
      rw [adjZ_m] at lZ bZ' ⊢
    · refine (specAdjustSurvey_ok g0.p.toNat n0 xc xa xs _ _ w h.r0 hc' rfl hU rfl lZ bZ').mono ?_
      rintro e w' ⟨u, rfl, o, b⟩
      exact ⟨u, rfl, OwnIC.of o, b⟩
    · refine (implAdjustSurvey_ok g0.p.toNat n0 xc xa xs _ _ w h.r0 hT hc' rfl hU rfl lZ bZ').mono ?_
      rintro e w' ⟨u, rfl, o, b⟩
      exact ⟨u, rfl, OwnIC.of o, b⟩
  · refine ⟨0, [], false, by simp, fun w k0 hT s cp h => ?_, fun w k0 hT s cp h => ?_⟩
    · refine (specAdjustSurvey_bad k0 n0 w h l0 (fun q => hc ((con_same s).mp q))).mono ?_
      rintro e w' ⟨rfl, b⟩
      exact ⟨_, rfl, ⟨World.ownsRow_nil _ _ _ _, fun k e => by simp [Value.ownBlock] at e, Nat.le_refl _⟩, b⟩
    · refine (implAdjustSurvey_bad k0 n0 w h l0 hT (fun q => hc ((con_same s).mp q))).mono ?_
      rintro e w' ⟨rfl, b⟩
      exact ⟨_, rfl, ⟨World.ownsRow_nil _ _ _ _, fun k e => by simp [Value.ownBlock] at e, Nat.le_refl _⟩, b⟩


set_option maxRecDepth 100000 in
set_option maxHeartbeats 4000000 in
theorem specResidualsOf_bad (g : Sv) (n0 : Nat) (w : World) (h : RdSv w n0 g) (l0 : n0 ≤ 1048576) (hc : ¬ Con g) :
    Calls Tryd.prog 29 #[(.agg #[.int .i64 g.p, .slice g.xa n0 g.xc])] w fun e w' => e = .returned (.tuple #[.int .i64 0, .slice none 0 0, .bool false]) ∧ Below w.heap.size w w' := by
  have W2 : Hid (Below w.heap.size w (w.alloc (.cells #[.int .i64 g.p, .slice g.xa n0 g.xc] 26))) := by show Below _ _ _; go_grown
  have C := Lib.hid (l10Whole_any w.heap.size 26 g n0 (w.alloc (.cells #[.int .i64 g.p, .slice g.xa n0 g.xc] 26)) (heap_alloc_new w _) (h.later W2.out) l0 false (by simp [hc]))
  clear h hc
  go_enter Tryd.func29, Tryd.ntmps29
  go_wp2_with fail
  refine C.out.mono ?_
  rintro e w2 ⟨rfl, b2⟩
  have B2 : Hid (Below w.heap.size w w2) := W2.out.trans (b2.mono (by simp only [World.size_alloc]; omega))
  clear b2 W2 C
  go_wp2
  go_ret3
  exact ⟨rfl, B2.out⟩
set_option maxRecDepth 100000 in
set_option maxHeartbeats 4000000 in
theorem specResidualsOf_ok (m n0 xc : Nat) (xa : Option Addr) (xs : List St) (D : Int) (Z : List Int) (w : World) (hr : RdS 4 encSt w (.slice xa n0 xc) xs) (hc : Con ⟨(m : Int), xa, xc, xs⟩) (hD : D = det m (rowsP (m - 1) xs)) (hDp : 0 < D ∧ D ≤ 207360000) (hZ : Z = errL (det m (rowsP (m - 1) xs)) (solL m (rowsP (m - 1) xs) (rightTo m xs xs.length)) xs) (lZ : Z.length ≤ 100) (bZ : ∀ z ∈ Z, Bd 1000000000000000000 z) :
    Calls Tryd.prog 29 #[.agg #[.int .i64 m, .slice xa n0 xc]] w fun e w' => ∃ u, e = .returned (.tuple #[.int .i64 (lowU D Z), u, .bool true]) ∧ OwnI w' w.heap.size u (lowL D Z) ∧ Below w.heap.size w w' := by
  have e0 : n0 = xs.length := RdSv.len (g := ⟨(m : Int), xa, xc, xs⟩) ⟨hr⟩
  have W1 : (w.alloc (.cells #[.int .i64 m, .slice xa n0 xc] 26)).heap[w.heap.size]? = some (.cells #[.int .i64 m, .slice xa n0 xc] 26 (0, 0)) := heap_alloc_new w _
  have W2 : Hid (Below w.heap.size w (w.alloc (.cells #[.int .i64 m, .slice xa n0 xc] 26))) := by show Below _ _ _; go_grown
  have W3 : (w.alloc (.cells #[.int .i64 m, .slice xa n0 xc] 26)).heap.size = w.heap.size + 1 := by simp
  have SB := Lib.hid (hc.svb W1 (hr.later W2.out))
  have C := Lib.hid (l10Whole_any w.heap.size 26 ⟨(m : Int), xa, xc, xs⟩ n0 (w.alloc (.cells #[.int .i64 m, .slice xa n0 xc] 26)) W1 ⟨hr.later W2.out⟩ (by have := hc.1.n0; simp only at this; omega) true (by simp [hc]))
  have C2 := Lib.hid (fun wq (hq : SvB wq w.heap.size 26 m (m - 1) n0 xc xa xs) => l10Residuals_any w.heap.size 26 m (m - 1) n0 xc xa xs D Z wq hq hD hDp (by rw [e0, hZ, hD]))
  clear hr hc W1 hD hZ bZ e0
  go_enter Tryd.func29, Tryd.ntmps29
  go_wp2_with fail
  refine C.out.mono ?_
  rintro e w2 ⟨rfl, b2⟩
  have B2 : Hid (Below w.heap.size w w2) := W2.out.trans (b2.mono (by omega))
  have CA := Lib.hid (C2.out w2 (SB.out.later b2))
  clear b2 W2 C C2 SB W3
  go_wp2_with fail
  refine CA.out.mono ?_
  rintro e w4 ⟨u, rfl, o4, b4⟩
  have O4 := Lib.hid (OwnI.mono o4 B2.out.size)
  have B4 : Hid (Below w.heap.size w w4) := B2.out.trans (b4.mono B2.out.size)
  clear o4 b4 CA
  go_wp2
  go_ret3
  exact ⟨_, rfl, O4.out, B4.out⟩
set_option maxRecDepth 100000 in
set_option maxHeartbeats 4000000 in
theorem implResidualsOf_bad (g : Sv) (n0 : Nat) (w : World) (h : RdSv w n0 g) (l0 : n0 ≤ 1048576) (hT : TSv w) (hc : ¬ Con g) :
    Calls Tryd.prog 16 #[(.agg #[.int .i64 g.p, .slice g.xa n0 g.xc])] w fun e w' => e = .returned (.tuple #[.int .i64 0, .slice none 0 0, .bool false]) ∧ Below w.heap.size w w' := by
  have W2 : Below w.heap.size w (w.alloc (.cells #[.int .i64 g.p, .slice g.xa n0 g.xc] 26)) := by go_grown
  have C := Lib.hid (fracR_bad g n0 (w.alloc (.cells #[.int .i64 g.p, .slice g.xa n0 g.xc] 26)) (h.later W2) l0 (hT.later W2) hc)
  clear h hc hT W2
  go_enter Tryd.func16, Tryd.ntmps16
  go_wp2_with fail
  refine C.out.mono ?_
  rintro e w2 ⟨rfl, b2⟩
  have B2 : Hid (Below w.heap.size w w2) := Below.trans (by go_grown) (b2.mono (by simp only [World.size_alloc]; omega))
  clear b2 C
  go_wp2
  go_ret3
  exact ⟨rfl, B2.out⟩
set_option maxRecDepth 100000 in
set_option maxHeartbeats 4000000 in
theorem implResidualsOf_ok (m n0 xc : Nat) (xa : Option Addr) (xs : List St) (D : Int) (Z : List Int) (w : World) (hr : RdS 4 encSt w (.slice xa n0 xc) xs) (hT : TSv w) (hc : Con ⟨(m : Int), xa, xc, xs⟩) (hD : D = det m (rowsP (m - 1) xs)) (hDp : 0 < D ∧ D ≤ 207360000) (hZ : Z = errL (det m (rowsP (m - 1) xs)) (solL m (rowsP (m - 1) xs) (rightTo m xs xs.length)) xs) (lZ : Z.length ≤ 100) (bZ : ∀ z ∈ Z, Bd 1000000000000000000 z) :
    Calls Tryd.prog 16 #[.agg #[.int .i64 m, .slice xa n0 xc]] w fun e w' => ∃ u, e = .returned (.tuple #[.int .i64 (lowU D Z), u, .bool true]) ∧ OwnI w' w.heap.size u (lowL D Z) ∧ Below w.heap.size w w' := by
  obtain ⟨hm, l8, ok, -⟩ := hc.facts (n0 := n0)
  have e0 : n0 = xs.length := RdSv.len (g := ⟨(m : Int), xa, xc, xs⟩) ⟨hr⟩
  have W2 : Below w.heap.size w (w.alloc (.cells #[.int .i64 m, .slice xa n0 xc] 26)) := by go_grown
  have W3 : (w.alloc (.cells #[.int .i64 m, .slice xa n0 xc] 26)).heap.size = w.heap.size + 1 := by simp
  have C := Lib.hid (fracR_ok m n0 xc xa xs D Z (w.alloc (.cells #[.int .i64 m, .slice xa n0 xc] 26)) (hr.later W2) (hT.later W2) hc hD (by omega) lZ bZ (fun wq B rb bs bl mx hbl => by
    have b : Below w.heap.size w wq := W2.trans (bl.mono (by omega))
    have h := netResiduals_any B rb m n0 xc xa D bs xs wq mx hbl (hr.later b) e0 (by omega) ok (by omega) (by unfold Bd; omega)
    rw [hZ, ← hD, ← e0]; exact h))
  clear hr hT hc hD hZ bZ ok e0 W2
  go_enter Tryd.func16, Tryd.ntmps16
  go_wp2_with fail
  refine C.out.mono ?_
  rintro e w2 ⟨u, rfl, o2, b2⟩
  have O2 := Lib.hid (OwnI.mono o2 (show w.heap.size ≤ (w.alloc (.cells #[.int .i64 m, .slice xa n0 xc] 26)).heap.size by omega))
  have B2 : Hid (Below w.heap.size w w2) := Below.trans (by go_grown) (b2.mono (by omega))
  clear b2 o2 C W3
  go_wp2
  go_ret3
  exact ⟨_, rfl, O2.out, B2.out⟩
theorem exResidualsOf (g0 : Sv) (n0 : Nat) (e0 : n0 = g0.x.length) (lt : (n0 : Int) ≤ 1048576) : ∃ (r0 : Int) (ys1 : List Int) (r2 : Bool), (ys1.length ≤ 1048576) ∧
    Hid (∀ (w : World) (k0 : Sv), TSv w → k0.same g0 → k0.caps n0 → RdSv w n0 k0 → Calls Tryd.prog 29 #[(.agg #[.int .i64 k0.p, .slice k0.xa n0 k0.xc])] w fun e w' => ∃ u1, e = .returned (.tuple #[.int .i64 r0, u1, .bool r2]) ∧ OwnIC w' w.heap.size w'.heap.size u1 ys1 ∧ Below w.heap.size w w') ∧
    Hid (∀ (w : World) (k0 : Sv), TSv w → k0.same g0 → k0.caps n0 → RdSv w n0 k0 → Calls Tryd.prog 16 #[(.agg #[.int .i64 k0.p, .slice k0.xa n0 k0.xc])] w fun e w' => ∃ u1, e = .returned (.tuple #[.int .i64 r0, u1, .bool r2]) ∧ OwnIC w' w.heap.size w'.heap.size u1 ys1 ∧ Below w.heap.size w w') := by
  have nl : ∀ w : World, OwnIC w w.heap.size w.heap.size (.slice none 0 0) [] := fun w => ⟨World.ownsRow_nil _ _ _ _, fun k e => by simp [Value.ownBlock] at e, Nat.le_refl _⟩
  have l0 : n0 ≤ 1048576 := by omega
  by_cases hc : Con g0
  · have hU := unitOf_pos hc
    obtain ⟨lZ, bZ⟩ := resZ_bd hc
    have bZ' : ∀ z ∈ resZ g0, Bd 1000000000000000000 z := fun z hz => (bZ z hz).mono (by decide)
    obtain ⟨-, -, -, hp⟩ := hc.bd
    refine ⟨lowU (unitOf g0) (resZ g0), lowL (unitOf g0) (resZ g0), true, lowL_le _ _ lZ, fun w k0 hT s cp h => ?_, fun w k0 hT s cp h => ?_⟩
    all_goals
      obtain ⟨p, xa, xc, xs⟩ := k0
      have s1 : p = g0.p := s.1
      rw [← hp] at s1
      subst s1
      have e1 := (unitOf_same s).symm
      have e2 := (resZ_same s).symm
      have hc' := (con_same s).mpr hc
      rw [e1] at hU ⊢
      rw [e2] at lZ bZ' ⊢
      rw [unitOf_m] at hU ⊢
      rw [resZ_m] at lZ bZ' ⊢
    · refine (specResidualsOf_ok g0.p.toNat n0 xc xa xs _ _ w h.r0 hc' rfl hU rfl lZ bZ').mono ?_
      rintro e w' ⟨u, rfl, o, b⟩
      exact ⟨u, rfl, OwnIC.of o, b⟩
    · refine (implResidualsOf_ok g0.p.toNat n0 xc xa xs _ _ w h.r0 hT hc' rfl hU rfl lZ bZ').mono ?_
      rintro e w' ⟨u, rfl, o, b⟩
      exact ⟨u, rfl, OwnIC.of o, b⟩
  · refine ⟨0, [], false, by simp, fun w k0 hT s cp h => ?_, fun w k0 hT s cp h => ?_⟩
    · refine (specResidualsOf_bad k0 n0 w h l0 (fun q => hc ((con_same s).mp q))).mono ?_
      rintro e w' ⟨rfl, b⟩
      exact ⟨_, rfl, ⟨World.ownsRow_nil _ _ _ _, fun k e => by simp [Value.ownBlock] at e, Nat.le_refl _⟩, b⟩
    · refine (implResidualsOf_bad k0 n0 w h l0 hT (fun q => hc ((con_same s).mp q))).mono ?_
      rintro e w' ⟨rfl, b⟩
      exact ⟨_, rfl, ⟨World.ownsRow_nil _ _ _ _, fun k e => by simp [Value.ownBlock] at e, Nat.le_refl _⟩, b⟩


set_option maxRecDepth 100000 in
set_option maxHeartbeats 4000000 in
theorem specRedundanciesOf_bad (g : Sv) (n0 : Nat) (w : World) (h : RdSv w n0 g) (l0 : n0 ≤ 1048576) (hc : ¬ Con g) :
    Calls Tryd.prog 36 #[(.agg #[.int .i64 g.p, .slice g.xa n0 g.xc])] w fun e w' => e = .returned (.tuple #[.int .i64 0, .slice none 0 0, .bool false]) ∧ Below w.heap.size w w' := by
  have W2 : Hid (Below w.heap.size w (w.alloc (.cells #[.int .i64 g.p, .slice g.xa n0 g.xc] 26))) := by show Below _ _ _; go_grown
  have C := Lib.hid (l10Whole_any w.heap.size 26 g n0 (w.alloc (.cells #[.int .i64 g.p, .slice g.xa n0 g.xc] 26)) (heap_alloc_new w _) (h.later W2.out) l0 false (by simp [hc]))
  clear h hc
  go_enter Tryd.func36, Tryd.ntmps36
  go_wp2_with fail
  refine C.out.mono ?_
  rintro e w2 ⟨rfl, b2⟩
  have B2 : Hid (Below w.heap.size w w2) := W2.out.trans (b2.mono (by simp only [World.size_alloc]; omega))
  clear b2 W2 C
  go_wp2
  go_ret3
  exact ⟨rfl, B2.out⟩
set_option maxRecDepth 100000 in
set_option maxHeartbeats 4000000 in
theorem specRedundanciesOf_ok (m n0 xc : Nat) (xa : Option Addr) (xs : List St) (D : Int) (Z : List Int) (w : World) (hr : RdS 4 encSt w (.slice xa n0 xc) xs) (hc : Con ⟨(m : Int), xa, xc, xs⟩) (hD : D = det m (rowsP (m - 1) xs)) (hDp : 0 < D ∧ D ≤ 207360000) (hZ : Z = redL m (det m (rowsP (m - 1) xs)) (rowsP (m - 1) xs) xs) (lZ : Z.length ≤ 100) (bZ : ∀ z ∈ Z, Bd 1000000000000000000 z) :
    Calls Tryd.prog 36 #[.agg #[.int .i64 m, .slice xa n0 xc]] w fun e w' => ∃ u, e = .returned (.tuple #[.int .i64 (lowU D Z), u, .bool true]) ∧ OwnI w' w.heap.size u (lowL D Z) ∧ Below w.heap.size w w' := by
  have e0 : n0 = xs.length := RdSv.len (g := ⟨(m : Int), xa, xc, xs⟩) ⟨hr⟩
  have W1 : (w.alloc (.cells #[.int .i64 m, .slice xa n0 xc] 26)).heap[w.heap.size]? = some (.cells #[.int .i64 m, .slice xa n0 xc] 26 (0, 0)) := heap_alloc_new w _
  have W2 : Hid (Below w.heap.size w (w.alloc (.cells #[.int .i64 m, .slice xa n0 xc] 26))) := by show Below _ _ _; go_grown
  have W3 : (w.alloc (.cells #[.int .i64 m, .slice xa n0 xc] 26)).heap.size = w.heap.size + 1 := by simp
  have SB := Lib.hid (hc.svb W1 (hr.later W2.out))
  have C := Lib.hid (l10Whole_any w.heap.size 26 ⟨(m : Int), xa, xc, xs⟩ n0 (w.alloc (.cells #[.int .i64 m, .slice xa n0 xc] 26)) W1 ⟨hr.later W2.out⟩ (by have := hc.1.n0; simp only at this; omega) true (by simp [hc]))
  have C2 := Lib.hid (fun wq (hq : SvB wq w.heap.size 26 m (m - 1) n0 xc xa xs) => l10Redundancies_any w.heap.size 26 m (m - 1) n0 xc xa xs D Z wq hq hD hDp (by rw [hZ, hD]))
  clear hr hc W1 hD hZ bZ e0
  go_enter Tryd.func36, Tryd.ntmps36
  go_wp2_with fail
  refine C.out.mono ?_
  rintro e w2 ⟨rfl, b2⟩
  have B2 : Hid (Below w.heap.size w w2) := W2.out.trans (b2.mono (by omega))
  have CA := Lib.hid (C2.out w2 (SB.out.later b2))
  clear b2 W2 C C2 SB W3
  go_wp2_with fail
  refine CA.out.mono ?_
  rintro e w4 ⟨u, rfl, o4, b4⟩
  have O4 := Lib.hid (OwnI.mono o4 B2.out.size)
  have B4 : Hid (Below w.heap.size w w4) := B2.out.trans (b4.mono B2.out.size)
  clear o4 b4 CA
  go_wp2
  go_ret3
  exact ⟨_, rfl, O4.out, B4.out⟩
set_option maxRecDepth 100000 in
set_option maxHeartbeats 4000000 in
theorem implRedundanciesOf_bad (g : Sv) (n0 : Nat) (w : World) (h : RdSv w n0 g) (l0 : n0 ≤ 1048576) (hT : TSv w) (hc : ¬ Con g) :
    Calls Tryd.prog 37 #[(.agg #[.int .i64 g.p, .slice g.xa n0 g.xc])] w fun e w' => e = .returned (.tuple #[.int .i64 0, .slice none 0 0, .bool false]) ∧ Below w.heap.size w w' := by
  have W2 : Below w.heap.size w (w.alloc (.cells #[.int .i64 g.p, .slice g.xa n0 g.xc] 26)) := by go_grown
  have C := Lib.hid (fracF_bad g n0 (w.alloc (.cells #[.int .i64 g.p, .slice g.xa n0 g.xc] 26)) (h.later W2) l0 (hT.later W2) hc)
  clear h hc hT W2
  go_enter Tryd.func37, Tryd.ntmps37
  go_wp2_with fail
  refine C.out.mono ?_
  rintro e w2 ⟨rfl, b2⟩
  have B2 : Hid (Below w.heap.size w w2) := Below.trans (by go_grown) (b2.mono (by simp only [World.size_alloc]; omega))
  clear b2 C
  go_wp2
  go_ret3
  exact ⟨rfl, B2.out⟩
set_option maxRecDepth 100000 in
set_option maxHeartbeats 4000000 in
theorem implRedundanciesOf_ok (m n0 xc : Nat) (xa : Option Addr) (xs : List St) (D : Int) (Z : List Int) (w : World) (hr : RdS 4 encSt w (.slice xa n0 xc) xs) (hT : TSv w) (hc : Con ⟨(m : Int), xa, xc, xs⟩) (hD : D = det m (rowsP (m - 1) xs)) (hDp : 0 < D ∧ D ≤ 207360000) (hZ : Z = redL m (det m (rowsP (m - 1) xs)) (rowsP (m - 1) xs) xs) (lZ : Z.length ≤ 100) (bZ : ∀ z ∈ Z, Bd 1000000000000000000 z) :
    Calls Tryd.prog 37 #[.agg #[.int .i64 m, .slice xa n0 xc]] w fun e w' => ∃ u, e = .returned (.tuple #[.int .i64 (lowU D Z), u, .bool true]) ∧ OwnI w' w.heap.size u (lowL D Z) ∧ Below w.heap.size w w' := by
  obtain ⟨hm, l8, ok, -⟩ := hc.facts (n0 := n0)
  have e0 : n0 = xs.length := RdSv.len (g := ⟨(m : Int), xa, xc, xs⟩) ⟨hr⟩
  have W2 : Below w.heap.size w (w.alloc (.cells #[.int .i64 m, .slice xa n0 xc] 26)) := by go_grown
  have W3 : (w.alloc (.cells #[.int .i64 m, .slice xa n0 xc] 26)).heap.size = w.heap.size + 1 := by simp
  have C := Lib.hid (fracF_ok m n0 xc xa xs D Z (w.alloc (.cells #[.int .i64 m, .slice xa n0 xc] 26)) (hr.later W2) (hT.later W2) hc hD (by omega) lZ bZ (fun wq B rb bs bl mx hbl => by
    have b : Below w.heap.size w wq := W2.trans (bl.mono (by omega))
    have h := netRedundancies_any B rb m n0 xc xa D bs xs wq mx hbl (hr.later b) e0 (by omega) ok (by omega) (by unfold Bd; omega)
    rw [hZ, ← hD]; exact h))
  clear hr hT hc hD hZ bZ ok e0 W2
  go_enter Tryd.func37, Tryd.ntmps37
  go_wp2_with fail
  refine C.out.mono ?_
  rintro e w2 ⟨u, rfl, o2, b2⟩
  have O2 := Lib.hid (OwnI.mono o2 (show w.heap.size ≤ (w.alloc (.cells #[.int .i64 m, .slice xa n0 xc] 26)).heap.size by omega))
  have B2 : Hid (Below w.heap.size w w2) := Below.trans (by go_grown) (b2.mono (by omega))
  clear b2 o2 C W3
  go_wp2
  go_ret3
  exact ⟨_, rfl, O2.out, B2.out⟩
theorem exRedundanciesOf (g0 : Sv) (n0 : Nat) (e0 : n0 = g0.x.length) (lt : (n0 : Int) ≤ 1048576) : ∃ (r0 : Int) (ys1 : List Int) (r2 : Bool), (ys1.length ≤ 1048576) ∧
    Hid (∀ (w : World) (k0 : Sv), TSv w → k0.same g0 → k0.caps n0 → RdSv w n0 k0 → Calls Tryd.prog 36 #[(.agg #[.int .i64 k0.p, .slice k0.xa n0 k0.xc])] w fun e w' => ∃ u1, e = .returned (.tuple #[.int .i64 r0, u1, .bool r2]) ∧ OwnIC w' w.heap.size w'.heap.size u1 ys1 ∧ Below w.heap.size w w') ∧
    Hid (∀ (w : World) (k0 : Sv), TSv w → k0.same g0 → k0.caps n0 → RdSv w n0 k0 → Calls Tryd.prog 37 #[(.agg #[.int .i64 k0.p, .slice k0.xa n0 k0.xc])] w fun e w' => ∃ u1, e = .returned (.tuple #[.int .i64 r0, u1, .bool r2]) ∧ OwnIC w' w.heap.size w'.heap.size u1 ys1 ∧ Below w.heap.size w w') := by
  have nl : ∀ w : World, OwnIC w w.heap.size w.heap.size (.slice none 0 0) [] := fun w => ⟨World.ownsRow_nil _ _ _ _, fun k e => by simp [Value.ownBlock] at e, Nat.le_refl _⟩
  have l0 : n0 ≤ 1048576 := by omega
  by_cases hc : Con g0
  · have hU := unitOf_pos hc
    obtain ⟨lZ, bZ⟩ := redZ_bd hc
    have bZ' : ∀ z ∈ redZ g0, Bd 1000000000000000000 z := fun z hz => (bZ z hz).mono (by decide)
    obtain ⟨-, -, -, hp⟩ := hc.bd
    refine ⟨lowU (unitOf g0) (redZ g0), lowL (unitOf g0) (redZ g0), true, lowL_le _ _ lZ, fun w k0 hT s cp h => ?_, fun w k0 hT s cp h => ?_⟩
    all_goals
      obtain ⟨p, xa, xc, xs⟩ := k0
      have s1 : p = g0.p := s.1
      rw [← hp] at s1
      subst s1
      have e1 := (unitOf_same s).symm
      have e2 := (redZ_same s).symm
      have hc' := (con_same s).mpr hc
      rw [e1] at hU ⊢
      rw [e2] at lZ bZ' ⊢
      rw [unitOf_m] at hU ⊢
      rw [redZ_m] at lZ bZ' ⊢
    · refine (specRedundanciesOf_ok g0.p.toNat n0 xc xa xs _ _ w h.r0 hc' rfl hU rfl lZ bZ').mono ?_
      rintro e w' ⟨u, rfl, o, b⟩
      exact ⟨u, rfl, OwnIC.of o, b⟩
    · refine (implRedundanciesOf_ok g0.p.toNat n0 xc xa xs _ _ w h.r0 hT hc' rfl hU rfl lZ bZ').mono ?_
      rintro e w' ⟨u, rfl, o, b⟩
      exact ⟨u, rfl, OwnIC.of o, b⟩
  · refine ⟨0, [], false, by simp, fun w k0 hT s cp h => ?_, fun w k0 hT s cp h => ?_⟩
    · refine (specRedundanciesOf_bad k0 n0 w h l0 (fun q => hc ((con_same s).mp q))).mono ?_
      rintro e w' ⟨rfl, b⟩
      exact ⟨_, rfl, ⟨World.ownsRow_nil _ _ _ _, fun k e => by simp [Value.ownBlock] at e, Nat.le_refl _⟩, b⟩
    · refine (implRedundanciesOf_bad k0 n0 w h l0 hT (fun q => hc ((con_same s).mp q))).mono ?_
      rintro e w' ⟨rfl, b⟩
      exact ⟨_, rfl, ⟨World.ownsRow_nil _ _ _ _, fun k e => by simp [Value.ownBlock] at e, Nat.le_refl _⟩, b⟩

end Go.Proofs.YtcmocilojloolaaDoor
