/- The network of a survey: cofactors, residuals and redundancies, of the program. (Written by tools/mknetj.py.) -/
import Derived.Test.YtcmocilojloolaaDoorNetI
namespace Go.Proofs.YtcmocilojloolaaDoor
open Go.ChangeShapes Go.WideShapes Go.ChangeAt Go.RowKit
set_option linter.unusedVariables false
set_option linter.unusedSimpArgs false

theorem RdI.cellAtN {w : World} {b n c : Nat} {L : List Int} (h : RdI w (.slice (some ⟨b, 0, none⟩) n c) L) {i : Nat} {x : Int} (hx : L[i]? = some x) : w.cell? ⟨b, i, none⟩ = some (.int .i64 x) := by
  obtain ⟨a', c', e, h1 | ⟨b', off, e2, h1⟩⟩ := h
  · rw [h1] at hx; simp at hx
  · simp only [Value.slice.injEq] at e
    rw [e2] at e
    simp only [Option.some.injEq, Addr.mk.injEq, and_true] at e
    obtain ⟨⟨rfl, rfl⟩, -, -⟩ := e
    have := h1 i x hx
    rwa [Nat.zero_add] at this

theorem OwnI.formedN {w : World} {B : Nat} {v : Value} {L : List Int} {n : Nat} (h : OwnI w B v L) (hn : L.length = n) (h0 : 0 < n) : ∃ g c, v = .slice (some ⟨g, 0, none⟩) n c ∧ B ≤ g ∧ g < w.heap.size := by
  subst hn
  have hl := h.lt
  obtain ⟨-, hx | ⟨g, c, cur, rfl, -⟩⟩ := h
  · exact absurd hx.2 (by omega)
  · exact ⟨g, c, rfl, hl g rfl⟩


/-- The right side of a cofactor. -/
def cofB (m a b : Nat) : List Int := ((List.replicate m 0).set b 1).set a (((List.replicate m (0 : Int)).set b 1).getD a 0 - 1)
theorem cofB_len (m a b : Nat) : (cofB m a b).length = m := by simp [cofB]
theorem cofB_bd (m a b : Nat) : ∀ y ∈ cofB m a b, Bd 2400 y := by
  have h1 : ∀ y ∈ ((List.replicate m (0 : Int)).set b 1), Bd 1 y := by
    intro y hy
    rcases List.mem_or_eq_of_mem_set hy with h | h
    · rw [List.eq_of_mem_replicate h]; unfold Bd; omega
    · rw [h]; unfold Bd; omega
  intro y hy
  rcases List.mem_or_eq_of_mem_set hy with h | h
  · exact (h1 y h).mono (by omega)
  · have := getD_bd (M := 1) (by omega) h1 a
    rw [h]; unfold Bd at *; omega
/-- How uncertain a difference is, above the determinant. -/
def cofV (m : Nat) (R : List (List Int)) (a b : Nat) : Int := (solL m R (cofB m a b)).getD b 0 - (solL m R (cofB m a b)).getD a 0
theorem cofV_bd {p m : Nat} {xs : List St} (hm : 1 ≤ m ∧ m ≤ 5) (hx : ∀ x ∈ xs, OkSt p x) (l8 : xs.length ≤ 8) (a b : Nat) : Bd 162000000000000 (cofV m (rowsP (m - 1) xs) a b) := by
  have h := solL_bd hm hx l8 (cofB_len m a b) (cofB_bd m a b)
  exact ((getD_bd (by omega) h b).sub (getD_bd (by omega) h a)).mono (by decide)

set_option maxRecDepth 100000 in
set_option maxHeartbeats 16000000 in
theorem netCofactor_any (B rb m n0 xc a b : Nat) (xa : Option Addr) (D : Int) (bs : List Nat) (xs : List St) (w : World) (hM : Mx w B rb bs m (rowsP (m - 1) xs)) (hbl : bs.length = m) (l8 : xs.length ≤ 8) (ok : ∀ x ∈ xs, OkSt m x) (hm : 1 ≤ m ∧ m ≤ 5) (ha : a < m) (hb : b < m) :
    Calls Tryd.prog 65 #[.agg #[.int .i64 m, .slice xa n0 xc, .slice (some ⟨rb, 0, none⟩) m m, .int .i64 D], .int .i64 a, .int .i64 b] w fun e w' => e = .returned (.int .i64 (cofV m (rowsP (m - 1) xs) a b)) ∧ Below w.heap.size w w' := by
  obtain ⟨i0, hi, hz0, hz1, hz2⟩ := info_parts info_i64
  have MH := Lib.hid hM
  have LT : Hid (rb < w.heap.size ∧ ∀ k ∈ bs, k < w.heap.size) := ⟨hM.lt, hM.blt⟩
  have C : Hid (∀ wq lb, MxL wq B rb lb bs m (rowsP (m - 1) xs) (cofB m a b) → Calls Tryd.prog 81 #[.agg #[.int .i64 m, .slice xa n0 xc, .slice (some ⟨rb, 0, none⟩) m m, .int .i64 D], .slice (some ⟨lb, 0, none⟩) m m] wq fun e w' => ∃ u, e = .returned u ∧ OwnI w' wq.heap.size u (solL m (rowsP (m - 1) xs) (cofB m a b)) ∧ wq.grownBy w' (some lb)) :=
    fun wq lb hq => solve_any B rb lb m n0 xc xa D bs _ _ wq hq hbl (cofB_len _ _ _) hm (fun c => col_nrm (by omega) ok l8 (cofB_bd _ _ _) c)
  have SB := Lib.hid (solL_bd hm ok l8 (cofB_len m a b) (cofB_bd m a b))
  have SLn := Lib.hid (solL_len m (rowsP (m - 1) xs) (cofB m a b))
  have CV : Hid (cofV m (rowsP (m - 1) xs) a b = (solL m (rowsP (m - 1) xs) (cofB m a b)).getD b 0 - (solL m (rowsP (m - 1) xs) (cofB m a b)).getD a 0) := rfl
  have W1 : Hid ((w.alloc (.cells #[.int .i64 m, .slice xa n0 xc, .slice (some ⟨rb, 0, none⟩) m m, .int .i64 D] 63)).heap[w.heap.size]? = some (.cells #[.int .i64 m, .slice xa n0 xc, .slice (some ⟨rb, 0, none⟩) m m, .int .i64 D] 63 (0, 0))) := heap_alloc_new w _
  have W2 : Hid (Below w.heap.size w (w.alloc (.cells #[.int .i64 m, .slice xa n0 xc, .slice (some ⟨rb, 0, none⟩) m m, .int .i64 D] 63))) := by show Below _ _ _; go_grown
  have W3 : (w.alloc (.cells #[.int .i64 m, .slice xa n0 xc, .slice (some ⟨rb, 0, none⟩) m m, .int .i64 D] 63)).heap.size = w.heap.size + 1 := by simp
  obtain ⟨R, hR⟩ : ∃ R, R = rowsP (m - 1) xs := ⟨_, rfl⟩
  rw [← hR] at MH C SB CV SLn ⊢
  obtain ⟨V, hV⟩ : ∃ V, V = cofV m R a b := ⟨_, rfl⟩
  rw [← hV] at CV ⊢
  obtain ⟨L0, hL0⟩ : ∃ L, L = List.replicate m (0 : Int) := ⟨_, rfl⟩
  have e1 : L0[b]? = some 0 := by rw [hL0, List.getElem?_replicate, if_pos hb]
  obtain ⟨z, hz⟩ : ∃ z, (L0.set b 1)[a]? = some z := ⟨_, List.getElem?_eq_getElem (by rw [hL0]; simp; omega)⟩
  have zb : -1 ≤ z ∧ z ≤ 1 := by
    have h := List.mem_of_getElem? hz
    rcases List.mem_or_eq_of_mem_set h with h | h
    · rw [hL0] at h; rw [List.eq_of_mem_replicate h]; omega
    · rw [h]; omega
  have CB : Hid (cofB m a b = (L0.set b 1).set a (z - 1)) := by
    show _ = _
    unfold cofB
    rw [← hL0]
    simp [List.getD, hz]
  have q2 : IntKind.i64.wrap (z - 1) = z - 1 := IntWalk.i64_in _ (by omega)
  have E1 := Lib.hid e1
  have HZ := Lib.hid hz
  have HL0 := Lib.hid hL0
  clear hM hbl ok hR hV e1 hz zb hL0
  go_enter Tryd.func65, Tryd.ntmps65
  go_upto_region 1 with (fail)
  generalize w.alloc (.cells #[.int .i64 m, .slice xa n0 xc, .slice (some ⟨rb, 0, none⟩) m m, .int .i64 D] 63) = w0 at *
  have y0 := cell_of_row w0 w.heap.size 0 _ _ _ W1.out
  go_wp2_with (first | (at_make; refine wpList_make_full _ rfl _ _ _ rfl w0.heap.size 2 i0 (.int .i64 0) 1 Tryd.underlying28 hi hz0 hz1 .i64 .i64 _ _ m rfl rfl rfl rfl ?b2 ?b3 (Nat.le_refl _) ?_) | go_in)
  case b2 => rw [hz2]; omega
  case b3 => unfold maxLen; omega
  intro w1 hown hg
  rw [toList_madeCells_one] at hown
  obtain ⟨lb, hlb⟩ : ∃ lb, lb = w.heap.size + 1 := ⟨_, rfl⟩
  rw [← hlb] at hown ⊢
  have O1 : Hid (Rw w1 lb L0) := by show Rw _ _ _; rw [HL0.out]; exact (Rw.made hown).2
  have B1 : Hid (Below w0.heap.size w0 w1) := (Below.refl _ _).grown hg (Nat.le_refl _) (fun k h => by cases h)
  have V1 := Lib.hid ((B1.out.block w.heap.size (by omega)).trans W1.out)
  have V2 : Hid (Below w.heap.size w w1) := W2.out.trans (B1.out.mono (by omega))
  have rl : w.heap.size < lb := by omega
  clear hown hg B1 W1 W2 W3 hlb y0
  have c0 := O1.out.cell E1.out
  have f0 := O1.out.frozen b
  have O2 : Hid (Rw (w1.setCell ⟨lb, b, none⟩ (.int .i64 1)) lb (L0.set b 1)) := O1.out.store b 1
  have V3 : Hid (Below w.heap.size w (w1.setCell ⟨lb, b, none⟩ (.int .i64 1))) := V2.out.setCell (p := ⟨lb, b, none⟩) (by show w.heap.size ≤ lb; omega) _
  have N3 : Hid ((w1.setCell ⟨lb, b, none⟩ (.int .i64 1)).heap[w.heap.size]? = some (.cells #[.int .i64 m, .slice xa n0 xc, .slice (some ⟨rb, 0, none⟩) m m, .int .i64 D] 63 (0, 0))) := (Below.heap_setCell _ _ _ _ (by show w.heap.size ≠ lb; omega)).trans V1.out
  have q1 : IntKind.i64.wrap (0 + 1) = 1 := rfl
  go_upto_region 3 with (fail)
  clear c0 f0 q1 O1 V1 V2
  generalize w1.setCell ⟨lb, b, none⟩ (.int .i64 1) = w2 at *
  have c0 := O2.out.cell HZ.out
  have f0 := O2.out.frozen a
  have O4 : Hid (Rw (w2.setCell ⟨lb, a, none⟩ (.int .i64 (z - 1))) lb (cofB m a b)) := by show Rw _ _ _; rw [CB.out]; exact O2.out.store a (z - 1)
  have V4 : Hid (Below w.heap.size w (w2.setCell ⟨lb, a, none⟩ (.int .i64 (z - 1)))) := V3.out.setCell (p := ⟨lb, a, none⟩) (by show w.heap.size ≤ lb; omega) _
  have N4 : Hid ((w2.setCell ⟨lb, a, none⟩ (.int .i64 (z - 1))).heap[w.heap.size]? = some (.cells #[.int .i64 m, .slice xa n0 xc, .slice (some ⟨rb, 0, none⟩) m m, .int .i64 D] 63 (0, 0))) := (Below.heap_setCell _ _ _ _ (by show w.heap.size ≠ lb; omega)).trans N3.out
  go_upto_region 4 with (fail)
  clear c0 f0 O2 V3 N3 q2
  generalize w2.setCell ⟨lb, a, none⟩ (.int .i64 (z - 1)) = w3 at *
  have y0 := cell_of_row w3 w.heap.size 0 _ _ _ N4.out
  have y1 := cell_of_row w3 w.heap.size 1 _ _ _ N4.out
  have y2 := cell_of_row w3 w.heap.size 2 _ _ _ N4.out
  have y3 := cell_of_row w3 w.heap.size 3 _ _ _ N4.out
  have lt := LT.out
  have CC := Lib.hid (C.out w3 lb ⟨MH.out.of_blocks (V4.out.block _ lt.1) (fun k hk => V4.out.block _ (lt.2 k hk)), O4.out, by omega, fun h => by have := lt.2 lb h; omega⟩)
  have sz := V4.out.size
  clear C O4 N4
  go_wp2_with fail
  refine CC.out.mono ?_
  rintro e w5 ⟨u, rfl, o5, g5⟩
  have B5 : Hid (Below w.heap.size w w5) := V4.out.grown g5 sz (fun j e => by obtain rfl := Option.some.inj e; omega)
  obtain ⟨S, hS⟩ : ∃ S, S = solL m R (cofB m a b) := ⟨_, rfl⟩
  rw [← hS] at o5 SB CV SLn
  obtain ⟨p, hp⟩ : ∃ p, S[b]? = some p := ⟨_, List.getElem?_eq_getElem (by have := SLn.out; omega)⟩
  obtain ⟨q, hq⟩ : ∃ q, S[a]? = some q := ⟨_, List.getElem?_eq_getElem (by have := SLn.out; omega)⟩
  have pb := SB.out p (List.mem_of_getElem? hp)
  have qb := SB.out q (List.mem_of_getElem? hq)
  unfold Bd at pb qb
  have q3 : IntKind.i64.wrap (p - q) = p - q := IntWalk.i64_in _ (by omega)
  have VE : Hid (V = p - q) := by show _ = _; rw [CV.out]; simp [List.getD, hp, hq]
  obtain ⟨g, c, rfl, -, -⟩ := OwnI.formedN o5 SLn.out (by omega)
  have k1 := RdI.cellAtN o5.rd hp
  have k2 := RdI.cellAtN o5.rd hq
  obtain rfl : V = p - q := VE.out
  clear CC y0 y1 y2 y3 o5 g5 hp hq pb qb hS CV SB SLn CB HL0 MH LT V4 VE
  go_wp2_with fail
  go_region
  all_goals
    go_wp2
    go_ret
    exact ⟨rfl, below_drewN B5.out 1⟩

set_option maxRecDepth 100000 in
set_option maxHeartbeats 16000000 in
theorem netResiduals_any (B rb m n0 xc : Nat) (xa : Option Addr) (D : Int) (bs : List Nat) (xs : List St) (w : World) (hM : Mx w B rb bs m (rowsP (m - 1) xs)) (hbl : bs.length = m) (hr : RdS 4 encSt w (.slice xa n0 xc) xs) (e0 : n0 = xs.length) (l8 : n0 ≤ 8) (ok : ∀ x ∈ xs, OkSt m x) (hm : 1 ≤ m ∧ m ≤ 5) (hD : Bd 10000000000000 D) :
    Calls Tryd.prog 47 #[.agg #[.int .i64 m, .slice xa n0 xc, .slice (some ⟨rb, 0, none⟩) m m, .int .i64 D]] w fun e w' => ∃ u, e = .returned u ∧ OwnI w' w.heap.size u (errL D (solL m (rowsP (m - 1) xs) (rightTo m xs n0)) xs) ∧ Below w.heap.size w w' := by
  have W1 : Hid ((w.alloc (.cells #[.int .i64 m, .slice xa n0 xc, .slice (some ⟨rb, 0, none⟩) m m, .int .i64 D] 63)).heap[w.heap.size]? = some (.cells #[.int .i64 m, .slice xa n0 xc, .slice (some ⟨rb, 0, none⟩) m m, .int .i64 D] 63 (0, 0))) := heap_alloc_new w _
  have W2 : Hid (Below w.heap.size w (w.alloc (.cells #[.int .i64 m, .slice xa n0 xc, .slice (some ⟨rb, 0, none⟩) m m, .int .i64 D] 63))) := by show Below _ _ _; go_grown
  have W3 : (w.alloc (.cells #[.int .i64 m, .slice xa n0 xc, .slice (some ⟨rb, 0, none⟩) m m, .int .i64 D] 63)).heap.size = w.heap.size + 1 := by simp
  have H := Lib.hid hr
  have SB := solL_bd hm ok (by omega) (b := rightTo m xs n0) (rightTo_len _ _ _) (by rw [e0]; exact right_bd ok (by omega))
  have C1 := Lib.hid (netHeights_any B rb m n0 xc xa D bs xs (w.alloc (.cells #[.int .i64 m, .slice xa n0 xc, .slice (some ⟨rb, 0, none⟩) m m, .int .i64 D] 63)).drew (hM.later W2.out).drew hbl (hr.later W2.out.drew) e0 l8 ok hm)
  have C2 : Hid (∀ w v, RdS 4 encSt w (.slice xa n0 xc) xs → RdI w v (solL m (rowsP (m - 1) xs) (rightTo m xs n0)) → Calls Tryd.prog 50 #[.agg #[.int .i64 m, .slice xa n0 xc], v, .int .i64 D] w fun e w' => ∃ u, e = .returned u ∧ OwnI w' w.heap.size u (errL D (solL m (rowsP (m - 1) xs) (rightTo m xs n0)) xs) ∧ Below w.heap.size w w') := fun w v h1 h2 =>
    errorsWith_any m n0 xa xc xs v _ D w h1 e0 l8 ok h2 (solL_len _ _ _) (by omega) hD (fun h hh => by have := SB h hh; unfold Bd at this; omega)
  obtain ⟨S, hS⟩ : ∃ S, S = solL m (rowsP (m - 1) xs) (rightTo m xs n0) := ⟨_, rfl⟩
  rw [← hS] at C1 C2 ⊢
  clear hM hbl hr e0 ok hS SB
  go_enter Tryd.func47, Tryd.ntmps47
  go_upto_region 1 with (fail)
  generalize w.alloc (.cells #[.int .i64 m, .slice xa n0 xc, .slice (some ⟨rb, 0, none⟩) m m, .int .i64 D] 63) = w0 at *
  have y0 := cell_of_row w0 w.heap.size 0 _ _ _ W1.out
  have y1 := cell_of_row w0 w.heap.size 1 _ _ _ W1.out
  have y2 := cell_of_row w0 w.heap.size 2 _ _ _ W1.out
  have y3 := cell_of_row w0 w.heap.size 3 _ _ _ W1.out
  have z0 : w.heap.size < w0.heap.size := by omega
  clear W3
  go_wp2_with fail
  go_region_law (first
    | ((try go_simp); go_at_call 46; refine C1.out.mono ?_; rintro e w4 ⟨u, rfl, o4, b4⟩; have P4 := Lib.hid ((b4.block w.heap.size z0).trans W1.out); have B4 : Hid (Below w.heap.size w w4) := W2.out.drew.trans (b4.mono (by simp only [World.size_drew]; omega)); have RU := Lib.hid o4.rd; have RX := Lib.hid (H.out.later B4.out); have x0 := cell_of_row w4 w.heap.size 0 _ _ _ P4.out; have x1 := cell_of_row w4 w.heap.size 1 _ _ _ P4.out; have x2 := cell_of_row w4 w.heap.size 2 _ _ _ P4.out; have x3 := cell_of_row w4 w.heap.size 3 _ _ _ P4.out; clear o4 b4)
    | ((try go_simp); go_at_call 50; refine (C2.out _ _ RX.out RU.out).mono ?_; rintro e w5 ⟨u5, rfl, o5, b5⟩; have B5 : Hid (Below w.heap.size w w5) := B4.out.trans (b5.mono B4.out.size); have O5 := Lib.hid (OwnI.mono o5 B4.out.size); clear o5 b5))
  all_goals
    go_wp2
    go_ret
    exact ⟨_, rfl, O5.out, B5.out⟩

/-- The redundancies, above the determinant. -/
def redF (m : Nat) (D : Int) (R : List (List Int)) (x : St) : Int := D - x.v * cofV m R x.f.toNat x.t.toNat
def redL (m : Nat) (D : Int) (R : List (List Int)) (xs : List St) : List Int := xs.map (redF m D R)
theorem redL_len (m : Nat) (D : Int) (R : List (List Int)) (xs : List St) : (redL m D R xs).length = xs.length := by simp [redL]
theorem redL_get {m : Nat} {D : Int} {R : List (List Int)} {xs : List St} {k : Nat} {x : St} (h : xs[k]? = some x) : (redL m D R xs)[k]? = some (redF m D R x) := by simp [redL, h]

set_option maxRecDepth 100000 in
set_option maxHeartbeats 16000000 in
theorem netRedundancies_any (B rb m n0 xc : Nat) (xa : Option Addr) (D : Int) (bs : List Nat) (xs : List St) (w : World) (hM : Mx w B rb bs m (rowsP (m - 1) xs)) (hbl : bs.length = m) (hr : RdS 4 encSt w (.slice xa n0 xc) xs) (e0 : n0 = xs.length) (l8 : n0 ≤ 8) (ok : ∀ x ∈ xs, OkSt m x) (hm : 1 ≤ m ∧ m ≤ 5) (hD : Bd 10000000000000 D) :
    Calls Tryd.prog 67 #[.agg #[.int .i64 m, .slice xa n0 xc, .slice (some ⟨rb, 0, none⟩) m m, .int .i64 D]] w fun e w' => ∃ u, e = .returned u ∧ OwnI w' w.heap.size u (redL m D (rowsP (m - 1) xs) xs) ∧ Below w.heap.size w w' := by
  obtain ⟨i0, hi, hz0, hz1, hz2⟩ := info_parts info_i64
  have H := Lib.hid hr
  have E0 := Lib.hid e0
  have OK := Lib.hid ok
  have MH := Lib.hid hM
  have CB := Lib.hid (fun a b => cofV_bd hm ok (by omega) a b)
  have C : Hid (∀ (wq : World) (a b : Nat), Mx wq B rb bs m (rowsP (m - 1) xs) → a < m → b < m → Calls Tryd.prog 65 #[.agg #[.int .i64 m, .slice xa n0 xc, .slice (some ⟨rb, 0, none⟩) m m, .int .i64 D], .int .i64 a, .int .i64 b] wq fun e w' => e = .returned (.int .i64 (cofV m (rowsP (m - 1) xs) a b)) ∧ Below wq.heap.size wq w') :=
    fun wq a b hq ha hb => netCofactor_any B rb m n0 xc a b xa D bs xs wq hq hbl (by omega) ok hm ha hb
  have LE : Hid ((redL m D (rowsP (m - 1) xs) xs).length = n0) := by show _ = _; rw [redL_len]; exact e0.symm
  have LG : Hid (∀ k x, xs[k]? = some x → (redL m D (rowsP (m - 1) xs) xs)[k]? = some (redF m D (rowsP (m - 1) xs) x)) := fun k x h => redL_get h
  have W1 : Hid ((w.alloc (.cells #[.int .i64 m, .slice xa n0 xc, .slice (some ⟨rb, 0, none⟩) m m, .int .i64 D] 63)).heap[w.heap.size]? = some (.cells #[.int .i64 m, .slice xa n0 xc, .slice (some ⟨rb, 0, none⟩) m m, .int .i64 D] 63 (0, 0))) := heap_alloc_new w _
  have W2 : Hid (Below w.heap.size w (w.alloc (.cells #[.int .i64 m, .slice xa n0 xc, .slice (some ⟨rb, 0, none⟩) m m, .int .i64 D] 63))) := by show Below _ _ _; go_grown
  have W3 : (w.alloc (.cells #[.int .i64 m, .slice xa n0 xc, .slice (some ⟨rb, 0, none⟩) m m, .int .i64 D] 63)).heap.size = w.heap.size + 1 := by simp
  obtain ⟨R, hR⟩ : ∃ R, R = rowsP (m - 1) xs := ⟨_, rfl⟩
  rw [← hR] at MH C CB LE LG ⊢
  obtain ⟨Z, hZ⟩ : ∃ Z, Z = redL m D R xs := ⟨_, rfl⟩
  rw [← hZ] at LE LG ⊢
  clear hr e0 ok hM hbl hR hZ
  go_enter Tryd.func67, Tryd.ntmps67
  go_upto_region 1 with (fail)
  generalize w.alloc (.cells #[.int .i64 m, .slice xa n0 xc, .slice (some ⟨rb, 0, none⟩) m m, .int .i64 D] 63) = w0 at *
  have y1 := cell_of_row w0 w.heap.size 1 _ _ _ W1.out
  go_wp2_with (first | (at_make; refine wpList_make_full _ rfl _ _ _ rfl w0.heap.size 2 i0 (.int .i64 0) 1 Tryd.underlying28 hi hz0 hz1 .i64 .i64 _ _ n0 rfl rfl rfl rfl ?b2 ?b3 (Nat.le_refl _) ?_) | go_in)
  case b2 => rw [hz2]; omega
  case b3 => unfold maxLen; omega
  intro w1 hown hg
  rw [toList_madeCells_one] at hown
  obtain ⟨lb, hlb⟩ : ∃ lb, lb = w.heap.size + 1 := ⟨_, rfl⟩
  rw [← hlb] at hown ⊢
  have O1 : Hid (OwnI w1 lb (.slice (some ⟨lb, 0, none⟩) n0 n0) (part Z n0 0)) := part_made hown
  have B1 : Hid (Below w0.heap.size w0 w1) := (Below.refl _ _).grown hg (Nat.le_refl _) (fun k h => by cases h)
  have V1 := Lib.hid ((B1.out.block w.heap.size (by omega)).trans W1.out)
  have V2 : Hid (Below w.heap.size w w1) := W2.out.trans (B1.out.mono (by omega))
  have rl : w.heap.size < lb := by omega
  clear hown hg B1 W1 W2 W3 hlb y1
  have y1 := cell_of_row w1 w.heap.size 1 _ _ _ V1.out
  go_wp2
  go_loopw [4, 15] (fun _ i wr => ∃ k : Nat, k ≤ n0 ∧ i = .int .i64 k ∧ Hid (OwnI wr lb (.slice (some ⟨lb, 0, none⟩) n0 n0) (part Z n0 k)) ∧ Hid (Below w.heap.size w wr) ∧ Hid (wr.heap[w.heap.size]? = some (.cells #[.int .i64 m, .slice xa n0 xc, .slice (some ⟨rb, 0, none⟩) m m, .int .i64 D] 63 (0, 0)))) (fun _ i _ => n0 - (intOf i).toNat)
  case atStart => exact ⟨0, by omega, rfl, O1, V2, V1⟩
  case round =>
    obtain ⟨k, hk, rfl, ho, B2, NB⟩ := hrel
    clear O1 V1 V2 y1
    by_cases hlt : k < n0
    · obtain ⟨x, hx⟩ : ∃ x, xs[k]? = some x := ⟨_, List.getElem?_eq_getElem (by have := E0.out; omega)⟩
      have okx := OK.out x (List.mem_of_getElem? hx)
      obtain ⟨ba, oa, rfl, u0, u1, u2, u3⟩ := (H.out.later B2.out).at4g k x hx _ _ _ _ rfl
      have LGk := LG.out k x hx
      obtain ⟨f, t, r, v⟩ := x
      obtain ⟨F, hf⟩ : ∃ F : Nat, f = F := ⟨f.toNat, by have := okx.f0; simp only at this; omega⟩
      obtain ⟨T, ht⟩ : ∃ T : Nat, t = T := ⟨t.toNat, by have := okx.t0; simp only at this; omega⟩
      subst hf
      subst ht
      have Fn : F < m := by have := okx.f1; simp only at this; omega
      have Tn : T < m := by have := okx.t1; simp only at this; omega
      have v0 : 1 ≤ v := okx.v0
      have v1 : v ≤ 3 := okx.v1
      simp only [redF, Int.toNat_natCast] at u0 u1 u2 u3 LGk
      have cb := CB.out F T
      obtain ⟨V, hV⟩ : ∃ V, V = cofV m R F T := ⟨_, rfl⟩
      have pb : Bd 486000000000000 (v * V) := by
        rw [hV]; exact (Bd.mul (A := 3) (by unfold Bd; omega) cb).mono (by decide)
      obtain ⟨P, hP⟩ : ∃ P, P = v * V := ⟨_, rfl⟩
      rw [← hV, ← hP] at LGk
      rw [← hP] at pb
      unfold Bd at pb hD
      have q0 : IntKind.i64.wrap (v * V) = P := by rw [← hP]; exact IntWalk.i64_in _ (by omega)
      have q1 : IntKind.i64.wrap (D - P) = D - P := IntWalk.i64_in _ (by omega)
      have LGH := Lib.hid LGk
      have lbw := (ho.out.lt lb rfl).2
      have nbw := (Array.getElem?_eq_some_iff.1 NB.out).1
      have NS : Hid ((wr.alloc (.cells #[.int .i64 F, .int .i64 T, .int .i64 r, .int .i64 v] 32)).heap[wr.heap.size]? = some (.cells #[.int .i64 F, .int .i64 T, .int .i64 r, .int .i64 v] 32 (0, 0))) := heap_alloc_new wr _
      have AB : Below wr.heap.size wr (wr.alloc (.cells #[.int .i64 F, .int .i64 T, .int .i64 r, .int .i64 v] 32)) := by go_grown
      have AZ : (wr.alloc (.cells #[.int .i64 F, .int .i64 T, .int .i64 r, .int .i64 v] 32)).heap.size = wr.heap.size + 1 := by simp
      have L1 := Lib.hid (OwnI.later ho.out AB)
      have B3 : Hid (Below w.heap.size w (wr.alloc (.cells #[.int .i64 F, .int .i64 T, .int .i64 r, .int .i64 v] 32))) := B2.out.trans (AB.mono B2.out.size)
      have NB1 : Hid ((wr.alloc (.cells #[.int .i64 F, .int .i64 T, .int .i64 r, .int .i64 v] 32)).heap[w.heap.size]? = some (.cells #[.int .i64 m, .slice (some ⟨ba, oa, none⟩) n0 xc, .slice (some ⟨rb, 0, none⟩) m m, .int .i64 D] 63 (0, 0))) := (AB.block _ nbw).trans NB.out
      have M1 := Lib.hid (MH.out.of_blocks (B3.out.block _ MH.out.lt) (fun k hk => B3.out.block _ (MH.out.blt k hk)))
      have CC0 := Lib.hid (C.out (wr.alloc (.cells #[.int .i64 F, .int .i64 T, .int .i64 r, .int .i64 v] 32)).drew F T M1.out.drew Fn Tn)
      rw [← hV] at CC0
      clear hx okx AB ho B2 cb hP LGk NB C H MH CB hV pb
      go_upto_region 5 with (fail)
      generalize wr.alloc (.cells #[.int .i64 F, .int .i64 T, .int .i64 r, .int .i64 v] 32) = wa at *
      obtain ⟨⟨s0, s1, s2, s3⟩, -, ls⟩ := boxSt_at (q := ⟨F, T, r, v⟩) NS.out
      simp only at s0 s1 s2 s3
      have y0 := cell_of_row wa w.heap.size 0 _ _ _ NB1.out
      have y1 := cell_of_row wa w.heap.size 1 _ _ _ NB1.out
      have y2 := cell_of_row wa w.heap.size 2 _ _ _ NB1.out
      have y3 := cell_of_row wa w.heap.size 3 _ _ _ NB1.out
      have zw : w.heap.size < wa.heap.size := by omega
      have KS : Hid (∀ w', Below wa.heap.size wa w' → (w'.cell? ⟨w.heap.size, 0, none⟩ = some (.int .i64 m) ∧ w'.cell? ⟨w.heap.size, 1, none⟩ = some (.slice (some ⟨ba, oa, none⟩) n0 xc) ∧ w'.cell? ⟨w.heap.size, 2, none⟩ = some (.slice (some ⟨rb, 0, none⟩) m m) ∧ w'.cell? ⟨w.heap.size, 3, none⟩ = some (.int .i64 D) ∧ w'.cell? ⟨wr.heap.size, 0, none⟩ = some (.int .i64 F) ∧ w'.cell? ⟨wr.heap.size, 1, none⟩ = some (.int .i64 T) ∧ w'.cell? ⟨wr.heap.size, 3, none⟩ = some (.int .i64 v))) := by
        intro w' hb
        have N1 := (hb.block w.heap.size zw).trans NB1.out
        obtain ⟨⟨t0, t1, t2, t3⟩, -, -⟩ := boxSt_at (q := ⟨F, T, r, v⟩) ((hb.block wr.heap.size ls).trans NS.out)
        exact ⟨cell_of_row w' w.heap.size 0 _ _ _ N1, cell_of_row w' w.heap.size 1 _ _ _ N1, cell_of_row w' w.heap.size 2 _ _ _ N1, cell_of_row w' w.heap.size 3 _ _ _ N1, t0, t1, t3⟩
      have KX : Hid (∀ w' x, Below wa.heap.size wa w' → ((w'.setCell ⟨lb, k, none⟩ x).cell? ⟨w.heap.size, 0, none⟩ = some (.int .i64 m) ∧ (w'.setCell ⟨lb, k, none⟩ x).cell? ⟨w.heap.size, 1, none⟩ = some (.slice (some ⟨ba, oa, none⟩) n0 xc) ∧ (w'.setCell ⟨lb, k, none⟩ x).cell? ⟨w.heap.size, 2, none⟩ = some (.slice (some ⟨rb, 0, none⟩) m m) ∧ (w'.setCell ⟨lb, k, none⟩ x).cell? ⟨w.heap.size, 3, none⟩ = some (.int .i64 D) ∧ (w'.setCell ⟨lb, k, none⟩ x).cell? ⟨wr.heap.size, 0, none⟩ = some (.int .i64 F) ∧ (w'.setCell ⟨lb, k, none⟩ x).cell? ⟨wr.heap.size, 1, none⟩ = some (.int .i64 T) ∧ (w'.setCell ⟨lb, k, none⟩ x).cell? ⟨wr.heap.size, 3, none⟩ = some (.int .i64 v))) := by
        intro w' x hb
        have N1 := ((Below.heap_setCell w' ⟨lb, k, none⟩ x w.heap.size (by show w.heap.size ≠ lb; omega)).trans (hb.block w.heap.size zw)).trans NB1.out
        obtain ⟨⟨t0, t1, t2, t3⟩, -, -⟩ := boxSt_at (q := ⟨F, T, r, v⟩) (((Below.heap_setCell w' ⟨lb, k, none⟩ x wr.heap.size (by show wr.heap.size ≠ lb; omega)).trans (hb.block wr.heap.size ls)).trans NS.out)
        exact ⟨cell_of_row _ w.heap.size 0 _ _ _ N1, cell_of_row _ w.heap.size 1 _ _ _ N1, cell_of_row _ w.heap.size 2 _ _ _ N1, cell_of_row _ w.heap.size 3 _ _ _ N1, t0, t1, t3⟩
      clear AZ
      go_wp2_with fail
      go_region_held3 (fun w' => (w'.cell? ⟨w.heap.size, 0, none⟩ = some (.int .i64 m) ∧ w'.cell? ⟨w.heap.size, 1, none⟩ = some (.slice (some ⟨ba, oa, none⟩) n0 xc) ∧ w'.cell? ⟨w.heap.size, 2, none⟩ = some (.slice (some ⟨rb, 0, none⟩) m m) ∧ w'.cell? ⟨w.heap.size, 3, none⟩ = some (.int .i64 D) ∧ w'.cell? ⟨wr.heap.size, 0, none⟩ = some (.int .i64 F) ∧ w'.cell? ⟨wr.heap.size, 1, none⟩ = some (.int .i64 T) ∧ w'.cell? ⟨wr.heap.size, 3, none⟩ = some (.int .i64 v)))
        (first | exact KS.out _ D5.out | exact KX.out _ _ D5.out | exact KS.out _ (Below.refl _ _).drew)
        ((go_at_call 65; refine CC0.out.mono ?_; rintro e w5 ⟨rfl, b5⟩; have D5 : Hid (Below wa.heap.size wa w5) := (Below.refl _ _).drew.trans b5; have O5 := Lib.hid (OwnI.later (w := wa.drew) L1.out b5); obtain ⟨d0, g0⟩ := part_cell LE.out hlt O5.out; clear b5))
      rename_i hHeld
      clear hHeld
      have NB5 := Lib.hid ((D5.out.block w.heap.size (by omega)).trans NB1.out)
      have B5 : Hid (Below w.heap.size w w5) := B3.out.trans (D5.out.mono B3.out.size)
      all_goals
        have OE := Lib.hid (part_store LE.out LGH.out O5.out)
        have BE : Hid (Below w.heap.size w (w5.setCell ⟨lb, k, none⟩ (.int .i64 (D - P)))) := B5.out.setCell (p := ⟨lb, k, none⟩) (by show w.heap.size ≤ lb; omega) _
        have NE : Hid ((w5.setCell ⟨lb, k, none⟩ (.int .i64 (D - P))).heap[w.heap.size]? = some (.cells #[.int .i64 m, .slice (some ⟨ba, oa, none⟩) n0 xc, .slice (some ⟨rb, 0, none⟩) m m, .int .i64 D] 63 (0, 0))) := (Below.heap_setCell _ _ _ _ (by show w.heap.size ≠ lb; omega)).trans NB5.out
        clear NB5 B5 O5 d0 g0 s0 s1 s2 s3 y0 y1 y2 y3 NS NB1 B3 L1 M1 CC0 LGH KS KX D5
        generalize w5.setCell ⟨lb, k, none⟩ (.int .i64 (D - P)) = w8 at *
        go_wp2
        exact ⟨⟨k + 1, by omega, by go_num, OE, BE, NE⟩, by simp only [intOf]; omega⟩
    · obtain rfl : k = n0 := by omega
      have O5 := ho.out
      rw [part_all LE.out] at O5
      have O6 := Lib.hid (OwnI.mono O5 (show w.heap.size ≤ lb by omega))
      clear O5 ho NB
      go_wp2
      go_ret
      exact ⟨_, rfl, O6.out, B2.out⟩
end Go.Proofs.YtcmocilojloolaaDoor
