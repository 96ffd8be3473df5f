/- Differences of two points of a survey: of the program. (Written by tools/mkris.py.) -/
import Derived.Test.YtcmocilojloolaaDoorFracI
namespace Go.Proofs.YtcmocilojloolaaDoor
open Go.ChangeShapes Go.WideShapes Go.ChangeAt Go.RowKit
set_option linter.unusedVariables false
set_option linter.unusedSimpArgs false

def riseV (m : Nat) (xs : List St) (a b : Nat) : Int := (solL m (rowsP (m - 1) xs) (rightTo m xs xs.length)).getD b 0 - (solL m (rowsP (m - 1) xs) (rightTo m xs xs.length)).getD a 0
theorem riseV_bd {p m : Nat} {xs : List St} (hm : 1 ≤ m ∧ m ≤ 5) (hx : ∀ x ∈ xs, OkSt p x) (l8 : xs.length ≤ 8) (a b : Nat) : Bd 162000000000000 (riseV m xs a b) := by
  have h := solL_bd hm hx l8 (rightTo_len m xs xs.length) (right_bd hx l8)
  exact ((getD_bd (by omega) h b).sub (getD_bd (by omega) h a)).mono (by decide)
/-- hasPoint, whatever the survey is. -/
theorem hasPointG_any (g : Sv) (n0 : Nat) (k : Int) (w : World) : ∃ b : Bool, (2 ≤ g.p ∧ g.p ≤ 5 → (b = true ↔ 0 ≤ k ∧ k ≤ g.p - 1)) ∧
    Calls Tryd.prog 93 #[(.agg #[.int .i64 g.p, .slice g.xa n0 g.xc]), .int .i64 k] w fun e w' => e = .returned (.bool b) ∧ Below w.heap.size w w' := by
  obtain ⟨h, hh⟩ : ∃ h, h = IntKind.i64.wrap (g.p - 1) := ⟨_, rfl⟩
  obtain ⟨b, hb⟩ := bool_ofV (0 ≤ k ∧ k ≤ h)
  refine ⟨b, fun hp => ?_, ?_⟩
  · rw [hb, hh, show IntKind.i64.wrap (g.p - 1) = g.p - 1 from IntWalk.i64_in _ (by omega)]
  · have C := Lib.hid (fun w => within_any k 0 h b hb w)
    have qh : IntKind.i64.wrap (g.p - 1) = h := hh.symm
    clear hh hb
    go_enter Tryd.func93, Tryd.ntmps93
    go_wp2_with fail
    refine (C.out _).mono ?_
    rintro e w' ⟨rfl, rfl⟩
    go_wp2
    go_ret
    exact ⟨rfl, by go_grown⟩

set_option maxRecDepth 100000 in
set_option maxHeartbeats 8000000 in
theorem numRiseBetween (B rb m n0 xc a b pa pb : Nat) (xa : Option Addr) (D : Int) (bs : List Nat) (xs : List St) (w : World) (hM : Mx w B rb bs m (rowsP (m - 1) xs)) (hbl : bs.length = m) (hr : RdS 4 encSt w (.slice xa n0 xc) xs) (e0 : n0 = xs.length) (l8 : n0 ≤ 8) (ok : ∀ x ∈ xs, OkSt m x) (hm : 1 ≤ m ∧ m ≤ 5) (ha : a < m) (hb : b < m) (ka : w.cell? ⟨pa, 0, none⟩ = some (.int .i64 a)) (kb : w.cell? ⟨pb, 0, none⟩ = some (.int .i64 b)) :
    Calls Tryd.prog 62 #[.agg #[.int .i64 m, .slice xa n0 xc, .slice (some ⟨rb, 0, none⟩) m m, .int .i64 D], .pointer (some ⟨pb, 0, none⟩), .pointer (some ⟨pa, 0, none⟩)] w fun e w' => e = .returned (.int .i64 (riseV m xs a b)) ∧ Below w.heap.size w w' := by
  have BW : Below w.heap.size w (w.alloc (.cells #[.int .i64 m, .slice xa n0 xc, .slice (some ⟨rb, 0, none⟩) m m, .int .i64 D] 63)) := by go_grown
  have C := netHeights_any B rb m n0 xc xa D bs xs (w.alloc (.cells #[.int .i64 m, .slice xa n0 xc, .slice (some ⟨rb, 0, none⟩) m m, .int .i64 D] 63)) (hM.later BW) hbl (hr.later BW) e0 l8 ok hm
  rw [e0] at C
  have SB := solL_bd hm ok (by omega) (rightTo_len m xs xs.length) (right_bd ok (by omega))
  have SLn := solL_len m (rowsP (m - 1) xs) (rightTo m xs xs.length)
  obtain ⟨V, hV⟩ : ∃ V, V = riseV m xs a b := ⟨_, rfl⟩
  have hV2 := hV
  unfold riseV at hV2
  rw [← hV]
  obtain ⟨S, hS⟩ : ∃ S, S = solL m (rowsP (m - 1) xs) (rightTo m xs xs.length) := ⟨_, rfl⟩
  rw [← hS] at C SB SLn hV2
  obtain ⟨p, hp⟩ : ∃ p, S[b]? = some p := ⟨_, List.getElem?_eq_getElem (by omega)⟩
  obtain ⟨q, hq⟩ : ∃ q, S[a]? = some q := ⟨_, List.getElem?_eq_getElem (by omega)⟩
  have pbd := SB p (List.mem_of_getElem? hp)
  have qbd := SB q (List.mem_of_getElem? hq)
  unfold Bd at pbd qbd
  have q3 : IntKind.i64.wrap (p - q) = p - q := IntWalk.i64_in _ (by omega)
  obtain rfl : V = p - q := by rw [hV2]; simp [List.getD, hp, hq]
  rw [← e0] at C
  have CH := Lib.hid C
  have KA := Lib.hid ka
  have KB := Lib.hid kb
  have la := World.block_lt_of_cell? w _ ka
  have lb := World.block_lt_of_cell? w _ kb
  have HP := Lib.hid hp
  have HQ := Lib.hid hq
  have SH := Lib.hid SLn
  clear C hM hbl hr e0 l8 ok ka kb hV hV2 hS SB SLn hp hq pbd qbd BW
  go_enter Tryd.func62, Tryd.ntmps62
  go_wp2_with fail
  refine CH.out.mono ?_
  rintro e w5 ⟨u, rfl, o5, b5⟩
  have B5 : Hid (Below w.heap.size w w5) := Below.trans (by go_grown) (b5.mono (by simp only [World.size_alloc]; omega))
  obtain ⟨g, c, rfl, -, -⟩ := OwnI.formedN o5 SH.out (by omega)
  have k1 := RdI.cellAtN o5.rd HP.out
  have k2 := RdI.cellAtN o5.rd HQ.out
  have k3 := (B5.out.cell (p := ⟨pa, 0, none⟩) la).trans KA.out
  have k4 := (B5.out.cell (p := ⟨pb, 0, none⟩) lb).trans KB.out
  clear o5 b5 CH KA KB HP HQ SH
  go_wp2_with fail
  go_region
  all_goals
    go_wp2
    go_ret
    exact ⟨rfl, below_drewN B5.out 1⟩
set_option maxRecDepth 100000 in
set_option maxHeartbeats 8000000 in
theorem numCofactorOf (B rb m n0 xc a b pa pb : Nat) (xa : Option Addr) (D : Int) (bs : List Nat) (xs : List St) (w : World) (hM : Mx w B rb bs m (rowsP (m - 1) xs)) (hbl : bs.length = m) (hr : RdS 4 encSt w (.slice xa n0 xc) xs) (e0 : n0 = xs.length) (l8 : n0 ≤ 8) (ok : ∀ x ∈ xs, OkSt m x) (hm : 1 ≤ m ∧ m ≤ 5) (ha : a < m) (hb : b < m) (ka : w.cell? ⟨pa, 0, none⟩ = some (.int .i64 a)) (kb : w.cell? ⟨pb, 0, none⟩ = some (.int .i64 b)) :
    Calls Tryd.prog 64 #[.agg #[.int .i64 m, .slice xa n0 xc, .slice (some ⟨rb, 0, none⟩) m m, .int .i64 D], .pointer (some ⟨pa, 0, none⟩), .pointer (some ⟨pb, 0, none⟩)] w fun e w' => e = .returned (.int .i64 (cofV m (rowsP (m - 1) xs) a b)) ∧ Below w.heap.size w w' := by
  have BW : Below w.heap.size w (w.alloc (.cells #[.int .i64 m, .slice xa n0 xc, .slice (some ⟨rb, 0, none⟩) m m, .int .i64 D] 63)) := by go_grown
  have CH := Lib.hid (netCofactor_any B rb m n0 xc a b xa D bs xs (w.alloc (.cells #[.int .i64 m, .slice xa n0 xc, .slice (some ⟨rb, 0, none⟩) m m, .int .i64 D] 63)) (hM.later BW) hbl (by omega) ok hm ha hb)
  have k3 := (BW.cell (p := ⟨pa, 0, none⟩) (World.block_lt_of_cell? w _ ka)).trans ka
  have k4 := (BW.cell (p := ⟨pb, 0, none⟩) (World.block_lt_of_cell? w _ kb)).trans kb
  clear hM hbl hr e0 l8 ok BW
  go_enter Tryd.func64, Tryd.ntmps64
  go_wp2_with fail
  refine CH.out.mono ?_
  rintro e w5 ⟨rfl, b5⟩
  have B5 : Hid (Below w.heap.size w w5) := Below.trans (by go_grown) (b5.mono (by simp only [World.size_alloc]; omega))
  clear b5 CH k3 k4 ka kb
  go_wp2
  go_ret
  exact ⟨rfl, B5.out⟩


set_option maxRecDepth 100000 in
set_option maxHeartbeats 8000000 in
theorem cloRiseBetween (B rb m n0 xc a b pa pb P : Nat) (xa : Option Addr) (D : Int) (bs : List Nat) (xs : List St) (w : World) (hM : Mx w B rb bs m (rowsP (m - 1) xs)) (hbl : bs.length = m) (hr : RdS 4 encSt w (.slice xa n0 xc) xs) (e0 : n0 = xs.length) (l8 : n0 ≤ 8) (ok : ∀ x ∈ xs, OkSt m x) (hm : 1 ≤ m ∧ m ≤ 5) (ha : a < m) (hb : b < m) (ka : w.cell? ⟨pa, 0, none⟩ = some (.int .i64 a)) (kb : w.cell? ⟨pb, 0, none⟩ = some (.int .i64 b)) (kP : w.cell? ⟨P, 0, none⟩ = some (.func (Fn.func 62) #[] #[.pointer (some ⟨pb, 0, none⟩), .pointer (some ⟨pa, 0, none⟩)])) :
    Calls Tryd.prog 94 #[.agg #[.int .i64 m, .slice xa n0 xc, .slice (some ⟨rb, 0, none⟩) m m, .int .i64 D], .pointer (some ⟨P, 0, none⟩)] w fun e w' => ∃ u, e = .returned u ∧ OwnI w' w.heap.size u [riseV m xs a b] ∧ Below w.heap.size w w' := by
  have BW : Below w.heap.size w (w.alloc (.cells #[.int .i64 m, .slice xa n0 xc, .slice (some ⟨rb, 0, none⟩) m m, .int .i64 D] 63)) := by go_grown
  have CH := Lib.hid (numRiseBetween B rb m n0 xc a b pa pb xa D bs xs (w.alloc (.cells #[.int .i64 m, .slice xa n0 xc, .slice (some ⟨rb, 0, none⟩) m m, .int .i64 D] 63)) (hM.later BW) hbl (hr.later BW) e0 l8 ok hm ha hb ((BW.cell (p := ⟨pa, 0, none⟩) (World.block_lt_of_cell? w _ ka)).trans ka) ((BW.cell (p := ⟨pb, 0, none⟩) (World.block_lt_of_cell? w _ kb)).trans kb))
  have k5 := (BW.cell (p := ⟨P, 0, none⟩) (World.block_lt_of_cell? w _ kP)).trans kP
  obtain ⟨V, hV⟩ : ∃ V, V = riseV m xs a b := ⟨_, rfl⟩
  rw [← hV] at CH ⊢
  clear hM hbl hr e0 l8 ok BW ka kb kP hV
  go_enter Tryd.func94, Tryd.ntmps94
  go_wp2_with fail
  refine CH.out.mono ?_
  rintro e w5 ⟨rfl, b5⟩
  have B5 : Hid (Below w.heap.size w w5) := Below.trans (by go_grown) (b5.mono (by simp only [World.size_alloc]; omega))
  have B6 : Hid (Below w.heap.size w (w5.alloc (.cells #[.int .i64 V] 2))) := B5.out.alloc B5.out.size _
  have O6 : Hid (OwnI (w5.alloc (.cells #[.int .i64 V] 2)) w.heap.size (.slice (some ⟨w5.heap.size, 0, none⟩) 1 1) [V]) :=
    ⟨by simp, .inr ⟨w5.heap.size, 1, _, rfl, B5.out.size, heap_alloc_new w5 _, Nat.le_refl _, by unfold maxLen; omega, by simp, by simp⟩⟩
  clear b5 CH k5 B5
  go_wp2
  go_ret
  exact ⟨_, rfl, O6.out, B6.out⟩

set_option maxRecDepth 100000 in
set_option maxHeartbeats 8000000 in
theorem betweenRiseBetween_no (g : Sv) (n0 : Nat) (a b : Int) (fv : Value) (hfv : fv.oneCell' = true) (w : World) (hr : RdSv w n0 g) (l0 : n0 ≤ 1048576) (hT : TSv w) (hno : ¬ (Con g ∧ (0 ≤ a ∧ a ≤ g.p - 1) ∧ (0 ≤ b ∧ b ≤ g.p - 1))) (cps : Array Value) (hf : fv = .func (Fn.func 62) #[] cps) :
    Calls Tryd.prog 61 #[(.agg #[.int .i64 g.p, .slice g.xa n0 g.xc]), .int .i64 a, .int .i64 b, fv] w fun e w' => e = .returned (.tuple #[.int .i64 0, .int .i64 0, .bool false]) ∧ Below w.heap.size w w' := by
  subst hf
  have W1 : Hid (((w.alloc (.cells #[.int .i64 g.p, .slice g.xa n0 g.xc] 26)).alloc (.cells #[.func (Fn.func 62) #[] cps] 86)).heap[w.heap.size]? = some (.cells #[.int .i64 g.p, .slice g.xa n0 g.xc] 26 (0, 0))) := box2_0 w _ _
  have W2 : Hid (Below w.heap.size w ((w.alloc (.cells #[.int .i64 g.p, .slice g.xa n0 g.xc] 26)).alloc (.cells #[.func (Fn.func 62) #[] cps] 86))) := by show Below _ _ _; go_grown
  have W3 : w.heap.size + 2 ≤ ((w.alloc (.cells #[.int .i64 g.p, .slice g.xa n0 g.xc] 26)).alloc (.cells #[.func (Fn.func 62) #[] cps] 86)).heap.size := by simp
  obtain ⟨b1, h1, C1'⟩ := hasPointG_any g n0 a ((w.alloc (.cells #[.int .i64 g.p, .slice g.xa n0 g.xc] 26)).alloc (.cells #[.func (Fn.func 62) #[] cps] 86))
  have C1 := Lib.hid C1'
  have C2 : Hid (∀ w, ∃ b2 : Bool, (2 ≤ g.p ∧ g.p ≤ 5 → (b2 = true ↔ 0 ≤ b ∧ b ≤ g.p - 1)) ∧ Calls Tryd.prog 93 #[(.agg #[.int .i64 g.p, .slice g.xa n0 g.xc]), .int .i64 b] w fun e w' => e = .returned (.bool b2) ∧ Below w.heap.size w w') := fun w => hasPointG_any g n0 b w
  have C3 : Hid (∀ wq, Below w.heap.size w wq → ¬ Con g → Calls Tryd.prog 45 #[(.agg #[.int .i64 g.p, .slice g.xa n0 g.xc]), .func (Fn.func 94) #[] #[.pointer (some ⟨w.heap.size + 1, 0, none⟩)]] wq fun e w' => e = .returned (.tuple #[.int .i64 0, .slice none 0 0, .bool false]) ∧ Below wq.heap.size wq w') :=
    fun wq bl hc => fracB_bad g n0 ⟨w.heap.size + 1, 0, none⟩ wq (hr.later bl) l0 (hT.later bl) hc
  have HN := Lib.hid hno
  have H1 := Lib.hid h1
  clear hr hT hno h1 C1' hfv
  go_enter Tryd.func61, Tryd.ntmps61
  go_wp2_with fail
  refine C1.out.mono ?_
  rintro e w1 ⟨rfl, bb1⟩
  have B1 : Hid (Below w.heap.size w w1) := W2.out.trans (bb1.mono (by omega))
  have V1 := Lib.hid ((bb1.block w.heap.size (by omega)).trans W1.out)
  have z1 := bb1.size
  clear bb1 C1 W1 W2
  cases b1 with
  | false =>
    clear C2 C3
    go_wp2
    go_ret3
    exact ⟨rfl, B1.out⟩
  | true =>
    obtain ⟨b2, h2, C2'⟩ := C2.out w1
    have C2w := Lib.hid C2'
    have H2 := Lib.hid h2
    obtain ⟨⟨p0, p1⟩, -, -⟩ := boxedSv_at V1.out
    clear C2 C2' h2
    go_wp2_with fail
    refine C2w.out.mono ?_
    rintro e w2 ⟨rfl, bb2⟩
    have B2 : Hid (Below w.heap.size w w2) := B1.out.trans (bb2.mono B1.out.size)
    have V2 := Lib.hid ((bb2.block w.heap.size (by omega)).trans V1.out)
    clear bb2 C2w V1 B1 p0 p1
    cases b2 with
    | false =>
      clear C3
      go_wp2
      go_ret3
      exact ⟨rfl, B2.out⟩
    | true =>
      have hc : ¬ Con g := fun hc => HN.out ⟨hc, (H1.out hc.1.p0).mp (by trivial), (H2.out hc.1.p0).mp (by trivial)⟩
      have CC := Lib.hid (C3.out w2 B2.out hc)
      obtain ⟨⟨p0, p1⟩, -, -⟩ := boxedSv_at V2.out
      clear C3 H1 H2 HN hc
      go_wp2_with fail
      refine CC.out.mono ?_
      rintro e w3 ⟨rfl, bb3⟩
      have B3 : Hid (Below w.heap.size w w3) := B2.out.trans (bb3.mono B2.out.size)
      clear bb3 CC V2 p0 p1
      go_wp2
      go_ret3
      exact ⟨rfl, B3.out⟩

set_option maxRecDepth 100000 in
set_option maxHeartbeats 8000000 in
theorem betweenRiseBetween_ok (m n0 xc a b pa pb : Nat) (xa : Option Addr) (xs : List St) (D : Int) (w : World) (hr : RdS 4 encSt w (.slice xa n0 xc) xs) (hT : TSv w) (hc : Con ⟨(m : Int), xa, xc, xs⟩) (hD : D = det m (rowsP (m - 1) xs)) (hDp : 0 < D ∧ D ≤ 207360000) (ha : a < m) (hb : b < m) (ka : w.cell? ⟨pa, 0, none⟩ = some (.int .i64 a)) (kb : w.cell? ⟨pb, 0, none⟩ = some (.int .i64 b)) (bV : Bd 162000000000000 (riseV m xs a b)) :
    Calls Tryd.prog 61 #[.agg #[.int .i64 m, .slice xa n0 xc], .int .i64 a, .int .i64 b, .func (Fn.func 62) #[] #[.pointer (some ⟨pb, 0, none⟩), .pointer (some ⟨pa, 0, none⟩)]] w fun e w' => e = .returned (.tuple #[.int .i64 ((riseV m xs a b).tdiv (gcdL D [riseV m xs a b])), .int .i64 (lowU D [riseV m xs a b]), .bool true]) ∧ Below w.heap.size w w' := by
  obtain ⟨hm, l8, ok, -⟩ := hc.facts (n0 := n0)
  have e0 : n0 = xs.length := RdSv.len (g := ⟨(m : Int), xa, xc, xs⟩) ⟨hr⟩
  have W1 : Hid (((w.alloc (.cells #[.int .i64 m, .slice xa n0 xc] 26)).alloc (.cells #[.func (Fn.func 62) #[] #[.pointer (some ⟨pb, 0, none⟩), .pointer (some ⟨pa, 0, none⟩)]] 86)).heap[w.heap.size]? = some (.cells #[.int .i64 m, .slice xa n0 xc] 26 (0, 0))) := box2_0 w _ _
  have W4 : Hid (((w.alloc (.cells #[.int .i64 m, .slice xa n0 xc] 26)).alloc (.cells #[.func (Fn.func 62) #[] #[.pointer (some ⟨pb, 0, none⟩), .pointer (some ⟨pa, 0, none⟩)]] 86)).heap[w.heap.size + 1]? = some (.cells #[.func (Fn.func 62) #[] #[.pointer (some ⟨pb, 0, none⟩), .pointer (some ⟨pa, 0, none⟩)]] 86 (0, 0))) := box2_1 w _ _
  have W2 : Hid (Below w.heap.size w ((w.alloc (.cells #[.int .i64 m, .slice xa n0 xc] 26)).alloc (.cells #[.func (Fn.func 62) #[] #[.pointer (some ⟨pb, 0, none⟩), .pointer (some ⟨pa, 0, none⟩)]] 86))) := by show Below _ _ _; go_grown
  have W3 : w.heap.size + 2 ≤ ((w.alloc (.cells #[.int .i64 m, .slice xa n0 xc] 26)).alloc (.cells #[.func (Fn.func 62) #[] #[.pointer (some ⟨pb, 0, none⟩), .pointer (some ⟨pa, 0, none⟩)]] 86)).heap.size := by simp
  have hp : (2 : Int) ≤ (⟨(m : Int), xa, xc, xs⟩ : Sv).p ∧ (⟨(m : Int), xa, xc, xs⟩ : Sv).p ≤ 5 := hc.1.p0
  have C1 : Hid (∀ (k : Nat) (w : World), k < m → Calls Tryd.prog 93 #[.agg #[.int .i64 m, .slice xa n0 xc], .int .i64 k] w fun e w' => e = .returned (.bool true) ∧ Below w.heap.size w w') := by
    intro k w hk
    refine (hasPoint_any ⟨(m : Int), xa, xc, xs⟩ n0 hp k true (by simp; omega) w).mono ?_
    rintro e w' ⟨rfl, rfl⟩
    exact ⟨rfl, by go_grown⟩
  have C3 : Hid (∀ wq, Below w.heap.size w wq → wq.heap[w.heap.size + 1]? = some (.cells #[.func (Fn.func 62) #[] #[.pointer (some ⟨pb, 0, none⟩), .pointer (some ⟨pa, 0, none⟩)]] 86 (0, 0)) → Calls Tryd.prog 45 #[.agg #[.int .i64 m, .slice xa n0 xc], .func (Fn.func 94) #[] #[.pointer (some ⟨w.heap.size + 1, 0, none⟩)]] wq fun e w' => ∃ u, e = .returned (.tuple #[.int .i64 (lowU D [riseV m xs a b]), u, .bool true]) ∧ OwnI w' wq.heap.size u (lowL D [riseV m xs a b]) ∧ Below wq.heap.size wq w') := by
    intro wq bl hP
    refine fracB_ok m n0 xc xa xs D [riseV m xs a b] ⟨w.heap.size + 1, 0, none⟩ wq (hr.later bl) (hT.later bl) hc hD (by omega) (by simp) (by intro z hz; simp only [List.mem_singleton] at hz; subst hz; exact bV.mono (by decide)) ?_
    intro w2 B rb bs bl2 mx hbl
    have bW := bl.trans (bl2.mono bl.size)
    exact cloRiseBetween B rb m n0 xc a b pa pb (w.heap.size + 1) xa D bs xs w2 mx hbl (hr.later bW) e0 (by omega) ok (by omega) ha hb ((bW.cell (p := ⟨pa, 0, none⟩) (World.block_lt_of_cell? w _ ka)).trans ka) ((bW.cell (p := ⟨pb, 0, none⟩) (World.block_lt_of_cell? w _ kb)).trans kb) (cell_of_row w2 (w.heap.size + 1) 0 _ _ _ ((bl2.block _ (Array.getElem?_eq_some_iff.1 hP).1).trans hP))
  obtain ⟨V, hV⟩ : ∃ V, V = riseV m xs a b := ⟨_, rfl⟩
  rw [← hV] at C3 ⊢
  clear hr hT hc hD bV ok e0 ka kb hp hV
  have CA := Lib.hid (C1.out a ((w.alloc (.cells #[.int .i64 m, .slice xa n0 xc] 26)).alloc (.cells #[.func (Fn.func 62) #[] #[.pointer (some ⟨pb, 0, none⟩), .pointer (some ⟨pa, 0, none⟩)]] 86)) ha)
  go_enter Tryd.func61, Tryd.ntmps61
  go_wp2_with fail
  refine CA.out.mono ?_
  rintro e w1 ⟨rfl, bb1⟩
  have B1 : Hid (Below w.heap.size w w1) := W2.out.trans (bb1.mono (by omega))
  have V1 := Lib.hid ((bb1.block w.heap.size (by omega)).trans W1.out)
  have P1 := Lib.hid ((bb1.block (w.heap.size + 1) (by omega)).trans W4.out)
  have z1 := bb1.size
  have CB := Lib.hid (C1.out b w1 hb)
  clear bb1 C1 W1 W2 W4 CA
  obtain ⟨⟨p0, p1⟩, -, -⟩ := boxedSv_at V1.out
  go_wp2_with fail
  refine CB.out.mono ?_
  rintro e w2 ⟨rfl, bb2⟩
  have B2 : Hid (Below w.heap.size w w2) := B1.out.trans (bb2.mono B1.out.size)
  have V2 := Lib.hid ((bb2.block w.heap.size (by omega)).trans V1.out)
  have P2 := Lib.hid ((bb2.block (w.heap.size + 1) (by omega)).trans P1.out)
  clear bb2 CB V1 B1 P1 p0 p1
  obtain ⟨⟨p0, p1⟩, -, -⟩ := boxedSv_at V2.out
  have CC := Lib.hid (C3.out w2 B2.out P2.out)
  clear C3 P2
  go_wp2_with fail
  refine CC.out.mono ?_
  rintro e w3 ⟨u, rfl, o3, bb3⟩
  have B3 : Hid (Below w.heap.size w w3) := B2.out.trans (bb3.mono B2.out.size)
  obtain ⟨g, c, rfl, -, -⟩ := OwnI.formedN o3 (lowL_len D [V]) (by simp)
  have k1 : w3.cell? ⟨g, 0, none⟩ = some (.int .i64 (V.tdiv (gcdL D [V]))) := RdI.cellAtN o3.rd (by rfl)
  clear bb3 o3 CC V2 p0 p1
  go_wp2
  go_ret3
  exact ⟨rfl, B3.out⟩


set_option maxRecDepth 100000 in
set_option maxHeartbeats 8000000 in
theorem cloCofactorOf (B rb m n0 xc a b pa pb P : Nat) (xa : Option Addr) (D : Int) (bs : List Nat) (xs : List St) (w : World) (hM : Mx w B rb bs m (rowsP (m - 1) xs)) (hbl : bs.length = m) (hr : RdS 4 encSt w (.slice xa n0 xc) xs) (e0 : n0 = xs.length) (l8 : n0 ≤ 8) (ok : ∀ x ∈ xs, OkSt m x) (hm : 1 ≤ m ∧ m ≤ 5) (ha : a < m) (hb : b < m) (ka : w.cell? ⟨pa, 0, none⟩ = some (.int .i64 a)) (kb : w.cell? ⟨pb, 0, none⟩ = some (.int .i64 b)) (kP : w.cell? ⟨P, 0, none⟩ = some (.func (Fn.func 64) #[] #[.pointer (some ⟨pa, 0, none⟩), .pointer (some ⟨pb, 0, none⟩)])) :
    Calls Tryd.prog 94 #[.agg #[.int .i64 m, .slice xa n0 xc, .slice (some ⟨rb, 0, none⟩) m m, .int .i64 D], .pointer (some ⟨P, 0, none⟩)] w fun e w' => ∃ u, e = .returned u ∧ OwnI w' w.heap.size u [cofV m (rowsP (m - 1) xs) a b] ∧ Below w.heap.size w w' := by
  have BW : Below w.heap.size w (w.alloc (.cells #[.int .i64 m, .slice xa n0 xc, .slice (some ⟨rb, 0, none⟩) m m, .int .i64 D] 63)) := by go_grown
  have CH := Lib.hid (numCofactorOf B rb m n0 xc a b pa pb xa D bs xs (w.alloc (.cells #[.int .i64 m, .slice xa n0 xc, .slice (some ⟨rb, 0, none⟩) m m, .int .i64 D] 63)) (hM.later BW) hbl (hr.later BW) e0 l8 ok hm ha hb ((BW.cell (p := ⟨pa, 0, none⟩) (World.block_lt_of_cell? w _ ka)).trans ka) ((BW.cell (p := ⟨pb, 0, none⟩) (World.block_lt_of_cell? w _ kb)).trans kb))
  have k5 := (BW.cell (p := ⟨P, 0, none⟩) (World.block_lt_of_cell? w _ kP)).trans kP
  obtain ⟨V, hV⟩ : ∃ V, V = cofV m (rowsP (m - 1) xs) a b := ⟨_, rfl⟩
  rw [← hV] at CH ⊢
  clear hM hbl hr e0 l8 ok BW ka kb kP hV
  go_enter Tryd.func94, Tryd.ntmps94
  go_wp2_with fail
  refine CH.out.mono ?_
  rintro e w5 ⟨rfl, b5⟩
  have B5 : Hid (Below w.heap.size w w5) := Below.trans (by go_grown) (b5.mono (by simp only [World.size_alloc]; omega))
  have B6 : Hid (Below w.heap.size w (w5.alloc (.cells #[.int .i64 V] 2))) := B5.out.alloc B5.out.size _
  have O6 : Hid (OwnI (w5.alloc (.cells #[.int .i64 V] 2)) w.heap.size (.slice (some ⟨w5.heap.size, 0, none⟩) 1 1) [V]) :=
    ⟨by simp, .inr ⟨w5.heap.size, 1, _, rfl, B5.out.size, heap_alloc_new w5 _, Nat.le_refl _, by unfold maxLen; omega, by simp, by simp⟩⟩
  clear b5 CH k5 B5
  go_wp2
  go_ret
  exact ⟨_, rfl, O6.out, B6.out⟩

set_option maxRecDepth 100000 in
set_option maxHeartbeats 8000000 in
theorem betweenCofactorOf_no (g : Sv) (n0 : Nat) (a b : Int) (fv : Value) (hfv : fv.oneCell' = true) (w : World) (hr : RdSv w n0 g) (l0 : n0 ≤ 1048576) (hT : TSv w) (hno : ¬ (Con g ∧ (0 ≤ a ∧ a ≤ g.p - 1) ∧ (0 ≤ b ∧ b ≤ g.p - 1))) (cps : Array Value) (hf : fv = .func (Fn.func 64) #[] cps) :
    Calls Tryd.prog 61 #[(.agg #[.int .i64 g.p, .slice g.xa n0 g.xc]), .int .i64 a, .int .i64 b, fv] w fun e w' => e = .returned (.tuple #[.int .i64 0, .int .i64 0, .bool false]) ∧ Below w.heap.size w w' := by
  subst hf
  have W1 : Hid (((w.alloc (.cells #[.int .i64 g.p, .slice g.xa n0 g.xc] 26)).alloc (.cells #[.func (Fn.func 64) #[] cps] 86)).heap[w.heap.size]? = some (.cells #[.int .i64 g.p, .slice g.xa n0 g.xc] 26 (0, 0))) := box2_0 w _ _
  have W2 : Hid (Below w.heap.size w ((w.alloc (.cells #[.int .i64 g.p, .slice g.xa n0 g.xc] 26)).alloc (.cells #[.func (Fn.func 64) #[] cps] 86))) := by show Below _ _ _; go_grown
  have W3 : w.heap.size + 2 ≤ ((w.alloc (.cells #[.int .i64 g.p, .slice g.xa n0 g.xc] 26)).alloc (.cells #[.func (Fn.func 64) #[] cps] 86)).heap.size := by simp
  obtain ⟨b1, h1, C1'⟩ := hasPointG_any g n0 a ((w.alloc (.cells #[.int .i64 g.p, .slice g.xa n0 g.xc] 26)).alloc (.cells #[.func (Fn.func 64) #[] cps] 86))
  have C1 := Lib.hid C1'
  have C2 : Hid (∀ w, ∃ b2 : Bool, (2 ≤ g.p ∧ g.p ≤ 5 → (b2 = true ↔ 0 ≤ b ∧ b ≤ g.p - 1)) ∧ Calls Tryd.prog 93 #[(.agg #[.int .i64 g.p, .slice g.xa n0 g.xc]), .int .i64 b] w fun e w' => e = .returned (.bool b2) ∧ Below w.heap.size w w') := fun w => hasPointG_any g n0 b w
  have C3 : Hid (∀ wq, Below w.heap.size w wq → ¬ Con g → Calls Tryd.prog 45 #[(.agg #[.int .i64 g.p, .slice g.xa n0 g.xc]), .func (Fn.func 94) #[] #[.pointer (some ⟨w.heap.size + 1, 0, none⟩)]] wq fun e w' => e = .returned (.tuple #[.int .i64 0, .slice none 0 0, .bool false]) ∧ Below wq.heap.size wq w') :=
    fun wq bl hc => fracB_bad g n0 ⟨w.heap.size + 1, 0, none⟩ wq (hr.later bl) l0 (hT.later bl) hc
  have HN := Lib.hid hno
  have H1 := Lib.hid h1
  clear hr hT hno h1 C1' hfv
  go_enter Tryd.func61, Tryd.ntmps61
  go_wp2_with fail
  refine C1.out.mono ?_
  rintro e w1 ⟨rfl, bb1⟩
  have B1 : Hid (Below w.heap.size w w1) := W2.out.trans (bb1.mono (by omega))
  have V1 := Lib.hid ((bb1.block w.heap.size (by omega)).trans W1.out)
  have z1 := bb1.size
  clear bb1 C1 W1 W2
  cases b1 with
  | false =>
    clear C2 C3
    go_wp2
    go_ret3
    exact ⟨rfl, B1.out⟩
  | true =>
    obtain ⟨b2, h2, C2'⟩ := C2.out w1
    have C2w := Lib.hid C2'
    have H2 := Lib.hid h2
    obtain ⟨⟨p0, p1⟩, -, -⟩ := boxedSv_at V1.out
    clear C2 C2' h2
    go_wp2_with fail
    refine C2w.out.mono ?_
    rintro e w2 ⟨rfl, bb2⟩
    have B2 : Hid (Below w.heap.size w w2) := B1.out.trans (bb2.mono B1.out.size)
    have V2 := Lib.hid ((bb2.block w.heap.size (by omega)).trans V1.out)
    clear bb2 C2w V1 B1 p0 p1
    cases b2 with
    | false =>
      clear C3
      go_wp2
      go_ret3
      exact ⟨rfl, B2.out⟩
    | true =>
      have hc : ¬ Con g := fun hc => HN.out ⟨hc, (H1.out hc.1.p0).mp (by trivial), (H2.out hc.1.p0).mp (by trivial)⟩
      have CC := Lib.hid (C3.out w2 B2.out hc)
      obtain ⟨⟨p0, p1⟩, -, -⟩ := boxedSv_at V2.out
      clear C3 H1 H2 HN hc
      go_wp2_with fail
      refine CC.out.mono ?_
      rintro e w3 ⟨rfl, bb3⟩
      have B3 : Hid (Below w.heap.size w w3) := B2.out.trans (bb3.mono B2.out.size)
      clear bb3 CC V2 p0 p1
      go_wp2
      go_ret3
      exact ⟨rfl, B3.out⟩

set_option maxRecDepth 100000 in
set_option maxHeartbeats 8000000 in
theorem betweenCofactorOf_ok (m n0 xc a b pa pb : Nat) (xa : Option Addr) (xs : List St) (D : Int) (w : World) (hr : RdS 4 encSt w (.slice xa n0 xc) xs) (hT : TSv w) (hc : Con ⟨(m : Int), xa, xc, xs⟩) (hD : D = det m (rowsP (m - 1) xs)) (hDp : 0 < D ∧ D ≤ 207360000) (ha : a < m) (hb : b < m) (ka : w.cell? ⟨pa, 0, none⟩ = some (.int .i64 a)) (kb : w.cell? ⟨pb, 0, none⟩ = some (.int .i64 b)) (bV : Bd 162000000000000 (cofV m (rowsP (m - 1) xs) a b)) :
    Calls Tryd.prog 61 #[.agg #[.int .i64 m, .slice xa n0 xc], .int .i64 a, .int .i64 b, .func (Fn.func 64) #[] #[.pointer (some ⟨pa, 0, none⟩), .pointer (some ⟨pb, 0, none⟩)]] w fun e w' => e = .returned (.tuple #[.int .i64 ((cofV m (rowsP (m - 1) xs) a b).tdiv (gcdL D [cofV m (rowsP (m - 1) xs) a b])), .int .i64 (lowU D [cofV m (rowsP (m - 1) xs) a b]), .bool true]) ∧ Below w.heap.size w w' := by
  obtain ⟨hm, l8, ok, -⟩ := hc.facts (n0 := n0)
  have e0 : n0 = xs.length := RdSv.len (g := ⟨(m : Int), xa, xc, xs⟩) ⟨hr⟩
  have W1 : Hid (((w.alloc (.cells #[.int .i64 m, .slice xa n0 xc] 26)).alloc (.cells #[.func (Fn.func 64) #[] #[.pointer (some ⟨pa, 0, none⟩), .pointer (some ⟨pb, 0, none⟩)]] 86)).heap[w.heap.size]? = some (.cells #[.int .i64 m, .slice xa n0 xc] 26 (0, 0))) := box2_0 w _ _
  have W4 : Hid (((w.alloc (.cells #[.int .i64 m, .slice xa n0 xc] 26)).alloc (.cells #[.func (Fn.func 64) #[] #[.pointer (some ⟨pa, 0, none⟩), .pointer (some ⟨pb, 0, none⟩)]] 86)).heap[w.heap.size + 1]? = some (.cells #[.func (Fn.func 64) #[] #[.pointer (some ⟨pa, 0, none⟩), .pointer (some ⟨pb, 0, none⟩)]] 86 (0, 0))) := box2_1 w _ _
  have W2 : Hid (Below w.heap.size w ((w.alloc (.cells #[.int .i64 m, .slice xa n0 xc] 26)).alloc (.cells #[.func (Fn.func 64) #[] #[.pointer (some ⟨pa, 0, none⟩), .pointer (some ⟨pb, 0, none⟩)]] 86))) := by show Below _ _ _; go_grown
  have W3 : w.heap.size + 2 ≤ ((w.alloc (.cells #[.int .i64 m, .slice xa n0 xc] 26)).alloc (.cells #[.func (Fn.func 64) #[] #[.pointer (some ⟨pa, 0, none⟩), .pointer (some ⟨pb, 0, none⟩)]] 86)).heap.size := by simp
  have hp : (2 : Int) ≤ (⟨(m : Int), xa, xc, xs⟩ : Sv).p ∧ (⟨(m : Int), xa, xc, xs⟩ : Sv).p ≤ 5 := hc.1.p0
  have C1 : Hid (∀ (k : Nat) (w : World), k < m → Calls Tryd.prog 93 #[.agg #[.int .i64 m, .slice xa n0 xc], .int .i64 k] w fun e w' => e = .returned (.bool true) ∧ Below w.heap.size w w') := by
    intro k w hk
    refine (hasPoint_any ⟨(m : Int), xa, xc, xs⟩ n0 hp k true (by simp; omega) w).mono ?_
    rintro e w' ⟨rfl, rfl⟩
    exact ⟨rfl, by go_grown⟩
  have C3 : Hid (∀ wq, Below w.heap.size w wq → wq.heap[w.heap.size + 1]? = some (.cells #[.func (Fn.func 64) #[] #[.pointer (some ⟨pa, 0, none⟩), .pointer (some ⟨pb, 0, none⟩)]] 86 (0, 0)) → Calls Tryd.prog 45 #[.agg #[.int .i64 m, .slice xa n0 xc], .func (Fn.func 94) #[] #[.pointer (some ⟨w.heap.size + 1, 0, none⟩)]] wq fun e w' => ∃ u, e = .returned (.tuple #[.int .i64 (lowU D [cofV m (rowsP (m - 1) xs) a b]), u, .bool true]) ∧ OwnI w' wq.heap.size u (lowL D [cofV m (rowsP (m - 1) xs) a b]) ∧ Below wq.heap.size wq w') := by
    intro wq bl hP
    refine fracB_ok m n0 xc xa xs D [cofV m (rowsP (m - 1) xs) a b] ⟨w.heap.size + 1, 0, none⟩ wq (hr.later bl) (hT.later bl) hc hD (by omega) (by simp) (by intro z hz; simp only [List.mem_singleton] at hz; subst hz; exact bV.mono (by decide)) ?_
    intro w2 B rb bs bl2 mx hbl
    have bW := bl.trans (bl2.mono bl.size)
    exact cloCofactorOf B rb m n0 xc a b pa pb (w.heap.size + 1) xa D bs xs w2 mx hbl (hr.later bW) e0 (by omega) ok (by omega) ha hb ((bW.cell (p := ⟨pa, 0, none⟩) (World.block_lt_of_cell? w _ ka)).trans ka) ((bW.cell (p := ⟨pb, 0, none⟩) (World.block_lt_of_cell? w _ kb)).trans kb) (cell_of_row w2 (w.heap.size + 1) 0 _ _ _ ((bl2.block _ (Array.getElem?_eq_some_iff.1 hP).1).trans hP))
  obtain ⟨V, hV⟩ : ∃ V, V = cofV m (rowsP (m - 1) xs) a b := ⟨_, rfl⟩
  rw [← hV] at C3 ⊢
  clear hr hT hc hD bV ok e0 ka kb hp hV
  have CA := Lib.hid (C1.out a ((w.alloc (.cells #[.int .i64 m, .slice xa n0 xc] 26)).alloc (.cells #[.func (Fn.func 64) #[] #[.pointer (some ⟨pa, 0, none⟩), .pointer (some ⟨pb, 0, none⟩)]] 86)) ha)
  go_enter Tryd.func61, Tryd.ntmps61
  go_wp2_with fail
  refine CA.out.mono ?_
  rintro e w1 ⟨rfl, bb1⟩
  have B1 : Hid (Below w.heap.size w w1) := W2.out.trans (bb1.mono (by omega))
  have V1 := Lib.hid ((bb1.block w.heap.size (by omega)).trans W1.out)
  have P1 := Lib.hid ((bb1.block (w.heap.size + 1) (by omega)).trans W4.out)
  have z1 := bb1.size
  have CB := Lib.hid (C1.out b w1 hb)
  clear bb1 C1 W1 W2 W4 CA
  obtain ⟨⟨p0, p1⟩, -, -⟩ := boxedSv_at V1.out
  go_wp2_with fail
  refine CB.out.mono ?_
  rintro e w2 ⟨rfl, bb2⟩
  have B2 : Hid (Below w.heap.size w w2) := B1.out.trans (bb2.mono B1.out.size)
  have V2 := Lib.hid ((bb2.block w.heap.size (by omega)).trans V1.out)
  have P2 := Lib.hid ((bb2.block (w.heap.size + 1) (by omega)).trans P1.out)
  clear bb2 CB V1 B1 P1 p0 p1
  obtain ⟨⟨p0, p1⟩, -, -⟩ := boxedSv_at V2.out
  have CC := Lib.hid (C3.out w2 B2.out P2.out)
  clear C3 P2
  go_wp2_with fail
  refine CC.out.mono ?_
  rintro e w3 ⟨u, rfl, o3, bb3⟩
  have B3 : Hid (Below w.heap.size w w3) := B2.out.trans (bb3.mono B2.out.size)
  obtain ⟨g, c, rfl, -, -⟩ := OwnI.formedN o3 (lowL_len D [V]) (by simp)
  have k1 : w3.cell? ⟨g, 0, none⟩ = some (.int .i64 (V.tdiv (gcdL D [V]))) := RdI.cellAtN o3.rd (by rfl)
  clear bb3 o3 CC V2 p0 p1
  go_wp2
  go_ret3
  exact ⟨rfl, B3.out⟩

end Go.Proofs.YtcmocilojloolaaDoor
