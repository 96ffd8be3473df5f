/- Numbers of a connected survey in lowest terms: of the program. (Written by tools/mkfrac.py.) -/
import Derived.Test.YtcmocilojloolaaDoorLowI
namespace Go.Proofs.YtcmocilojloolaaDoor
open Go.ChangeShapes Go.WideShapes Go.ChangeAt Go.RowKit
set_option linter.unusedVariables false
set_option linter.unusedSimpArgs false

/-- The determinant of a survey's normal matrix. -/
def unitOf (g : Sv) : Int := det g.p.toNat (rowsP (g.p.toNat - 1) g.x)
theorem unitOf_same {g k : Sv} (h : g.same k) : unitOf g = unitOf k := by unfold unitOf; rw [h.1, h.2]
theorem unitOf_pos {g : Sv} (hc : Con g) : 0 < unitOf g ∧ unitOf g ≤ 207360000 := by
  have p0 := hc.1.p0
  have ok := hc.1.sts
  have l8 := hc.1.n0
  have hb := hc.2
  unfold trOf at hb
  unfold unitOf
  obtain ⟨n, hn⟩ : ∃ n, g.p.toNat = n + 1 := ⟨g.p.toNat - 1, by omega⟩
  rw [hn] at ok hb ⊢
  have h2 := unit_bd (n := n) (by omega) ok l8
  unfold Bd at h2
  exact ⟨unit_pos (by omega) (by omega) ok hb, by simpa using h2.2⟩

set_option maxRecDepth 100000 in
set_option maxHeartbeats 8000000 in
theorem fracH_bad (g : Sv) (n0 : Nat) (w : World) (hr : RdSv w n0 g) (l0 : n0 ≤ 1048576) (hT : TSv w) (hc : ¬ Con g) :
    Calls Tryd.prog 45 #[(.agg #[.int .i64 g.p, .slice g.xa n0 g.xc]), .func (Fn.func 46) #[] #[]] w fun e w' => e = .returned (.tuple #[.int .i64 0, .slice none 0 0, .bool false]) ∧ Below w.heap.size w w' := by
  have BW : Below w.heap.size w (w.alloc (.cells #[.int .i64 g.p, .slice g.xa n0 g.xc] 26)) := by go_grown
  have C := Lib.hid (netOf_bad g n0 (w.alloc (.cells #[.int .i64 g.p, .slice g.xa n0 g.xc] 26)) (hr.later BW) l0 (hT.later BW) hc)
  clear hr hT hc BW
  go_enter Tryd.func45, Tryd.ntmps45
  go_wp2_with fail
  refine C.out.mono ?_
  rintro e w2 ⟨⟨a, rfl⟩, b2⟩
  have B2 : Hid (Below w.heap.size w w2) := Below.trans (by go_grown) (b2.mono (by simp only [World.size_alloc]; omega))
  have BE : Hid (Below w.heap.size w (w2.alloc (.cells #[.int .i64 0, .slice none 0 0, .slice none 0 0, .int .i64 0] 63))) := B2.out.alloc B2.out.size _
  clear b2 C
  go_wp2
  go_ret3
  exact ⟨rfl, BE.out⟩

set_option maxRecDepth 100000 in
set_option maxHeartbeats 8000000 in
theorem fracH_ok (m n0 xc : Nat) (xa : Option Addr) (xs : List St) (D : Int) (Z : List Int) (w : World) (hr : RdS 4 encSt w (.slice xa n0 xc) xs) (hT : TSv w) (hc : Con ⟨(m : Int), xa, xc, xs⟩) (hD : D = det m (rowsP (m - 1) xs)) (hDp : 0 < D ∧ D ≤ 1000000000000000000) (lZ : Z.length ≤ 100) (bZ : ∀ z ∈ Z, Bd 1000000000000000000 z)
    (CF : ∀ (wq : World) (B rb : Nat) (bs : List Nat), Below w.heap.size w wq → Mx wq B rb bs m (rowsP (m - 1) xs) → bs.length = m → Calls Tryd.prog 46 #[.agg #[.int .i64 m, .slice xa n0 xc, .slice (some ⟨rb, 0, none⟩) m m, .int .i64 D]] wq fun e w' => ∃ u, e = .returned u ∧ OwnI w' wq.heap.size u Z ∧ Below wq.heap.size wq w') :
    Calls Tryd.prog 45 #[.agg #[.int .i64 m, .slice xa n0 xc], .func (Fn.func 46) #[] #[]] w fun e w' => ∃ u, e = .returned (.tuple #[.int .i64 (lowU D Z), u, .bool true]) ∧ OwnI w' w.heap.size u (lowL D Z) ∧ Below w.heap.size w w' := by
  have BW : Below w.heap.size w (w.alloc (.cells #[.int .i64 m, .slice xa n0 xc] 26)) := by go_grown
  have C := Lib.hid (netOf_ok m n0 xc xa xs (w.alloc (.cells #[.int .i64 m, .slice xa n0 xc] 26)) (hr.later BW) (hT.later BW) hc)
  rw [← hD] at C
  have CH := Lib.hid CF
  have CL := Lib.hid (fun v w h => lowest_any D hDp v Z w h lZ bZ)
  clear hr hT hc BW hD bZ CF
  go_enter Tryd.func45, Tryd.ntmps45
  go_wp2_with fail
  refine C.out.mono ?_
  rintro e w2 ⟨rb, bs, rfl, hbl, mx, b2⟩
  have B2 : Hid (Below w.heap.size w w2) := Below.trans (by go_grown) (b2.mono (by simp only [World.size_alloc]; omega))
  have BE : Hid (Below w.heap.size w (w2.alloc (.cells #[.int .i64 m, .slice xa n0 xc, .slice (some ⟨rb, 0, none⟩) m m, .int .i64 D] 63))) := B2.out.alloc B2.out.size _
  have VE : Hid ((w2.alloc (.cells #[.int .i64 m, .slice xa n0 xc, .slice (some ⟨rb, 0, none⟩) m m, .int .i64 D] 63)).heap[w2.heap.size]? = some (.cells #[.int .i64 m, .slice xa n0 xc, .slice (some ⟨rb, 0, none⟩) m m, .int .i64 D] 63 (0, 0))) := heap_alloc_new _ _
  have ME := Lib.hid (mx.later (show Below w2.heap.size w2 (w2.alloc (.cells #[.int .i64 m, .slice xa n0 xc, .slice (some ⟨rb, 0, none⟩) m m, .int .i64 D] 63)) by go_grown))
  clear b2 C mx B2
  go_upto_region 4 with (fail)
  generalize w2.alloc (.cells #[.int .i64 m, .slice xa n0 xc, .slice (some ⟨rb, 0, none⟩) m m, .int .i64 D] 63) = w3 at *
  obtain ⟨⟨y0, y1, y2, y3⟩, -, yl⟩ := box4_at VE.out
  have CC := Lib.hid (CH.out w3.drew _ rb bs BE.out.drew ME.out.drew hbl)
  clear CH
  go_wp2_with fail
  go_region_law (first
    | ((try go_simp); go_at_call 46; refine CC.out.mono ?_; rintro e w4 ⟨u, rfl, o4, b4⟩; have P4 := Lib.hid ((b4.block w2.heap.size yl).trans VE.out); have B4 : Hid (Below w.heap.size w w4) := BE.out.drew.trans (b4.mono BE.out.size); have RU := Lib.hid o4.rd; obtain ⟨⟨x0, x1, x2, x3⟩, -, -⟩ := box4_at P4.out; clear o4 b4)
    | ((try go_simp); go_at_call 59; refine (CL.out _ _ RU.out).mono ?_; rintro e w5 ⟨u5, rfl, o5, b5⟩; have B5 : Hid (Below w.heap.size w w5) := B4.out.trans (b5.mono B4.out.size); have O5 := Lib.hid (OwnI.mono o5 B4.out.size); clear o5 b5))
  all_goals
    go_wp2
    go_ret3
    exact ⟨_, rfl, O5.out, B5.out⟩

set_option maxRecDepth 100000 in
set_option maxHeartbeats 8000000 in
theorem fracR_bad (g : Sv) (n0 : Nat) (w : World) (hr : RdSv w n0 g) (l0 : n0 ≤ 1048576) (hT : TSv w) (hc : ¬ Con g) :
    Calls Tryd.prog 45 #[(.agg #[.int .i64 g.p, .slice g.xa n0 g.xc]), .func (Fn.func 47) #[] #[]] w fun e w' => e = .returned (.tuple #[.int .i64 0, .slice none 0 0, .bool false]) ∧ Below w.heap.size w w' := by
  have BW : Below w.heap.size w (w.alloc (.cells #[.int .i64 g.p, .slice g.xa n0 g.xc] 26)) := by go_grown
  have C := Lib.hid (netOf_bad g n0 (w.alloc (.cells #[.int .i64 g.p, .slice g.xa n0 g.xc] 26)) (hr.later BW) l0 (hT.later BW) hc)
  clear hr hT hc BW
  go_enter Tryd.func45, Tryd.ntmps45
  go_wp2_with fail
  refine C.out.mono ?_
  rintro e w2 ⟨⟨a, rfl⟩, b2⟩
  have B2 : Hid (Below w.heap.size w w2) := Below.trans (by go_grown) (b2.mono (by simp only [World.size_alloc]; omega))
  have BE : Hid (Below w.heap.size w (w2.alloc (.cells #[.int .i64 0, .slice none 0 0, .slice none 0 0, .int .i64 0] 63))) := B2.out.alloc B2.out.size _
  clear b2 C
  go_wp2
  go_ret3
  exact ⟨rfl, BE.out⟩

set_option maxRecDepth 100000 in
set_option maxHeartbeats 8000000 in
theorem fracR_ok (m n0 xc : Nat) (xa : Option Addr) (xs : List St) (D : Int) (Z : List Int) (w : World) (hr : RdS 4 encSt w (.slice xa n0 xc) xs) (hT : TSv w) (hc : Con ⟨(m : Int), xa, xc, xs⟩) (hD : D = det m (rowsP (m - 1) xs)) (hDp : 0 < D ∧ D ≤ 1000000000000000000) (lZ : Z.length ≤ 100) (bZ : ∀ z ∈ Z, Bd 1000000000000000000 z)
    (CF : ∀ (wq : World) (B rb : Nat) (bs : List Nat), Below w.heap.size w wq → Mx wq B rb bs m (rowsP (m - 1) xs) → bs.length = m → Calls Tryd.prog 47 #[.agg #[.int .i64 m, .slice xa n0 xc, .slice (some ⟨rb, 0, none⟩) m m, .int .i64 D]] wq fun e w' => ∃ u, e = .returned u ∧ OwnI w' wq.heap.size u Z ∧ Below wq.heap.size wq w') :
    Calls Tryd.prog 45 #[.agg #[.int .i64 m, .slice xa n0 xc], .func (Fn.func 47) #[] #[]] w fun e w' => ∃ u, e = .returned (.tuple #[.int .i64 (lowU D Z), u, .bool true]) ∧ OwnI w' w.heap.size u (lowL D Z) ∧ Below w.heap.size w w' := by
  have BW : Below w.heap.size w (w.alloc (.cells #[.int .i64 m, .slice xa n0 xc] 26)) := by go_grown
  have C := Lib.hid (netOf_ok m n0 xc xa xs (w.alloc (.cells #[.int .i64 m, .slice xa n0 xc] 26)) (hr.later BW) (hT.later BW) hc)
  rw [← hD] at C
  have CH := Lib.hid CF
  have CL := Lib.hid (fun v w h => lowest_any D hDp v Z w h lZ bZ)
  clear hr hT hc BW hD bZ CF
  go_enter Tryd.func45, Tryd.ntmps45
  go_wp2_with fail
  refine C.out.mono ?_
  rintro e w2 ⟨rb, bs, rfl, hbl, mx, b2⟩
  have B2 : Hid (Below w.heap.size w w2) := Below.trans (by go_grown) (b2.mono (by simp only [World.size_alloc]; omega))
  have BE : Hid (Below w.heap.size w (w2.alloc (.cells #[.int .i64 m, .slice xa n0 xc, .slice (some ⟨rb, 0, none⟩) m m, .int .i64 D] 63))) := B2.out.alloc B2.out.size _
  have VE : Hid ((w2.alloc (.cells #[.int .i64 m, .slice xa n0 xc, .slice (some ⟨rb, 0, none⟩) m m, .int .i64 D] 63)).heap[w2.heap.size]? = some (.cells #[.int .i64 m, .slice xa n0 xc, .slice (some ⟨rb, 0, none⟩) m m, .int .i64 D] 63 (0, 0))) := heap_alloc_new _ _
  have ME := Lib.hid (mx.later (show Below w2.heap.size w2 (w2.alloc (.cells #[.int .i64 m, .slice xa n0 xc, .slice (some ⟨rb, 0, none⟩) m m, .int .i64 D] 63)) by go_grown))
  clear b2 C mx B2
  go_upto_region 4 with (fail)
  generalize w2.alloc (.cells #[.int .i64 m, .slice xa n0 xc, .slice (some ⟨rb, 0, none⟩) m m, .int .i64 D] 63) = w3 at *
  obtain ⟨⟨y0, y1, y2, y3⟩, -, yl⟩ := box4_at VE.out
  have CC := Lib.hid (CH.out w3.drew _ rb bs BE.out.drew ME.out.drew hbl)
  clear CH
  go_wp2_with fail
  go_region_law (first
    | ((try go_simp); go_at_call 47; refine CC.out.mono ?_; rintro e w4 ⟨u, rfl, o4, b4⟩; have P4 := Lib.hid ((b4.block w2.heap.size yl).trans VE.out); have B4 : Hid (Below w.heap.size w w4) := BE.out.drew.trans (b4.mono BE.out.size); have RU := Lib.hid o4.rd; obtain ⟨⟨x0, x1, x2, x3⟩, -, -⟩ := box4_at P4.out; clear o4 b4)
    | ((try go_simp); go_at_call 59; refine (CL.out _ _ RU.out).mono ?_; rintro e w5 ⟨u5, rfl, o5, b5⟩; have B5 : Hid (Below w.heap.size w w5) := B4.out.trans (b5.mono B4.out.size); have O5 := Lib.hid (OwnI.mono o5 B4.out.size); clear o5 b5))
  all_goals
    go_wp2
    go_ret3
    exact ⟨_, rfl, O5.out, B5.out⟩

set_option maxRecDepth 100000 in
set_option maxHeartbeats 8000000 in
theorem fracF_bad (g : Sv) (n0 : Nat) (w : World) (hr : RdSv w n0 g) (l0 : n0 ≤ 1048576) (hT : TSv w) (hc : ¬ Con g) :
    Calls Tryd.prog 45 #[(.agg #[.int .i64 g.p, .slice g.xa n0 g.xc]), .func (Fn.func 67) #[] #[]] w fun e w' => e = .returned (.tuple #[.int .i64 0, .slice none 0 0, .bool false]) ∧ Below w.heap.size w w' := by
  have BW : Below w.heap.size w (w.alloc (.cells #[.int .i64 g.p, .slice g.xa n0 g.xc] 26)) := by go_grown
  have C := Lib.hid (netOf_bad g n0 (w.alloc (.cells #[.int .i64 g.p, .slice g.xa n0 g.xc] 26)) (hr.later BW) l0 (hT.later BW) hc)
  clear hr hT hc BW
  go_enter Tryd.func45, Tryd.ntmps45
  go_wp2_with fail
  refine C.out.mono ?_
  rintro e w2 ⟨⟨a, rfl⟩, b2⟩
  have B2 : Hid (Below w.heap.size w w2) := Below.trans (by go_grown) (b2.mono (by simp only [World.size_alloc]; omega))
  have BE : Hid (Below w.heap.size w (w2.alloc (.cells #[.int .i64 0, .slice none 0 0, .slice none 0 0, .int .i64 0] 63))) := B2.out.alloc B2.out.size _
  clear b2 C
  go_wp2
  go_ret3
  exact ⟨rfl, BE.out⟩

set_option maxRecDepth 100000 in
set_option maxHeartbeats 8000000 in
theorem fracF_ok (m n0 xc : Nat) (xa : Option Addr) (xs : List St) (D : Int) (Z : List Int) (w : World) (hr : RdS 4 encSt w (.slice xa n0 xc) xs) (hT : TSv w) (hc : Con ⟨(m : Int), xa, xc, xs⟩) (hD : D = det m (rowsP (m - 1) xs)) (hDp : 0 < D ∧ D ≤ 1000000000000000000) (lZ : Z.length ≤ 100) (bZ : ∀ z ∈ Z, Bd 1000000000000000000 z)
    (CF : ∀ (wq : World) (B rb : Nat) (bs : List Nat), Below w.heap.size w wq → Mx wq B rb bs m (rowsP (m - 1) xs) → bs.length = m → Calls Tryd.prog 67 #[.agg #[.int .i64 m, .slice xa n0 xc, .slice (some ⟨rb, 0, none⟩) m m, .int .i64 D]] wq fun e w' => ∃ u, e = .returned u ∧ OwnI w' wq.heap.size u Z ∧ Below wq.heap.size wq w') :
    Calls Tryd.prog 45 #[.agg #[.int .i64 m, .slice xa n0 xc], .func (Fn.func 67) #[] #[]] w fun e w' => ∃ u, e = .returned (.tuple #[.int .i64 (lowU D Z), u, .bool true]) ∧ OwnI w' w.heap.size u (lowL D Z) ∧ Below w.heap.size w w' := by
  have BW : Below w.heap.size w (w.alloc (.cells #[.int .i64 m, .slice xa n0 xc] 26)) := by go_grown
  have C := Lib.hid (netOf_ok m n0 xc xa xs (w.alloc (.cells #[.int .i64 m, .slice xa n0 xc] 26)) (hr.later BW) (hT.later BW) hc)
  rw [← hD] at C
  have CH := Lib.hid CF
  have CL := Lib.hid (fun v w h => lowest_any D hDp v Z w h lZ bZ)
  clear hr hT hc BW hD bZ CF
  go_enter Tryd.func45, Tryd.ntmps45
  go_wp2_with fail
  refine C.out.mono ?_
  rintro e w2 ⟨rb, bs, rfl, hbl, mx, b2⟩
  have B2 : Hid (Below w.heap.size w w2) := Below.trans (by go_grown) (b2.mono (by simp only [World.size_alloc]; omega))
  have BE : Hid (Below w.heap.size w (w2.alloc (.cells #[.int .i64 m, .slice xa n0 xc, .slice (some ⟨rb, 0, none⟩) m m, .int .i64 D] 63))) := B2.out.alloc B2.out.size _
  have VE : Hid ((w2.alloc (.cells #[.int .i64 m, .slice xa n0 xc, .slice (some ⟨rb, 0, none⟩) m m, .int .i64 D] 63)).heap[w2.heap.size]? = some (.cells #[.int .i64 m, .slice xa n0 xc, .slice (some ⟨rb, 0, none⟩) m m, .int .i64 D] 63 (0, 0))) := heap_alloc_new _ _
  have ME := Lib.hid (mx.later (show Below w2.heap.size w2 (w2.alloc (.cells #[.int .i64 m, .slice xa n0 xc, .slice (some ⟨rb, 0, none⟩) m m, .int .i64 D] 63)) by go_grown))
  clear b2 C mx B2
  go_upto_region 4 with (fail)
  generalize w2.alloc (.cells #[.int .i64 m, .slice xa n0 xc, .slice (some ⟨rb, 0, none⟩) m m, .int .i64 D] 63) = w3 at *
  obtain ⟨⟨y0, y1, y2, y3⟩, -, yl⟩ := box4_at VE.out
  have CC := Lib.hid (CH.out w3.drew _ rb bs BE.out.drew ME.out.drew hbl)
  clear CH
  go_wp2_with fail
  go_region_law (first
    | ((try go_simp); go_at_call 67; refine CC.out.mono ?_; rintro e w4 ⟨u, rfl, o4, b4⟩; have P4 := Lib.hid ((b4.block w2.heap.size yl).trans VE.out); have B4 : Hid (Below w.heap.size w w4) := BE.out.drew.trans (b4.mono BE.out.size); have RU := Lib.hid o4.rd; obtain ⟨⟨x0, x1, x2, x3⟩, -, -⟩ := box4_at P4.out; clear o4 b4)
    | ((try go_simp); go_at_call 59; refine (CL.out _ _ RU.out).mono ?_; rintro e w5 ⟨u5, rfl, o5, b5⟩; have B5 : Hid (Below w.heap.size w w5) := B4.out.trans (b5.mono B4.out.size); have O5 := Lib.hid (OwnI.mono o5 B4.out.size); clear o5 b5))
  all_goals
    go_wp2
    go_ret3
    exact ⟨_, rfl, O5.out, B5.out⟩

set_option maxRecDepth 100000 in
set_option maxHeartbeats 8000000 in
theorem fracB_bad (g : Sv) (n0 : Nat) (cp : Addr) (w : World) (hr : RdSv w n0 g) (l0 : n0 ≤ 1048576) (hT : TSv w) (hc : ¬ Con g) :
    Calls Tryd.prog 45 #[(.agg #[.int .i64 g.p, .slice g.xa n0 g.xc]), .func (Fn.func 94) #[] #[.pointer (some cp)]] w fun e w' => e = .returned (.tuple #[.int .i64 0, .slice none 0 0, .bool false]) ∧ Below w.heap.size w w' := by
  have BW : Below w.heap.size w (w.alloc (.cells #[.int .i64 g.p, .slice g.xa n0 g.xc] 26)) := by go_grown
  have C := Lib.hid (netOf_bad g n0 (w.alloc (.cells #[.int .i64 g.p, .slice g.xa n0 g.xc] 26)) (hr.later BW) l0 (hT.later BW) hc)
  clear hr hT hc BW
  go_enter Tryd.func45, Tryd.ntmps45
  go_wp2_with fail
  refine C.out.mono ?_
  rintro e w2 ⟨⟨a, rfl⟩, b2⟩
  have B2 : Hid (Below w.heap.size w w2) := Below.trans (by go_grown) (b2.mono (by simp only [World.size_alloc]; omega))
  have BE : Hid (Below w.heap.size w (w2.alloc (.cells #[.int .i64 0, .slice none 0 0, .slice none 0 0, .int .i64 0] 63))) := B2.out.alloc B2.out.size _
  clear b2 C
  go_wp2
  go_ret3
  exact ⟨rfl, BE.out⟩

set_option maxRecDepth 100000 in
set_option maxHeartbeats 8000000 in
theorem fracB_ok (m n0 xc : Nat) (xa : Option Addr) (xs : List St) (D : Int) (Z : List Int) (cp : Addr) (w : World) (hr : RdS 4 encSt w (.slice xa n0 xc) xs) (hT : TSv w) (hc : Con ⟨(m : Int), xa, xc, xs⟩) (hD : D = det m (rowsP (m - 1) xs)) (hDp : 0 < D ∧ D ≤ 1000000000000000000) (lZ : Z.length ≤ 100) (bZ : ∀ z ∈ Z, Bd 1000000000000000000 z)
    (CF : ∀ (wq : World) (B rb : Nat) (bs : List Nat), Below w.heap.size w wq → Mx wq B rb bs m (rowsP (m - 1) xs) → bs.length = m → Calls Tryd.prog 94 #[.agg #[.int .i64 m, .slice xa n0 xc, .slice (some ⟨rb, 0, none⟩) m m, .int .i64 D], .pointer (some cp)] wq fun e w' => ∃ u, e = .returned u ∧ OwnI w' wq.heap.size u Z ∧ Below wq.heap.size wq w') :
    Calls Tryd.prog 45 #[.agg #[.int .i64 m, .slice xa n0 xc], .func (Fn.func 94) #[] #[.pointer (some cp)]] w fun e w' => ∃ u, e = .returned (.tuple #[.int .i64 (lowU D Z), u, .bool true]) ∧ OwnI w' w.heap.size u (lowL D Z) ∧ Below w.heap.size w w' := by
  have BW : Below w.heap.size w (w.alloc (.cells #[.int .i64 m, .slice xa n0 xc] 26)) := by go_grown
  have C := Lib.hid (netOf_ok m n0 xc xa xs (w.alloc (.cells #[.int .i64 m, .slice xa n0 xc] 26)) (hr.later BW) (hT.later BW) hc)
  rw [← hD] at C
  have CH := Lib.hid CF
  have CL := Lib.hid (fun v w h => lowest_any D hDp v Z w h lZ bZ)
  clear hr hT hc BW hD bZ CF
  go_enter Tryd.func45, Tryd.ntmps45
  go_wp2_with fail
  refine C.out.mono ?_
  rintro e w2 ⟨rb, bs, rfl, hbl, mx, b2⟩
  have B2 : Hid (Below w.heap.size w w2) := Below.trans (by go_grown) (b2.mono (by simp only [World.size_alloc]; omega))
  have BE : Hid (Below w.heap.size w (w2.alloc (.cells #[.int .i64 m, .slice xa n0 xc, .slice (some ⟨rb, 0, none⟩) m m, .int .i64 D] 63))) := B2.out.alloc B2.out.size _
  have VE : Hid ((w2.alloc (.cells #[.int .i64 m, .slice xa n0 xc, .slice (some ⟨rb, 0, none⟩) m m, .int .i64 D] 63)).heap[w2.heap.size]? = some (.cells #[.int .i64 m, .slice xa n0 xc, .slice (some ⟨rb, 0, none⟩) m m, .int .i64 D] 63 (0, 0))) := heap_alloc_new _ _
  have ME := Lib.hid (mx.later (show Below w2.heap.size w2 (w2.alloc (.cells #[.int .i64 m, .slice xa n0 xc, .slice (some ⟨rb, 0, none⟩) m m, .int .i64 D] 63)) by go_grown))
  clear b2 C mx B2
  go_upto_region 4 with (fail)
  generalize w2.alloc (.cells #[.int .i64 m, .slice xa n0 xc, .slice (some ⟨rb, 0, none⟩) m m, .int .i64 D] 63) = w3 at *
  obtain ⟨⟨y0, y1, y2, y3⟩, -, yl⟩ := box4_at VE.out
  have CC := Lib.hid (CH.out w3.drew _ rb bs BE.out.drew ME.out.drew hbl)
  clear CH
  go_wp2_with fail
  go_region_law (first
    | ((try go_simp); go_at_call 94; refine CC.out.mono ?_; rintro e w4 ⟨u, rfl, o4, b4⟩; have P4 := Lib.hid ((b4.block w2.heap.size yl).trans VE.out); have B4 : Hid (Below w.heap.size w w4) := BE.out.drew.trans (b4.mono BE.out.size); have RU := Lib.hid o4.rd; obtain ⟨⟨x0, x1, x2, x3⟩, -, -⟩ := box4_at P4.out; clear o4 b4)
    | ((try go_simp); go_at_call 59; refine (CL.out _ _ RU.out).mono ?_; rintro e w5 ⟨u5, rfl, o5, b5⟩; have B5 : Hid (Below w.heap.size w w5) := B4.out.trans (b5.mono B4.out.size); have O5 := Lib.hid (OwnI.mono o5 B4.out.size); clear o5 b5))
  all_goals
    go_wp2
    go_ret3
    exact ⟨_, rfl, O5.out, B5.out⟩

end Go.Proofs.YtcmocilojloolaaDoor
