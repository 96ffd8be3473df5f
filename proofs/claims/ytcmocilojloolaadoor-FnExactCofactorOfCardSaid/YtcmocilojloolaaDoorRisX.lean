/- Differences of two points of a survey: the exact laws' two sides. (Written by tools/mkrisx.py.) -/
import Derived.Test.YtcmocilojloolaaDoorRisI
import Derived.Test.YtcmocilojloolaaDoorAdjS
import Derived.Deep.RegionLaw
namespace Go.Proofs.YtcmocilojloolaaDoor
open Go.ChangeShapes Go.WideShapes Go.ChangeAt Go.RowKit
set_option linter.unusedVariables false
set_option linter.unusedSimpArgs false

theorem Con.bdR {g : Sv} (hc : Con g) : (1 ≤ g.p.toNat ∧ g.p.toNat ≤ 5) ∧ g.x.length ≤ 8 ∧ (∀ x ∈ g.x, OkSt g.p.toNat x) ∧ (g.p.toNat : Int) = g.p := by
  have := hc.1.p0
  exact ⟨by omega, hc.1.n0, hc.1.sts, by omega⟩
theorem Con.svbR {w : World} {G m n0 xc : Nat} {ty : TypeId} {xa : Option Addr} {xs : List St} (hc : Con ⟨(m : Int), xa, xc, xs⟩) (hG : w.heap[G]? = some (.cells #[.int .i64 m, .slice xa n0 xc] ty (0, 0))) (hr : RdS 4 encSt w (.slice xa n0 xc) xs) : SvB w G ty m (m - 1) n0 xc xa xs := by
  obtain ⟨hm, l8, ok, ht⟩ := hc.facts (n0 := n0)
  have e0 : n0 = xs.length := RdSv.len (g := ⟨(m : Int), xa, xc, xs⟩) ⟨hr⟩
  exact ⟨by omega, hG, hr, e0, by omega, ok, ht, by omega⟩
/-- Two points of a valid, connected survey. -/
def Two (g : Sv) (a b : Int) : Prop := Con g ∧ (0 ≤ a ∧ a ≤ g.p - 1) ∧ (0 ≤ b ∧ b ≤ g.p - 1)
theorem two_same {g k : Sv} (s : g.same k) (a b : Int) : Two g a b ↔ Two k a b := by unfold Two; rw [con_same s, s.1]

set_option maxRecDepth 100000 in
set_option maxHeartbeats 4000000 in
theorem l10Point_any (G : Nat) (ty : TypeId) (g : Sv) (n0 : Nat) (w : World) (hG : w.heap[G]? = some (.cells #[.int .i64 g.p, .slice g.xa n0 g.xc] ty (0, 0))) (hr : RdSv w n0 g) (l0 : n0 ≤ 1048576) (k : Int) (b : Bool) (hb : b = true ↔ Con g ∧ 0 ≤ k ∧ k ≤ g.p - 1) :
    Calls Tryd.prog 60 #[.pointer (some ⟨G, 0, none⟩), .int .i64 k] w fun e w' => e = .returned (.bool b) ∧ Below w.heap.size w w' := by
  obtain ⟨b1, h1⟩ := bool_ofV (Con g)
  have C1 := Lib.hid (l10Whole_any G ty g n0 w hG hr l0 b1 h1)
  have lG := (Array.getElem?_eq_some_iff.1 hG).1
  have HG := Lib.hid hG
  have HB := Lib.hid hb
  have H1 := Lib.hid h1
  clear hG hr hb h1
  go_enter Tryd.func60, Tryd.ntmps60
  go_wp2_with fail
  refine C1.out.mono ?_
  rintro e w1 ⟨rfl, bb1⟩
  have B1 := Lib.hid bb1
  obtain ⟨⟨p0, p1⟩, -, -⟩ := boxedSv_at ((bb1.block G lG).trans HG.out)
  clear bb1 C1
  cases b1 with
  | false =>
    obtain rfl : b = false := b_false HB.out (fun h => by have := H1.out.mpr h.1; simp at this)
    clear HB H1
    go_wp2
    go_ret
    exact ⟨rfl, B1.out⟩
  | true =>
    have hc := H1.out.mp (by trivial)
    have hp := hc.1.p0
    have qp : IntKind.i64.wrap (g.p - 1) = g.p - 1 := IntWalk.i64_in _ (by omega)
    have C2 := Lib.hid (in_any k 0 (g.p - 1) b (by rw [HB.out]; exact ⟨fun h => h.2, fun h => ⟨hc, h⟩⟩) w1)
    clear hc HB H1
    go_wp2_with fail
    refine C2.out.mono ?_
    rintro e w2 ⟨rfl, rfl⟩
    clear C2
    go_wp2
    go_ret
    exact ⟨rfl, B1.out⟩


set_option maxRecDepth 100000 in
set_option maxHeartbeats 8000000 in
theorem implRiseBetween_no (g : Sv) (n0 : Nat) (a b : Int) (w : World) (hr : RdSv w n0 g) (l0 : n0 ≤ 1048576) (hT : TSv w) (hno : ¬ Two g a b) :
    Calls Tryd.prog 33 #[(.agg #[.int .i64 g.p, .slice g.xa n0 g.xc]), .int .i64 a, .int .i64 b] w fun e w' => e = .returned (.tuple #[.int .i64 0, .int .i64 0, .bool false]) ∧ Below w.heap.size w w' := by
  have W2 : Below w.heap.size w (((w.alloc (.cells #[.int .i64 g.p, .slice g.xa n0 g.xc] 26)).alloc (.cells #[.int .i64 a] 2)).alloc (.cells #[.int .i64 b] 2)) := by go_grown
  have W3 : w.heap.size ≤ (((w.alloc (.cells #[.int .i64 g.p, .slice g.xa n0 g.xc] 26)).alloc (.cells #[.int .i64 a] 2)).alloc (.cells #[.int .i64 b] 2)).heap.size := by simp; omega
  have C := Lib.hid (betweenRiseBetween_no g n0 a b (.func (Fn.func 62) #[] #[.pointer (some ⟨w.heap.size + 2, 0, none⟩), .pointer (some ⟨w.heap.size + 1, 0, none⟩)]) rfl (((w.alloc (.cells #[.int .i64 g.p, .slice g.xa n0 g.xc] 26)).alloc (.cells #[.int .i64 a] 2)).alloc (.cells #[.int .i64 b] 2)) (hr.later W2) l0 (hT.later W2) hno _ rfl)
  clear hr hT hno
  go_enter Tryd.func33, Tryd.ntmps33
  go_wp2_with fail
  refine C.out.mono ?_
  rintro e w2 ⟨rfl, b2⟩
  have B2 : Hid (Below w.heap.size w w2) := W2.trans (b2.mono W3)
  clear b2 C W2 W3
  go_wp2
  go_ret3
  exact ⟨rfl, B2.out⟩
set_option maxRecDepth 100000 in
set_option maxHeartbeats 8000000 in
theorem implRiseBetween_ok (m n0 xc a b : Nat) (xa : Option Addr) (xs : List St) (D V : Int) (w : World) (hr : RdS 4 encSt w (.slice xa n0 xc) xs) (hT : TSv w) (hc : Con ⟨(m : Int), xa, xc, xs⟩) (hD : D = det m (rowsP (m - 1) xs)) (hDp : 0 < D ∧ D ≤ 207360000) (hV : V = riseV m xs a b) (ha : a < m) (hb : b < m) (bV : Bd 162000000000000 (riseV m xs a b)) :
    Calls Tryd.prog 33 #[.agg #[.int .i64 m, .slice xa n0 xc], .int .i64 a, .int .i64 b] w fun e w' => e = .returned (.tuple #[.int .i64 (V.tdiv (gcdL D [V])), .int .i64 (lowU D [V]), .bool true]) ∧ Below w.heap.size w w' := by
  have W2 : Below w.heap.size w (((w.alloc (.cells #[.int .i64 m, .slice xa n0 xc] 26)).alloc (.cells #[.int .i64 a] 2)).alloc (.cells #[.int .i64 b] 2)) := by go_grown
  have W3 : w.heap.size ≤ (((w.alloc (.cells #[.int .i64 m, .slice xa n0 xc] 26)).alloc (.cells #[.int .i64 a] 2)).alloc (.cells #[.int .i64 b] 2)).heap.size := by simp; omega
  have C := Lib.hid (betweenRiseBetween_ok m n0 xc a b (w.heap.size + 1) (w.heap.size + 2) xa xs D (((w.alloc (.cells #[.int .i64 m, .slice xa n0 xc] 26)).alloc (.cells #[.int .i64 a] 2)).alloc (.cells #[.int .i64 b] 2)) (hr.later W2) (hT.later W2) hc hD hDp ha hb (cell_of_row _ (w.heap.size + 1) 0 _ _ _ (box3_1 w _ _ _)) (cell_of_row _ (w.heap.size + 2) 0 _ _ _ (box3_2 w _ _ _)) bV)
  rw [← hV] at C
  clear hr hT hc hD hV bV
  go_enter Tryd.func33, Tryd.ntmps33
  go_wp2_with fail
  refine C.out.mono ?_
  rintro e w2 ⟨rfl, b2⟩
  have B2 : Hid (Below w.heap.size w w2) := W2.trans (b2.mono W3)
  clear b2 C W2 W3
  go_wp2
  go_ret3
  exact ⟨rfl, B2.out⟩
set_option maxRecDepth 100000 in
set_option maxHeartbeats 8000000 in
theorem specRiseBetween_no (g : Sv) (n0 : Nat) (a b : Int) (w : World) (h : RdSv w n0 g) (l0 : n0 ≤ 1048576) (hno : ¬ Two g a b) :
    Calls Tryd.prog 32 #[(.agg #[.int .i64 g.p, .slice g.xa n0 g.xc]), .int .i64 a, .int .i64 b] w fun e w' => e = .returned (.tuple #[.int .i64 0, .int .i64 0, .bool false]) ∧ Below w.heap.size w w' := by
  have W2 : Hid (Below w.heap.size w (w.alloc (.cells #[.int .i64 g.p, .slice g.xa n0 g.xc] 26))) := by show Below _ _ _; go_grown
  obtain ⟨b1, h1⟩ := bool_ofV (Con g ∧ 0 ≤ a ∧ a ≤ g.p - 1)
  obtain ⟨b2, h2⟩ := bool_ofV (Con g ∧ 0 ≤ b ∧ b ≤ g.p - 1)
  have C1 := Lib.hid (l10Point_any w.heap.size 26 g n0 (w.alloc (.cells #[.int .i64 g.p, .slice g.xa n0 g.xc] 26)) (heap_alloc_new w _) (h.later W2.out) l0 a b1 h1)
  have C2 : Hid (∀ wq, Below w.heap.size w wq → wq.heap[w.heap.size]? = some (.cells #[.int .i64 g.p, .slice g.xa n0 g.xc] 26 (0, 0)) → Calls Tryd.prog 60 #[.pointer (some ⟨w.heap.size, 0, none⟩), .int .i64 b] wq fun e w' => e = .returned (.bool b2) ∧ Below wq.heap.size wq w') :=
    fun wq bl hG => l10Point_any w.heap.size 26 g n0 wq hG (h.later bl) l0 b b2 h2
  have hn : ¬ (b1 = true ∧ b2 = true) := fun hh => hno ⟨(h1.mp hh.1).1, (h1.mp hh.1).2, (h2.mp hh.2).2⟩
  have HN := Lib.hid hn
  clear h hno h1 h2 hn
  go_enter Tryd.func32, Tryd.ntmps32
  go_wp2_with fail
  refine C1.out.mono ?_
  rintro e w2 ⟨rfl, bb2⟩
  have B2 : Hid (Below w.heap.size w w2) := W2.out.trans (bb2.mono (by simp only [World.size_alloc]; omega))
  have V2 := (bb2.block w.heap.size (by simp)).trans (heap_alloc_new w (.cells #[.int .i64 g.p, .slice g.xa n0 g.xc] 26))
  have CC := Lib.hid (C2.out w2 B2.out V2)
  clear bb2 C1 C2 V2 W2
  cases b1 with
  | false =>
    clear HN CC
    go_wp2
    go_ret3
    exact ⟨rfl, B2.out⟩
  | true =>
    obtain rfl : b2 = false := by
      cases b2 with
      | false => rfl
      | true => exact absurd ⟨rfl, rfl⟩ HN.out
    clear HN
    go_wp2_with fail
    refine CC.out.mono ?_
    rintro e w3 ⟨rfl, bb3⟩
    have B3 : Hid (Below w.heap.size w w3) := B2.out.trans (bb3.mono B2.out.size)
    clear bb3 CC
    go_wp2
    go_ret3
    exact ⟨rfl, B3.out⟩
set_option maxRecDepth 100000 in
set_option maxHeartbeats 8000000 in
theorem specRiseBetween_ok (m n0 xc a b : Nat) (xa : Option Addr) (xs : List St) (D V : Int) (w : World) (hr : RdS 4 encSt w (.slice xa n0 xc) xs) (hc : Con ⟨(m : Int), xa, xc, xs⟩) (hD : D = det m (rowsP (m - 1) xs)) (hDp : 0 < D ∧ D ≤ 207360000) (hV : V = riseV m xs a b) (ha : a < m) (hb : b < m) (bV : Bd 162000000000000 (riseV m xs a b)) :
    Calls Tryd.prog 32 #[.agg #[.int .i64 m, .slice xa n0 xc], .int .i64 a, .int .i64 b] w fun e w' => e = .returned (.tuple #[.int .i64 (V.tdiv (gcdL D [V])), .int .i64 (lowU D [V]), .bool true]) ∧ Below w.heap.size w w' := by
  obtain ⟨hm, l8, ok, -⟩ := hc.facts (n0 := n0)
  have e0 : n0 = xs.length := RdSv.len (g := ⟨(m : Int), xa, xc, xs⟩) ⟨hr⟩
  have W1 : (w.alloc (.cells #[.int .i64 m, .slice xa n0 xc] 26)).heap[w.heap.size]? = some (.cells #[.int .i64 m, .slice xa n0 xc] 26 (0, 0)) := heap_alloc_new w _
  have W2 : Hid (Below w.heap.size w (w.alloc (.cells #[.int .i64 m, .slice xa n0 xc] 26))) := by show Below _ _ _; go_grown
  have W3 : (w.alloc (.cells #[.int .i64 m, .slice xa n0 xc] 26)).heap.size = w.heap.size + 1 := by simp
  have SB1 := Lib.hid (hc.svbR W1 (hr.later W2.out))
  have C1 : Hid (∀ (k : Nat) wq, k < m → Below w.heap.size w wq → wq.heap[w.heap.size]? = some (.cells #[.int .i64 m, .slice xa n0 xc] 26 (0, 0)) → Calls Tryd.prog 60 #[.pointer (some ⟨w.heap.size, 0, none⟩), .int .i64 k] wq fun e w' => e = .returned (.bool true) ∧ Below wq.heap.size wq w') :=
    fun k wq hk bl hG => l10Point_any w.heap.size 26 ⟨(m : Int), xa, xc, xs⟩ n0 wq hG ⟨hr.later bl⟩ (by omega) k true (by simp [hc]; omega)
  rw [← hV] at bV
  have C3 := Lib.hid (fun v wq h => l10Lowest_any D (by omega) v [V] wq h (by simp) (by intro z hz; simp only [List.mem_singleton] at hz; subst hz; exact bV.mono (by decide)))
  have C2 : Hid (∀ wq (hq : SvB wq w.heap.size 26 m (m - 1) n0 xc xa xs), Calls Tryd.prog 52 #[.pointer (some ⟨w.heap.size, 0, none⟩)] wq fun e w' => ∃ u, e = .returned (.tuple #[u, .int .i64 D]) ∧ OwnI w' wq.heap.size u (solL m (rowsP (m - 1) xs) (rightTo m xs xs.length)) ∧ Below wq.heap.size wq w') := by
    intro wq hq
    have := l10Adjusted_any w.heap.size 26 m (m - 1) n0 xc xa xs wq hq
    rwa [← hD, e0] at this
  have SB := solL_bd (by omega) ok l8 (rightTo_len m xs xs.length) (right_bd ok l8)
  have SLn := solL_len m (rowsP (m - 1) xs) (rightTo m xs xs.length)
  obtain ⟨S, hS⟩ : ∃ S, S = solL m (rowsP (m - 1) xs) (rightTo m xs xs.length) := ⟨_, rfl⟩
  rw [← hS] at C2 SB SLn
  obtain ⟨p, hp⟩ : ∃ p, S[b]? = some p := ⟨_, List.getElem?_eq_getElem (by omega)⟩
  obtain ⟨q, hq⟩ : ∃ q, S[a]? = some q := ⟨_, List.getElem?_eq_getElem (by omega)⟩
  have pbd := SB p (List.mem_of_getElem? hp)
  have qbd := SB q (List.mem_of_getElem? hq)
  unfold Bd at pbd qbd
  have q3 : IntKind.i64.wrap (p - q) = p - q := IntWalk.i64_in _ (by omega)
  have hV2 := hV
  unfold riseV at hV2
  rw [← hS] at hV2
  obtain rfl : V = p - q := by rw [hV2]; simp [List.getD, hp, hq]
  have HP := Lib.hid hp
  have HQ := Lib.hid hq
  have SH := Lib.hid SLn
  clear hp hq pbd qbd hV2 hS SB SLn
  have CA1 := Lib.hid (C1.out a _ ha W2.out W1)
  have HW1 := Lib.hid W1
  clear hr hc W1 hD hV bV e0 ok
  go_enter Tryd.func32, Tryd.ntmps32
  go_wp2_with fail
  refine CA1.out.mono ?_
  rintro e w2 ⟨rfl, bb2⟩
  have B2 : Hid (Below w.heap.size w w2) := W2.out.trans (bb2.mono (by omega))
  have SB2 := Lib.hid (SB1.out.later bb2)
  have CB1 := Lib.hid (C1.out b w2 hb B2.out SB2.out.hG)
  clear bb2 CA1 C1 SB1 HW1 W2 W3
  go_wp2_with fail
  refine CB1.out.mono ?_
  rintro e w3 ⟨rfl, bb3⟩
  have B3 : Hid (Below w.heap.size w w3) := B2.out.trans (bb3.mono B2.out.size)
  have SB3 := Lib.hid (SB2.out.later bb3)
  clear bb3 CB1 SB2 B2
  have CA := Lib.hid (C2.out w3 (SB3.out))
  clear C2
  go_wp2_with fail
  refine CA.out.mono ?_
  rintro e w4 ⟨u, rfl, o4, b4⟩
  have B4 : Hid (Below w.heap.size w w4) := B3.out.trans (b4.mono B3.out.size)
  obtain ⟨hb', hcap, rfl, hbl, hbw⟩ := OwnI.formedN o4 SH.out (by omega)
  have k1 := RdI.cellAtN o4.rd HP.out
  have k2 := RdI.cellAtN o4.rd HQ.out
  have z4 := B4.out.size
  have OX : Hid (OwnI (w4.alloc (.cells #[.int .i64 (p - q)] 2)).drew w.heap.size (.slice (some ⟨w4.heap.size, 0, none⟩) 1 1) [p - q]) :=
    ⟨by simp, .inr ⟨w4.heap.size, 1, _, rfl, z4, heap_alloc_new w4 _, Nat.le_refl _, by unfold maxLen; omega, by simp, by simp⟩⟩
  have BX : Hid (Below w.heap.size w (w4.alloc (.cells #[.int .i64 (p - q)] 2)).drew) := (B4.out.alloc z4 _).drew
  have CB := Lib.hid (C3.out _ _ OX.out.rd)
  clear o4 b4 CA C3 HP HQ SH SB3 OX
  go_wp2_with fail
  go_region_law ((try go_simp); go_at_call 53; refine CB.out.mono ?_; rintro e w5 ⟨u5, rfl, o5, b5⟩; have B5 : Hid (Below w.heap.size w w5) := BX.out.trans (b5.mono BX.out.size); have O5 := Lib.hid o5; clear b5 o5)
  all_goals
    obtain ⟨g, c, rfl, -, -⟩ := OwnI.formedN O5.out (lowL_len D [p - q]) (by simp)
    have k3 : w5.cell? ⟨g, 0, none⟩ = some (.int .i64 ((p - q).tdiv (gcdL D [p - q]))) := RdI.cellAtN O5.out.rd (by rfl)
    clear k1 k2 O5 CB BX
    go_wp2
    go_ret3
    exact ⟨rfl, B5.out⟩
theorem exRiseBetween (g0 : Sv) (n0 : Nat) (e0 : n0 = g0.x.length) (a1 a2 : Int) (lt : (n0 : Int) ≤ 1048576) : ∃ (r0 : Int) (r1 : Int) (r2 : Bool),
    Hid (∀ (w : World) (k0 : Sv), TSv w → k0.same g0 → k0.caps n0 → RdSv w n0 k0 → Calls Tryd.prog 32 #[(.agg #[.int .i64 k0.p, .slice k0.xa n0 k0.xc]), .int .i64 a1, .int .i64 a2] w fun e w' => e = .returned (.tuple #[.int .i64 r0, .int .i64 r1, .bool r2]) ∧ Below w.heap.size w w') ∧
    Hid (∀ (w : World) (k0 : Sv), TSv w → k0.same g0 → k0.caps n0 → RdSv w n0 k0 → Calls Tryd.prog 33 #[(.agg #[.int .i64 k0.p, .slice k0.xa n0 k0.xc]), .int .i64 a1, .int .i64 a2] w fun e w' => e = .returned (.tuple #[.int .i64 r0, .int .i64 r1, .bool r2]) ∧ Below w.heap.size w w') := by
  have l0 : n0 ≤ 1048576 := by omega
  by_cases ht : Two g0 a1 a2
  · have hc := ht.1
    have hU := unitOf_pos hc
    obtain ⟨b1, b2, b3, hp⟩ := hc.bdR
    obtain ⟨a, rfl⟩ : ∃ a : Nat, a1 = a := ⟨a1.toNat, by have := ht.2.1; omega⟩
    obtain ⟨b, rfl⟩ : ∃ b : Nat, a2 = b := ⟨a2.toNat, by have := ht.2.2; omega⟩
    have ha : a < g0.p.toNat := by have := ht.2.1; omega
    have hb : b < g0.p.toNat := by have := ht.2.2; omega
    obtain ⟨D, hD⟩ : ∃ D, D = unitOf g0 := ⟨_, rfl⟩
    obtain ⟨V, hV⟩ : ∃ V, V = riseV g0.p.toNat g0.x a b := ⟨_, rfl⟩
    have bV := riseV_bd b1 b3 b2 a b
    rw [← hD] at hU
    refine ⟨V.tdiv (gcdL D [V]), lowU D [V], true, fun w k0 hT s cp h => ?_, fun w k0 hT s cp h => ?_⟩
    all_goals
      obtain ⟨p, xa, xc, xs⟩ := k0
      have s1 : p = g0.p := s.1
      have s2 : xs = g0.x := s.2
      rw [← hp] at s1
      subst s1
      subst s2
      have hc' := (con_same s).mpr hc
      have hD' : D = det g0.p.toNat (rowsP (g0.p.toNat - 1) g0.x) := hD
    · exact specRiseBetween_ok g0.p.toNat n0 xc a b xa g0.x D V w h.r0 hc' hD' hU hV ha hb bV
    · exact implRiseBetween_ok g0.p.toNat n0 xc a b xa g0.x D V w h.r0 hT hc' hD' hU hV ha hb bV
  · exact ⟨0, 0, false, fun w k0 hT s cp h => specRiseBetween_no k0 n0 a1 a2 w h l0 (fun q => ht ((two_same s a1 a2).mp q)), fun w k0 hT s cp h => implRiseBetween_no k0 n0 a1 a2 w h l0 hT (fun q => ht ((two_same s a1 a2).mp q))⟩


set_option maxRecDepth 100000 in
set_option maxHeartbeats 8000000 in
theorem implCofactorOf_no (g : Sv) (n0 : Nat) (a b : Int) (w : World) (hr : RdSv w n0 g) (l0 : n0 ≤ 1048576) (hT : TSv w) (hno : ¬ Two g a b) :
    Calls Tryd.prog 35 #[(.agg #[.int .i64 g.p, .slice g.xa n0 g.xc]), .int .i64 a, .int .i64 b] w fun e w' => e = .returned (.tuple #[.int .i64 0, .int .i64 0, .bool false]) ∧ Below w.heap.size w w' := by
  have W2 : Below w.heap.size w (((w.alloc (.cells #[.int .i64 g.p, .slice g.xa n0 g.xc] 26)).alloc (.cells #[.int .i64 a] 2)).alloc (.cells #[.int .i64 b] 2)) := by go_grown
  have W3 : w.heap.size ≤ (((w.alloc (.cells #[.int .i64 g.p, .slice g.xa n0 g.xc] 26)).alloc (.cells #[.int .i64 a] 2)).alloc (.cells #[.int .i64 b] 2)).heap.size := by simp; omega
  have C := Lib.hid (betweenCofactorOf_no g n0 a b (.func (Fn.func 64) #[] #[.pointer (some ⟨w.heap.size + 1, 0, none⟩), .pointer (some ⟨w.heap.size + 2, 0, none⟩)]) rfl (((w.alloc (.cells #[.int .i64 g.p, .slice g.xa n0 g.xc] 26)).alloc (.cells #[.int .i64 a] 2)).alloc (.cells #[.int .i64 b] 2)) (hr.later W2) l0 (hT.later W2) hno _ rfl)
  clear hr hT hno
  go_enter Tryd.func35, Tryd.ntmps35
  go_wp2_with fail
  refine C.out.mono ?_
  rintro e w2 ⟨rfl, b2⟩
  have B2 : Hid (Below w.heap.size w w2) := W2.trans (b2.mono W3)
  clear b2 C W2 W3
  go_wp2
  go_ret3
  exact ⟨rfl, B2.out⟩
set_option maxRecDepth 100000 in
set_option maxHeartbeats 8000000 in
theorem implCofactorOf_ok (m n0 xc a b : Nat) (xa : Option Addr) (xs : List St) (D V : Int) (w : World) (hr : RdS 4 encSt w (.slice xa n0 xc) xs) (hT : TSv w) (hc : Con ⟨(m : Int), xa, xc, xs⟩) (hD : D = det m (rowsP (m - 1) xs)) (hDp : 0 < D ∧ D ≤ 207360000) (hV : V = cofV m (rowsP (m - 1) xs) a b) (ha : a < m) (hb : b < m) (bV : Bd 162000000000000 (cofV m (rowsP (m - 1) xs) a b)) :
    Calls Tryd.prog 35 #[.agg #[.int .i64 m, .slice xa n0 xc], .int .i64 a, .int .i64 b] w fun e w' => e = .returned (.tuple #[.int .i64 (V.tdiv (gcdL D [V])), .int .i64 (lowU D [V]), .bool true]) ∧ Below w.heap.size w w' := by
  have W2 : Below w.heap.size w (((w.alloc (.cells #[.int .i64 m, .slice xa n0 xc] 26)).alloc (.cells #[.int .i64 a] 2)).alloc (.cells #[.int .i64 b] 2)) := by go_grown
  have W3 : w.heap.size ≤ (((w.alloc (.cells #[.int .i64 m, .slice xa n0 xc] 26)).alloc (.cells #[.int .i64 a] 2)).alloc (.cells #[.int .i64 b] 2)).heap.size := by simp; omega
  have C := Lib.hid (betweenCofactorOf_ok m n0 xc a b (w.heap.size + 1) (w.heap.size + 2) xa xs D (((w.alloc (.cells #[.int .i64 m, .slice xa n0 xc] 26)).alloc (.cells #[.int .i64 a] 2)).alloc (.cells #[.int .i64 b] 2)) (hr.later W2) (hT.later W2) hc hD hDp ha hb (cell_of_row _ (w.heap.size + 1) 0 _ _ _ (box3_1 w _ _ _)) (cell_of_row _ (w.heap.size + 2) 0 _ _ _ (box3_2 w _ _ _)) bV)
  rw [← hV] at C
  clear hr hT hc hD hV bV
  go_enter Tryd.func35, Tryd.ntmps35
  go_wp2_with fail
  refine C.out.mono ?_
  rintro e w2 ⟨rfl, b2⟩
  have B2 : Hid (Below w.heap.size w w2) := W2.trans (b2.mono W3)
  clear b2 C W2 W3
  go_wp2
  go_ret3
  exact ⟨rfl, B2.out⟩
set_option maxRecDepth 100000 in
set_option maxHeartbeats 8000000 in
theorem specCofactorOf_no (g : Sv) (n0 : Nat) (a b : Int) (w : World) (h : RdSv w n0 g) (l0 : n0 ≤ 1048576) (hno : ¬ Two g a b) :
    Calls Tryd.prog 34 #[(.agg #[.int .i64 g.p, .slice g.xa n0 g.xc]), .int .i64 a, .int .i64 b] w fun e w' => e = .returned (.tuple #[.int .i64 0, .int .i64 0, .bool false]) ∧ Below w.heap.size w w' := by
  have W2 : Hid (Below w.heap.size w (w.alloc (.cells #[.int .i64 g.p, .slice g.xa n0 g.xc] 26))) := by show Below _ _ _; go_grown
  obtain ⟨b1, h1⟩ := bool_ofV (Con g ∧ 0 ≤ a ∧ a ≤ g.p - 1)
  obtain ⟨b2, h2⟩ := bool_ofV (Con g ∧ 0 ≤ b ∧ b ≤ g.p - 1)
  have C1 := Lib.hid (l10Point_any w.heap.size 26 g n0 (w.alloc (.cells #[.int .i64 g.p, .slice g.xa n0 g.xc] 26)) (heap_alloc_new w _) (h.later W2.out) l0 a b1 h1)
  have C2 : Hid (∀ wq, Below w.heap.size w wq → wq.heap[w.heap.size]? = some (.cells #[.int .i64 g.p, .slice g.xa n0 g.xc] 26 (0, 0)) → Calls Tryd.prog 60 #[.pointer (some ⟨w.heap.size, 0, none⟩), .int .i64 b] wq fun e w' => e = .returned (.bool b2) ∧ Below wq.heap.size wq w') :=
    fun wq bl hG => l10Point_any w.heap.size 26 g n0 wq hG (h.later bl) l0 b b2 h2
  have hn : ¬ (b1 = true ∧ b2 = true) := fun hh => hno ⟨(h1.mp hh.1).1, (h1.mp hh.1).2, (h2.mp hh.2).2⟩
  have HN := Lib.hid hn
  clear h hno h1 h2 hn
  go_enter Tryd.func34, Tryd.ntmps34
  go_wp2_with fail
  refine C1.out.mono ?_
  rintro e w2 ⟨rfl, bb2⟩
  have B2 : Hid (Below w.heap.size w w2) := W2.out.trans (bb2.mono (by simp only [World.size_alloc]; omega))
  have V2 := (bb2.block w.heap.size (by simp)).trans (heap_alloc_new w (.cells #[.int .i64 g.p, .slice g.xa n0 g.xc] 26))
  have CC := Lib.hid (C2.out w2 B2.out V2)
  clear bb2 C1 C2 V2 W2
  cases b1 with
  | false =>
    clear HN CC
    go_wp2
    go_ret3
    exact ⟨rfl, B2.out⟩
  | true =>
    obtain rfl : b2 = false := by
      cases b2 with
      | false => rfl
      | true => exact absurd ⟨rfl, rfl⟩ HN.out
    clear HN
    go_wp2_with fail
    refine CC.out.mono ?_
    rintro e w3 ⟨rfl, bb3⟩
    have B3 : Hid (Below w.heap.size w w3) := B2.out.trans (bb3.mono B2.out.size)
    clear bb3 CC
    go_wp2
    go_ret3
    exact ⟨rfl, B3.out⟩
set_option maxRecDepth 100000 in
set_option maxHeartbeats 8000000 in
theorem specCofactorOf_ok (m n0 xc a b : Nat) (xa : Option Addr) (xs : List St) (D V : Int) (w : World) (hr : RdS 4 encSt w (.slice xa n0 xc) xs) (hc : Con ⟨(m : Int), xa, xc, xs⟩) (hD : D = det m (rowsP (m - 1) xs)) (hDp : 0 < D ∧ D ≤ 207360000) (hV : V = cofV m (rowsP (m - 1) xs) a b) (ha : a < m) (hb : b < m) (bV : Bd 162000000000000 (cofV m (rowsP (m - 1) xs) a b)) :
    Calls Tryd.prog 34 #[.agg #[.int .i64 m, .slice xa n0 xc], .int .i64 a, .int .i64 b] w fun e w' => e = .returned (.tuple #[.int .i64 (V.tdiv (gcdL D [V])), .int .i64 (lowU D [V]), .bool true]) ∧ Below w.heap.size w w' := by
  obtain ⟨hm, l8, ok, -⟩ := hc.facts (n0 := n0)
  have e0 : n0 = xs.length := RdSv.len (g := ⟨(m : Int), xa, xc, xs⟩) ⟨hr⟩
  have W1 : (w.alloc (.cells #[.int .i64 m, .slice xa n0 xc] 26)).heap[w.heap.size]? = some (.cells #[.int .i64 m, .slice xa n0 xc] 26 (0, 0)) := heap_alloc_new w _
  have W2 : Hid (Below w.heap.size w (w.alloc (.cells #[.int .i64 m, .slice xa n0 xc] 26))) := by show Below _ _ _; go_grown
  have W3 : (w.alloc (.cells #[.int .i64 m, .slice xa n0 xc] 26)).heap.size = w.heap.size + 1 := by simp
  have SB1 := Lib.hid (hc.svbR W1 (hr.later W2.out))
  have C1 : Hid (∀ (k : Nat) wq, k < m → Below w.heap.size w wq → wq.heap[w.heap.size]? = some (.cells #[.int .i64 m, .slice xa n0 xc] 26 (0, 0)) → Calls Tryd.prog 60 #[.pointer (some ⟨w.heap.size, 0, none⟩), .int .i64 k] wq fun e w' => e = .returned (.bool true) ∧ Below wq.heap.size wq w') :=
    fun k wq hk bl hG => l10Point_any w.heap.size 26 ⟨(m : Int), xa, xc, xs⟩ n0 wq hG ⟨hr.later bl⟩ (by omega) k true (by simp [hc]; omega)
  rw [← hV] at bV
  have C3 := Lib.hid (fun v wq h => l10Lowest_any D (by omega) v [V] wq h (by simp) (by intro z hz; simp only [List.mem_singleton] at hz; subst hz; exact bV.mono (by decide)))
  have C2 : Hid (∀ wq (hq : SvB wq w.heap.size 26 m (m - 1) n0 xc xa xs), Calls Tryd.prog 63 #[.pointer (some ⟨w.heap.size, 0, none⟩), .int .i64 a, .int .i64 b] wq fun e w' => e = .returned (.tuple #[.int .i64 V, .int .i64 D]) ∧ Below wq.heap.size wq w') := by
    intro wq hq
    have := l10Cofactor_any w.heap.size 26 m (m - 1) n0 xc a b xa xs wq hq ha hb
    rwa [← hD, ← hV] at this
  have CA1 := Lib.hid (C1.out a _ ha W2.out W1)
  have HW1 := Lib.hid W1
  clear hr hc W1 hD hV bV e0 ok
  go_enter Tryd.func34, Tryd.ntmps34
  go_wp2_with fail
  refine CA1.out.mono ?_
  rintro e w2 ⟨rfl, bb2⟩
  have B2 : Hid (Below w.heap.size w w2) := W2.out.trans (bb2.mono (by omega))
  have SB2 := Lib.hid (SB1.out.later bb2)
  have CB1 := Lib.hid (C1.out b w2 hb B2.out SB2.out.hG)
  clear bb2 CA1 C1 SB1 HW1 W2 W3
  go_wp2_with fail
  refine CB1.out.mono ?_
  rintro e w3 ⟨rfl, bb3⟩
  have B3 : Hid (Below w.heap.size w w3) := B2.out.trans (bb3.mono B2.out.size)
  have SB3 := Lib.hid (SB2.out.later bb3)
  clear bb3 CB1 SB2 B2
  have CA := Lib.hid (C2.out w3 (SB3.out))
  clear C2
  go_wp2_with fail
  refine CA.out.mono ?_
  rintro e w4 ⟨rfl, b4⟩
  have B4 : Hid (Below w.heap.size w w4) := B3.out.trans (b4.mono B3.out.size)
  have z4 := B4.out.size
  have OX : Hid (OwnI (w4.alloc (.cells #[.int .i64 V] 2)) w.heap.size (.slice (some ⟨w4.heap.size, 0, none⟩) 1 1) [V]) :=
    ⟨by simp, .inr ⟨w4.heap.size, 1, _, rfl, z4, heap_alloc_new w4 _, Nat.le_refl _, by unfold maxLen; omega, by simp, by simp⟩⟩
  have BX : Hid (Below w.heap.size w (w4.alloc (.cells #[.int .i64 V] 2))) := B4.out.alloc z4 _
  have CB := Lib.hid (C3.out _ _ OX.out.rd)
  clear b4 CA C3 SB3 OX
  go_wp2_with fail
  refine CB.out.mono ?_
  rintro e w5 ⟨u5, rfl, o5, b5⟩
  have B5 : Hid (Below w.heap.size w w5) := BX.out.trans (b5.mono BX.out.size)
  obtain ⟨g, c, rfl, -, -⟩ := OwnI.formedN o5 (lowL_len D [V]) (by simp)
  have k3 : w5.cell? ⟨g, 0, none⟩ = some (.int .i64 (V.tdiv (gcdL D [V]))) := RdI.cellAtN o5.rd (by rfl)
  clear o5 b5 CB BX
  go_wp2
  go_ret3
  exact ⟨rfl, B5.out⟩
theorem exCofactorOf (g0 : Sv) (n0 : Nat) (e0 : n0 = g0.x.length) (a1 a2 : Int) (lt : (n0 : Int) ≤ 1048576) : ∃ (r0 : Int) (r1 : Int) (r2 : Bool),
    Hid (∀ (w : World) (k0 : Sv), TSv w → k0.same g0 → k0.caps n0 → RdSv w n0 k0 → Calls Tryd.prog 34 #[(.agg #[.int .i64 k0.p, .slice k0.xa n0 k0.xc]), .int .i64 a1, .int .i64 a2] w fun e w' => e = .returned (.tuple #[.int .i64 r0, .int .i64 r1, .bool r2]) ∧ Below w.heap.size w w') ∧
    Hid (∀ (w : World) (k0 : Sv), TSv w → k0.same g0 → k0.caps n0 → RdSv w n0 k0 → Calls Tryd.prog 35 #[(.agg #[.int .i64 k0.p, .slice k0.xa n0 k0.xc]), .int .i64 a1, .int .i64 a2] w fun e w' => e = .returned (.tuple #[.int .i64 r0, .int .i64 r1, .bool r2]) ∧ Below w.heap.size w w') := by
  have l0 : n0 ≤ 1048576 := by omega
  by_cases ht : Two g0 a1 a2
  · have hc := ht.1
    have hU := unitOf_pos hc
    obtain ⟨b1, b2, b3, hp⟩ := hc.bdR
    obtain ⟨a, rfl⟩ : ∃ a : Nat, a1 = a := ⟨a1.toNat, by have := ht.2.1; omega⟩
    obtain ⟨b, rfl⟩ : ∃ b : Nat, a2 = b := ⟨a2.toNat, by have := ht.2.2; omega⟩
    have ha : a < g0.p.toNat := by have := ht.2.1; omega
    have hb : b < g0.p.toNat := by have := ht.2.2; omega
    obtain ⟨D, hD⟩ : ∃ D, D = unitOf g0 := ⟨_, rfl⟩
    obtain ⟨V, hV⟩ : ∃ V, V = cofV g0.p.toNat (rowsP (g0.p.toNat - 1) g0.x) a b := ⟨_, rfl⟩
    have bV := cofV_bd b1 b3 b2 a b
    rw [← hD] at hU
    refine ⟨V.tdiv (gcdL D [V]), lowU D [V], true, fun w k0 hT s cp h => ?_, fun w k0 hT s cp h => ?_⟩
    all_goals
      obtain ⟨p, xa, xc, xs⟩ := k0
      have s1 : p = g0.p := s.1
      have s2 : xs = g0.x := s.2
      rw [← hp] at s1
      subst s1
      subst s2
      have hc' := (con_same s).mpr hc
      have hD' : D = det g0.p.toNat (rowsP (g0.p.toNat - 1) g0.x) := hD
    · exact specCofactorOf_ok g0.p.toNat n0 xc a b xa g0.x D V w h.r0 hc' hD' hU hV ha hb bV
    · exact implCofactorOf_ok g0.p.toNat n0 xc a b xa g0.x D V w h.r0 hT hc' hD' hU hV ha hb bV
  · exact ⟨0, 0, false, fun w k0 hT s cp h => specCofactorOf_no k0 n0 a1 a2 w h l0 (fun q => ht ((two_same s a1 a2).mp q)), fun w k0 hT s cp h => implCofactorOf_no k0 n0 a1 a2 w h l0 hT (fun q => ht ((two_same s a1 a2).mp q))⟩

end Go.Proofs.YtcmocilojloolaaDoor
