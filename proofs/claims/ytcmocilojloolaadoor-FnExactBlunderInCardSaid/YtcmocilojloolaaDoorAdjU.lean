/- Adjusted heights, cofactors, residuals and redundancies: of the specification. (Written by tools/mkadjs.py.) -/
import Derived.Test.YtcmocilojloolaaDoorSolS
import Derived.Test.YtcmocilojloolaaDoorLowS
import Derived.Test.YtcmocilojloolaaDoorNetJ
import Derived.Deep.RegionLaw
import Derived.StillTailTactics
namespace Go.Proofs.YtcmocilojloolaaDoor
open Go.ChangeShapes Go.WideShapes Go.ChangeAt Go.RowKit
set_option linter.unusedVariables false
set_option linter.unusedSimpArgs false

/-- A survey in its box, valid and connected. -/
structure SvB (w : World) (G : Nat) (ty : TypeId) (m n n0 xc : Nat) (xa : Option Addr) (xs : List St) : Prop where
  mn : m = n + 1
  hG : w.heap[G]? = some (.cells #[.int .i64 m, .slice xa n0 xc] ty (0, 0))
  hr : RdS 4 encSt w (.slice xa n0 xc) xs
  e0 : n0 = xs.length
  l8 : n0 ≤ 8
  ok : ∀ x ∈ xs, OkSt m x
  hc : trAll (trTo m xs xs.length) = true
  hn : 1 ≤ n ∧ n ≤ 4
theorem SvB.later {w w' : World} {G : Nat} {ty : TypeId} {m n n0 xc : Nat} {xa : Option Addr} {xs : List St} (h : SvB w G ty m n n0 xc xa xs) (b : Below w.heap.size w w') : SvB w' G ty m n n0 xc xa xs :=
  ⟨h.mn, (b.block G (Array.getElem?_eq_some_iff.1 h.hG).1).trans h.hG, h.hr.later b, h.e0, h.l8, h.ok, h.hc, h.hn⟩

set_option maxRecDepth 100000 in
set_option maxHeartbeats 16000000 in
theorem l10Adjusted_any (G : Nat) (ty : TypeId) (m n n0 xc : Nat) (xa : Option Addr) (xs : List St) (w : World) (hs : SvB w G ty m n n0 xc xa xs) :
    Calls Tryd.prog 52 #[.pointer (some ⟨G, 0, none⟩)] w fun e w' => ∃ u, e = .returned (.tuple #[u, .int .i64 (det m (rowsP n xs))]) ∧ OwnI w' w.heap.size u (solL m (rowsP n xs) (rightTo m xs n0)) ∧ Below w.heap.size w w' := by
  obtain ⟨i0, hi, hz0, hz1, hz2⟩ := info_parts info_i64
  have hm : 2 ≤ m ∧ m ≤ 5 := by have := hs.mn; have := hs.hn; omega
  have l8 := hs.l8
  have H := Lib.hid hs.hr
  have E0 := Lib.hid hs.e0
  have OK := Lib.hid hs.ok
  have HG := Lib.hid hs.hG
  have lG : G < w.heap.size := (Array.getElem?_eq_some_iff.1 hs.hG).1
  have C : Hid (∀ wq lb, Below w.heap.size w wq → Rw wq lb (rightTo m xs n0) → Calls Tryd.prog 86 #[.pointer (some ⟨G, 0, none⟩), .slice (some ⟨lb, 0, none⟩) m m] wq fun e w' => ∃ u, e = .returned (.tuple #[u, .int .i64 (det m (rowsP n xs))]) ∧ OwnI w' wq.heap.size u (solL m (rowsP n xs) (rightTo m xs n0)) ∧ Below wq.heap.size wq w') := by
    intro wq lb b h
    have q := hs.later b
    exact l10Solve_any G ty m n n0 xc xa xs (some ⟨lb, 0, none⟩) m (rightTo m xs n0) wq q.mn q.hG q.hr q.e0 q.l8 q.ok q.hc q.hn (h.rd (rightTo_len _ _ _).symm) (rightTo_len _ _ _) (by rw [q.e0]; exact right_bd q.ok (by have := q.e0; omega))
  obtain ⟨S, hS⟩ : ∃ S, S = solL m (rowsP n xs) (rightTo m xs n0) := ⟨_, rfl⟩
  obtain ⟨D, hD⟩ : ∃ D, D = det m (rowsP n xs) := ⟨_, rfl⟩
  rw [← hS, ← hD] at C ⊢
  obtain ⟨⟨p0, p1⟩, -, -⟩ := boxedSv_at hs.hG
  clear hs hS hD
  go_enter Tryd.func52, Tryd.ntmps52
  go_wp2_with (first | (at_make; refine wpList_make_full _ rfl _ _ _ rfl w.heap.size 2 i0 (.int .i64 0) 1 Tryd.underlying28 hi hz0 hz1 .i64 .i64 _ _ m rfl rfl rfl rfl ?b2 ?b3 (Nat.le_refl _) ?_) | go_in)
  case b2 => rw [hz2]; omega
  case b3 => unfold maxLen; omega
  intro w1 hown hg
  rw [toList_madeCells_one] at hown
  obtain ⟨lb, hlb⟩ : ∃ lb, lb = w.heap.size := ⟨_, rfl⟩
  rw [← hlb] at hown
  have O1 : Hid (Rw w1 lb (rightTo m xs 0)) := (Rw.made hown).2
  have V2 : Hid (Below w.heap.size w w1) := (Below.refl _ _).grown hg (Nat.le_refl _) (fun k h => by cases h)
  have rl : w.heap.size ≤ lb := by omega
  obtain ⟨⟨p0', p1'⟩, -, -⟩ := boxedSv_at ((V2.out.block G lG).trans HG.out)
  clear hown hg p0 p1
  go_wp2
  rw [← hlb]
  clear hlb
  go_loopw [5, 6] (fun i _ wr => ∃ k : Nat, k ≤ n0 ∧ i = .int .i64 k ∧ Hid (Rw wr lb (rightTo m xs k)) ∧ Hid (Below w.heap.size w wr)) (fun i _ _ => n0 - (intOf i).toNat)
  case atStart => exact ⟨0, by omega, rfl, O1, V2⟩
  case round =>
    obtain ⟨k, hk, rfl, ho, B2⟩ := hrel
    clear O1 V2 p0' p1'
    obtain ⟨⟨p0, p1⟩, -, -⟩ := boxedSv_at ((B2.out.block G lG).trans HG.out)
    by_cases hlt : k < n0
    · obtain ⟨x, hx⟩ : ∃ x, xs[k]? = some x := ⟨_, List.getElem?_eq_getElem (by have := E0.out; omega)⟩
      have okx := OK.out x (List.mem_of_getElem? hx)
      obtain ⟨ba, oa, ea, u0, u1, u2, u3⟩ := (H.out.later B2.out).at4g k x hx _ _ _ _ rfl
      rw [ea] at p1
      have RS := rightTo_succ (m := m) hx
      have pb := prod_bd300 okx
      obtain ⟨f, t, r, v⟩ := x
      obtain ⟨F, hf⟩ : ∃ F : Nat, f = F := ⟨f.toNat, by have := okx.f0; simp only at this; omega⟩
      obtain ⟨T, ht⟩ : ∃ T : Nat, t = T := ⟨t.toNat, by have := okx.t0; simp only at this; omega⟩
      subst hf
      subst ht
      have Fn : F < m := by have := okx.f1; simp only at this; omega
      have Tn : T < m := by have := okx.t1; simp only at this; omega
      have ne : T ≠ F := by have := okx.ne; simp only at this; omega
      simp only [Int.toNat_natCast] at u0 u1 u2 u3 RS pb
      obtain ⟨L, hL⟩ : ∃ L, L = rightTo m xs k := ⟨_, rfl⟩
      have LL : L.length = m := by rw [hL]; exact rightTo_len _ _ _
      have LB : ∀ y ∈ L, Bd 2400 y := by rw [hL]; exact fun y hy => (rightTo_bd OK.out k y hy).mono (by omega)
      obtain ⟨y, hy⟩ : ∃ y, L[T]? = some y := ⟨_, List.getElem?_eq_getElem (by omega)⟩
      obtain ⟨z, hz⟩ : ∃ z, L[F]? = some z := ⟨_, List.getElem?_eq_getElem (by omega)⟩
      have yb := LB y (List.mem_of_getElem? hy)
      have zb := LB z (List.mem_of_getElem? hz)
      have RS' : Hid (rightTo m xs (k + 1) = (L.set T (y + v * r)).set F (z - v * r)) := by
        show _ = _
        rw [RS, ← hL]
        simp [List.getD, hy, hz]
      rw [← hL] at ho
      have HY := Lib.hid hy
      have HZ : Hid ((L.set T (y + v * r))[F]? = some z) := by show _ = _; rw [List.getElem?_set_ne ne]; exact hz
      unfold Bd at pb yb zb
      obtain ⟨P, hP⟩ : ∃ P, P = v * r := ⟨_, rfl⟩
      have q0 : IntKind.i64.wrap (v * r) = P := by rw [hP]; exact IntWalk.i64_in _ (by omega)
      rw [← hP] at pb RS' HZ
      have q1 : IntKind.i64.wrap (y + P) = y + P := IntWalk.i64_in _ (by omega)
      have q2 : IntKind.i64.wrap (z - P) = z - P := IntWalk.i64_in _ (by omega)
      have lbw := ho.out.lt
      have NS : Hid ((wr.alloc (.cells #[.int .i64 F, .int .i64 T, .int .i64 r, .int .i64 v] 32)).heap[wr.heap.size]? = some (.cells #[.int .i64 F, .int .i64 T, .int .i64 r, .int .i64 v] 32 (0, 0))) := heap_alloc_new wr _
      have AB : Below wr.heap.size wr (wr.alloc (.cells #[.int .i64 F, .int .i64 T, .int .i64 r, .int .i64 v] 32)) := by go_grown
      have L1 := Lib.hid (ho.out.later AB)
      have B3 : Hid (Below w.heap.size w (wr.alloc (.cells #[.int .i64 F, .int .i64 T, .int .i64 r, .int .i64 v] 32))) := B2.out.trans (AB.mono B2.out.size)
      clear hx okx AB ho B2 hL LB yb zb pb RS hy hz hP C H
      go_upto_region 6 with (fail)
      generalize wr.alloc (.cells #[.int .i64 F, .int .i64 T, .int .i64 r, .int .i64 v] 32) = wa at *
      have wne : lb ≠ wr.heap.size := by omega
      go_cut [] (fun wx => Hid (Rw wx lb (L.set T (y + P))) ∧ Hid (wx.heap[wr.heap.size]? = some (.cells #[.int .i64 F, .int .i64 T, .int .i64 r, .int .i64 v] 32 (0, 0))) ∧ Hid (Below w.heap.size w wx))
      case first =>
        obtain ⟨⟨s0, s1, s2, s3⟩, -, ls⟩ := boxSt_at (q := ⟨F, T, r, v⟩) NS.out
        simp only at s0 s1 s2 s3
        have c1 := L1.out.cell HY.out
        have f1 := L1.out.frozen T
        have MN : Hid (Rw (wa.setCell ⟨lb, T, none⟩ (.int .i64 (y + P))).drew lb (L.set T (y + P))) := L1.out.store T (y + P)
        have NN : Hid ((wa.setCell ⟨lb, T, none⟩ (.int .i64 (y + P))).drew.heap[wr.heap.size]? = some (.cells #[.int .i64 F, .int .i64 T, .int .i64 r, .int .i64 v] 32 (0, 0))) := (Below.heap_setCell _ _ _ _ (fun e => wne e.symm)).trans NS.out
        have BN : Hid (Below w.heap.size w (wa.setCell ⟨lb, T, none⟩ (.int .i64 (y + P))).drew) := (B3.out.setCell (p := ⟨lb, T, none⟩) (by show w.heap.size ≤ lb; omega) _).drew
        clear L1 B3 NS HY HZ RS' OK E0
        go_wp2_with fail
        go_region
        go_wp2_with fail
        go_meet
        exact ⟨MN, NN, BN⟩
      case rest =>
        clear L1 B3 NS
        obtain ⟨w5, hwc⟩ : ∃ x, x = wc := ⟨_, rfl⟩
        rw [← hwc] at hcut ⊢; clear hwc
        obtain ⟨L2, NS2, B4⟩ := hcut
        obtain ⟨⟨s0, s1, s2, s3⟩, -, ls⟩ := boxSt_at (q := ⟨F, T, r, v⟩) NS2.out
        simp only at s0 s1 s2 s3
        have c1 := L2.out.cell HZ.out
        have f1 := L2.out.frozen F
        have MN : Hid (Rw (w5.setCell ⟨lb, F, none⟩ (.int .i64 (z - P))).drew lb (rightTo m xs (k + 1))) := by
          show Rw _ _ _
          rw [RS'.out]; exact L2.out.store F (z - P)
        have BN : Hid (Below w.heap.size w (w5.setCell ⟨lb, F, none⟩ (.int .i64 (z - P))).drew) := (B4.out.setCell (p := ⟨lb, F, none⟩) (by show w.heap.size ≤ lb; omega) _).drew
        clear L2 B4 NS2 HY HZ RS'
        go_wp2_with fail
        go_region
        clear s0 s1 s2 s3 c1 f1
        generalize (w5.setCell ⟨lb, F, none⟩ (.int .i64 (z - P))).drew = w8 at *
        go_wp2
        exact ⟨⟨k + 1, by omega, by go_num, MN, BN⟩, by simp only [intOf]; omega⟩
    · obtain rfl : k = n0 := by omega
      have CC := Lib.hid (C.out wr lb B2.out ho.out)
      have sz := B2.out.size
      clear C ho
      go_wp2_with fail
      refine CC.out.mono ?_
      rintro e w5 ⟨u, rfl, o5, b5⟩
      have O5 := Lib.hid (OwnI.mono o5 sz)
      have B5 : Hid (Below w.heap.size w w5) := B2.out.trans (b5.mono sz)
      clear o5 b5 CC
      go_wp2
      go_ret2
      exact ⟨_, rfl, O5.out, B5.out⟩

set_option maxRecDepth 100000 in
set_option maxHeartbeats 16000000 in
theorem l10Cofactor_any (G : Nat) (ty : TypeId) (m n n0 xc a b : Nat) (xa : Option Addr) (xs : List St) (w : World) (hs : SvB w G ty m n n0 xc xa xs) (ha : a < m) (hb : b < m) :
    Calls Tryd.prog 63 #[.pointer (some ⟨G, 0, none⟩), .int .i64 a, .int .i64 b] w fun e w' => e = .returned (.tuple #[.int .i64 (cofV m (rowsP n xs) a b), .int .i64 (det m (rowsP n xs))]) ∧ Below w.heap.size w w' := by
  obtain ⟨i0, hi, hz0, hz1, hz2⟩ := info_parts info_i64
  have hm : 2 ≤ m ∧ m ≤ 5 := by have := hs.mn; have := hs.hn; omega
  have HG := Lib.hid hs.hG
  have lG : G < w.heap.size := (Array.getElem?_eq_some_iff.1 hs.hG).1
  have C : Hid (∀ wq lb, Below w.heap.size w wq → Rw wq lb (cofB m a b) → Calls Tryd.prog 86 #[.pointer (some ⟨G, 0, none⟩), .slice (some ⟨lb, 0, none⟩) m m] wq fun e w' => ∃ u, e = .returned (.tuple #[u, .int .i64 (det m (rowsP n xs))]) ∧ OwnI w' wq.heap.size u (solL m (rowsP n xs) (cofB m a b)) ∧ Below wq.heap.size wq w') := by
    intro wq lb bl h
    have q := hs.later bl
    exact l10Solve_any G ty m n n0 xc xa xs (some ⟨lb, 0, none⟩) m (cofB m a b) wq q.mn q.hG q.hr q.e0 q.l8 q.ok q.hc q.hn (h.rd (cofB_len _ _ _).symm) (cofB_len _ _ _) (cofB_bd _ _ _)
  have SB : Hid (∀ y ∈ solL m (rowsP n xs) (cofB m a b), Bd 81000000000000 y) := by
    have h := solL_bd (m := m) (by omega) hs.ok (by have := hs.e0; have := hs.l8; omega) (cofB_len m a b) (cofB_bd m a b)
    rwa [show m - 1 = n by have := hs.mn; omega] at h
  have SLn := Lib.hid (solL_len m (rowsP n xs) (cofB m a b))
  have CV : Hid (cofV m (rowsP n xs) a b = (solL m (rowsP n xs) (cofB m a b)).getD b 0 - (solL m (rowsP n xs) (cofB m a b)).getD a 0) := rfl
  obtain ⟨V, hV⟩ : ∃ V, V = cofV m (rowsP n xs) a b := ⟨_, rfl⟩
  obtain ⟨S, hS⟩ : ∃ S, S = solL m (rowsP n xs) (cofB m a b) := ⟨_, rfl⟩
  obtain ⟨D, hD⟩ : ∃ D, D = det m (rowsP n xs) := ⟨_, rfl⟩
  rw [← hV, ← hS] at CV
  rw [← hS] at C SB SLn
  rw [← hD] at C
  rw [← hV, ← hD]
  obtain ⟨L0, hL0⟩ : ∃ L, L = List.replicate m (0 : Int) := ⟨_, rfl⟩
  have e1 : L0[b]? = some 0 := by rw [hL0, List.getElem?_replicate, if_pos hb]
  obtain ⟨z, hz⟩ : ∃ z, (L0.set b 1)[a]? = some z := ⟨_, List.getElem?_eq_getElem (by rw [hL0]; simp; omega)⟩
  have zb : -1 ≤ z ∧ z ≤ 1 := by
    have h := List.mem_of_getElem? hz
    rcases List.mem_or_eq_of_mem_set h with h | h
    · rw [hL0] at h; rw [List.eq_of_mem_replicate h]; omega
    · rw [h]; omega
  have CB : Hid (cofB m a b = (L0.set b 1).set a (z - 1)) := by
    show _ = _
    unfold cofB
    rw [← hL0]
    simp [List.getD, hz]
  have q2 : IntKind.i64.wrap (z - 1) = z - 1 := IntWalk.i64_in _ (by omega)
  have E1 := Lib.hid e1
  have HZ := Lib.hid hz
  have HL0 := Lib.hid hL0
  obtain ⟨⟨p0, p1⟩, -, -⟩ := boxedSv_at hs.hG
  clear hs hV hS hD e1 hz zb hL0
  go_enter Tryd.func63, Tryd.ntmps63
  go_wp2_with (first | (at_make; refine wpList_make_full _ rfl _ _ _ rfl w.heap.size 2 i0 (.int .i64 0) 1 Tryd.underlying28 hi hz0 hz1 .i64 .i64 _ _ m rfl rfl rfl rfl ?b2 ?b3 (Nat.le_refl _) ?_) | go_in)
  case b2 => rw [hz2]; omega
  case b3 => unfold maxLen; omega
  intro w1 hown hg
  rw [toList_madeCells_one] at hown
  have O1 : Hid (Rw w1 w.heap.size L0) := by show Rw _ _ _; rw [HL0.out]; exact (Rw.made hown).2
  have V2 : Hid (Below w.heap.size w w1) := (Below.refl _ _).grown hg (Nat.le_refl _) (fun k h => by cases h)
  clear hown hg p0 p1
  have c0 := O1.out.cell E1.out
  have f0 := O1.out.frozen b
  have O2 : Hid (Rw (w1.setCell ⟨w.heap.size, b, none⟩ (.int .i64 1)) w.heap.size (L0.set b 1)) := O1.out.store b 1
  have V3 : Hid (Below w.heap.size w (w1.setCell ⟨w.heap.size, b, none⟩ (.int .i64 1))) := V2.out.setCell (p := ⟨w.heap.size, b, none⟩) (Nat.le_refl _) _
  have q1 : IntKind.i64.wrap (0 + 1) = 1 := rfl
  go_upto_region 3 with (fail)
  clear c0 f0 q1 O1 V2
  generalize w1.setCell ⟨w.heap.size, b, none⟩ (.int .i64 1) = w2 at *
  have c0 := O2.out.cell HZ.out
  have f0 := O2.out.frozen a
  have O4 : Hid (Rw (w2.setCell ⟨w.heap.size, a, none⟩ (.int .i64 (z - 1))) w.heap.size (cofB m a b)) := by show Rw _ _ _; rw [CB.out]; exact O2.out.store a (z - 1)
  have V4 : Hid (Below w.heap.size w (w2.setCell ⟨w.heap.size, a, none⟩ (.int .i64 (z - 1)))) := V3.out.setCell (p := ⟨w.heap.size, a, none⟩) (Nat.le_refl _) _
  go_upto_region 4 with (fail)
  clear c0 f0 O2 V3 q2
  generalize w2.setCell ⟨w.heap.size, a, none⟩ (.int .i64 (z - 1)) = w3 at *
  have CC := Lib.hid (C.out w3 w.heap.size V4.out O4.out)
  have sz := V4.out.size
  clear C O4
  go_wp2_with fail
  refine CC.out.mono ?_
  rintro e w5 ⟨u, rfl, o5, b5⟩
  have B5 : Hid (Below w.heap.size w w5) := V4.out.trans (b5.mono sz)
  obtain ⟨p, hp⟩ : ∃ p, S[b]? = some p := ⟨_, List.getElem?_eq_getElem (by have := SLn.out; omega)⟩
  obtain ⟨q, hq⟩ : ∃ q, S[a]? = some q := ⟨_, List.getElem?_eq_getElem (by have := SLn.out; omega)⟩
  have pb := SB.out p (List.mem_of_getElem? hp)
  have qb := SB.out q (List.mem_of_getElem? hq)
  unfold Bd at pb qb
  have q3 : IntKind.i64.wrap (p - q) = p - q := IntWalk.i64_in _ (by omega)
  obtain rfl : V = p - q := by rw [CV.out]; simp [List.getD, hp, hq]
  obtain ⟨g, c, rfl, -, -⟩ := OwnI.formedN o5 SLn.out (by omega)
  have k1 := RdI.cellAtN o5.rd hp
  have k2 := RdI.cellAtN o5.rd hq
  clear CC o5 b5 hp hq pb qb CV SB SLn CB HL0 V4
  go_wp2_with fail
  go_region
  all_goals
    go_wp2
    go_ret2
    exact ⟨rfl, below_drewN B5.out 1⟩

set_option maxRecDepth 100000 in
set_option maxHeartbeats 16000000 in
theorem l10Residuals_any (G : Nat) (ty : TypeId) (m n n0 xc : Nat) (xa : Option Addr) (xs : List St) (D : Int) (Z : List Int) (w : World) (hs : SvB w G ty m n n0 xc xa xs) (hD : D = det m (rowsP n xs)) (hDp : 0 < D ∧ D ≤ 207360000) (hZ : Z = errL D (solL m (rowsP n xs) (rightTo m xs n0)) xs) :
    Calls Tryd.prog 57 #[.pointer (some ⟨G, 0, none⟩)] w fun e w' => ∃ u, e = .returned (.tuple #[.int .i64 (lowU D Z), u]) ∧ OwnI w' w.heap.size u (lowL D Z) ∧ Below w.heap.size w w' := by
  obtain ⟨i0, hi, hz0, hz1, hz2⟩ := info_parts info_i64
  have hm : 2 ≤ m ∧ m ≤ 5 := by have := hs.mn; have := hs.hn; omega
  have l8 := hs.l8
  have H := Lib.hid hs.hr
  have E0 := Lib.hid hs.e0
  have OK := Lib.hid hs.ok
  have HG := Lib.hid hs.hG
  have lG : G < w.heap.size := (Array.getElem?_eq_some_iff.1 hs.hG).1
  have C1 := l10Adjusted_any G ty m n n0 xc xa xs w hs
  rw [← hD] at C1
  have SB : ∀ y ∈ solL m (rowsP n xs) (rightTo m xs n0), Bd 81000000000000 y := by
    have h := solL_bd (m := m) (by omega) hs.ok (by have := hs.e0; omega) (b := rightTo m xs n0) (rightTo_len _ _ _) (by rw [hs.e0]; exact right_bd hs.ok (by have := hs.e0; omega))
    rwa [show m - 1 = n by have := hs.mn; omega] at h
  have SL := solL_len m (rowsP n xs) (rightTo m xs n0)
  obtain ⟨S, hS⟩ : ∃ S, S = solL m (rowsP n xs) (rightTo m xs n0) := ⟨_, rfl⟩
  rw [← hS] at C1 SB SL hZ
  have ZL : Hid (Z.length = n0) := by show _ = _; rw [hZ, errL_len]; exact hs.e0.symm
  have ZG : Hid (∀ k x, xs[k]? = some x → Z[k]? = some (errOf D S x)) := fun k x h => by rw [hZ]; exact errL_get h
  have ZB : Hid (∀ z ∈ Z, Bd 1000000000000000000 z) := by
    intro z hz
    rw [hZ] at hz
    simp only [errL, List.mem_map] at hz
    obtain ⟨x, hx, rfl⟩ := hz
    have ox := hs.ok x hx
    have b1 : Bd 100 x.r := by have := ox.r0; have := ox.r1; unfold Bd; omega
    have b2 : Bd 207360000 D := by unfold Bd; omega
    have b3 := getD_bd (by omega) SB x.t.toNat
    have b4 := getD_bd (by omega) SB x.f.toNat
    have b5 := b2.mul b1
    unfold errOf
    unfold Bd at *
    omega
  have CL := Lib.hid (fun v w h => l10Lowest_any D (by omega) v Z w h (by have := ZL.out; omega) ZB.out)
  have C := Lib.hid C1
  have SBH := Lib.hid SB
  have SLH := Lib.hid SL
  obtain ⟨⟨p0, p1⟩, -, -⟩ := boxedSv_at hs.hG
  clear hs hD hS hZ C1 SB SL ZB
  go_enter Tryd.func57, Tryd.ntmps57
  go_wp2_with fail
  refine C.out.mono ?_
  rintro e w1 ⟨u, rfl, o1, b1⟩
  obtain ⟨hb, hcap, rfl, hbl, hbw⟩ := OwnI.formedN o1 SLH.out (by omega)
  have RS := Lib.hid o1.rd
  have B1 := Lib.hid b1
  obtain ⟨⟨p0', p1'⟩, -, -⟩ := boxedSv_at ((b1.block G lG).trans HG.out)
  have z1 := b1.size
  have O0 := Lib.hid (own_built w1 w1.heap.size Z rfl)
  have BB0 : Hid (Below w1.heap.size w1 (w1.alloc (.cells #[] 2))) := by show Below _ _ _; go_grown
  clear p0 p1 o1 b1 C
  go_wp2
  go_loopw [6, 7, 8] (fun ov iv _ wr => ∃ (k c1 : Nat) (ad : Option Addr), k ≤ n0 ∧ iv = .int .i64 k ∧ ov = .slice ad k c1 ∧ Hid (OwnI wr w1.heap.size (.slice ad k c1) (Z.take k)) ∧ Hid (Below w1.heap.size w1 wr)) (fun _ iv _ _ => n0 - (intOf iv).toNat)
  case atStart => exact ⟨0, 0, _, by omega, rfl, rfl, O0, BB0⟩
  case round =>
    obtain ⟨k, c1, ad, hk, rfl, rfl, ho, B2⟩ := hrel
    clear O0 BB0 p0' p1'
    obtain ⟨⟨p0, p1⟩, -, -⟩ := boxedSv_at ((B2.out.block G (by omega)).trans ((B1.out.block G lG).trans HG.out))
    have sz2 := B2.out.size
    by_cases hlt : k < n0
    · obtain ⟨x, hx⟩ : ∃ x, xs[k]? = some x := ⟨_, List.getElem?_eq_getElem (by have := E0.out; omega)⟩
      have okx := OK.out x (List.mem_of_getElem? hx)
      obtain ⟨ba, oa, ea, u0, u1, u2, u3⟩ := ((H.out.later B1.out).later B2.out).at4g k x hx _ _ _ _ rfl
      rw [ea] at p1
      have ZGk := ZG.out k x hx
      obtain ⟨f, t, r, v⟩ := x
      obtain ⟨F, hf⟩ : ∃ F : Nat, f = F := ⟨f.toNat, by have := okx.f0; simp only at this; omega⟩
      obtain ⟨T, ht⟩ : ∃ T : Nat, t = T := ⟨t.toNat, by have := okx.t0; simp only at this; omega⟩
      subst hf
      subst ht
      have Fn : F < m := by have := okx.f1; simp only at this; omega
      have Tn : T < m := by have := okx.t1; simp only at this; omega
      have r0 : -100 ≤ r := okx.r0
      have r1 : r ≤ 100 := okx.r1
      simp only [errOf, Int.toNat_natCast] at u0 u1 u2 u3 ZGk
      obtain ⟨y, hy⟩ : ∃ y, S[T]? = some y := ⟨_, List.getElem?_eq_getElem (by have := SLH.out; omega)⟩
      obtain ⟨z, hz⟩ : ∃ z, S[F]? = some z := ⟨_, List.getElem?_eq_getElem (by have := SLH.out; omega)⟩
      have yb := SBH.out y (List.mem_of_getElem? hy)
      have zb := SBH.out z (List.mem_of_getElem? hz)
      have pb : Bd 20736000000 (D * r) := (Bd.mul (A := 207360000) (B := 100) (by unfold Bd; omega) (by unfold Bd; omega)).mono (by decide)
      rw [show S.getD T 0 = y by simp [List.getD, hy], show S.getD F 0 = z by simp [List.getD, hz]] at ZGk
      obtain ⟨P, hP⟩ : ∃ P, P = D * r := ⟨_, rfl⟩
      rw [← hP] at ZGk pb
      unfold Bd at yb zb pb
      have eP : r * D = P := by rw [hP, Int.mul_comm]
      have q0 : IntKind.i64.wrap (r * D) = P := by rw [eP]; exact IntWalk.i64_in _ (by omega)
      clear eP
      have q1 : IntKind.i64.wrap (P - y) = P - y := IntWalk.i64_in _ (by omega)
      have q2 : IntKind.i64.wrap (P - y + z) = P - y + z := IntWalk.i64_in _ (by omega)
      have ZGH := Lib.hid ZGk
      have cy := RdI.cellAtN RS.out hy
      have cz := RdI.cellAtN RS.out hz
      have NS : Hid ((wr.alloc (.cells #[.int .i64 F, .int .i64 T, .int .i64 r, .int .i64 v] 32)).heap[wr.heap.size]? = some (.cells #[.int .i64 F, .int .i64 T, .int .i64 r, .int .i64 v] 32 (0, 0))) := heap_alloc_new wr _
      have AB : Below wr.heap.size wr (wr.alloc (.cells #[.int .i64 F, .int .i64 T, .int .i64 r, .int .i64 v] 32)) := by go_grown
      have B3 : Hid (Below w1.heap.size w1 (wr.alloc (.cells #[.int .i64 F, .int .i64 T, .int .i64 r, .int .i64 v] 32))) := B2.out.trans (AB.mono sz2)
      have O1 := Lib.hid (OwnI.later ho.out AB)
      have lgw := ho.out.lt
      have ky : (wr.alloc (.cells #[.int .i64 F, .int .i64 T, .int .i64 r, .int .i64 v] 32)).cell? ⟨hb, T, none⟩ = some (.int .i64 y) := (B3.out.cell (p := ⟨hb, T, none⟩) hbw).trans cy
      have kz : (wr.alloc (.cells #[.int .i64 F, .int .i64 T, .int .i64 r, .int .i64 v] 32)).cell? ⟨hb, F, none⟩ = some (.int .i64 z) := (B3.out.cell (p := ⟨hb, F, none⟩) hbw).trans cz
      clear hx okx ho B2 hy hz yb zb pb hP ZGk cy cz AB
      go_upto_region 7 with (fail)
      generalize wr.alloc (.cells #[.int .i64 F, .int .i64 T, .int .i64 r, .int .i64 v] 32) = wa at *
      obtain ⟨⟨s0, s1, s2, s3⟩, -, ls⟩ := boxSt_at (q := ⟨F, T, r, v⟩) NS.out
      simp only at s0 s1 s2 s3
      have own := Lib.hid (own_take ZL.out hk O1.out)
      have lgz := own.out.lt
      have ownD : Hid ((wa.alloc (.cells #[.int .i64 (P - y + z)] 2)).drew.ownsRow w1.heap.size 2 1 (.slice ad k c1) k ((Z.take k).map (Value.int .i64))) := own.out.alloc _
      have newD : Hid (∀ (j : Nat) (u : Value), ([.int .i64 (P - y + z)] : List Value)[j]? = some u → ((wa.alloc (.cells #[.int .i64 (P - y + z)] 2)).drew).cell? ((⟨wa.heap.size, 0, none⟩ : Addr).add j) = some u) := World.news_of_block (cs := #[.int .i64 (P - y + z)]) (t := 2) (fr := (0, 0)) (heap_alloc_new wa _)
      have szD : Hid (w1.heap.size ≤ (wa.alloc (.cells #[.int .i64 (P - y + z)] 2)).drew.heap.size) := by show _ ≤ _; have := B3.out.size; simp; omega
      have KS : Hid (∀ w', wa.grownBy w' (Value.slice ad k c1).ownBlock → (w'.cell? ⟨wr.heap.size, 0, none⟩ = some (.int .i64 F) ∧ w'.cell? ⟨wr.heap.size, 1, none⟩ = some (.int .i64 T) ∧ w'.cell? ⟨wr.heap.size, 2, none⟩ = some (.int .i64 r) ∧ w'.cell? ⟨hb, T, none⟩ = some (.int .i64 y) ∧ w'.cell? ⟨hb, F, none⟩ = some (.int .i64 z))) := by
        intro w' g
        have N1 := (g.block wr.heap.size ls (fun e => by have := (lgw _ e.symm).2; omega)).trans NS.out
        obtain ⟨⟨t0, t1, t2, -⟩, -, -⟩ := boxSt_at (q := ⟨F, T, r, v⟩) N1
        have hne : w'.heap[hb]? = wa.heap[hb]? := g.block hb (by have := B3.out.size; omega) (fun e => by have := (lgw _ e.symm).1; omega)
        exact ⟨t0, t1, t2, (World.cell?_of_block (w := wa) (a := ⟨hb, T, none⟩) hne).trans ky, (World.cell?_of_block (w := wa) (a := ⟨hb, F, none⟩) hne).trans kz⟩
      have K1 := Lib.hid (grown_drewS wa (Value.slice ad k c1).ownBlock)
      have K2 : Hid (wa.grownBy (wa.alloc (.cells #[.int .i64 (P - y + z)] 2)).drew (Value.slice ad k c1).ownBlock) := grownBy_trans' (World.grownBy_alloc wa _ _) (grown_drewS _ _)
      have ks1 := KS.out _ K1.out
      have ks2 := KS.out _ K2.out
      go_wp2_with fail
      go_region_held3 (fun w' => (w'.cell? ⟨wr.heap.size, 0, none⟩ = some (.int .i64 F) ∧ w'.cell? ⟨wr.heap.size, 1, none⟩ = some (.int .i64 T) ∧ w'.cell? ⟨wr.heap.size, 2, none⟩ = some (.int .i64 r) ∧ w'.cell? ⟨hb, T, none⟩ = some (.int .i64 y) ∧ w'.cell? ⟨hb, F, none⟩ = some (.int .i64 z)))
        (first | exact KS.out _ gb5 | exact ks2 | exact ks1)
        ((refine step_append_lies _ (by rfl) _ _ _ (by rfl) w1.heap.size 2 i0 _ 1 8 Tryd.underlying28 hi hz0 hz1 hz2 rfl (by omega) _ _ _ (by rfl) ownD.out ⟨wa.heap.size, 0, none⟩ 1 1 [.int .i64 (P - y + z)] (by rfl) (by rfl) newD.out (by simp [Value.oneCell']) (by omega) (by unfold maxLen; omega) (by omega) szD.out (wa.heap.size + 1) (by simp) ?_; intro gg cap1 w5 hown1 hgrow hat hlt'; have gb5 := grownBy_trans' K2.out hgrow))
      rename_i hHeld
      clear hHeld ks1 ks2
      all_goals
        have O5 := Lib.hid (own_next2 ZGH.out hown1)
        have B5 : Hid (Below w1.heap.size w1 w5) := B3.out.grown gb5 B3.out.size (fun j e => (lgz j e).1)
        clear hown1 hgrow hat hlt' own lgz gb5 ownD newD szD O1 B3 NS s0 s1 s2 s3 ky kz ZGH KS K1 K2
        go_wp2
        exact ⟨⟨k + 1, cap1, _, by omega, by go_num, rfl, O5, B5⟩, by simp only [intOf]; omega⟩
    · obtain rfl : k = n0 := by omega
      have OZ := own_all ZL.out ho.out
      have CC := Lib.hid (CL.out _ wr OZ.rd)
      have BW : Hid (Below w.heap.size w wr) := B1.out.trans (B2.out.mono z1)
      clear ho OZ CL
      go_wp2_with fail
      refine CC.out.mono ?_
      rintro e w5 ⟨u5, rfl, o5, b5⟩
      have O5 := Lib.hid (OwnI.mono o5 BW.out.size)
      have B5 : Hid (Below w.heap.size w w5) := BW.out.trans (b5.mono BW.out.size)
      clear o5 b5 CC
      go_wp2
      go_ret2
      exact ⟨_, rfl, O5.out, B5.out⟩

set_option maxRecDepth 100000 in
set_option maxHeartbeats 16000000 in
theorem l10Redundancies_any (G : Nat) (ty : TypeId) (m n n0 xc : Nat) (xa : Option Addr) (xs : List St) (D : Int) (Z : List Int) (w : World) (hs : SvB w G ty m n n0 xc xa xs) (hD : D = det m (rowsP n xs)) (hDp : 0 < D ∧ D ≤ 207360000) (hZ : Z = redL m D (rowsP n xs) xs) :
    Calls Tryd.prog 66 #[.pointer (some ⟨G, 0, none⟩)] w fun e w' => ∃ u, e = .returned (.tuple #[.int .i64 (lowU D Z), u]) ∧ OwnI w' w.heap.size u (lowL D Z) ∧ Below w.heap.size w w' := by
  obtain ⟨i0, hi, hz0, hz1, hz2⟩ := info_parts info_i64
  have hm : 2 ≤ m ∧ m ≤ 5 := by have := hs.mn; have := hs.hn; omega
  have l8 := hs.l8
  have H := Lib.hid hs.hr
  have E0 := Lib.hid hs.e0
  have OK := Lib.hid hs.ok
  have HG := Lib.hid hs.hG
  have HS := Lib.hid hs
  have lG : G < w.heap.size := (Array.getElem?_eq_some_iff.1 hs.hG).1
  have CB : ∀ a b, Bd 162000000000000 (cofV m (rowsP n xs) a b) := by
    intro a b
    have h := cofV_bd (m := m) (by omega) hs.ok (by have := hs.e0; omega) a b
    rwa [show m - 1 = n by have := hs.mn; omega] at h
  have C2 : Hid (∀ wq a b, Below w.heap.size w wq → a < m → b < m → Calls Tryd.prog 63 #[.pointer (some ⟨G, 0, none⟩), .int .i64 a, .int .i64 b] wq fun e w' => e = .returned (.tuple #[.int .i64 (cofV m (rowsP n xs) a b), .int .i64 D]) ∧ Below wq.heap.size wq w') := by
    intro wq a b bl ha hb
    have := l10Cofactor_any G ty m n n0 xc a b xa xs wq (hs.later bl) ha hb
    rwa [← hD] at this
  have C1 : Hid (∀ wq, Below w.heap.size w wq → Calls Tryd.prog 52 #[.pointer (some ⟨G, 0, none⟩)] wq fun e w' => (∃ u, e = .returned (.tuple #[u, .int .i64 D])) ∧ Below wq.heap.size wq w') := by
    intro wq bl
    have := l10Adjusted_any G ty m n n0 xc xa xs wq (hs.later bl)
    rw [← hD] at this
    refine this.mono ?_
    rintro e w' ⟨u, rfl, -, b⟩
    exact ⟨⟨u, rfl⟩, b⟩
  have ZL : Hid (Z.length = n0) := by show _ = _; rw [hZ, redL_len]; exact hs.e0.symm
  have ZG : Hid (∀ k x, xs[k]? = some x → Z[k]? = some (redF m D (rowsP n xs) x)) := fun k x h => by rw [hZ]; exact redL_get h
  have ZB : Hid (∀ z ∈ Z, Bd 1000000000000000000 z) := by
    intro z hz
    rw [hZ] at hz
    simp only [redL, List.mem_map] at hz
    obtain ⟨x, hx, rfl⟩ := hz
    have ox := hs.ok x hx
    have b1 : Bd 3 x.v := by have := ox.v0; have := ox.v1; unfold Bd; omega
    have b5 := b1.mul (CB x.f.toNat x.t.toNat)
    unfold redF
    unfold Bd at *
    omega
  have CL := Lib.hid (fun v w h => l10Lowest_any D (by omega) v Z w h (by have := ZL.out; omega) ZB.out)
  obtain ⟨R, hR⟩ : ∃ R, R = rowsP n xs := ⟨_, rfl⟩
  rw [← hR] at C2 ZG CB
  have CBH := Lib.hid CB
  clear hs hD hZ ZB hR CB
  go_enter Tryd.func66, Tryd.ntmps66
  have O0 := Lib.hid (own_built w w.heap.size Z rfl)
  have BB0 : Hid (Below w.heap.size w (w.alloc (.cells #[] 2))) := by show Below _ _ _; go_grown
  have CA := Lib.hid (C1.out _ BB0.out)
  go_wp2_with fail
  refine CA.out.mono ?_
  rintro e w1 ⟨⟨u, rfl⟩, b1⟩
  have B1 : Hid (Below w.heap.size w w1) := BB0.out.trans (b1.mono BB0.out.size)
  have O1 := Lib.hid (OwnI.later O0.out b1)
  obtain ⟨⟨p0', p1'⟩, -, -⟩ := boxedSv_at ((B1.out.block G lG).trans HG.out)
  clear b1 CA C1 O0 BB0
  go_wp2
  go_loopw [4, 7, 8, 9] (fun ov iv _ _ wr => ∃ (k c1 : Nat) (ad : Option Addr), k ≤ n0 ∧ iv = .int .i64 k ∧ ov = .slice ad k c1 ∧ Hid (OwnI wr w.heap.size (.slice ad k c1) (Z.take k)) ∧ Hid (Below w.heap.size w wr)) (fun _ iv _ _ _ => n0 - (intOf iv).toNat)
  case atStart => exact ⟨0, 0, _, by omega, rfl, rfl, O1, B1⟩
  case round =>
    obtain ⟨k, c1, ad, hk, rfl, rfl, ho, B2⟩ := hrel
    clear O1 B1 p0' p1'
    obtain ⟨⟨p0, p1⟩, -, -⟩ := boxedSv_at ((B2.out.block G lG).trans HG.out)
    have sz2 := B2.out.size
    by_cases hlt : k < n0
    · obtain ⟨x, hx⟩ : ∃ x, xs[k]? = some x := ⟨_, List.getElem?_eq_getElem (by have := E0.out; omega)⟩
      have okx := OK.out x (List.mem_of_getElem? hx)
      obtain ⟨ba, oa, ea, u0, u1, u2, u3⟩ := (H.out.later B2.out).at4g k x hx _ _ _ _ rfl
      rw [ea] at p1
      have ZGk := ZG.out k x hx
      have KS0 : ∀ w', Below wr.heap.size wr w' → w'.cell? ⟨G, 1, none⟩ = some (.slice (some ⟨ba, oa, none⟩) n0 xc) ∧ w'.cell? ⟨ba, oa + k * 4, none⟩ = some (.int .i64 x.f) ∧ w'.cell? ⟨ba, oa + k * 4 + 1, none⟩ = some (.int .i64 x.t) ∧ w'.cell? ⟨ba, oa + k * 4 + 3, none⟩ = some (.int .i64 x.v) := by
        intro w' bl
        exact ⟨(bl.cell (p := ⟨G, 1, none⟩) (by show G < _; omega)).trans p1, (bl.cell (p := ⟨ba, oa + k * 4, none⟩) (World.block_lt_of_cell? wr _ u0)).trans u0, (bl.cell (p := ⟨ba, oa + k * 4 + 1, none⟩) (World.block_lt_of_cell? wr _ u1)).trans u1, (bl.cell (p := ⟨ba, oa + k * 4 + 3, none⟩) (World.block_lt_of_cell? wr _ u3)).trans u3⟩
      obtain ⟨f, t, r, v⟩ := x
      obtain ⟨F, hf⟩ : ∃ F : Nat, f = F := ⟨f.toNat, by have := okx.f0; simp only at this; omega⟩
      obtain ⟨T, ht⟩ : ∃ T : Nat, t = T := ⟨t.toNat, by have := okx.t0; simp only at this; omega⟩
      subst hf
      subst ht
      have Fn : F < m := by have := okx.f1; simp only at this; omega
      have Tn : T < m := by have := okx.t1; simp only at this; omega
      have v0 : 1 ≤ v := okx.v0
      have v1 : v ≤ 3 := okx.v1
      simp only [redF, Int.toNat_natCast] at u0 u1 u2 u3 ZGk KS0
      have cb := CBH.out F T
      have CC := Lib.hid (C2.out wr.drew F T B2.out.drew Fn Tn)
      obtain ⟨V, hV⟩ : ∃ V, V = cofV m R F T := ⟨_, rfl⟩
      have pb : Bd 486000000000000 (v * V) := by
        rw [hV]; exact (Bd.mul (A := 3) (by unfold Bd; omega) cb).mono (by decide)
      obtain ⟨P, hP⟩ : ∃ P, P = v * V := ⟨_, rfl⟩
      rw [← hV, ← hP] at ZGk
      rw [← hV] at CC
      rw [← hP] at pb
      unfold Bd at pb
      have q0 : IntKind.i64.wrap (v * V) = P := by rw [← hP]; exact IntWalk.i64_in _ (by omega)
      have q1 : IntKind.i64.wrap (D - P) = D - P := IntWalk.i64_in _ (by omega)
      have ZGH := Lib.hid ZGk
      have KS := Lib.hid KS0
      clear hx okx hP ZGk hV pb cb C2 KS0
      go_wp2_with fail
      go_region_held3 (fun w' => (w'.cell? ⟨G, 1, none⟩ = some (.slice (some ⟨ba, oa, none⟩) n0 xc) ∧ w'.cell? ⟨ba, oa + k * 4, none⟩ = some (.int .i64 F) ∧ w'.cell? ⟨ba, oa + k * 4 + 1, none⟩ = some (.int .i64 T) ∧ w'.cell? ⟨ba, oa + k * 4 + 3, none⟩ = some (.int .i64 v)))
        (first | exact KS.out _ D5.out | exact KS.out _ (Below.refl _ _).drew)
        ((go_at_call 63; refine CC.out.mono ?_; rintro e w5 ⟨rfl, b5⟩; have D5 : Hid (Below wr.heap.size wr w5) := (Below.refl _ _).drew.trans b5; clear b5))
      rename_i hHeld
      clear hHeld
      have B5 : Hid (Below w.heap.size w w5) := B2.out.trans (D5.out.mono sz2)
      have O5 := Lib.hid (OwnI.later ho.out D5.out)
      obtain ⟨k1, k2, k3, k4⟩ := KS.out _ D5.out
      clear D5 ho B2 CC KS u0 u1 u2 u3 p0 p1
      have own := Lib.hid (own_take ZL.out hk O5.out)
      have lgz := own.out.lt
      have sz5 := B5.out.size
      go_wp2_with (at_builtin; refine wpList_append_lies _ rfl _ _ _ rfl w.heap.size 2 i0 _ 1 8 Tryd.underlying28 hi hz0 hz1 hz2 rfl (by omega) _ _ _ rfl (own.out.alloc _) ⟨w5.heap.size, 0, none⟩ 1 1 [.int .i64 (D - P)] rfl rfl (World.news_of_block (cs := #[.int .i64 (D - P)]) (t := 2) (fr := (0, 0)) (heap_alloc_new w5 _)) (by simp [Value.oneCell']) (by omega) (by unfold maxLen; omega) (by omega) (by simp only [World.size_alloc]; omega) _ rfl ?_)
      intro gg cap1 w6 hown1 hgrow hat hlt'
      have O6 := Lib.hid (own_next ZGH.out hown1)
      have B6 : Hid (Below w.heap.size w w6) := B5.out.grown (grownBy_trans (World.grownBy_alloc w5 _ _) hgrow) sz5 (fun j e => (lgz j e).1)
      clear hown1 hgrow hat hlt' own lgz B5 O5 ZGH k1 k2 k3 k4
      go_wp2
      exact ⟨⟨k + 1, cap1, _, by omega, by go_num, rfl, O6, B6⟩, by simp only [intOf]; omega⟩
    · obtain rfl : k = n0 := by omega
      have OZ := own_all ZL.out ho.out
      have CC := Lib.hid (CL.out _ wr OZ.rd)
      clear ho OZ CL
      go_wp2_with fail
      refine CC.out.mono ?_
      rintro e w5 ⟨u5, rfl, o5, b5⟩
      have O5 := Lib.hid (OwnI.mono o5 B2.out.size)
      have B5 : Hid (Below w.heap.size w w5) := B2.out.trans (b5.mono B2.out.size)
      clear o5 b5 CC
      go_wp2
      go_ret2
      exact ⟨_, rfl, O5.out, B5.out⟩
end Go.Proofs.YtcmocilojloolaaDoor
