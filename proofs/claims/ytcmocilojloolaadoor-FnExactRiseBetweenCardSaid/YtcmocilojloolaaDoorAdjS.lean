/- Adjusted heights, cofactors, residuals and redundancies: of the specification. (Written by tools/mkadjs.py.) -/
import Derived.Test.YtcmocilojloolaaDoorSolS
import Derived.Test.YtcmocilojloolaaDoorLowS
import Derived.Test.YtcmocilojloolaaDoorNetJ
namespace Go.Proofs.YtcmocilojloolaaDoor
open Go.ChangeShapes Go.WideShapes Go.ChangeAt Go.RowKit
set_option linter.unusedVariables false
set_option linter.unusedSimpArgs false

/-- A survey in its box, valid and connected. -/
structure SvB (w : World) (G : Nat) (ty : TypeId) (m n n0 xc : Nat) (xa : Option Addr) (xs : List St) : Prop where
  mn : m = n + 1
  hG : w.heap[G]? = some (.cells #[.int .i64 m, .slice xa n0 xc] ty (0, 0))
  hr : RdS 4 encSt w (.slice xa n0 xc) xs
  e0 : n0 = xs.length
  l8 : n0 ≤ 8
  ok : ∀ x ∈ xs, OkSt m x
  hc : trAll (trTo m xs xs.length) = true
  hn : 1 ≤ n ∧ n ≤ 4
theorem SvB.later {w w' : World} {G : Nat} {ty : TypeId} {m n n0 xc : Nat} {xa : Option Addr} {xs : List St} (h : SvB w G ty m n n0 xc xa xs) (b : Below w.heap.size w w') : SvB w' G ty m n n0 xc xa xs :=
  ⟨h.mn, (b.block G (Array.getElem?_eq_some_iff.1 h.hG).1).trans h.hG, h.hr.later b, h.e0, h.l8, h.ok, h.hc, h.hn⟩

set_option maxRecDepth 100000 in
set_option maxHeartbeats 16000000 in
theorem l10Adjusted_any (G : Nat) (ty : TypeId) (m n n0 xc : Nat) (xa : Option Addr) (xs : List St) (w : World) (hs : SvB w G ty m n n0 xc xa xs) :
    Calls Tryd.prog 52 #[.pointer (some ⟨G, 0, none⟩)] w fun e w' => ∃ u, e = .returned (.tuple #[u, .int .i64 (det m (rowsP n xs))]) ∧ OwnI w' w.heap.size u (solL m (rowsP n xs) (rightTo m xs n0)) ∧ Below w.heap.size w w' := by
  obtain ⟨i0, hi, hz0, hz1, hz2⟩ := info_parts info_i64
  have hm : 2 ≤ m ∧ m ≤ 5 := by have := hs.mn; have := hs.hn; omega
  have l8 := hs.l8
  have H := Lib.hid hs.hr
  have E0 := Lib.hid hs.e0
  have OK := Lib.hid hs.ok
  have HG := Lib.hid hs.hG
  have lG : G < w.heap.size := (Array.getElem?_eq_some_iff.1 hs.hG).1
  have C : Hid (∀ wq lb, Below w.heap.size w wq → Rw wq lb (rightTo m xs n0) → Calls Tryd.prog 86 #[.pointer (some ⟨G, 0, none⟩), .slice (some ⟨lb, 0, none⟩) m m] wq fun e w' => ∃ u, e = .returned (.tuple #[u, .int .i64 (det m (rowsP n xs))]) ∧ OwnI w' wq.heap.size u (solL m (rowsP n xs) (rightTo m xs n0)) ∧ Below wq.heap.size wq w') := by
    intro wq lb b h
    have q := hs.later b
    exact l10Solve_any G ty m n n0 xc xa xs (some ⟨lb, 0, none⟩) m (rightTo m xs n0) wq q.mn q.hG q.hr q.e0 q.l8 q.ok q.hc q.hn (h.rd (rightTo_len _ _ _).symm) (rightTo_len _ _ _) (by rw [q.e0]; exact right_bd q.ok (by have := q.e0; omega))
  obtain ⟨S, hS⟩ : ∃ S, S = solL m (rowsP n xs) (rightTo m xs n0) := ⟨_, rfl⟩
  obtain ⟨D, hD⟩ : ∃ D, D = det m (rowsP n xs) := ⟨_, rfl⟩
  rw [← hS, ← hD] at C ⊢
  obtain ⟨⟨p0, p1⟩, -, -⟩ := boxedSv_at hs.hG
  clear hs hS hD
  go_enter Tryd.func52, Tryd.ntmps52
  go_wp2_with (first | (at_make; refine wpList_make_full _ rfl _ _ _ rfl w.heap.size 2 i0 (.int .i64 0) 1 Tryd.underlying28 hi hz0 hz1 .i64 .i64 _ _ m rfl rfl rfl rfl ?b2 ?b3 (Nat.le_refl _) ?_) | go_in)
  case b2 => rw [hz2]; omega
  case b3 => unfold maxLen; omega
  intro w1 hown hg
  rw [toList_madeCells_one] at hown
  obtain ⟨lb, hlb⟩ : ∃ lb, lb = w.heap.size := ⟨_, rfl⟩
  rw [← hlb] at hown
  have O1 : Hid (Rw w1 lb (rightTo m xs 0)) := (Rw.made hown).2
  have V2 : Hid (Below w.heap.size w w1) := (Below.refl _ _).grown hg (Nat.le_refl _) (fun k h => by cases h)
  have rl : w.heap.size ≤ lb := by omega
  obtain ⟨⟨p0', p1'⟩, -, -⟩ := boxedSv_at ((V2.out.block G lG).trans HG.out)
  clear hown hg p0 p1
  go_wp2
  rw [← hlb]
  clear hlb
  go_loopw [5, 6] (fun i _ wr => ∃ k : Nat, k ≤ n0 ∧ i = .int .i64 k ∧ Hid (Rw wr lb (rightTo m xs k)) ∧ Hid (Below w.heap.size w wr)) (fun i _ _ => n0 - (intOf i).toNat)
  case atStart => exact ⟨0, by omega, rfl, O1, V2⟩
  case round =>
    obtain ⟨k, hk, rfl, ho, B2⟩ := hrel
    clear O1 V2 p0' p1'
    obtain ⟨⟨p0, p1⟩, -, -⟩ := boxedSv_at ((B2.out.block G lG).trans HG.out)
    by_cases hlt : k < n0
    · obtain ⟨x, hx⟩ : ∃ x, xs[k]? = some x := ⟨_, List.getElem?_eq_getElem (by have := E0.out; omega)⟩
      have okx := OK.out x (List.mem_of_getElem? hx)
      obtain ⟨ba, oa, ea, u0, u1, u2, u3⟩ := (H.out.later B2.out).at4g k x hx _ _ _ _ rfl
      rw [ea] at p1
      have RS := rightTo_succ (m := m) hx
      have pb := prod_bd300 okx
      obtain ⟨f, t, r, v⟩ := x
      obtain ⟨F, hf⟩ : ∃ F : Nat, f = F := ⟨f.toNat, by have := okx.f0; simp only at this; omega⟩
      obtain ⟨T, ht⟩ : ∃ T : Nat, t = T := ⟨t.toNat, by have := okx.t0; simp only at this; omega⟩
      subst hf
      subst ht
      have Fn : F < m := by have := okx.f1; simp only at this; omega
      have Tn : T < m := by have := okx.t1; simp only at this; omega
      have ne : T ≠ F := by have := okx.ne; simp only at this; omega
      simp only [Int.toNat_natCast] at u0 u1 u2 u3 RS pb
      obtain ⟨L, hL⟩ : ∃ L, L = rightTo m xs k := ⟨_, rfl⟩
      have LL : L.length = m := by rw [hL]; exact rightTo_len _ _ _
      have LB : ∀ y ∈ L, Bd 2400 y := by rw [hL]; exact fun y hy => (rightTo_bd OK.out k y hy).mono (by omega)
      obtain ⟨y, hy⟩ : ∃ y, L[T]? = some y := ⟨_, List.getElem?_eq_getElem (by omega)⟩
      obtain ⟨z, hz⟩ : ∃ z, L[F]? = some z := ⟨_, List.getElem?_eq_getElem (by omega)⟩
      have yb := LB y (List.mem_of_getElem? hy)
      have zb := LB z (List.mem_of_getElem? hz)
      have RS' : Hid (rightTo m xs (k + 1) = (L.set T (y + v * r)).set F (z - v * r)) := by
        show _ = _
        rw [RS, ← hL]
        simp [List.getD, hy, hz]
      rw [← hL] at ho
      have HY := Lib.hid hy
      have HZ : Hid ((L.set T (y + v * r))[F]? = some z) := by show _ = _; rw [List.getElem?_set_ne ne]; exact hz
      unfold Bd at pb yb zb
      obtain ⟨P, hP⟩ : ∃ P, P = v * r := ⟨_, rfl⟩
      have q0 : IntKind.i64.wrap (v * r) = P := by rw [hP]; exact IntWalk.i64_in _ (by omega)
      rw [← hP] at pb RS' HZ
      have q1 : IntKind.i64.wrap (y + P) = y + P := IntWalk.i64_in _ (by omega)
      have q2 : IntKind.i64.wrap (z - P) = z - P := IntWalk.i64_in _ (by omega)
      have lbw := ho.out.lt
      have NS : Hid ((wr.alloc (.cells #[.int .i64 F, .int .i64 T, .int .i64 r, .int .i64 v] 32)).heap[wr.heap.size]? = some (.cells #[.int .i64 F, .int .i64 T, .int .i64 r, .int .i64 v] 32 (0, 0))) := heap_alloc_new wr _
      have AB : Below wr.heap.size wr (wr.alloc (.cells #[.int .i64 F, .int .i64 T, .int .i64 r, .int .i64 v] 32)) := by go_grown
      have L1 := Lib.hid (ho.out.later AB)
      have B3 : Hid (Below w.heap.size w (wr.alloc (.cells #[.int .i64 F, .int .i64 T, .int .i64 r, .int .i64 v] 32))) := B2.out.trans (AB.mono B2.out.size)
      clear hx okx AB ho B2 hL LB yb zb pb RS hy hz hP C H
      go_upto_region 6 with (fail)
      generalize wr.alloc (.cells #[.int .i64 F, .int .i64 T, .int .i64 r, .int .i64 v] 32) = wa at *
      have wne : lb ≠ wr.heap.size := by omega
      go_cut [] (fun wx => Hid (Rw wx lb (L.set T (y + P))) ∧ Hid (wx.heap[wr.heap.size]? = some (.cells #[.int .i64 F, .int .i64 T, .int .i64 r, .int .i64 v] 32 (0, 0))) ∧ Hid (Below w.heap.size w wx))
      case first =>
        obtain ⟨⟨s0, s1, s2, s3⟩, -, ls⟩ := boxSt_at (q := ⟨F, T, r, v⟩) NS.out
        simp only at s0 s1 s2 s3
        have c1 := L1.out.cell HY.out
        have f1 := L1.out.frozen T
        have MN : Hid (Rw (wa.setCell ⟨lb, T, none⟩ (.int .i64 (y + P))).drew lb (L.set T (y + P))) := L1.out.store T (y + P)
        have NN : Hid ((wa.setCell ⟨lb, T, none⟩ (.int .i64 (y + P))).drew.heap[wr.heap.size]? = some (.cells #[.int .i64 F, .int .i64 T, .int .i64 r, .int .i64 v] 32 (0, 0))) := (Below.heap_setCell _ _ _ _ (fun e => wne e.symm)).trans NS.out
        have BN : Hid (Below w.heap.size w (wa.setCell ⟨lb, T, none⟩ (.int .i64 (y + P))).drew) := (B3.out.setCell (p := ⟨lb, T, none⟩) (by show w.heap.size ≤ lb; omega) _).drew
        clear L1 B3 NS HY HZ RS' OK E0
        go_wp2_with fail
        go_region
        go_wp2_with fail
        go_meet
        exact ⟨MN, NN, BN⟩
      case rest =>
        clear L1 B3 NS
        obtain ⟨w5, hwc⟩ : ∃ x, x = wc := ⟨_, rfl⟩
        rw [← hwc] at hcut ⊢; clear hwc
        obtain ⟨L2, NS2, B4⟩ := hcut
        obtain ⟨⟨s0, s1, s2, s3⟩, -, ls⟩ := boxSt_at (q := ⟨F, T, r, v⟩) NS2.out
        simp only at s0 s1 s2 s3
        have c1 := L2.out.cell HZ.out
        have f1 := L2.out.frozen F
        have MN : Hid (Rw (w5.setCell ⟨lb, F, none⟩ (.int .i64 (z - P))).drew lb (rightTo m xs (k + 1))) := by
          show Rw _ _ _
          rw [RS'.out]; exact L2.out.store F (z - P)
        have BN : Hid (Below w.heap.size w (w5.setCell ⟨lb, F, none⟩ (.int .i64 (z - P))).drew) := (B4.out.setCell (p := ⟨lb, F, none⟩) (by show w.heap.size ≤ lb; omega) _).drew
        clear L2 B4 NS2 HY HZ RS'
        go_wp2_with fail
        go_region
        clear s0 s1 s2 s3 c1 f1
        generalize (w5.setCell ⟨lb, F, none⟩ (.int .i64 (z - P))).drew = w8 at *
        go_wp2
        exact ⟨⟨k + 1, by omega, by go_num, MN, BN⟩, by simp only [intOf]; omega⟩
    · obtain rfl : k = n0 := by omega
      have CC := Lib.hid (C.out wr lb B2.out ho.out)
      have sz := B2.out.size
      clear C ho
      go_wp2_with fail
      refine CC.out.mono ?_
      rintro e w5 ⟨u, rfl, o5, b5⟩
      have O5 := Lib.hid (OwnI.mono o5 sz)
      have B5 : Hid (Below w.heap.size w w5) := B2.out.trans (b5.mono sz)
      clear o5 b5 CC
      go_wp2
      go_ret2
      exact ⟨_, rfl, O5.out, B5.out⟩

set_option maxRecDepth 100000 in
set_option maxHeartbeats 16000000 in
theorem l10Cofactor_any (G : Nat) (ty : TypeId) (m n n0 xc a b : Nat) (xa : Option Addr) (xs : List St) (w : World) (hs : SvB w G ty m n n0 xc xa xs) (ha : a < m) (hb : b < m) :
    Calls Tryd.prog 63 #[.pointer (some ⟨G, 0, none⟩), .int .i64 a, .int .i64 b] w fun e w' => e = .returned (.tuple #[.int .i64 (cofV m (rowsP n xs) a b), .int .i64 (det m (rowsP n xs))]) ∧ Below w.heap.size w w' := by
  obtain ⟨i0, hi, hz0, hz1, hz2⟩ := info_parts info_i64
  have hm : 2 ≤ m ∧ m ≤ 5 := by have := hs.mn; have := hs.hn; omega
  have HG := Lib.hid hs.hG
  have lG : G < w.heap.size := (Array.getElem?_eq_some_iff.1 hs.hG).1
  have C : Hid (∀ wq lb, Below w.heap.size w wq → Rw wq lb (cofB m a b) → Calls Tryd.prog 86 #[.pointer (some ⟨G, 0, none⟩), .slice (some ⟨lb, 0, none⟩) m m] wq fun e w' => ∃ u, e = .returned (.tuple #[u, .int .i64 (det m (rowsP n xs))]) ∧ OwnI w' wq.heap.size u (solL m (rowsP n xs) (cofB m a b)) ∧ Below wq.heap.size wq w') := by
    intro wq lb bl h
    have q := hs.later bl
    exact l10Solve_any G ty m n n0 xc xa xs (some ⟨lb, 0, none⟩) m (cofB m a b) wq q.mn q.hG q.hr q.e0 q.l8 q.ok q.hc q.hn (h.rd (cofB_len _ _ _).symm) (cofB_len _ _ _) (cofB_bd _ _ _)
  have SB : Hid (∀ y ∈ solL m (rowsP n xs) (cofB m a b), Bd 81000000000000 y) := by
    have h := solL_bd (m := m) (by omega) hs.ok (by have := hs.e0; have := hs.l8; omega) (cofB_len m a b) (cofB_bd m a b)
    rwa [show m - 1 = n by have := hs.mn; omega] at h
  have SLn := Lib.hid (solL_len m (rowsP n xs) (cofB m a b))
  have CV : Hid (cofV m (rowsP n xs) a b = (solL m (rowsP n xs) (cofB m a b)).getD b 0 - (solL m (rowsP n xs) (cofB m a b)).getD a 0) := rfl
  obtain ⟨V, hV⟩ : ∃ V, V = cofV m (rowsP n xs) a b := ⟨_, rfl⟩
  obtain ⟨S, hS⟩ : ∃ S, S = solL m (rowsP n xs) (cofB m a b) := ⟨_, rfl⟩
  obtain ⟨D, hD⟩ : ∃ D, D = det m (rowsP n xs) := ⟨_, rfl⟩
  rw [← hV, ← hS] at CV
  rw [← hS] at C SB SLn
  rw [← hD] at C
  rw [← hV, ← hD]
  obtain ⟨L0, hL0⟩ : ∃ L, L = List.replicate m (0 : Int) := ⟨_, rfl⟩
  have e1 : L0[b]? = some 0 := by rw [hL0, List.getElem?_replicate, if_pos hb]
  obtain ⟨z, hz⟩ : ∃ z, (L0.set b 1)[a]? = some z := ⟨_, List.getElem?_eq_getElem (by rw [hL0]; simp; omega)⟩
  have zb : -1 ≤ z ∧ z ≤ 1 := by
    have h := List.mem_of_getElem? hz
    rcases List.mem_or_eq_of_mem_set h with h | h
    · rw [hL0] at h; rw [List.eq_of_mem_replicate h]; omega
    · rw [h]; omega
  have CB : Hid (cofB m a b = (L0.set b 1).set a (z - 1)) := by
    show _ = _
    unfold cofB
    rw [← hL0]
    simp [List.getD, hz]
  have q2 : IntKind.i64.wrap (z - 1) = z - 1 := IntWalk.i64_in _ (by omega)
  have E1 := Lib.hid e1
  have HZ := Lib.hid hz
  have HL0 := Lib.hid hL0
  obtain ⟨⟨p0, p1⟩, -, -⟩ := boxedSv_at hs.hG
  clear hs hV hS hD e1 hz zb hL0
  go_enter Tryd.func63, Tryd.ntmps63
  go_wp2_with (first | (at_make; refine wpList_make_full _ rfl _ _ _ rfl w.heap.size 2 i0 (.int .i64 0) 1 Tryd.underlying28 hi hz0 hz1 .i64 .i64 _ _ m rfl rfl rfl rfl ?b2 ?b3 (Nat.le_refl _) ?_) | go_in)
  case b2 => rw [hz2]; omega
  case b3 => unfold maxLen; omega
  intro w1 hown hg
  rw [toList_madeCells_one] at hown
  have O1 : Hid (Rw w1 w.heap.size L0) := by show Rw _ _ _; rw [HL0.out]; exact (Rw.made hown).2
  have V2 : Hid (Below w.heap.size w w1) := (Below.refl _ _).grown hg (Nat.le_refl _) (fun k h => by cases h)
  clear hown hg p0 p1
  have c0 := O1.out.cell E1.out
  have f0 := O1.out.frozen b
  have O2 : Hid (Rw (w1.setCell ⟨w.heap.size, b, none⟩ (.int .i64 1)) w.heap.size (L0.set b 1)) := O1.out.store b 1
  have V3 : Hid (Below w.heap.size w (w1.setCell ⟨w.heap.size, b, none⟩ (.int .i64 1))) := V2.out.setCell (p := ⟨w.heap.size, b, none⟩) (Nat.le_refl _) _
  have q1 : IntKind.i64.wrap (0 + 1) = 1 := rfl
  go_upto_region 3 with (fail)
  clear c0 f0 q1 O1 V2
  generalize w1.setCell ⟨w.heap.size, b, none⟩ (.int .i64 1) = w2 at *
  have c0 := O2.out.cell HZ.out
  have f0 := O2.out.frozen a
  have O4 : Hid (Rw (w2.setCell ⟨w.heap.size, a, none⟩ (.int .i64 (z - 1))) w.heap.size (cofB m a b)) := by show Rw _ _ _; rw [CB.out]; exact O2.out.store a (z - 1)
  have V4 : Hid (Below w.heap.size w (w2.setCell ⟨w.heap.size, a, none⟩ (.int .i64 (z - 1)))) := V3.out.setCell (p := ⟨w.heap.size, a, none⟩) (Nat.le_refl _) _
  go_upto_region 4 with (fail)
  clear c0 f0 O2 V3 q2
  generalize w2.setCell ⟨w.heap.size, a, none⟩ (.int .i64 (z - 1)) = w3 at *
  have CC := Lib.hid (C.out w3 w.heap.size V4.out O4.out)
  have sz := V4.out.size
  clear C O4
  go_wp2_with fail
  refine CC.out.mono ?_
  rintro e w5 ⟨u, rfl, o5, b5⟩
  have B5 : Hid (Below w.heap.size w w5) := V4.out.trans (b5.mono sz)
  obtain ⟨p, hp⟩ : ∃ p, S[b]? = some p := ⟨_, List.getElem?_eq_getElem (by have := SLn.out; omega)⟩
  obtain ⟨q, hq⟩ : ∃ q, S[a]? = some q := ⟨_, List.getElem?_eq_getElem (by have := SLn.out; omega)⟩
  have pb := SB.out p (List.mem_of_getElem? hp)
  have qb := SB.out q (List.mem_of_getElem? hq)
  unfold Bd at pb qb
  have q3 : IntKind.i64.wrap (p - q) = p - q := IntWalk.i64_in _ (by omega)
  obtain rfl : V = p - q := by rw [CV.out]; simp [List.getD, hp, hq]
  obtain ⟨g, c, rfl, -, -⟩ := OwnI.formedN o5 SLn.out (by omega)
  have k1 := RdI.cellAtN o5.rd hp
  have k2 := RdI.cellAtN o5.rd hq
  clear CC o5 b5 hp hq pb qb CV SB SLn CB HL0 V4
  go_wp2_with fail
  go_region
  all_goals
    go_wp2
    go_ret2
    exact ⟨rfl, below_drewN B5.out 1⟩

end Go.Proofs.YtcmocilojloolaaDoor
