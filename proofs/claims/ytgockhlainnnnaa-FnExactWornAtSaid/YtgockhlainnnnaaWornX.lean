/- WornAt on both sides. -/
import Derived.Test.YtgockhlainnnnaaWornI
namespace Go.Proofs.Ytgockhlainnnnaa
open Go.ChangeShapes Go.WideShapes Go.ChangeAt Go.RowKit
set_option linter.unusedVariables false
set_option linter.unusedSimpArgs false

theorem chg_ok {g : Hd} {xs : List Su} (h : OkHd g) (hp : OkPlan g xs) : ∀ x ∈ xs, ChgSu x := fun x hx => by
  have o := hp.ok x hx
  have h1 := h.s1.1 x.r o.1
  have h0 := h.h0
  have hc := h.c0
  have hl := rises_len5 o.2.2
  refine ⟨by omega, fun y hy => ?_, ?_⟩
  · have := o.2.2.1 y hy
    omega
  · rcases hl with hl | hl
    · omega
    · rw [hl]; simp

set_option maxRecDepth 100000 in
set_option maxHeartbeats 8000000 in
theorem implWornAt_any (g : Hd) (n0 n1 n2 : Nat) (v : Value) (xs : List Su) (w : World) (hr : RdHd w n0 n1 n2 g) (cp : g.caps n0 n1 n2) (l0 : n0 ≤ 1048576) (l1 : n1 ≤ 1048576) (l2 : n2 ≤ 1048576) (hv : RdSt w v xs) (lx : xs.length ≤ 1048576) (lt : ∀ x ∈ xs, x.t.length ≤ 1048576) (a2 : Int) (L : List Int) (b : Bool) (ht : WornAtOf g xs n1 a2 L b) :
    Calls Try.prog 21 #[(.agg #[.slice g.ca n0 g.cc, .slice g.ha n1 g.hc, .slice g.sa n2 g.sc, .int .i64 g.p, .int .i64 g.q]), v, .int .i64 a2] w fun e w' => ∃ u, e = .returned (.tuple #[u, .bool b]) ∧ OwnIC w' w.heap.size w'.heap.size u L ∧ Below w.heap.size w w' := by
  obtain ⟨i0, hi, hz0, hz1, hz2⟩ := info_parts info_i64w
  obtain ⟨bp, hp⟩ := ok_boolS (OkHd g ∧ OkPlan g xs)
  obtain ⟨b3, h3⟩ := ok_boolS (0 ≤ a2 ∧ a2 ≤ (n1 : Int))
  have C := Lib.hid (fun w hr hv => implPlan_any g n0 n1 n2 v xs w hr l0 l1 l2 hv lx lt bp hp)
  have C2 := Lib.hid (fun w => rings_any g n0 n1 n2 w)
  have C3 := Lib.hid (fun w => within_any a2 0 (n1 : Int) b3 h3 w)
  have CC := Lib.hid (fun w hr hok => changesOf_any v xs w hr lx hok)
  have CP := Lib.hid cp
  have E0 := Lib.hid hr.len.1
  have H := Lib.hid hr
  have HV := Lib.hid hv
  have HP := Lib.hid hp
  have H3 := Lib.hid h3
  have HTX := Lib.hid ht
  clear hr hp h3 hv ht cp
  go_enter Try.func21, Try.ntmps21
  go_wp2_with fail
  generalize hx : w.alloc (.cells #[.slice g.ca n0 g.cc, .slice g.ha n1 g.hc, .slice g.sa n2 g.sc, .int .i64 g.p, .int .i64 g.q] 30) = w0
  have B0 : Hid (Below w.heap.size w w0) := by show Below _ _ _; rw [← hx]; go_grown
  have N0 : Hid (w0.heap[w.heap.size]? = some (.cells #[.slice g.ca n0 g.cc, .slice g.ha n1 g.hc, .slice g.sa n2 g.sc, .int .i64 g.p, .int .i64 g.q] 30 (0, 0))) := by show _ = _; rw [← hx]; exact heap_alloc_new w _
  have z0 : w.heap.size < w0.heap.size := by rw [← hx]; simp
  clear hx
  refine (C.out _ (H.out.later B0.out) (HV.out.later B0.out)).mono ?_
  rintro e w1 ⟨rfl, c1⟩
  have S := step_box B0.out N0.out z0 c1
  have B1 := Lib.hid S.1
  have N1 := Lib.hid S.2.1
  have z1 := S.2.2
  clear S c1 B0 N0 z0 C
  obtain ⟨⟨p0, p1, p2, p3, p4⟩, -, -⟩ := boxedHd_at N1.out
  cases bp
  · obtain ⟨rfl, rfl⟩ : b = false ∧ L = [] := by
      rcases HTX.out with h | h
      · have := HP.out.mpr ⟨h.2.1, h.2.2.1⟩; simp at this
      · exact ⟨h.1, h.2.2⟩
    go_wp2
    go_ret2
    exact ⟨_, rfl, OwnIC.of (OwnS_nilI _ _), B1.out⟩
  go_wp2_with fail
  refine (C2.out _).mono ?_
  rintro e w2 ⟨rfl, c2⟩
  have S := step_box B1.out N1.out z1 c2
  have B2 := Lib.hid S.1
  have N2 := Lib.hid S.2.1
  have z2 := S.2.2
  clear S c2 B1 N1 z1 C2 p0 p1 p2 p3 p4
  obtain ⟨⟨p0, p1, p2, p3, p4⟩, -, -⟩ := boxedHd_at N2.out
  go_wp2_with fail
  refine (C3.out _).mono ?_
  rintro e w' ⟨rfl, rfl⟩
  cases b3
  · obtain ⟨rfl, rfl⟩ : b = false ∧ L = [] := by
      rcases HTX.out with h | h
      · have := H3.out.mpr h.2.2.2.1; simp at this
      · exact ⟨h.1, h.2.2⟩
    go_wp2
    go_ret2
    exact ⟨_, rfl, OwnIC.of (OwnS_nilI _ _), B2.out⟩
  have ok := (HP.out.mp (by trivial)).1
  have k2 := (HP.out.mp (by trivial)).2
  have k3 := H3.out.mp (by trivial)
  obtain ⟨R, rfl⟩ : ∃ R : Nat, a2 = R := ⟨a2.toNat, by omega⟩
  have Rn : R ≤ n1 := by omega
  obtain ⟨rfl, hL⟩ : b = true ∧ IsWorn g xs R L := by
    rcases HTX.out with h | h
    · exact ⟨h.1, h.2.2.2.2⟩
    · exact absurd ⟨ok, k2, k3⟩ h.2.1
  have LN : Hid (L.length = n0) := by show _ = _; rw [hL.1, ← E0.out]
  have HL := Lib.hid hL
  have OK := Lib.hid ok
  have R60 : R ≤ 60 := by have := ok.h0; have := H.out.len; omega
  have n5 : n0 ≤ 5 := by have := ok.c0; have := E0.out; omega
  have CG := Lib.hid (chg_ok ok k2)
  have MB := Lib.hid (fun c => maskTo_lt xs (fun x hx => (CG.out x hx).r) c xs.length)
  have LM := Lib.hid (fun c p (h : LastLt xs c (R + 1) p) => last_of_mask xs (fun x hx => (CG.out x hx).r.1) c R p R60 h)
  have CX := Lib.hid (CC.out _ (HV.out.later B2.out) CG.out)
  obtain ⟨f, hf⟩ : ∃ f : Nat → Nat, f = fun c => maskTo xs c xs.length := ⟨_, rfl⟩
  have MB' : Hid (∀ c, f c < 2 ^ 60) := by rw [hf]; exact MB.out
  have LM' : Hid (∀ c p, LastLt xs c (R + 1) p → max ((Lib.bitLen (f c % 2 ^ (R + 1)) : Int) - 1) 0 = (p : Int)) := by rw [hf]; exact LM.out
  rw [← hf] at CX
  clear C3 HP H3 HTX ok k2 k3 hL CC CG MB LM hf
  go_wp2_with fail
  refine CX.out.mono ?_
  rintro e w3 ⟨rfl, c3⟩
  have S := step_box B2.out N2.out z2 c3
  have B3 := Lib.hid S.1
  have N3 := Lib.hid S.2.1
  have z3 := S.2.2
  clear S c3 B2 N2 z2 CX p0 p1 p2 p3 p4
  obtain ⟨⟨p0, p1, p2, p3, p4⟩, -, -⟩ := boxedHd_at N3.out
  have nz : ¬ w.heap.size = w3.heap.size := by omega
  unfold arr5
  go_wp2_with (first | (at_make; refine wpList_make_full _ rfl _ _ _ rfl (w3.heap.size + 1) 2 i0 (.int .i64 0) 1 Try.underlying23 hi hz0 hz1 .i64 .i64 _ _ n0 rfl rfl rfl rfl ?b2 ?b3 (by simp) ?_) | go_in)
  case b2 => rw [hz2]; omega
  case b3 => unfold maxLen; omega
  intro w5 hown hg
  rw [toList_madeCells_one] at hown
  have O5 : Hid (OwnI w5 (w3.heap.size + 1) (.slice (some ⟨w3.heap.size + 1, 0, none⟩) n0 n0) (part L n0 0)) := part_made hown
  have b34 : Below w3.heap.size w3 (w3.alloc (.cells #[.int .u64 ((f 0 : Nat) : Int), .int .u64 ((f 1 : Nat) : Int), .int .u64 ((f 2 : Nat) : Int), .int .u64 ((f 3 : Nat) : Int), .int .u64 ((f 4 : Nat) : Int)] 81)) := Below.alloc (Below.refl _ _) (Nat.le_refl _) _
  have b45 : Below (w3.heap.size + 1) (w3.alloc (.cells #[.int .u64 ((f 0 : Nat) : Int), .int .u64 ((f 1 : Nat) : Int), .int .u64 ((f 2 : Nat) : Int), .int .u64 ((f 3 : Nat) : Int), .int .u64 ((f 4 : Nat) : Int)] 81)) w5 := (Below.refl _ _).grown hg (by simp) (fun k h => by cases h)
  have B5 : Hid (Below w.heap.size w w5) := (B3.out.trans (b34.mono B3.out.size)).trans (b45.mono (by omega))
  have N5 : Hid (w5.heap[w.heap.size]? = some (.cells #[.slice g.ca n0 g.cc, .slice g.ha n1 g.hc, .slice g.sa n2 g.sc, .int .i64 g.p, .int .i64 g.q] 30 (0, 0))) := (b45.block _ (by omega)).trans ((b34.block _ z3).trans N3.out)
  have A5 : Hid (w5.heap[w3.heap.size]? = some (.cells (arr5 f) 81 (0, 0))) := (b45.block _ (by omega)).trans (heap_alloc_new _ _)
  obtain ⟨P, hP⟩ : ∃ P, P = w3.heap.size := ⟨_, rfl⟩
  obtain ⟨M, hM⟩ : ∃ M, M = w3.heap.size + 1 := ⟨_, rfl⟩
  have wP : w.heap.size < P := by omega
  have PM : P < M := by omega
  rw [← hP] at A5
  rw [← hM] at O5
  rw [← hM, ← hP]
  clear hown hg b34 b45 B3 N3 p0 p1 p2 p3 p4 nz hP hM
  go_wp2
  go_loopw [31] (fun iv wr => ∃ k : Nat, k ≤ n0 ∧ iv = .int .i64 k ∧ Hid (OwnI wr M (.slice (some ⟨M, 0, none⟩) n0 n0) (part L n0 k)) ∧ Hid (wr.heap[w.heap.size]? = some (.cells #[.slice g.ca n0 g.cc, .slice g.ha n1 g.hc, .slice g.sa n2 g.sc, .int .i64 g.p, .int .i64 g.q] 30 (0, 0))) ∧ Hid (wr.heap[P]? = some (.cells (arr5 f) 81 (0, 0))) ∧ Hid (Below w.heap.size w wr)) (fun iv _ => n0 - (intOf iv).toNat)
  case atStart => exact ⟨0, by omega, rfl, O5, N5, A5, B5⟩
  case round =>
    obtain ⟨k, hk, rfl, ho, NN, AA, BB⟩ := hrel
    clear O5 N5 A5 B5
    obtain ⟨⟨p0, p1, p2, p3, p4⟩, -, lG⟩ := boxedHd_at NN.out
    have lP := (Array.getElem?_eq_some_iff.1 AA.out).1
    by_cases hlt : k < n0
    · obtain ⟨x, hx⟩ : ∃ x, g.c[k]? = some x := ⟨_, List.getElem?_eq_getElem (by have := E0.out; omega)⟩
      obtain ⟨p, hp⟩ := lastLt_ex xs k (R + 1)
      have pR : p ≤ R := by have := hp.lt; omega
      obtain ⟨a0, -⟩ := arr5_cell AA.out (show k < 5 by omega)
      obtain ⟨mk, hmk⟩ : ∃ m, m = f k := ⟨_, rfl⟩
      have mk60 : mk < 2 ^ 60 := by rw [hmk]; exact MB'.out k
      have CU := Lib.hid (fun w => until_any mk R mk60 R60 w)
      obtain ⟨md, hmd⟩ : ∃ m, m = mk % 2 ^ (R + 1) := ⟨_, rfl⟩
      have md60 : md < 2 ^ 60 := by rw [hmd]; exact Nat.lt_of_le_of_lt (Nat.mod_le _ _) mk60
      have CL := Lib.hid (fun w => last_any md md60 w)
      have LMk := LM'.out k p hp
      rw [← hmk, ← hmd] at LMk
      obtain ⟨bl, hbl⟩ : ∃ b, b = Lib.bitLen md := ⟨_, rfl⟩
      rw [← hbl] at LMk CL
      rw [← hmd] at CU
      rw [← hmk] at a0
      have qm : max ((bl : Int) - 1) 0 = (p : Int) := LMk
      obtain ⟨z, hz⟩ : ∃ z, z = x.k * wsum g.h p (R - p) := ⟨_, rfl⟩
      have LZ : Hid (L[k]? = some z) := by show _ = _; rw [hz]; exact HL.out.2 k x p hx hp
      have D := Lib.hid (fun wz hb => wear_any g n0 n1 n2 wz (H.out.later hb) CP.out OK.out k p (R - p) R x hx (by omega) Rn)
      rw [← hz] at D
      have i1 : (0 : Int) ≤ (k : Int) := by omega
      have i2 : (k : Int) < 5 := by omega
      clear hx hp hz hmk mk60 hmd md60 LMk hbl
      go_wp2_with fail
      refine (CU.out _).mono ?_
      rintro e w' ⟨rfl, hw⟩
      subst hw
      go_wp2_with fail
      refine (CL.out _).mono ?_
      rintro e w' ⟨rfl, hw⟩
      subst hw
      clear CU CL
      go_wp2_with fail
      refine (D.out _ BB.out).mono ?_
      rintro e w7 ⟨rfl, b7⟩
      have O7 : OwnI w7 M (.slice (some ⟨M, 0, none⟩) n0 n0) (part L n0 k) := ho.out.later b7
      have N7 := (b7.block w.heap.size lG).trans NN.out
      have A7 := (b7.block P lP).trans AA.out
      have B7 : Below w.heap.size w w7 := BB.out.trans (b7.mono BB.out.size)
      obtain ⟨d0, d1⟩ := part_cell LN.out hlt O7
      have OE := Lib.hid (part_store LN.out LZ.out O7)
      have NE : Hid ((w7.setCell ⟨M, k, none⟩ (.int .i64 z)).heap[w.heap.size]? = some (.cells #[.slice g.ca n0 g.cc, .slice g.ha n1 g.hc, .slice g.sa n2 g.sc, .int .i64 g.p, .int .i64 g.q] 30 (0, 0))) := (Below.heap_setCell _ _ _ _ (show w.heap.size ≠ M by omega)).trans N7
      have AE : Hid ((w7.setCell ⟨M, k, none⟩ (.int .i64 z)).heap[P]? = some (.cells (arr5 f) 81 (0, 0))) := (Below.heap_setCell _ _ _ _ (show P ≠ M by omega)).trans A7
      have BE : Hid (Below w.heap.size w (w7.setCell ⟨M, k, none⟩ (.int .i64 z))) := B7.setCell (p := ⟨M, k, none⟩) (show w.heap.size ≤ M by omega) _
      have kn : (k : Int) < (n0 : Int) := by omega
      clear O7 N7 A7 B7 b7 ho NN AA BB LZ D p0 p1 p2 p3 p4 a0 qm i1 i2 lG lP
      go_wp2
      exact ⟨⟨k + 1, by omega, by go_num, OE, NE, AE, BE⟩, by simp only [intOf]; omega⟩
    · obtain rfl : k = n0 := by omega
      have O : Hid (OwnI wr M (.slice (some ⟨M, 0, none⟩) k k) L) := by
        have := ho.out
        rwa [part_all LN.out] at this
      clear ho
      go_wp2
      go_ret2
      exact ⟨_, rfl, (OwnIC.of O.out).mono (by omega), BB.out⟩

theorem exWornAt (g0 : Hd) (n0 n1 n2 : Nat) (e : n0 = g0.c.length ∧ n1 = g0.h.length ∧ n2 = g0.s.length) (xs1 : List Su) (a2 : Int) (lt : (n0 : Int) + (n1 : Int) + (n2 : Int) + ((xs1.length + sumSt xs1 : Nat) : Int) ≤ 1048576) : ∃ (L : List Int) (b : Bool), ∃ (_ : L.length ≤ 1048576),
    Hid (∀ (w : World) (k0 : Hd) (v1 : Value) (zs1 : List Su), k0.same g0 → k0.caps n0 n1 n2 → RdHd w n0 n1 n2 k0 → RdSt w v1 zs1 → zs1.map Su.so = xs1.map Su.so → Calls Try.prog 20 #[(.agg #[.slice k0.ca n0 k0.cc, .slice k0.ha n1 k0.hc, .slice k0.sa n2 k0.sc, .int .i64 k0.p, .int .i64 k0.q]), v1, .int .i64 a2] w fun e w' => ∃ u, e = .returned (.tuple #[u, .bool b]) ∧ OwnIC w' w.heap.size w'.heap.size u L ∧ Below w.heap.size w w') ∧
    Hid (∀ (w : World) (k0 : Hd) (v1 : Value) (zs1 : List Su), k0.same g0 → k0.caps n0 n1 n2 → RdHd w n0 n1 n2 k0 → RdSt w v1 zs1 → zs1.map Su.so = xs1.map Su.so → Calls Try.prog 21 #[(.agg #[.slice k0.ca n0 k0.cc, .slice k0.ha n1 k0.hc, .slice k0.sa n2 k0.sc, .int .i64 k0.p, .int .i64 k0.q]), v1, .int .i64 a2] w fun e w' => ∃ u, e = .returned (.tuple #[u, .bool b]) ∧ OwnIC w' w.heap.size w'.heap.size u L ∧ Below w.heap.size w w') := by
  obtain ⟨L, b, h, hl⟩ : ∃ L b, WornAtOf g0 xs1 n1 a2 L b ∧ L.length ≤ 1048576 := by
    by_cases h : OkHd g0 ∧ OkPlan g0 xs1 ∧ (0 ≤ a2 ∧ a2 ≤ (n1 : Int))
    · obtain ⟨L, hL⟩ := isWorn_ex g0 xs1 a2.toNat
      exact ⟨L, true, .inl ⟨rfl, h.1, h.2.1, h.2.2, hL⟩, by have := hL.1; omega⟩
    · exact ⟨[], false, .inr ⟨rfl, h, rfl⟩, by simp⟩
  have sm : ∀ (zs : List Su), zs.map Su.so = xs1.map Su.so → zs.length ≤ 1048576 ∧ ∀ x ∈ zs, x.t.length ≤ 1048576 := fun zs hs => stops_small (n := n0 + n1 + n2) (by rw [map_so_len hs, sumSt_so hs]; omega)
  have key : ∀ (k : Hd) (zs : List Su), k.same g0 → zs.map Su.so = xs1.map Su.so → WornAtOf k zs n1 a2 L b := fun k zs hs he => by
    rcases h with ⟨h1, h2, h3, h4, h5⟩ | ⟨h1, h2, h3⟩
    · exact .inl ⟨h1, h2.same (Hd.same_symm hs), okPlan_same h3 (Hd.same_symm hs) he.symm, h4, isWorn_same h5 (Hd.same_symm hs) he.symm⟩
    · exact .inr ⟨h1, fun h' => h2 ⟨h'.1.same hs, okPlan_same h'.2.1 hs he, h'.2.2⟩, h3⟩
  exact ⟨L, b, hl, fun w k v zs hs _ hr hv he => specWornAt_any k n0 n1 n2 v zs w hr (by omega) (by omega) (by omega) hv (sm zs he).1 (sm zs he).2 a2 L b (key k zs hs he), fun w k v zs hs cp hr hv he => implWornAt_any k n0 n1 n2 v zs w hr cp (by omega) (by omega) (by omega) hv (sm zs he).1 (sm zs he).2 a2 L b (key k zs hs he)⟩
end Go.Proofs.Ytgockhlainnnnaa
