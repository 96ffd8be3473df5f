/- Short days, on both sides. (Written by tools/mkworks.py.) -/
import Derived.Test.YtmdddjhlfpmgdaaWorkI
import Derived.Test.YtmdddjhlfpmgdaaAppI
import Derived.Test.YtmdddjhlfpmgdaaExKit
namespace Go.Proofs.Ytmdddjhlfpmgdaa
open Go.ChangeShapes Go.WideShapes Go.ChangeAt Go.RowKit
set_option linter.unusedVariables false
set_option linter.unusedSimpArgs false

theorem ownI_len {w : World} {B m c : Nat} {ad : Option Addr} {L : List Int} (hm : m = L.length) (o : OwnI w B (.slice ad m c) L) :
    w.ownsRow B 2 1 (.slice ad m c) m (L.map (Value.int .i64)) := by
  unfold OwnI at o
  rw [← hm] at o
  exact o
theorem ownI_more {w : World} {B m c : Nat} {ad : Option Addr} {L : List Int} {t : Int} (hm : m = L.length) (o : w.ownsRow B 2 1 (.slice ad (m + 1) c) (m + 1) (L.map (Value.int .i64) ++ [.int .i64 t])) :
    OwnI w B (.slice ad (m + 1) c) (L ++ [t]) := by
  unfold OwnI
  rw [List.length_append, ← hm, List.map_append]
  exact o

set_option maxRecDepth 100000 in
set_option maxHeartbeats 4000000 in
theorem l09Short_any (g : Wk) (ok : OkWk g) (v : Value) (xs : List Od) (w : World) (h : RdS 2 encOd w v xs) (oks : OkOs xs) (off : Int) (hoff : 0 ≤ off ∧ off ≤ 200) (L : List Int) (hL : shortT g.m g.c g.u xs off xs.length = L) :
    Calls Try.prog 51 #[(.agg #[.int .i64 g.m, .int .i64 g.c, .int .i64 g.u]), v, .int .i64 off] w fun e w' => ∃ u, e = .returned u ∧ OwnI w' w.heap.size u L ∧ Below w.heap.size w w' := by
  obtain ⟨i0, hi, hz0, hz1, hz2⟩ := info_parts info_i64
  have H := Lib.hid h
  obtain ⟨a, cap, rfl, _⟩ := h
  have OK := Lib.hid ok
  have OKS := Lib.hid oks
  have HL := Lib.hid hL
  obtain ⟨n, hn⟩ : ∃ n, n = xs.length := ⟨_, rfl⟩
  have n8 : n ≤ 8 := by have := oks.1; omega
  rw [← hn] at H
  rw [← hn]
  have HN := Lib.hid hn
  have O0 := Lib.hid (own_built (w.alloc (.cells #[.int .i64 g.m, .int .i64 g.c, .int .i64 g.u] 32)) (w.heap.size + 1) [] (by simp))
  have B0 : Hid (Below w.heap.size w ((w.alloc (.cells #[.int .i64 g.m, .int .i64 g.c, .int .i64 g.u] 32)).alloc (.cells #[] 2))) := by show Below _ _ _; go_grown
  have N0 : Hid (((w.alloc (.cells #[.int .i64 g.m, .int .i64 g.c, .int .i64 g.u] 32)).alloc (.cells #[] 2)).heap[w.heap.size]? = some (.cells #[.int .i64 g.m, .int .i64 g.c, .int .i64 g.u] 32 (0, 0))) := (Below.heap_alloc _ _ _ (by simp)).trans (heap_alloc_new w _)
  have z0 : w.heap.size + 1 ≤ ((w.alloc (.cells #[.int .i64 g.m, .int .i64 g.c, .int .i64 g.u] 32)).alloc (.cells #[] 2)).heap.size := by simp
  clear hn ok oks hL
  go_enter Try.func51, Try.ntmps51
  go_wp2
  go_loopw [7, 8, 9] (fun ov sv iv wr => ∃ (k m c1 : Nat) (ad : Option Addr) (zs : List Int) (S : Int), k ≤ n ∧ m ≤ k ∧ iv = .int .i64 k ∧ sv = .int .i64 S ∧ ov = .slice ad m c1 ∧ Hid (m = zs.length) ∧ Hid (S = sumP xs k) ∧ Hid (zs = shortT g.m g.c g.u xs off k) ∧ Hid (OwnI wr (w.heap.size + 1) (.slice ad m c1) zs) ∧ Hid (wr.heap[w.heap.size]? = some (.cells #[.int .i64 g.m, .int .i64 g.c, .int .i64 g.u] 32 (0, 0))) ∧ w.heap.size + 1 ≤ wr.heap.size ∧ Hid (Below w.heap.size w wr)) (fun _ _ iv _ => n - (intOf iv).toNat)
  case atStart => exact ⟨0, 0, 0, _, [], 0, by omega, by omega, rfl, rfl, rfl, rfl, rfl, rfl, O0.out, N0.out, z0, B0.out⟩
  case round =>
    obtain ⟨k, m, c1, ad, zs, S, hk, mk, rfl, rfl, rfl, hm, hS, hz, ho, NN, zz, B⟩ := hrel
    clear O0 B0 N0 z0
    have hsz := B.out.size
    by_cases hlt : k < n
    · obtain ⟨c, hx⟩ : ∃ x, xs[k]? = some x := ⟨_, List.getElem?_eq_getElem (by have := HN.out; omega)⟩
      obtain ⟨ba, oa, rfl, e0, e1⟩ := (H.out.later B.out).at2o k c hx
      have la : ba < wr.heap.size := World.block_lt_of_cell? wr _ e0
      have okc := OKS.out.2.1 c (List.mem_of_getElem? hx)
      have sb := sumP_bd OKS.out.2.1 k
      rw [← hS.out] at sb
      have S1 : Hid (S + c.p = sumP xs (k + 1)) := by show _ = _; rw [sumP_succ hx, hS.out]
      have pb := okc.2
      unfold PcsN at pb
      obtain ⟨S2, hS2⟩ : ∃ S2, S2 = S + c.p := ⟨_, rfl⟩
      rw [← hS2] at S1
      have q1 : IntKind.i64.wrap (S + c.p) = S2 := by rw [hS2]; exact IntWalk.i64_in _ (by omega)
      have C := Lib.hid (fun w => l09Rounds_any g.c g.u (c.d - off) OK.out.2 ⟨by have := okc.1.1; omega, by have := okc.1.2; omega⟩ w)
      have q2 : IntKind.i64.wrap (c.d - off) = c.d - off := IntWalk.i64_in _ (by have := okc.1.1; have := okc.1.2; omega)
      have mb := made_bd (d := c.d - off) OK.out.1 OK.out.2.1.1 OK.out.2.2.1 (by have := okc.1.2; omega)
      obtain ⟨R, hR⟩ : ∃ R, R = rnd g.c g.u (c.d - off) := ⟨_, rfl⟩
      rw [← hR] at C mb
      obtain ⟨P, hP⟩ : ∃ P, P = g.m * R := ⟨_, rfl⟩
      have q3 : IntKind.i64.wrap (g.m * R) = P := by rw [hP]; exact IntWalk.i64_in _ (by omega)
      have HX := Lib.hid hx
      have HP : Hid (P = g.m * rnd g.c g.u (c.d - off)) := by show _ = _; rw [hP, hR]
      obtain ⟨⟨a0, a1, a2⟩, -⟩ := boxWk_at NN.out
      have KS : Hid (∀ w', Below wr.heap.size wr w' → (w'.cell? ⟨w.heap.size, 0, none⟩ = some (.int .i64 g.m) ∧ w'.cell? ⟨w.heap.size, 1, none⟩ = some (.int .i64 g.c) ∧ w'.cell? ⟨w.heap.size, 2, none⟩ = some (.int .i64 g.u) ∧ w'.cell? ⟨ba, oa + k * 2, none⟩ = some (.int .i64 c.d) ∧ w'.cell? ⟨ba, oa + k * 2 + 1, none⟩ = some (.int .i64 c.p))) := by
        intro w' b
        obtain ⟨⟨a0, a1, a2⟩, -⟩ := boxWk_at ((b.block w.heap.size (by omega)).trans NN.out)
        exact ⟨a0, a1, a2, (b.cell (p := ⟨ba, oa + k * 2, none⟩) la).trans e0, (b.cell (p := ⟨ba, oa + k * 2 + 1, none⟩) la).trans e1⟩
      clear hx okc sb hS2 hR mb hP hS
      go_wp2_with fail
      go_region_held3 (fun w' => (w'.cell? ⟨w.heap.size, 0, none⟩ = some (.int .i64 g.m) ∧ w'.cell? ⟨w.heap.size, 1, none⟩ = some (.int .i64 g.c) ∧ w'.cell? ⟨w.heap.size, 2, none⟩ = some (.int .i64 g.u) ∧ w'.cell? ⟨ba, oa + k * 2, none⟩ = some (.int .i64 c.d) ∧ w'.cell? ⟨ba, oa + k * 2 + 1, none⟩ = some (.int .i64 c.p)))
        (exact KS.out _ (Below.refl _ _).drew)
        ((go_at_call 48; refine (C.out _).mono ?_; rintro e w2 ⟨rfl, rfl⟩))
      rename_i hHeld
      clear hHeld
      have f1 := (KS.out _ (Below.refl _ _).drew).2.2.2.1
      have ho2 : Hid (OwnI wr.drew (w.heap.size + 1) (.slice ad m c1) zs) := ho.out.later (Below.refl _ _).drew
      have N2 : Hid (wr.drew.heap[w.heap.size]? = some (.cells #[.int .i64 g.m, .int .i64 g.c, .int .i64 g.u] 32 (0, 0))) := NN.out
      have B2 : Hid (Below w.heap.size w wr.drew) := B.out.trans ((Below.refl _ _).drew.mono hsz)
      have z2 : w.heap.size + 1 ≤ wr.drew.heap.size := zz
      clear KS a0 a1 a2 e0 e1 ho NN B hsz zz C la
      generalize wr.drew = wz at *
      have hsz := B2.out.size
      by_cases g1 : P < S2
      · have Z1 : Hid (zs ++ [c.d] = shortT g.m g.c g.u xs off (k + 1)) := by show _ = _; rw [shortT_in HX.out (by rw [← HP.out, ← S1.out]; exact g1), hz.out]
        have own := Lib.hid (ownI_len hm.out ho2.out)
        have lgz := own.out.lt
        clear hz HX HP
        go_wp2_with (at_builtin; refine wpList_append_lies _ rfl _ _ _ rfl (w.heap.size + 1) 2 i0 _ 1 8 Try.underlying38 hi hz0 hz1 hz2 rfl (by omega) _ _ _ rfl (own.out.alloc _) ⟨wz.heap.size, 0, none⟩ 1 1 [.int .i64 c.d] rfl rfl (World.news_of_block (cs := #[.int .i64 c.d]) (t := 2) (fr := (0, 0)) (heap_alloc_new wz _)) (by simp [Value.oneCell']) (by omega) (by unfold maxLen; omega) (by omega) (by simp only [World.size_alloc]; omega) _ rfl ?_)
        intro gg cap1 w5 hown1 hgrow hat hlt'
        have O5 := Lib.hid (ownI_more hm.out hown1)
        have gb := grownBy_trans' (World.grownBy_alloc wz _ _) hgrow
        have N5 : Hid (w5.heap[w.heap.size]? = some (.cells #[.int .i64 g.m, .int .i64 g.c, .int .i64 g.u] 32 (0, 0))) := (gb.block w.heap.size (by omega) (fun e => by have := lgz _ e.symm; omega)).trans N2.out
        have B5 : Hid (Below w.heap.size w w5) := B2.out.grown gb (by omega) (fun j e => by have := lgz j e; omega)
        have z5 : w.heap.size + 1 ≤ w5.heap.size := by have := gb.size; omega
        have M5 : Hid (m + 1 = (zs ++ [c.d]).length) := by show _ = _; rw [List.length_append, ← hm.out]; rfl
        clear hown1 hgrow hat hlt' own lgz gb N2 B2 ho2 hm z2 f1
        go_wp2
        exact ⟨⟨k + 1, m + 1, cap1, _, _, S2, by omega, by omega, by go_num, rfl, rfl, M5, S1, Z1, O5, N5, z5, B5⟩, by simp only [intOf]; omega⟩
      · have Z1 : Hid (zs = shortT g.m g.c g.u xs off (k + 1)) := by show _ = _; rw [shortT_out HX.out (by rw [← HP.out, ← S1.out]; exact g1), hz.out]
        clear hz HX HP f1
        go_wp2
        exact ⟨⟨k + 1, m, c1, ad, zs, S2, by omega, by omega, by go_num, rfl, rfl, hm, S1, Z1, ho2, N2, z2, B2⟩, by simp only [intOf]; omega⟩
    · obtain rfl : k = n := by omega
      obtain rfl : zs = L := by rw [hz.out, ← HL.out, HN.out]
      go_wp2
      go_ret
      exact ⟨_, rfl, ho.out.mono (by omega), B.out⟩

set_option maxRecDepth 100000 in
set_option maxHeartbeats 8000000 in
theorem shortW_any (g : Wk) (ok : OkWk g) (v : Value) (xs : List Od) (w : World) (h : RdS 2 encOd w v xs) (oks : OkOs xs) (L : List Int) (hL : shortT g.m g.c g.u xs 0 xs.length = L) :
    Calls Try.prog 52 #[.iface 32 (.agg #[.int .i64 g.m, .int .i64 g.c, .int .i64 g.u]), v] w fun e w' => ∃ u, e = .returned u ∧ OwnI w' w.heap.size u L ∧ Below w.heap.size w w' := by
  obtain ⟨i0, hi, hz0, hz1, hz2⟩ := info_parts info_i64
  have CW := Lib.hid (fun w (h : RdS 2 encOd w v xs) d r hr => wantedBy_any v xs w h oks d r hr)
  have H := Lib.hid h
  obtain ⟨a, cap, rfl, _⟩ := h
  have OK := Lib.hid ok
  have OKS := Lib.hid oks
  have HL := Lib.hid hL
  obtain ⟨n, hn⟩ : ∃ n, n = xs.length := ⟨_, rfl⟩
  have n8 : n ≤ 8 := by have := oks.1; omega
  rw [← hn] at H CW
  rw [← hn]
  have HN := Lib.hid hn
  have O0 : Hid (OwnI w w.heap.size (.slice none 0 0) []) := World.ownsRow_nil _ _ _ _
  clear hn ok oks hL
  go_enter Try.func52, Try.ntmps52
  go_wp2
  go_loopw [5, 10] (fun ov iv wr => ∃ (k m c1 : Nat) (ad : Option Addr) (zs : List Int), k ≤ n ∧ m ≤ k ∧ iv = .int .i64 k ∧ ov = .slice ad m c1 ∧ Hid (m = zs.length) ∧ Hid (zs = shortT g.m g.c g.u xs 0 k) ∧ Hid (OwnI wr w.heap.size (.slice ad m c1) zs) ∧ Hid (Below w.heap.size w wr)) (fun _ iv _ => n - (intOf iv).toNat)
  case atStart => exact ⟨0, 0, 0, _, [], by omega, by omega, rfl, rfl, rfl, rfl, O0, Below.refl _ _⟩
  case round =>
    obtain ⟨k, m, c1, ad, zs, hk, mk, rfl, rfl, hm, hz, ho, B⟩ := hrel
    clear O0
    have hsz := B.out.size
    by_cases hlt : k < n
    · obtain ⟨c, hx⟩ : ∃ x, xs[k]? = some x := ⟨_, List.getElem?_eq_getElem (by have := HN.out; omega)⟩
      obtain ⟨ba, oa, rfl, e0, e1⟩ := (H.out.later B.out).at2o k c hx
      have okc := OKS.out.2.1 c (List.mem_of_getElem? hx)
      have W1 := want_at OKS.out.2.2 hx
      obtain ⟨S2, hS2⟩ : ∃ S2, S2 = sumP xs (k + 1) := ⟨_, rfl⟩
      rw [← hS2, ← HN.out] at W1
      have S1 := Lib.hid hS2
      obtain ⟨P, hP⟩ : ∃ P, P = g.m * rnd g.c g.u (c.d - 0) := ⟨_, rfl⟩
      have CR := Lib.hid (fun w => readyBy_any g OK.out c.d ⟨by have := okc.1.1; omega, okc.1.2⟩ w)
      have e0 : c.d - 0 = c.d := by omega
      rw [e0] at hP
      rw [← hP] at CR
      have HP : Hid (P = g.m * rnd g.c g.u (c.d - 0)) := by show _ = _; rw [hP]; simp
      have CD := Lib.hid (fun w h => CW.out w h c.d S2 W1)
      have HX := Lib.hid hx
      clear hx okc W1 hS2 hP
      go_wp2_with fail
      have BB : Hid (Below w.heap.size w (wr.alloc (.cells #[.int .i64 c.d, .int .i64 c.p] 58))) := B.out.alloc hsz _
      have NN := Lib.hid (heap_alloc_new wr (.cells #[.int .i64 c.d, .int .i64 c.p] 58))
      have hb : Hid (OwnI (wr.alloc (.cells #[.int .i64 c.d, .int .i64 c.p] 58)) w.heap.size (.slice ad m c1) zs) := ho.out.later (Below.alloc (Below.refl _ _) (Nat.le_refl _) _)
      have zb : wr.heap.size < (wr.alloc (.cells #[.int .i64 c.d, .int .i64 c.p] 58)).heap.size := by simp
      obtain ⟨W0, hW0⟩ : ∃ W0, W0 = wr.heap.size := ⟨_, rfl⟩
      rw [← hW0] at NN zb hsz
      rw [← hW0]
      generalize wr.alloc (.cells #[.int .i64 c.d, .int .i64 c.p] 58) = wb at *
      clear e0 e1 B ho hW0
      have KS : Hid (∀ w', Below wb.heap.size wb w' → (w'.cell? ⟨W0, 0, none⟩ = some (.int .i64 c.d) ∧ w'.cell? ⟨W0, 1, none⟩ = some (.int .i64 c.p))) := by
        intro w' b
        obtain ⟨⟨a0, a1⟩, -⟩ := boxOd_at ((b.block W0 zb).trans NN.out)
        exact ⟨a0, a1⟩
      go_region_held3 (fun w' => (w'.cell? ⟨W0, 0, none⟩ = some (.int .i64 c.d) ∧ w'.cell? ⟨W0, 1, none⟩ = some (.int .i64 c.p)))
        (first | exact KS.out _ DZ.out | exact KS.out _ (Below.refl _ _).drew)
        (first
          | (go_at_call 50; refine (CR.out _).mono ?_; rintro e wz ⟨rfl, bz⟩; have DZ : Hid (Below wb.heap.size wb wz) := by first | exact DZ.out.trans (bz.mono DZ.out.size) | exact (Below.refl _ _).drew.trans bz)
          | (go_at_call 54; refine (CD.out _ (H.out.later (by first | exact BB.out.trans (DZ.out.mono BB.out.size) | exact BB.out.trans ((Below.refl _ _).drew.mono BB.out.size)))).mono ?_; rintro e wz ⟨rfl, bz⟩; have DZ : Hid (Below wb.heap.size wb wz) := by first | exact DZ.out.trans (bz.mono DZ.out.size) | exact (Below.refl _ _).drew.trans bz))
      all_goals
        rename_i hHeld
        clear hHeld
        obtain ⟨f0, f1⟩ := KS.out _ DZ.out
        have ho2 : Hid (OwnI wz w.heap.size (.slice ad m c1) zs) := hb.out.later DZ.out
        have B2 : Hid (Below w.heap.size w wz) := BB.out.trans (DZ.out.mono BB.out.size)
        have hsz2 := B2.out.size
        clear KS hb BB DZ bz CR CD NN zb
        by_cases g1 : P < S2
        · have Z1 : Hid (zs ++ [c.d] = shortT g.m g.c g.u xs 0 (k + 1)) := by show _ = _; rw [shortT_in HX.out (by rw [← HP.out, ← S1.out]; exact g1), hz.out]
          have own := Lib.hid (ownI_len hm.out ho2.out)
          have lgz := own.out.lt
          clear hz HX HP
          go_wp2_with (at_builtin; refine wpList_append_lies _ rfl _ _ _ rfl w.heap.size 2 i0 _ 1 8 Try.underlying38 hi hz0 hz1 hz2 rfl (by omega) _ _ _ rfl (own.out.alloc _) ⟨wz.heap.size, 0, none⟩ 1 1 [.int .i64 c.d] rfl rfl (World.news_of_block (cs := #[.int .i64 c.d]) (t := 2) (fr := (0, 0)) (heap_alloc_new wz _)) (by simp [Value.oneCell']) (by omega) (by unfold maxLen; omega) (by omega) (by simp only [World.size_alloc]; omega) _ rfl ?_)
          intro gg cap1 w5 hown1 hgrow hat hlt'
          have O5 := Lib.hid (ownI_more hm.out hown1)
          have gb := grownBy_trans' (World.grownBy_alloc wz _ _) hgrow
          have B5 : Hid (Below w.heap.size w w5) := B2.out.grown gb (by omega) (fun j e => by have := lgz j e; omega)
          have M5 : Hid (m + 1 = (zs ++ [c.d]).length) := by show _ = _; rw [List.length_append, ← hm.out]; rfl
          clear hown1 hgrow hat hlt' own lgz gb B2 ho2 hm f0 f1
          go_wp2
          exact ⟨⟨k + 1, m + 1, cap1, _, _, by omega, by omega, by go_num, rfl, M5, Z1, O5, B5⟩, by simp only [intOf]; omega⟩
        · have Z1 : Hid (zs = shortT g.m g.c g.u xs 0 (k + 1)) := by show _ = _; rw [shortT_out HX.out (by rw [← HP.out, ← S1.out]; exact g1), hz.out]
          clear hz HX HP f0 f1
          go_wp2
          exact ⟨⟨k + 1, m, c1, ad, zs, by omega, by omega, by go_num, rfl, hm, Z1, ho2, B2⟩, by simp only [intOf]; omega⟩
    · obtain rfl : k = n := by omega
      obtain rfl : zs = L := by rw [hz.out, ← HL.out, HN.out]
      go_wp2
      go_ret
      exact ⟨_, rfl, ho.out, B.out⟩

set_option maxHeartbeats 1000000 in
theorem lateReady_any (g : Wk) (ok : OkWk g) (o : Int) (ho : 0 ≤ o ∧ o ≤ 201) (d : Int) (hd : 0 ≤ d ∧ d ≤ 200) (w : World) :
    Calls Try.prog 76 #[.agg #[.int .i64 g.m, .int .i64 g.c, .int .i64 g.u, .int .i64 o], .int .i64 d] w fun e w' => e = .returned (.int .i64 (g.m * rnd g.c g.u (d - o))) ∧ Below w.heap.size w w' := by
  have C := Lib.hid (fun w => readyBy_any g ok (d - o) ⟨by omega, by omega⟩ w)
  have q1 : IntKind.i64.wrap (d - o) = d - o := IntWalk.i64_in _ (by omega)
  generalize g.m * rnd g.c g.u (d - o) = R at *
  clear ok
  go_enter Try.func76, Try.ntmps76
  go_wp2_with fail
  refine (C.out _).mono ?_
  rintro e w1 ⟨rfl, b1⟩
  have B1 : Hid (Below w.heap.size w w1) := Below.trans (by go_grown) (b1.mono (by simp only [World.size_alloc]; omega))
  clear b1
  go_wp2
  go_ret
  exact ⟨rfl, B1.out⟩

set_option maxRecDepth 100000 in
set_option maxHeartbeats 8000000 in
theorem shortL_any (g : Wk) (ok : OkWk g) (o : Int) (hof : 0 ≤ o ∧ o ≤ 201) (v : Value) (xs : List Od) (w : World) (h : RdS 2 encOd w v xs) (oks : OkOs xs) (L : List Int) (hL : shortT g.m g.c g.u xs o xs.length = L) :
    Calls Try.prog 52 #[.iface 76 (.agg #[.int .i64 g.m, .int .i64 g.c, .int .i64 g.u, .int .i64 o]), v] w fun e w' => ∃ u, e = .returned u ∧ OwnI w' w.heap.size u L ∧ Below w.heap.size w w' := by
  obtain ⟨i0, hi, hz0, hz1, hz2⟩ := info_parts info_i64
  have CW := Lib.hid (fun w (h : RdS 2 encOd w v xs) d r hr => wantedBy_any v xs w h oks d r hr)
  have H := Lib.hid h
  obtain ⟨a, cap, rfl, _⟩ := h
  have OK := Lib.hid ok
  have OKS := Lib.hid oks
  have HL := Lib.hid hL
  obtain ⟨n, hn⟩ : ∃ n, n = xs.length := ⟨_, rfl⟩
  have n8 : n ≤ 8 := by have := oks.1; omega
  rw [← hn] at H CW
  rw [← hn]
  have HN := Lib.hid hn
  have O0 : Hid (OwnI w w.heap.size (.slice none 0 0) []) := World.ownsRow_nil _ _ _ _
  clear hn ok oks hL
  go_enter Try.func52, Try.ntmps52
  go_wp2
  go_loopw [5, 10] (fun ov iv wr => ∃ (k m c1 : Nat) (ad : Option Addr) (zs : List Int), k ≤ n ∧ m ≤ k ∧ iv = .int .i64 k ∧ ov = .slice ad m c1 ∧ Hid (m = zs.length) ∧ Hid (zs = shortT g.m g.c g.u xs o k) ∧ Hid (OwnI wr w.heap.size (.slice ad m c1) zs) ∧ Hid (Below w.heap.size w wr)) (fun _ iv _ => n - (intOf iv).toNat)
  case atStart => exact ⟨0, 0, 0, _, [], by omega, by omega, rfl, rfl, rfl, rfl, O0, Below.refl _ _⟩
  case round =>
    obtain ⟨k, m, c1, ad, zs, hk, mk, rfl, rfl, hm, hz, ho, B⟩ := hrel
    clear O0
    have hsz := B.out.size
    by_cases hlt : k < n
    · obtain ⟨c, hx⟩ : ∃ x, xs[k]? = some x := ⟨_, List.getElem?_eq_getElem (by have := HN.out; omega)⟩
      obtain ⟨ba, oa, rfl, e0, e1⟩ := (H.out.later B.out).at2o k c hx
      have okc := OKS.out.2.1 c (List.mem_of_getElem? hx)
      have W1 := want_at OKS.out.2.2 hx
      obtain ⟨S2, hS2⟩ : ∃ S2, S2 = sumP xs (k + 1) := ⟨_, rfl⟩
      rw [← hS2, ← HN.out] at W1
      have S1 := Lib.hid hS2
      obtain ⟨P, hP⟩ : ∃ P, P = g.m * rnd g.c g.u (c.d - o) := ⟨_, rfl⟩
      have CR := Lib.hid (fun w => lateReady_any g OK.out o hof c.d ⟨okc.1.1, okc.1.2⟩ w)
      rw [← hP] at CR
      have HP := Lib.hid hP
      have CD := Lib.hid (fun w h => CW.out w h c.d S2 W1)
      have HX := Lib.hid hx
      clear hx okc W1 hS2 hP
      go_wp2_with fail
      have BB : Hid (Below w.heap.size w (wr.alloc (.cells #[.int .i64 c.d, .int .i64 c.p] 58))) := B.out.alloc hsz _
      have NN := Lib.hid (heap_alloc_new wr (.cells #[.int .i64 c.d, .int .i64 c.p] 58))
      have hb : Hid (OwnI (wr.alloc (.cells #[.int .i64 c.d, .int .i64 c.p] 58)) w.heap.size (.slice ad m c1) zs) := ho.out.later (Below.alloc (Below.refl _ _) (Nat.le_refl _) _)
      have zb : wr.heap.size < (wr.alloc (.cells #[.int .i64 c.d, .int .i64 c.p] 58)).heap.size := by simp
      obtain ⟨W0, hW0⟩ : ∃ W0, W0 = wr.heap.size := ⟨_, rfl⟩
      rw [← hW0] at NN zb hsz
      rw [← hW0]
      generalize wr.alloc (.cells #[.int .i64 c.d, .int .i64 c.p] 58) = wb at *
      clear e0 e1 B ho hW0
      have KS : Hid (∀ w', Below wb.heap.size wb w' → (w'.cell? ⟨W0, 0, none⟩ = some (.int .i64 c.d) ∧ w'.cell? ⟨W0, 1, none⟩ = some (.int .i64 c.p))) := by
        intro w' b
        obtain ⟨⟨a0, a1⟩, -⟩ := boxOd_at ((b.block W0 zb).trans NN.out)
        exact ⟨a0, a1⟩
      go_region_held3 (fun w' => (w'.cell? ⟨W0, 0, none⟩ = some (.int .i64 c.d) ∧ w'.cell? ⟨W0, 1, none⟩ = some (.int .i64 c.p)))
        (first | exact KS.out _ DZ.out | exact KS.out _ (Below.refl _ _).drew)
        (first
          | (go_at_call 76; refine (CR.out _).mono ?_; rintro e wz ⟨rfl, bz⟩; have DZ : Hid (Below wb.heap.size wb wz) := by first | exact DZ.out.trans (bz.mono DZ.out.size) | exact (Below.refl _ _).drew.trans bz)
          | (go_at_call 54; refine (CD.out _ (H.out.later (by first | exact BB.out.trans (DZ.out.mono BB.out.size) | exact BB.out.trans ((Below.refl _ _).drew.mono BB.out.size)))).mono ?_; rintro e wz ⟨rfl, bz⟩; have DZ : Hid (Below wb.heap.size wb wz) := by first | exact DZ.out.trans (bz.mono DZ.out.size) | exact (Below.refl _ _).drew.trans bz))
      all_goals
        rename_i hHeld
        clear hHeld
        obtain ⟨f0, f1⟩ := KS.out _ DZ.out
        have ho2 : Hid (OwnI wz w.heap.size (.slice ad m c1) zs) := hb.out.later DZ.out
        have B2 : Hid (Below w.heap.size w wz) := BB.out.trans (DZ.out.mono BB.out.size)
        have hsz2 := B2.out.size
        clear KS hb BB DZ bz CR CD NN zb
        by_cases g1 : P < S2
        · have Z1 : Hid (zs ++ [c.d] = shortT g.m g.c g.u xs o (k + 1)) := by show _ = _; rw [shortT_in HX.out (by rw [← HP.out, ← S1.out]; exact g1), hz.out]
          have own := Lib.hid (ownI_len hm.out ho2.out)
          have lgz := own.out.lt
          clear hz HX HP
          go_wp2_with (at_builtin; refine wpList_append_lies _ rfl _ _ _ rfl w.heap.size 2 i0 _ 1 8 Try.underlying38 hi hz0 hz1 hz2 rfl (by omega) _ _ _ rfl (own.out.alloc _) ⟨wz.heap.size, 0, none⟩ 1 1 [.int .i64 c.d] rfl rfl (World.news_of_block (cs := #[.int .i64 c.d]) (t := 2) (fr := (0, 0)) (heap_alloc_new wz _)) (by simp [Value.oneCell']) (by omega) (by unfold maxLen; omega) (by omega) (by simp only [World.size_alloc]; omega) _ rfl ?_)
          intro gg cap1 w5 hown1 hgrow hat hlt'
          have O5 := Lib.hid (ownI_more hm.out hown1)
          have gb := grownBy_trans' (World.grownBy_alloc wz _ _) hgrow
          have B5 : Hid (Below w.heap.size w w5) := B2.out.grown gb (by omega) (fun j e => by have := lgz j e; omega)
          have M5 : Hid (m + 1 = (zs ++ [c.d]).length) := by show _ = _; rw [List.length_append, ← hm.out]; rfl
          clear hown1 hgrow hat hlt' own lgz gb B2 ho2 hm f0 f1
          go_wp2
          exact ⟨⟨k + 1, m + 1, cap1, _, _, by omega, by omega, by go_num, rfl, M5, Z1, O5, B5⟩, by simp only [intOf]; omega⟩
        · have Z1 : Hid (zs = shortT g.m g.c g.u xs o (k + 1)) := by show _ = _; rw [shortT_out HX.out (by rw [← HP.out, ← S1.out]; exact g1), hz.out]
          clear hz HX HP f0 f1
          go_wp2
          exact ⟨⟨k + 1, m, c1, ad, zs, by omega, by omega, by go_num, rfl, hm, Z1, ho2, B2⟩, by simp only [intOf]; omega⟩
    · obtain rfl : k = n := by omega
      obtain rfl : zs = L := by rw [hz.out, ← HL.out, HN.out]
      go_wp2
      go_ret
      exact ⟨_, rfl, ho.out, B.out⟩

end Go.Proofs.Ytmdddjhlfpmgdaa
