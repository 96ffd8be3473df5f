/- The law of DeviationsOf. -/
import Derived.Test.YtgokhbcifgikgabDev3
import Derived.Test.YtgokhbcifgikgabAxM
import Derived.Test.YtgokhbcifgikgabOpens2
import Derived.Test.YtgokhbcifgikgabAxis
import Derived.Test.YtgokhbcifgikgabExKit
import Derived.Test.YtgokhbcifgikgabGrown
import Derived.Deep.RegionHeld3
namespace Go.Proofs.Ytgokhbcifgikgab
open Go.ChangeShapes Go.WideShapes Go.ChangeAt Go.RowKit
set_option linter.unusedVariables false
set_option linter.unusedSimpArgs false

theorem szPoseS_any (a : Option Addr) (n cap : Nat) (left : Int) (hl : 0 ≤ left) (hl2 : left ≤ 1099511627776) (hn : n ≤ 9223372036854775807) (w : World) :
    Calls Try.prog 14 #[.slice a n cap, .int .i64 left] w fun e w' => e = .returned (.int .i64 (if (n : Int) ≤ left then left - n else -1)) ∧ w = w' := by
  by_cases h : (n : Int) ≤ left
  · rw [if_pos h]
    have h1 : 0 ≤ left - n := by omega
    have h2 : IntKind.i64.wrap (left - n) = left - n := IntWalk.i64_in _ (by omega)
    go_enter Try.func14, Try.ntmps14
    go_wp2
    go_ret
    exact ⟨rfl, rfl⟩
  · rw [if_neg h]
    have h1 : left - n < 0 := by omega
    have h2 : IntKind.i64.wrap (left - n) = left - n := IntWalk.i64_in _ (by omega)
    go_enter Try.func14, Try.ntmps14
    go_wp2
    go_ret
    exact ⟨rfl, rfl⟩

set_option maxRecDepth 100000 in
set_option maxHeartbeats 8000000 in
theorem deviationsOf_law (q : Ps) (a : Option Addr) (cap : Nat) (cs : List Cv) (w : World) (at' : Option Addr) (capt : Nat) (ts : List Ps) (hc : RdS 3 encCv w (.slice a cs.length cap) cs) (hct : RdS 4 encPs w (.slice at' ts.length capt) ts) (lz : cs.length + ts.length ≤ 1048576) (xs : List Int) (lx : xs.length ≤ 1048576) (b : Bool)
    (c1 : Hid (∀ v u w, RdS 3 encCv w v cs → RdS 4 encPs w u ts → Calls Try.prog 15 #[(.agg #[.int .i64 q.s, .int .i64 q.h, .int .i64 q.y, .int .i64 q.p, v]), u] w fun e w' => ∃ v', e = .returned (.tuple #[v', .bool b]) ∧ OwnI w' w.heap.size v' xs ∧ Below w.heap.size w w'))
    (c2 : Hid (∀ v u w, RdS 3 encCv w v cs → RdS 4 encPs w u ts → Calls Try.prog 17 #[(.agg #[.int .i64 q.s, .int .i64 q.h, .int .i64 q.y, .int .i64 q.p, v]), u] w fun e w' => ∃ v', e = .returned (.tuple #[v', .bool b]) ∧ OwnI w' w.heap.size v' xs ∧ Below w.heap.size w w')) :
    Calls Try.prog 4 #[(.agg #[.int .i64 q.s, .int .i64 q.h, .int .i64 q.y, .int .i64 q.p, (.slice a cs.length cap)]), .slice at' ts.length capt] w fun e w' => e = .returned (.bool true) ∧ Below w.heap.size w w' := by
  have H := Lib.hid hc
  have HP := Lib.hid hct
  have s1 := Lib.hid (fun w => szPoseS_any at' ts.length capt (1048576 - (cs.length : Int)) (by omega) (by omega) (by omega) w)
  rw [if_pos (show (ts.length : Int) ≤ 1048576 - (cs.length : Int) by omega)] at s1
  have lc : cs.length ≤ 1048576 := by omega
  have ltt : ts.length ≤ 1048576 := by omega
  have LT := Lib.hid ltt
  have s0 := Lib.hid (fun w => szAxis_any q a cs.length cap 1048576 (by omega) (by omega) (by omega) w)
  rw [if_pos (show (cs.length : Int) ≤ 1048576 by omega)] at s0
  have LZ := Lib.hid lc
  have LX := Lib.hid lx
  have g0 : ¬ (1048576 - (cs.length : Int) < 0) := by omega
  have g1 : ¬ (1048576 - (cs.length : Int) - (ts.length : Int) < 0) := by omega
  have g2 : 1 + 3 * (cs.length : Int) ≤ 1099511627776 := by omega
  have g3 : 0 ≤ 1 + 3 * (cs.length : Int) := by omega
  clear hc lz lx hct lc ltt
  go_enter Try.func4, Try.ntmps4
  go_wp2_with fail
  refine (s0.out _).mono ?_
  rintro e w1 ⟨rfl, rfl⟩
  go_wp2_with fail
  refine (s1.out _).mono ?_
  rintro e w1' ⟨rfl, rfl⟩
  go_wp2_with fail
  refine (toAxis_any q _ cs _ (H.out.later (by go_grown)) LZ.out).mono ?_
  rintro e w2 ⟨v2, rfl, o2, b2⟩
  have n2 := (b2.block w.heap.size (by simp only [World.size_alloc]; omega)).trans (heap_alloc2_old w _ _)
  have z2 := b2.size
  simp only [World.size_alloc] at z2
  have B2 : Hid (Below w.heap.size w w2) := Below.trans (by go_grown) (b2.mono (by simp only [World.size_alloc]; omega))
  have R2 := Lib.hid (o2.rd encCv_len)
  clear b2 o2 g0 g1 s0 s1
  go_wp2_with fail
  refine (toPoseS_any _ ts _ (HP.out.later B2.out) LT.out).mono ?_
  rintro e w2' ⟨v2', rfl, o2', b2'⟩
  have n2' := (b2'.block w.heap.size (by omega)).trans n2
  have z2' := b2'.size
  have B2' : Hid (Below w.heap.size w w2') := B2.out.trans (b2'.mono (by omega))
  have R2' := Lib.hid (R2.out.later b2')
  have P2' := Lib.hid (o2'.rd encPs_len)
  clear b2' o2' R2 B2 n2
  have n2 := n2'
  have B2 := B2'
  clear n2' B2'
  go_wp2_with fail
  refine (c1.out _ _ _ R2'.out P2'.out).mono ?_
  rintro e w3 ⟨vs, rfl, os, b3⟩
  have n3 := (b3.block w.heap.size (by omega)).trans n2
  have z3 := b3.size
  have B3 : Hid (Below w.heap.size w w3) := B2.out.trans (b3.mono (by omega))
  have OS3 := Lib.hid os
  have LS := Lib.hid os.lt
  clear b3 n2 R2' P2' B2 os
  obtain ⟨⟨a0, a1, a2, a3, a4⟩, l3⟩ := boxA_at n3
  go_wp2_with fail
  refine (toAxis_any q _ cs _ (H.out.later B3.out) LZ.out).mono ?_
  rintro e w4 ⟨v4, rfl, o4, b4⟩
  have n4 := (b4.block w.heap.size (by omega)).trans n3
  have z4 := b4.size
  have B4 : Hid (Below w.heap.size w w4) := B3.out.trans (b4.mono (by omega))
  have RS4 := Lib.hid ((OS3.out.rd).later b4)
  obtain ⟨a4', cap4, rfl⟩ := o4.form
  have LV := Lib.hid o4.lt
  have O4 := Lib.hid o4
  clear b4 o4 n3 a0 a1 a2 a3 a4 l3 B3 OS3
  go_wp2_with fail
  refine (toPoseS_any _ ts _ (HP.out.later (by have b := B4.out; go_grown)) LT.out).mono ?_
  rintro e w5 ⟨v5, rfl, o5, b5⟩
  have n5 := (b5.block w.heap.size (by simp only [World.size_alloc]; omega)).trans ((Below.heap_alloc w4 _ _ (by omega)).trans n4)
  have x5 := (b5.block w4.heap.size (by simp only [World.size_alloc]; omega)).trans (heap_alloc_new w4 _)
  have z5 : w4.heap.size + 1 ≤ w5.heap.size := by have e := b5.size; simp only [World.size_alloc] at e; exact e
  have b45 : Below w4.heap.size w4 w5 := Below.trans (Below.alloc (Below.refl _ _) (Nat.le_refl _) _) (b5.mono (by simp only [World.size_alloc]; omega))
  have B5 : Hid (Below w.heap.size w w5) := B4.out.trans (b45.mono (by omega))
  have O5 := Lib.hid (O4.out.later b45)
  have RS5 := Lib.hid (RS4.out.later b45)
  have P5 := Lib.hid o5
  have LP := Lib.hid o5.lt
  simp only [World.size_alloc] at LP
  obtain ⟨a5, c5', rfl⟩ := o5.form
  have g5 := boxA_at x5
  obtain ⟨⟨y0, y1, y2, y3, y4⟩, -⟩ := g5
  clear b5 n4 O4 B4 RS4 b45 o5
  go_wp2_with fail
  refine (c2.out _ _ _ (O5.out.rd encCv_len) (P5.out.rd encPs_len)).mono ?_
  rintro e w6 ⟨vg, rfl, og, b6⟩
  have n6 := (b6.block w.heap.size (by omega)).trans n5
  have x6 := (b6.block w4.heap.size (by omega)).trans x5
  have z6 := b6.size
  have LG := Lib.hid og.lt
  have B6 : Hid (Below w.heap.size w w6) := B5.out.trans (b6.mono (by omega))
  have O6 := Lib.hid (O5.out.later b6)
  have P6 := Lib.hid (P5.out.later b6)
  have RS6 := Lib.hid (RS5.out.later b6)
  have OG6 := Lib.hid og
  clear b6 n5 x5 O5 P5 B5 RS5 og y0 y1 y2 y3 y4
  -- the results are alike
  go_wp2_with fail
  refine (eqInt64S_same _ _ xs _ (OG6.out.rd) RS6.out (by have := LX.out; omega)).mono ?_
  rintro e w7 ⟨rfl, b7⟩
  have n7 := (b7.block w.heap.size (by omega)).trans n6
  have x7 := (b7.block w4.heap.size (by omega)).trans x6
  have z7 := b7.size
  have B7' : Hid (Below w.heap.size w w7) := B6.out.trans (b7.mono (by omega))
  have O7 := Lib.hid (O6.out.later b7)
  have RS7 := Lib.hid (RS6.out.later b7)
  have OG7 := Lib.hid (OG6.out.later b7)
  have P7 := Lib.hid (P6.out.later b7)
  clear P6 b7 n6 x6 B6 O6 RS6 OG6
  have KS : Hid (∀ w', Below w7.heap.size w7 w' → (w'.cell? ⟨w.heap.size, 0, none⟩ = some (.int .i64 q.s) ∧ w'.cell? ⟨w.heap.size, 1, none⟩ = some (.int .i64 q.h) ∧ w'.cell? ⟨w.heap.size, 2, none⟩ = some (.int .i64 q.y) ∧ w'.cell? ⟨w.heap.size, 3, none⟩ = some (.int .i64 q.p) ∧ w'.cell? ⟨w.heap.size, 4, none⟩ = some (.slice a cs.length cap) ∧ w'.cell? ⟨w4.heap.size, 0, none⟩ = some (.int .i64 q.s) ∧ w'.cell? ⟨w4.heap.size, 1, none⟩ = some (.int .i64 q.h) ∧ w'.cell? ⟨w4.heap.size, 2, none⟩ = some (.int .i64 q.y) ∧ w'.cell? ⟨w4.heap.size, 3, none⟩ = some (.int .i64 q.p) ∧ w'.cell? ⟨w4.heap.size, 4, none⟩ = some (.slice a4' cs.length cap4) ∧ Hid (Below w7.heap.size w7 w'))) := by
    intro w' hb
    obtain ⟨⟨u0, u1, u2, u3, u4⟩, _⟩ := boxA_at ((hb.block w.heap.size (by omega)).trans n7)
    obtain ⟨⟨v0, v1, v2, v3, v4⟩, _⟩ := boxA_at ((hb.block w4.heap.size (by omega)).trans x7)
    exact ⟨u0, u1, u2, u3, u4, v0, v1, v2, v3, v4, hb⟩
  have N7 := Lib.hid n7
  have X7 := Lib.hid x7
  clear n7 x7
  go_wp2_with fail
  -- the argument is as it was
  go_region_held3 (fun w' => (w'.cell? ⟨w.heap.size, 0, none⟩ = some (.int .i64 q.s) ∧ w'.cell? ⟨w.heap.size, 1, none⟩ = some (.int .i64 q.h) ∧ w'.cell? ⟨w.heap.size, 2, none⟩ = some (.int .i64 q.y) ∧ w'.cell? ⟨w.heap.size, 3, none⟩ = some (.int .i64 q.p) ∧ w'.cell? ⟨w.heap.size, 4, none⟩ = some (.slice a cs.length cap) ∧ w'.cell? ⟨w4.heap.size, 0, none⟩ = some (.int .i64 q.s) ∧ w'.cell? ⟨w4.heap.size, 1, none⟩ = some (.int .i64 q.h) ∧ w'.cell? ⟨w4.heap.size, 2, none⟩ = some (.int .i64 q.y) ∧ w'.cell? ⟨w4.heap.size, 3, none⟩ = some (.int .i64 q.p) ∧ w'.cell? ⟨w4.heap.size, 4, none⟩ = some (.slice a4' cs.length cap4) ∧ Hid (Below w7.heap.size w7 w')))
    (first | exact KS.out _ (Below.refl _ _).drew | exact KS.out _ B9.out | exact KS.out _ B8.out)
    (first
      | (go_at_call 9; refine (toAxis_any q _ cs _ (H.out.later B7'.out.drew) LZ.out).mono ?_; rintro e w8 ⟨v8, rfl, o8, b8⟩; obtain ⟨a8, c8, rfl⟩ := o8.form; have B8 : Hid (Below w7.heap.size w7 w8) := (Below.refl _ _).drew.trans b8; have R8 := Lib.hid (o8.rd encCv_len); have R78 := Lib.hid ((O7.out.rd encCv_len).later B8.out))
      | (go_at_call 11; refine (eqAxis_same q _ _ cs _ R78.out R8.out LZ.out).mono ?_; rintro e w9 ⟨rfl, b9⟩; have B9 : Hid (Below w7.heap.size w7 w9) := B8.out.trans (b9.mono B8.out.size)))
  have z9 := B9.out.size
  have n9 := (B9.out.block w.heap.size (by omega)).trans N7.out
  have x9 := (B9.out.block w4.heap.size (by omega)).trans X7.out
  have O9 := Lib.hid (O7.out.later B9.out)
  have P9 := Lib.hid (P7.out.later B9.out)
  have RS9 := Lib.hid (RS7.out.later B9.out)
  have OG9 := Lib.hid (OG7.out.later B9.out)
  have BB9 : Hid (Below w.heap.size w w9) := B7'.out.trans (B9.out.mono (by omega))
  clear KS N7 X7 B9 B8 B7' O7 P7 RS7 OG7 R8 R78 o8 b8 b9
  go_wp2_with fail
  refine (toPoseS_any _ ts _ (HP.out.later BB9.out) LT.out).mono ?_
  rintro e wa ⟨va, rfl, oa, ba⟩
  have za := ba.size
  have Na := (ba.block w.heap.size (by omega)).trans n9
  have Xa := (ba.block w4.heap.size (by omega)).trans x9
  have Oa := Lib.hid (O9.out.later ba)
  have Pa := Lib.hid (P9.out.later ba)
  have RSa := Lib.hid (RS9.out.later ba)
  have OGa := Lib.hid (OG9.out.later ba)
  have BBa : Hid (Below w.heap.size w wa) := BB9.out.trans (ba.mono (by omega))
  have Ta := Lib.hid (oa.rd encPs_len)
  clear O9 P9 RS9 OG9 BB9 n9 x9 ba oa
  go_wp2_with fail
  refine (eqPoseS_same _ _ ts _ (Pa.out.rd encPs_len) Ta.out (by have := LT.out; omega)).mono ?_
  rintro e wb ⟨rfl, bb⟩
  have zb := bb.size
  have Nb := (bb.block w.heap.size (by omega)).trans Na
  have xb := (bb.block w4.heap.size (by omega)).trans Xa
  have O9 := Lib.hid (Oa.out.later bb)
  have P9 := Lib.hid (Pa.out.later bb)
  have RS9 := Lib.hid (RSa.out.later bb)
  have OG9 := Lib.hid (OGa.out.later bb)
  have BB9 : Hid (Below w.heap.size w wb) := BBa.out.trans (bb.mono (by omega))
  obtain ⟨⟨u0, u1, u2, u3, u4⟩, -⟩ := boxA_at xb
  have N9 := Lib.hid Nb
  clear Oa Pa RSa OGa BBa Ta Na Xa Nb xb bb
  -- the arguments are marked
  go_wp2_with fail
  refine (markAxis_any q _ cs _ _ O9.out LZ.out 1 (by omega) (by omega)).mono ?_
  rintro e w10 ⟨rfl, o10, g10⟩
  have z10 := g10.size
  have k10 : ¬ (1 + 3 * (cs.length : Int) + 4 * (ts.length : Int) < 0) := by omega
  have P10 := Lib.hid (P9.out.kept g10 (by
    cases hv : (Value.slice a5 ts.length c5').ownBlock with
    | none => exact .inl rfl
    | some c => exact .inr (fun h => by have e1 := LP.out c hv; have e2 := LV.out c h.symm; omega)))
  have RS10 := Lib.hid (RS9.out.grown g10 (fun c h1 h2 => by have e1 := LS.out c h1; have e2 := LV.out c h2; omega))
  have OG10 := Lib.hid (OG9.out.kept g10 (by
    cases hv : vg.ownBlock with
    | none => exact .inl rfl
    | some c => exact .inr (fun h => by have e1 := LG.out c hv; have e2 := LV.out c h.symm; omega)))
  have BB10 : Hid (Below w.heap.size w w10) := BB9.out.grown g10 (by omega) (fun c h => by have := LV.out c h; omega)
  have N10 := Lib.hid ((g10.block w.heap.size (by omega) (fun h => by have := LV.out _ h.symm; omega)).trans N9.out)
  clear u0 u1 u2 u3 u4 O9 P9 RS9 OG9 BB9 N9 o10 g10
  go_wp2_with fail
  refine (markPoseS_any _ ts _ _ P10.out LT.out (1 + 3 * (cs.length : Int)) g3 g2).mono ?_
  rintro e wc ⟨rfl, oc, gc⟩
  have zc := gc.size
  have RSc := Lib.hid (RS10.out.grown gc (fun c h1 h2 => by have e1 := LS.out c h1; have e2 := LP.out c h2; omega))
  have OGc := Lib.hid (OG10.out.kept gc (by
    cases hv : vg.ownBlock with
    | none => exact .inl rfl
    | some c => exact .inr (fun h => by have e1 := LG.out c hv; have e2 := LP.out c h.symm; omega)))
  have BBc : Hid (Below w.heap.size w wc) := BB10.out.grown gc (by omega) (fun c h => by have := LP.out c h; omega)
  have Nc := Lib.hid ((gc.block w.heap.size (by omega) (fun h => by have := LP.out _ h.symm; omega)).trans N10.out)
  clear P10 RS10 OG10 BB10 N10 oc gc g2 g3
  have RS10 := RSc
  have OG10 := OGc
  have BB10 := BBc
  have N10 := Nc
  clear RSc OGc BBc Nc
  go_wp2_with fail
  refine (eqInt64S_same _ _ xs _ (OG10.out.rd) RS10.out (by have := LX.out; omega)).mono ?_
  rintro e w11 ⟨rfl, b11⟩
  have z11 := b11.size
  have RS11 := Lib.hid (RS10.out.later b11)
  have OG11 := Lib.hid (OG10.out.later b11)
  have BB11 : Hid (Below w.heap.size w w11) := BB10.out.trans (b11.mono (by omega))
  have N11 := Lib.hid ((b11.block w.heap.size (by omega)).trans N10.out)
  clear RS10 OG10 BB10 N10 b11 k10
  -- the result is marked
  go_wp2_with fail
  refine (markInts_any _ xs _ _ OG11.out (by have := LX.out; omega) 1 (by omega) (by omega)).mono ?_
  rintro e w12 ⟨rfl, o12, g12⟩
  have z12 := g12.size
  have RS12 := Lib.hid (RS11.out.grown g12 (fun c h1 h2 => by have e1 := LS.out c h1; have e2 := LG.out c h2; omega))
  have RG12 := Lib.hid (o12.rd)
  have BB12 : Hid (Below w.heap.size w w12) := BB11.out.grown g12 (by omega) (fun c h => by have := LG.out c h; omega)
  have n12 := (g12.block w.heap.size (by omega) (fun h => by have := LG.out _ h.symm; omega)).trans N11.out
  obtain ⟨⟨a0, a1, a2, a3, a4⟩, -⟩ := boxA_at n12
  clear RS11 OG11 BB11 N11 o12 g12 n12
  have k12 : ¬ (1 + (xs.length : Int) < 0) := by omega
  go_wp2_with fail
  refine (heldInts_any _ xs.length 1 _ RG12.out (by have := LX.out; omega) (by omega) (by omega)).mono ?_
  rintro e w12' ⟨rfl, rfl⟩
  -- the second call
  go_wp2_with fail
  refine (toAxis_any q _ cs _ (H.out.later BB12.out) LZ.out).mono ?_
  rintro e w13 ⟨v13, rfl, o13, b13⟩
  have R13 := Lib.hid (o13.rd encCv_len)
  have B13 := Lib.hid b13
  have z13 := b13.size
  clear a0 a1 a2 a3 a4 o13 b13
  go_wp2_with fail
  refine (toPoseS_any _ ts _ (HP.out.later (BB12.out.trans (B13.out.mono BB12.out.size))) LT.out).mono ?_
  rintro e wd ⟨vd, rfl, od, bd⟩
  have Rd := Lib.hid (R13.out.later bd)
  have Pd := Lib.hid (od.rd encPs_len)
  have Bd : Hid (Below w12.heap.size w12 wd) := B13.out.trans (bd.mono z13)
  have zd := Bd.out.size
  clear R13 B13 bd od
  go_wp2_with fail
  refine (c2.out _ _ _ Rd.out Pd.out).mono ?_
  rintro e w14 ⟨vh, rfl, oh, b14⟩
  have B14 : Hid (Below w12.heap.size w12 w14) := Bd.out.trans (b14.mono zd)
  have z14 := b14.size
  have RH := Lib.hid (oh.rd)
  have RS14 := Lib.hid (RS12.out.later B14.out)
  clear oh b14 Rd Bd Pd RS12
  go_wp2_with fail
  refine (eqInt64S_same _ _ xs _ RH.out RS14.out (by have := LX.out; omega)).mono ?_
  rintro e w15 ⟨rfl, b15⟩
  have B15 : Hid (Below w12.heap.size w12 w15) := B14.out.trans (b15.mono (by omega))
  have RG15 := Lib.hid (RG12.out.later B15.out)
  clear b15 B14 RH RS14 RG12
  go_wp2_with fail
  refine (heldInts_any _ xs.length 1 _ RG15.out (by have := LX.out; omega) (by omega) (by omega)).mono ?_
  rintro e w15' ⟨rfl, rfl⟩
  go_wp2
  go_ret
  exact ⟨rfl, BB12.out.trans (B15.out.mono BB12.out.size)⟩

set_option maxRecDepth 100000 in
theorem walkFnExactDeviationsOf (w : World) (q : Ps) (wq : WfP q) (a : Option Addr) (cap : Nat) (cs : List Cv) (hc : RdS 3 encCv w (.slice a cs.length cap) cs) (hl : cs.length ≤ maxLen) (wc : ∀ y ∈ cs, WfL encCv y) (at' : Option Addr) (capt : Nat) (ts : List Ps) (hct : RdS 4 encPs w (.slice at' ts.length capt) ts) (hlt : ts.length ≤ maxLen) (wct : ∀ y ∈ ts, WfL encPs y) :
    Calls Try.prog 4 #[(.agg #[.int .i64 q.s, .int .i64 q.h, .int .i64 q.y, .int .i64 q.p, (.slice a cs.length cap)]), .slice at' ts.length capt] w fun e w' => e = .returned (.bool true) ∧ Below w.heap.size w w' := by
  by_cases lz : cs.length ≤ 1048576
  · by_cases lt' : cs.length + ts.length ≤ 1048576
    · obtain ⟨xs, b, lx, c1, c2⟩ := exDeviationsOf q cs ts lt'
      exact deviationsOf_law q a cap cs w at' capt ts hc hct lt' xs lx b c1 c2
    · have s0 := Lib.hid (fun w => szAxis_any q a cs.length cap 1048576 (by omega) (by omega) (by unfold maxLen at hl; omega) w)
      rw [if_pos (show (cs.length : Int) ≤ 1048576 by omega)] at s0
      have s1 := Lib.hid (fun w => szPoseS_any at' ts.length capt (1048576 - (cs.length : Int)) (by omega) (by omega) (by unfold maxLen at hlt; omega) w)
      rw [if_neg (show ¬ (ts.length : Int) ≤ 1048576 - (cs.length : Int) by omega)] at s1
      have g0 : ¬ (1048576 - (cs.length : Int) < 0) := by omega
      clear hc hct lz hl wc lt' hlt wct
      go_enter Try.func4, Try.ntmps4
      go_wp2_with fail
      refine (s0.out _).mono ?_
      rintro e w1 ⟨rfl, rfl⟩
      go_wp2_with fail
      refine (s1.out _).mono ?_
      rintro e w1' ⟨rfl, rfl⟩
      go_wp2
      go_ret
      exact ⟨rfl, by go_grown⟩
  · have s0 := Lib.hid (fun w => szAxis_any q a cs.length cap 1048576 (by omega) (by omega) (by unfold maxLen at hl; omega) w)
    rw [if_neg (show ¬ (cs.length : Int) ≤ 1048576 by omega)] at s0
    clear hc hct lz hl wc hlt wct
    go_enter Try.func4, Try.ntmps4
    go_wp2_with fail
    refine (s0.out _).mono ?_
    rintro e w1 ⟨rfl, rfl⟩
    go_wp2
    go_ret
    exact ⟨rfl, by go_grown⟩
end Go.Proofs.Ytgokhbcifgikgab
