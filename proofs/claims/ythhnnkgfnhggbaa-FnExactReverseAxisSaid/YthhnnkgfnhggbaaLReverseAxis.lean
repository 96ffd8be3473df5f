/- The law of ReverseAxis. -/
import Derived.Test.YthhnnkgfnhggbaaRevE
import Derived.Test.YthhnnkgfnhggbaaOpens2
import Derived.Test.YthhnnkgfnhggbaaAxis
import Derived.Deep.RegionHeld3
namespace Go.Proofs.Ythhnnkgfnhggbaa
open Go.ChangeShapes Go.WideShapes Go.ChangeAt Go.RowKit
set_option linter.unusedVariables false
set_option linter.unusedSimpArgs false

set_option maxRecDepth 100000 in
set_option maxHeartbeats 8000000 in
theorem reverseAxis_law (q : Ps) (a : Option Addr) (cap : Nat) (cs : List Cv) (w : World) (hc : RdS 3 encCv w (.slice a cs.length cap) cs) (lz : cs.length ≤ 1048576) (r : Ps) (ys : List Cv) (ly : ys.length ≤ 1048576) (b : Bool)
    (c1 : Hid (∀ v w, RdS 3 encCv w v cs → Calls Try.prog 39 #[(.agg #[.int .i64 q.s, .int .i64 q.h, .int .i64 q.y, .int .i64 q.p, v])] w fun e w' => ∃ v', e = .returned (.tuple #[(.agg #[.int .i64 r.s, .int .i64 r.h, .int .i64 r.y, .int .i64 r.p, v']), .bool b]) ∧ OwnS 46 3 encCv w' w.heap.size v' ys ∧ Below w.heap.size w w'))
    (c2 : Hid (∀ v w, RdS 3 encCv w v cs → Calls Try.prog 26 #[(.agg #[.int .i64 q.s, .int .i64 q.h, .int .i64 q.y, .int .i64 q.p, v])] w fun e w' => ∃ v', e = .returned (.tuple #[(.agg #[.int .i64 r.s, .int .i64 r.h, .int .i64 r.y, .int .i64 r.p, v']), .bool b]) ∧ OwnS 46 3 encCv w' w.heap.size v' ys ∧ Below w.heap.size w w')) :
    Calls Try.prog 9 #[(.agg #[.int .i64 q.s, .int .i64 q.h, .int .i64 q.y, .int .i64 q.p, (.slice a cs.length cap)])] w fun e w' => e = .returned (.bool true) ∧ Below w.heap.size w w' := by
  have H := Lib.hid hc
  have s0 := Lib.hid (fun w => szAxis_any q a cs.length cap 1048576 (by omega) (by omega) (by omega) w)
  rw [if_pos (show (cs.length : Int) ≤ 1048576 by omega)] at s0
  have LZ := Lib.hid lz
  have LY := Lib.hid ly
  have g0 : ¬ (1048576 - (cs.length : Int) < 0) := by omega
  clear hc lz ly
  go_enter Try.func9, Try.ntmps9
  go_wp2_with fail
  refine (s0.out _).mono ?_
  rintro e w1 ⟨rfl, rfl⟩
  go_wp2_with fail
  refine (toAxis_any q _ cs _ (H.out.later (by go_grown)) LZ.out).mono ?_
  rintro e w2 ⟨v2, rfl, o2, b2⟩
  have n2 := (b2.block w.heap.size (by simp only [World.size_alloc]; omega)).trans (heap_alloc2_old w _ _)
  have z2 := b2.size
  simp only [World.size_alloc] at z2
  have B2 : Hid (Below w.heap.size w w2) := Below.trans (by go_grown) (b2.mono (by simp only [World.size_alloc]; omega))
  have R2 := Lib.hid (o2.rd encCv_len)
  clear b2 o2 g0
  go_wp2_with fail
  refine (c1.out _ _ R2.out).mono ?_
  rintro e w3 ⟨vs, rfl, os, b3⟩
  have n3 := (b3.block w.heap.size (by omega)).trans n2
  have z3 := b3.size
  have B3 : Hid (Below w.heap.size w w3) := B2.out.trans (b3.mono (by omega))
  obtain ⟨a3s, caps, rfl⟩ := os.form
  have OS3 := Lib.hid (os.rd encCv_len)
  have LS := Lib.hid os.lt
  clear b3 n2 R2 B2 os
  obtain ⟨⟨a0, a1, a2, a3, a4⟩, l3⟩ := boxA_at n3
  have y3 : ¬ w.heap.size = w3.heap.size := by omega
  go_wp2_with fail
  refine (toAxis_any q _ cs _ (H.out.later (B3.out.alloc (by omega) _)) LZ.out).mono ?_
  rintro e w4 ⟨v4, rfl, o4, b4⟩
  have n4 := (b4.block w.heap.size (by simp only [World.size_alloc]; omega)).trans ((Below.heap_alloc w3 _ _ (by omega)).trans n3)
  have p4 := (b4.block w3.heap.size (by simp only [World.size_alloc]; omega)).trans (heap_alloc_new w3 _)
  have z4 := b4.size
  simp only [World.size_alloc] at z4
  have B4 : Hid (Below w.heap.size w w4) := Below.trans (B3.out.alloc (by omega) _) (b4.mono (by simp only [World.size_alloc]; omega))
  have RS4 := Lib.hid ((OS3.out.later (Below.alloc (Below.refl _ _) (Nat.le_refl _) _)).later b4)
  obtain ⟨a4', cap4, rfl⟩ := o4.form
  have lv := o4.lt
  simp only [World.size_alloc] at lv
  have LV := Lib.hid lv
  have O4 := Lib.hid o4
  clear b4 o4 n3 a0 a1 a2 a3 a4 l3 B3 OS3 lv
  go_wp2_with fail
  refine (c2.out _ _ ((O4.out.rd encCv_len).later (by go_grown))).mono ?_
  rintro e w6 ⟨vg, rfl, og, b6⟩
  have n6 := (b6.block w.heap.size (by simp only [World.size_alloc]; omega)).trans ((Below.heap_alloc w4 _ _ (by omega)).trans n4)
  have p6 := (b6.block w3.heap.size (by simp only [World.size_alloc]; omega)).trans ((Below.heap_alloc w4 _ _ (by omega)).trans p4)
  have x6 := (b6.block w4.heap.size (by simp only [World.size_alloc]; omega)).trans (heap_alloc_new w4 _)
  have z6 := b6.size
  obtain ⟨ag, capg, rfl⟩ := og.form
  have lg := og.lt
  simp only [World.size_alloc] at z6 lg
  have LG := Lib.hid lg
  have B6 : Hid (Below w.heap.size w w6) := Below.trans (B4.out.alloc (by omega) _) (b6.mono (by simp only [World.size_alloc]; omega))
  have b46 : Below w4.heap.size w4 w6 := Below.trans (Below.alloc (Below.refl _ _) (Nat.le_refl _) _) (b6.mono (by simp only [World.size_alloc]; omega))
  have O6 := Lib.hid (O4.out.later b46)
  have RS6 := Lib.hid (RS4.out.later b46)
  have OG6 := Lib.hid og
  obtain ⟨⟨u0, u1, u2, u3, u4⟩, -⟩ := boxA_at p6
  have y6 : w3.heap.size < w6.heap.size := by omega
  have y7 : ¬ w3.heap.size = w6.heap.size := by omega
  have N6 := Lib.hid n6
  have P6 := Lib.hid p6
  have X6 := Lib.hid x6
  clear b6 n4 p4 O4 B4 RS4 b46 og lg n6 p6 x6
  -- the results are alike
  go_wp2_with fail
  refine (eqAxis_same r _ _ ys _ ((OG6.out.rd encCv_len).later (by go_grown)) (RS6.out.later (by go_grown)) LY.out).mono ?_
  rintro e w7 ⟨rfl, b7⟩
  have n7 := (b7.block w.heap.size (by simp only [World.size_alloc]; omega)).trans ((Below.heap_alloc w6 _ _ (by omega)).trans N6.out)
  have P7 := Lib.hid ((b7.block w3.heap.size (by simp only [World.size_alloc]; omega)).trans ((Below.heap_alloc w6 _ _ (by omega)).trans P6.out))
  have x7 := (b7.block w4.heap.size (by simp only [World.size_alloc]; omega)).trans ((Below.heap_alloc w6 _ _ (by omega)).trans X6.out)
  have G7 := Lib.hid ((b7.block w6.heap.size (by simp only [World.size_alloc]; omega)).trans (heap_alloc_new w6 _))
  have z7 := b7.size
  simp only [World.size_alloc] at z7
  have B7' : Hid (Below w.heap.size w w7) := Below.trans (B6.out.alloc (by omega) _) (b7.mono (by simp only [World.size_alloc]; omega))
  have b67 : Below w6.heap.size w6 w7 := Below.trans (Below.alloc (Below.refl _ _) (Nat.le_refl _) _) (b7.mono (by simp only [World.size_alloc]; omega))
  have O7 := Lib.hid (O6.out.later b67)
  have RS7 := Lib.hid (RS6.out.later b67)
  have OG7 := Lib.hid (OG6.out.later b67)
  clear b7 b67 N6 P6 X6 B6 O6 RS6 OG6 u0 u1 u2 u3 u4
  have KS : Hid (∀ w', Below w7.heap.size w7 w' → (w'.cell? ⟨w.heap.size, 0, none⟩ = some (.int .i64 q.s) ∧ w'.cell? ⟨w.heap.size, 1, none⟩ = some (.int .i64 q.h) ∧ w'.cell? ⟨w.heap.size, 2, none⟩ = some (.int .i64 q.y) ∧ w'.cell? ⟨w.heap.size, 3, none⟩ = some (.int .i64 q.p) ∧ w'.cell? ⟨w.heap.size, 4, none⟩ = some (.slice a cs.length cap) ∧ w'.cell? ⟨w4.heap.size, 0, none⟩ = some (.int .i64 q.s) ∧ w'.cell? ⟨w4.heap.size, 1, none⟩ = some (.int .i64 q.h) ∧ w'.cell? ⟨w4.heap.size, 2, none⟩ = some (.int .i64 q.y) ∧ w'.cell? ⟨w4.heap.size, 3, none⟩ = some (.int .i64 q.p) ∧ w'.cell? ⟨w4.heap.size, 4, none⟩ = some (.slice a4' cs.length cap4) ∧ Hid (Below w7.heap.size w7 w'))) := by
    intro w' hb
    obtain ⟨⟨u0, u1, u2, u3, u4⟩, _⟩ := boxA_at ((hb.block w.heap.size (by omega)).trans n7)
    obtain ⟨⟨v0, v1, v2, v3, v4⟩, _⟩ := boxA_at ((hb.block w4.heap.size (by omega)).trans x7)
    exact ⟨u0, u1, u2, u3, u4, v0, v1, v2, v3, v4, hb⟩
  have N7 := Lib.hid n7
  have X7 := Lib.hid x7
  clear n7 x7
  go_wp2_with fail
  -- the argument is as it was
  go_region_held3 (fun w' => (w'.cell? ⟨w.heap.size, 0, none⟩ = some (.int .i64 q.s) ∧ w'.cell? ⟨w.heap.size, 1, none⟩ = some (.int .i64 q.h) ∧ w'.cell? ⟨w.heap.size, 2, none⟩ = some (.int .i64 q.y) ∧ w'.cell? ⟨w.heap.size, 3, none⟩ = some (.int .i64 q.p) ∧ w'.cell? ⟨w.heap.size, 4, none⟩ = some (.slice a cs.length cap) ∧ w'.cell? ⟨w4.heap.size, 0, none⟩ = some (.int .i64 q.s) ∧ w'.cell? ⟨w4.heap.size, 1, none⟩ = some (.int .i64 q.h) ∧ w'.cell? ⟨w4.heap.size, 2, none⟩ = some (.int .i64 q.y) ∧ w'.cell? ⟨w4.heap.size, 3, none⟩ = some (.int .i64 q.p) ∧ w'.cell? ⟨w4.heap.size, 4, none⟩ = some (.slice a4' cs.length cap4) ∧ Hid (Below w7.heap.size w7 w')))
    (first | exact KS.out _ (Below.refl _ _).drew | exact KS.out _ B9.out | exact KS.out _ B8.out)
    (first
      | (go_at_call 37; refine (toAxis_any q _ cs _ (H.out.later B7'.out.drew) LZ.out).mono ?_; rintro e w8 ⟨v8, rfl, o8, b8⟩; obtain ⟨a8, c8, rfl⟩ := o8.form; have B8 : Hid (Below w7.heap.size w7 w8) := (Below.refl _ _).drew.trans b8; have R8 := Lib.hid (o8.rd encCv_len); have R78 := Lib.hid ((O7.out.rd encCv_len).later B8.out))
      | (go_at_call 30; refine (eqAxis_same q _ _ cs _ R78.out R8.out LZ.out).mono ?_; rintro e w9 ⟨rfl, b9⟩; have B9 : Hid (Below w7.heap.size w7 w9) := B8.out.trans (b9.mono B8.out.size)))
  have z9 := B9.out.size
  have N9 := Lib.hid ((B9.out.block w.heap.size (by omega)).trans N7.out)
  have P9 := Lib.hid ((B9.out.block w3.heap.size (by omega)).trans P7.out)
  have G9 := Lib.hid ((B9.out.block w6.heap.size (by omega)).trans G7.out)
  have x9 := (B9.out.block w4.heap.size (by omega)).trans X7.out
  have O9 := Lib.hid (O7.out.later B9.out)
  have RS9 := Lib.hid (RS7.out.later B9.out)
  have OG9 := Lib.hid (OG7.out.later B9.out)
  have BB9 : Hid (Below w.heap.size w w9) := B7'.out.trans (B9.out.mono (by omega))
  obtain ⟨⟨u0, u1, u2, u3, u4⟩, -⟩ := boxA_at x9
  clear KS N7 P7 X7 G7 B9 B8 B7' O7 RS7 OG7 R8 R78 x9 o8 b8 b9
  -- the argument is marked
  go_wp2_with fail
  refine (markAxis_any q _ cs _ _ O9.out LZ.out 1 (by omega) (by omega)).mono ?_
  rintro e w10 ⟨rfl, o10, g10⟩
  have z10 := g10.size
  have k10 : ¬ (1 + 3 * (cs.length : Int) < 0) := by omega
  have RS10 := Lib.hid (RS9.out.grown g10 (fun c h1 h2 => by have e1 := LS.out c h1; have e2 := LV.out c h2; omega))
  have OG10 := Lib.hid (OG9.out.kept g10 (by
    cases hv : (Value.slice ag ys.length capg).ownBlock with
    | none => exact .inl rfl
    | some c => exact .inr (fun h => by have e1 := LG.out c hv; have e2 := LV.out c h.symm; omega)))
  have BB10 : Hid (Below w.heap.size w w10) := BB9.out.grown g10 (by omega) (fun c h => by have := LV.out c h; omega)
  have N10 := Lib.hid ((g10.block w.heap.size (by omega) (fun h => by have := LV.out _ h.symm; omega)).trans N9.out)
  have p10 := (g10.block w3.heap.size (by omega) (fun h => by have := LV.out _ h.symm; omega)).trans P9.out
  have gg10 := (g10.block w6.heap.size (by omega) (fun h => by have := LV.out _ h.symm; omega)).trans G9.out
  clear u0 u1 u2 u3 u4
  obtain ⟨⟨u0, u1, u2, u3, u4⟩, -⟩ := boxA_at p10
  obtain ⟨⟨v0, v1, v2', v3, v4'⟩, -⟩ := boxA_at gg10
  have P10 := Lib.hid p10
  have G10 := Lib.hid gg10
  clear O9 RS9 OG9 BB9 N9 P9 G9 o10 g10 p10 gg10
  go_wp2_with fail
  refine (eqAxis_same r _ _ ys _ (OG10.out.rd encCv_len) RS10.out LY.out).mono ?_
  rintro e w11 ⟨rfl, b11⟩
  have z11 := b11.size
  have RS11 := Lib.hid (RS10.out.later b11)
  have OG11 := Lib.hid (OG10.out.later b11)
  have BB11 : Hid (Below w.heap.size w w11) := BB10.out.trans (b11.mono (by omega))
  have N11 := Lib.hid ((b11.block w.heap.size (by omega)).trans N10.out)
  have P11 := Lib.hid ((b11.block w3.heap.size (by omega)).trans P10.out)
  have gg11 := (b11.block w6.heap.size (by omega)).trans G10.out
  clear u0 u1 u2 u3 u4 v0 v1 v2' v3 v4'
  obtain ⟨⟨v0, v1, v2', v3, v4'⟩, -⟩ := boxA_at gg11
  have G11 := Lib.hid gg11
  clear RS10 OG10 BB10 N10 P10 G10 b11 k10 gg11
  -- the result is marked
  go_wp2_with fail
  refine (markAxis_any r _ ys _ _ OG11.out LY.out 1 (by omega) (by omega)).mono ?_
  rintro e w12 ⟨rfl, o12, g12⟩
  have z12 := g12.size
  have RS12 := Lib.hid (RS11.out.grown g12 (fun c h1 h2 => by have e1 := LS.out c h1; have e2 := LG.out c h2; omega))
  have RG12 := Lib.hid (o12.rd encCv_len)
  have BB12 : Hid (Below w.heap.size w w12) := BB11.out.grown g12 (by omega) (fun c h => by have := LG.out c h; omega)
  have N12 := Lib.hid ((g12.block w.heap.size (by omega) (fun h => by have := LG.out _ h.symm; omega)).trans N11.out)
  have P12 := Lib.hid ((g12.block w3.heap.size (by omega) (fun h => by have := LG.out _ h.symm; omega)).trans P11.out)
  have gg12 := (g12.block w6.heap.size (by omega) (fun h => by have := LG.out _ h.symm; omega)).trans G11.out
  clear v0 v1 v2' v3 v4'
  obtain ⟨⟨v0, v1, v2', v3, v4'⟩, -⟩ := boxA_at gg12
  have G12 := Lib.hid gg12
  clear RS11 OG11 BB11 N11 P11 G11 o12 g12 gg12
  have k12 : ¬ (1 + 3 * (ys.length : Int) < 0) := by omega
  go_wp2_with fail
  refine (heldAxis_any r _ ys.length 1 _ RG12.out LY.out (by omega) (by omega)).mono ?_
  rintro e w13 ⟨rfl, b13⟩
  have z13 := b13.size
  have n13 := (b13.block w.heap.size (by omega)).trans N12.out
  have P13 := Lib.hid ((b13.block w3.heap.size (by omega)).trans P12.out)
  have G13 := Lib.hid ((b13.block w6.heap.size (by omega)).trans G12.out)
  have RS13 := Lib.hid (RS12.out.later b13)
  have RG13 := Lib.hid (RG12.out.later b13)
  have BB13 : Hid (Below w.heap.size w w13) := BB12.out.trans (b13.mono (by omega))
  clear v0 v1 v2' v3 v4'
  obtain ⟨⟨a0, a1, a2, a3, a4⟩, -⟩ := boxA_at n13
  clear b13 n13 N12 P12 G12 RS12 RG12 BB12
  -- the second call
  go_wp2_with fail
  refine (toAxis_any q _ cs _ (H.out.later BB13.out) LZ.out).mono ?_
  rintro e w14 ⟨v14, rfl, o14, b14⟩
  have R14 := Lib.hid (o14.rd encCv_len)
  have B14 := Lib.hid b14
  have z14 := b14.size
  clear a0 a1 a2 a3 a4 o14 b14
  go_wp2_with fail
  refine (c2.out _ _ R14.out).mono ?_
  rintro e w15 ⟨vh, rfl, oh, b15⟩
  have B15 : Hid (Below w13.heap.size w13 w15) := B14.out.trans (b15.mono z14)
  have z15 := B15.out.size
  obtain ⟨ah, caph, rfl⟩ := oh.form
  have RH := Lib.hid (oh.rd encCv_len)
  have RS15 := Lib.hid (RS13.out.later B15.out)
  have p15 := (B15.out.block w3.heap.size (by omega)).trans P13.out
  obtain ⟨⟨u0, u1, u2, u3, u4⟩, -⟩ := boxA_at p15
  have y15 : w3.heap.size < w15.heap.size := by omega
  have y16 : ¬ w3.heap.size = w15.heap.size := by omega
  clear oh b15 R14 B14 RS13 p15 P13
  go_wp2_with fail
  refine (eqAxis_same r _ _ ys _ (RH.out.later (by go_grown)) (RS15.out.later (by go_grown)) LY.out).mono ?_
  rintro e w16 ⟨rfl, b16⟩
  have B16 : Hid (Below w13.heap.size w13 w16) := (B15.out.alloc z15 _).trans (b16.mono (by simp only [World.size_alloc]; omega))
  have g16 := (B16.out.block w6.heap.size (by omega)).trans G13.out
  have RG16 := Lib.hid (RG13.out.later B16.out)
  clear u0 u1 u2 u3 u4
  obtain ⟨⟨v0, v1, v2', v3, v4'⟩, -⟩ := boxA_at g16
  clear b16 B15 RH RS15 RG13 g16 G13
  go_wp2_with fail
  refine (heldAxis_any r _ ys.length 1 _ RG16.out LY.out (by omega) (by omega)).mono ?_
  rintro e w17 ⟨rfl, b17⟩
  have B17 : Hid (Below w13.heap.size w13 w17) := B16.out.trans (b17.mono B16.out.size)
  clear v0 v1 v2' v3 v4' b17 B16
  go_wp2
  go_ret
  exact ⟨rfl, BB13.out.trans (B17.out.mono BB13.out.size)⟩

set_option maxRecDepth 100000 in
theorem walkFnExactReverseAxis (w : World) (q : Ps) (wq : WfP q) (a : Option Addr) (cap : Nat) (cs : List Cv) (hc : RdS 3 encCv w (.slice a cs.length cap) cs) (hl : cs.length ≤ maxLen) (wc : ∀ y ∈ cs, WfL encCv y) :
    Calls Try.prog 9 #[(.agg #[.int .i64 q.s, .int .i64 q.h, .int .i64 q.y, .int .i64 q.p, (.slice a cs.length cap)])] w fun e w' => e = .returned (.bool true) ∧ Below w.heap.size w w' := by
  by_cases lz : cs.length ≤ 1048576
  · obtain ⟨r, ys, b, ly, c1, c2⟩ := exReverseAxis q cs lz
    exact reverseAxis_law q a cap cs w hc lz r ys ly b c1 c2
  · have s0 := Lib.hid (fun w => szAxis_any q a cs.length cap 1048576 (by omega) (by omega) (by unfold maxLen at hl; omega) w)
    rw [if_neg (show ¬ (cs.length : Int) ≤ 1048576 by omega)] at s0
    clear hc lz hl wc
    go_enter Try.func9, Try.ntmps9
    go_wp2_with fail
    refine (s0.out _).mono ?_
    rintro e w1 ⟨rfl, rfl⟩
    go_wp2
    go_ret
    exact ⟨rfl, by go_grown⟩
end Go.Proofs.Ythhnnkgfnhggbaa
