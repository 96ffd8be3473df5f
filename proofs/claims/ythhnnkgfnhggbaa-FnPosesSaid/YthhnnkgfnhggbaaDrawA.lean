/- Drawn axes. (Written by tools/mkdrawa.py.) -/
import Derived.Test.YthhnnkgfnhggbaaDraw
import Derived.Test.YthhnnkgfnhggbaaSpecIs
import Derived.Test.YthhnnkgfnhggbaaSpecPos
import Derived.Test.YthhnnkgfnhggbaaImplPos
import Derived.Test.YthhnnkgfnhggbaaImplVal
import Derived.Test.YthhnnkgfnhggbaaMerge
import Derived.Deep.AppendLies
import Derived.Deep.LoopGhost
import Derived.Deep.DeepCutAuto
namespace Go.Proofs.Ythhnnkgfnhggbaa
open Go.ChangeShapes Go.WideShapes Go.ChangeAt Go.RowKit
set_option linter.unusedVariables false
set_option linter.unusedSimpArgs false

theorem okA_of_poses {q : Ps} {cs : List Cv} (h1 : 1 ≤ cs.length) (h8 : cs.length ≤ 8) (hc : ∀ c ∈ cs, OkCv c) (hs : sumR cs ≤ 60) (hp : ∀ i, i ≤ (turnsC cs).length → OkP (poseN q ((turnsC cs).take i))) : OkA q cs := by
  rw [okA_iff]
  refine ⟨⟨⟨by omega, by omega⟩, hc, hs⟩, ?_⟩
  intro y hy
  obtain ⟨i, hi⟩ := List.mem_iff_getElem?.1 hy
  have hl : i < (allP q cs).length := (List.getElem?_eq_some_iff.1 hi).1
  rw [allP_length] at hl
  rw [allP_get _ _ hc i (by omega)] at hi
  rw [← Option.some.inj hi]
  exact hp i (by omega)

/-- What is drawn: curves of 1 to 5 rings. -/
def DrC (c : Cv) : Prop := (1 ≤ c.r ∧ c.r ≤ 5) ∧ (-12 ≤ c.b ∧ c.b ≤ 12) ∧ -12 ≤ c.s ∧ c.s ≤ 12
theorem DrC.cv {c : Cv} (h : DrC c) : OkCv c := by
  unfold DrC at h
  unfold OkCv OkTurn
  omega
theorem pose_zero (ts : List Cv) (ht : ∀ t ∈ ts, (-12 ≤ t.b ∧ t.b ≤ 12) ∧ -12 ≤ t.s ∧ t.s ≤ 12) : ∀ i : Nat, i ≤ ts.length → i ≤ 33 → (-(12 * (i : Int)) ≤ (poseN ⟨0, 0, 0, 0⟩ (ts.take i)).y ∧ (poseN ⟨0, 0, 0, 0⟩ (ts.take i)).y ≤ 12 * i) ∧ (-(12 * (i : Int)) ≤ (poseN ⟨0, 0, 0, 0⟩ (ts.take i)).p ∧ (poseN ⟨0, 0, 0, 0⟩ (ts.take i)).p ≤ 12 * i) ∧ (-(400 * (i : Int)) ≤ (poseN ⟨0, 0, 0, 0⟩ (ts.take i)).s ∧ (poseN ⟨0, 0, 0, 0⟩ (ts.take i)).s ≤ 400 * i) ∧ (-(400 * (i : Int)) ≤ (poseN ⟨0, 0, 0, 0⟩ (ts.take i)).h ∧ (poseN ⟨0, 0, 0, 0⟩ (ts.take i)).h ≤ 400 * i) := by
  intro i
  induction i with
  | zero => intro _ _; simp [poseN]
  | succ i ih =>
    intro hi h33
    obtain ⟨t, htg⟩ : ∃ t, ts[i]? = some t := ⟨_, List.getElem?_eq_getElem (by omega)⟩
    have a := ih (by omega) (by omega)
    have b := ht t (List.mem_of_getElem? htg)
    rw [poseN_succ _ ts i t htg]
    simp only [stepP]
    push_cast
    omega
theorem zero_ok {cs : List Cv} (h1 : 1 ≤ cs.length) (h8 : cs.length ≤ 8) (hc : ∀ c ∈ cs, DrC c) (hs : sumR cs ≤ 33) : OkA ⟨0, 0, 0, 0⟩ cs := by
  have hv : ∀ c ∈ cs, OkCv c := fun c h => (hc c h).cv
  have hl := turnsC_len cs hv
  refine okA_of_poses h1 h8 hv (by omega) ?_
  intro i hi
  have ht : ∀ t ∈ turnsC cs, (-12 ≤ t.b ∧ t.b ≤ 12) ∧ -12 ≤ t.s ∧ t.s ≤ 12 := by
    intro t ht
    unfold turnsC at ht
    obtain ⟨c, h1, h2⟩ := List.mem_flatMap.1 ht
    rw [(List.mem_replicate.1 h2).2]
    exact (hc c h1).2
  have := pose_zero (turnsC cs) ht i hi (by omega)
  unfold OkP OkOff OkHead
  omega

theorem ok_boolD (P : Prop) : ∃ b : Bool, b = true ↔ P := by
  by_cases h : P
  · exact ⟨true, by simp [h]⟩
  · exact ⟨false, by simp [h]⟩

set_option maxHeartbeats 1000000 in
theorem amongIn_any (w : World) (g : Nat) (v : Value) (zs : List Int) (n : Nat) (a : Option Addr) (cap L : Nat) (ys : List Int) (h : SrcAt w g v zs n) (hn : n ≤ 1099511627000) (lz : zs.length ≤ 1099511627776) (hL : L = ys.length) (h0 : 1 ≤ L) (h1 : L ≤ 1000) (hr : RdI w (.slice a L cap) ys) (hg : ∀ b o, a = some ⟨b, o, none⟩ → b ≠ g) :
    Calls Try.prog 83 #[.pointer (some ⟨g, 0, none⟩), .slice a L cap] w fun e w' => ∃ (x : Int) (m : Nat), e = .returned (.int .i64 x) ∧ Hid (x ∈ ys) ∧ n ≤ m ∧ m ≤ n + 2 ∧ SrcAt w' g v zs m ∧ w.grownBy w' (some g) := by
  have c1 := Lib.hid (pick_any w g v zs n L h hn lz (by omega) (by omega))
  obtain ⟨a', cap', e, hc⟩ := hr
  simp only [Value.slice.injEq] at e
  obtain ⟨rfl, -, rfl⟩ := e
  obtain ⟨b, off, rfl, hc1⟩ := hc.resolve_left (by intro h; rw [h] at hL; simp at hL; omega)
  have ng : b ≠ g := hg b off rfl
  have HC := Lib.hid hc1
  have HL := Lib.hid hL
  have q1 : IntKind.i64.wrap (L : Int) = L := IntWalk.i64_in _ (by omega)
  clear h hc hc1 hg hL
  go_enter Try.func83, Try.ntmps83
  go_wp2_with fail
  refine c1.out.mono ?_
  rintro e w1 ⟨x, m, rfl, x0, x1, -, l1, u1, s1, g1⟩
  have S1 := Lib.hid s1
  have G1 := Lib.hid g1
  have x2 := x1 (by omega)
  obtain ⟨i, rfl⟩ : ∃ i : Nat, x = i := ⟨x.toNat, by omega⟩
  obtain ⟨y, hy⟩ : ∃ y, ys[i]? = some y := ⟨_, List.getElem?_eq_getElem (by have := HL.out; omega)⟩
  have d0 := HC.out i y hy
  have d1 := (World.cell?_of_block (w := w) (w' := w1) (a := ⟨b, off + i, none⟩) (G1.out.block b (World.block_lt_of_cell? w _ d0) (by intro h; exact ng (Option.some.inj h)))).trans d0
  have HY := Lib.hid (List.mem_of_getElem? hy)
  clear s1 g1 c1 x1 d0 hy HC
  go_wp2
  go_ret
  exact ⟨_, m, rfl, HY, l1, u1, S1.out, G1.out⟩

def ZB : Array Value := #[.int .i64 0, .int .i64 0, .int .i64 0, .int .i64 0, .slice none 0 0]
theorem heap_setA4 {w : World} {A : Nat} {q : Ps} {u : Value} {t : TypeId} (h : w.heap[A]? = some (.cells #[.int .i64 q.s, .int .i64 q.h, .int .i64 q.y, .int .i64 q.p, u] t (0, 0))) (u' : Value) :
    (w.setCell ⟨A, 4, none⟩ u').heap[A]? = some (.cells #[.int .i64 q.s, .int .i64 q.h, .int .i64 q.y, .int .i64 q.p, u'] t (0, 0)) := heap_setCell_same w A 4 _ t u' h

theorem DSt.app {w v y : World} {gs a : Nat} {vv : Value} {zs : List Int} {n : Nat} (h : DSt w v gs vv zs n) (g : v.grownBy y (some a)) (ha : w.heap.size ≤ a) : DSt w y gs vv zs n := by
  have gl := h.gl
  refine ⟨h.src.apartOf a (by omega) (fun hz b hb => by have := h.vl hz b hb; omega) (fun j h1 h2 => g.block j h2 (fun e => h1 (Option.some.inj e))), ⟨g.os.trans h.gr.os, g.tape.trans h.gr.tape, g.output.trans h.gr.output, Nat.le_trans h.gr.size g.size, fun i hi hn => ?_⟩, h.gl, h.vl⟩
  exact (g.block i (Nat.lt_of_lt_of_le hi h.gr.size) (fun e => by have e2 := Option.some.inj e; omega)).trans (h.gr.block i hi hn)
theorem DSt.later {w v y : World} {gs : Nat} {vv : Value} {zs : List Int} {n : Nat} (h : DSt w v gs vv zs n) (b : Below v.heap.size v y) : DSt w y gs vv zs n :=
  ⟨h.src.later b h.src.lt, grownBy_trans' h.gr ⟨b.os, b.tape, b.output, b.size, fun i hi _ => b.block i hi⟩, h.gl, h.vl⟩
theorem rdB_ltA {w : World} {v : Value} {zs : List Int} (h : RdB w v zs) (hz : zs ≠ []) (b : Nat) (hb : v.ownBlock = some b) : b < w.heap.size := by
  obtain ⟨a, cap, rfl, h2, -⟩ := h
  obtain ⟨b', off, rfl, h3⟩ := h2.resolve_left hz
  obtain ⟨x, xs, rfl⟩ := List.exists_cons_of_ne_nil hz
  have hlt := World.block_lt_of_cell? w _ (h3 0 x rfl)
  simp only [Value.ownBlock, Option.some.injEq] at hb
  subst hb
  exact hlt
/-- Drawn curves with at most M rings. -/
structure DrL (ys : List Cv) (M : Int) : Prop where
  ok : ∀ c ∈ ys, DrC c
  sum : sumR ys ≤ M
theorem DrL.snoc {ys : List Cv} {M : Int} {c : Cv} (h : DrL ys M) (hc : DrC c) (h2 : c.r ≤ 5) : DrL (ys ++ [c]) (M + 5) :=
  ⟨fun x hx => by
    rcases List.mem_append.1 hx with hx | hx
    · exact h.ok x hx
    · obtain rfl : x = c := by simpa using hx
      exact hc, by have := h.sum; rw [sumR_app']; simp only [sumR]; omega⟩
theorem DrL.snoc1 {ys : List Cv} {M : Int} {c : Cv} (h : DrL ys M) (hc : DrC c) (h2 : c.r = 1) : DrL (ys ++ [c]) (M + 1) :=
  ⟨fun x hx => by
    rcases List.mem_append.1 hx with hx | hx
    · exact h.ok x hx
    · obtain rfl : x = c := by simpa using hx
      exact hc, by have := h.sum; rw [sumR_app']; simp only [sumR]; omega⟩

set_option maxRecDepth 100000 in
set_option maxHeartbeats 8000000 in
theorem drawOkA_any (w : World) (gs : Nat) (v : Value) (zs : List Int) (n : Nat) (lz : zs.length ≤ 1099511627776) (hn : n ≤ 1099511000000) (D : DSt w w gs v zs n) :
    Calls Try.prog 44 #[.pointer (some ⟨gs, 0, none⟩)] w fun e w' => ∃ (q : Ps) (u : Value) (ys : List Cv) (m : Nat), e = .returned (.agg #[.int .i64 q.s, .int .i64 q.h, .int .i64 q.y, .int .i64 q.p, u]) ∧ OkA q ys ∧ OwnS 46 3 encCv w' w.heap.size u ys ∧ m ≤ n + 300 ∧ DSt w w' gs v zs m := by
  obtain ⟨i0, hi, hz0, hz1, hz2⟩ := info_parts info_CvM
  have gl := D.gl
  have vl := Lib.hid D.vl
  have D0 := Lib.hid (D.alloc (.cells #[.int .i64 0, .int .i64 0, .int .i64 0, .int .i64 0, .slice none 0 0] 28))
  have R0 : Hid ((w.alloc (.cells #[.int .i64 0, .int .i64 0, .int .i64 0, .int .i64 0, .slice none 0 0] 28)).heap[w.heap.size]? = some (.cells #[.int .i64 0, .int .i64 0, .int .i64 0, .int .i64 0, .slice none 0 0] 28 (0, 0))) := heap_alloc_new _ _
  have DU : Hid (DSt (w.alloc (.cells #[.int .i64 0, .int .i64 0, .int .i64 0, .int .i64 0, .slice none 0 0] 28)) (w.alloc (.cells #[.int .i64 0, .int .i64 0, .int .i64 0, .int .i64 0, .slice none 0 0] 28)) gs v zs n) := ⟨D0.out.src, ⟨rfl, rfl, rfl, Nat.le_refl _, fun _ _ _ => rfl⟩, by simp only [World.size_alloc]; omega, fun hz b hb => by have := vl.out hz b hb; simp only [World.size_alloc]; omega⟩
  clear D
  go_enter Try.func44, Try.ntmps44
  go_wp2_with fail
  refine (drawPose_any _ gs v zs n lz hn DU.out).mono ?_
  rintro e w1 ⟨q, m1, rfl, l1, u1, d1⟩
  have gr1 : (w.alloc (.cells #[.int .i64 0, .int .i64 0, .int .i64 0, .int .i64 0, .slice none 0 0] 28)).grownBy w1 (some gs) := d1.gr
  have D1 := Lib.hid (D0.out.step d1.src gr1)
  have R1 := Lib.hid (D0.out.keep gr1 (Nat.le_refl _) R0.out)
  have z1 : w.heap.size < w1.heap.size := (Array.getElem?_eq_some_iff.1 R1.out).1
  clear d1 gr1 D0 R0 DU
  go_wp2_with fail
  obtain ⟨B1, hB1⟩ : ∃ p, p = w1.heap.size := ⟨_, rfl⟩
  obtain ⟨AX, hAX⟩ : ∃ p, p = B1 + 1 := ⟨_, rfl⟩
  generalize hx_ : (w1.alloc (.cells #[] 46)).alloc (.cells #[.int .i64 q.s, .int .i64 q.h, .int .i64 q.y, .int .i64 q.p, .slice (some ⟨w1.heap.size, 0, none⟩) 0 0] 28) = w2
  have D2 : Hid (DSt w w2 gs v zs m1) := by rw [← hx_]; exact (D1.out.alloc _).alloc _
  have R2 : Hid (w2.heap[w.heap.size]? = some (.cells #[.int .i64 0, .int .i64 0, .int .i64 0, .int .i64 0, .slice none 0 0] 28 (0, 0))) := by rw [← hx_]; exact (Below.heap_alloc _ _ _ (by simp only [World.size_alloc]; omega)).trans ((Below.heap_alloc _ _ _ z1).trans R1.out)
  have NA2 : Hid (w2.heap[AX]? = some (.cells #[.int .i64 q.s, .int .i64 q.h, .int .i64 q.y, .int .i64 q.p, .slice (some ⟨B1, 0, none⟩) 0 0] 28 (0, 0))) := by rw [← hx_, hAX, hB1]; exact heap_alloc2_new _ _ _
  have O2 : Hid (OwnS 46 3 encCv w2 B1 (.slice (some ⟨B1, 0, none⟩) 0 0) []) := by
    show OwnS _ _ _ _ _ _ _
    rw [← hx_, hB1]
    have h : OwnS 46 3 encCv (w1.alloc (.cells #[] 46)) w1.heap.size (.slice (some ⟨w1.heap.size, 0, none⟩) 0 0) [] := World.ownsRow_lit (e := 46) (size := 3) w1 #[] 0 (Nat.le_refl _) (by decide) rfl
    exact h.alloc _
  rw [show w1.heap.size + 1 = AX by omega]
  have lB1 : w.heap.size < B1 ∧ B1 < AX := by omega
  clear hx_ D1 R1 z1 hB1 hAX
  refine (pick_any _ gs v zs m1 5 D2.out.src (by omega) lz (by omega) (by omega)).mono ?_
  rintro e w3 ⟨x0, m3, rfl, p0_, q0_, -, l3, u3, s_, g_⟩
  have X0 := q0_ (by omega)
  have D3 := Lib.hid (D2.out.step s_ g_)
  have R3 := Lib.hid (D2.out.keep g_ (by omega) R2.out)
  have NA3 := Lib.hid (D2.out.keep g_ (by omega) NA2.out)
  have O3 := Lib.hid (O2.out.kept g_ (.inr (by simp [Value.ownBlock]; omega)))
  clear s_ g_ q0_ D2 R2 NA2 O2
  obtain ⟨K, hK⟩ : ∃ K : Nat, (K : Int) = 1 + x0 := ⟨(1 + x0).toNat, by omega⟩
  have K5 : K ≤ 5 ∧ 1 ≤ K := by omega
  have qK : IntKind.i64.wrap (1 + x0) = (K : Int) := by rw [IntWalk.i64_in _ (by omega)]; omega
  clear hK X0 p0_
  go_wp2
  go_loopw [4] (fun nv wr => ∃ (j m : Nat) (ys : List Cv) (ag L cap : Nat), nv = .int .i64 (j : Int) ∧ j ≤ 5 ∧ 1 ≤ j + L ∧ L + j ≤ 5 ∧ Hid (L = ys.length) ∧ Hid (DrL ys (5 * L)) ∧ Hid (OwnS 46 3 encCv wr B1 (.slice (some ⟨ag, 0, none⟩) L cap) ys) ∧ Hid (wr.heap[AX]? = some (.cells #[.int .i64 q.s, .int .i64 q.h, .int .i64 q.y, .int .i64 q.p, .slice (some ⟨ag, 0, none⟩) L cap] 28 (0, 0))) ∧ ag ≠ AX ∧ Hid (wr.heap[w.heap.size]? = some (.cells #[.int .i64 0, .int .i64 0, .int .i64 0, .int .i64 0, .slice none 0 0] 28 (0, 0))) ∧ Hid (DSt w wr gs v zs m) ∧ m + 20 * j ≤ n + 130) (fun nv _ => (intOf nv).toNat)
  case atStart => exact ⟨K, m3, [], B1, 0, 0, rfl, by omega, by omega, by omega, rfl, ⟨by simp, by simp [sumR]⟩, O3, NA3, by omega, R3, D3, by omega⟩
  case round =>
    obtain ⟨j, m, ys, ag, L, cap, rfl, hj, hjl, hlj, HL, DR, O_0, NA_0, nga0, RE_0, D_0, hm⟩ := hrel
    clear O3 NA3 R3 D3
    have lag0 := (O_0.out.lt ag rfl).1
    have gl0 := D_0.out.gl
    by_cases hj0 : j = 0
    · subst hj0
      have dr25 : DrL ys (25 + (L : Int)) := ⟨DR.out.ok, by have := DR.out.sum; omega⟩
      go_wp2_with fail
      refine (one_any _ gs v zs m 10 D_0.out.src (by omega) lz (by omega) (by omega)).mono ?_
      rintro e v1 ⟨bb, m1, rfl, l1, u1, s_, g_⟩
      have D_1 : Hid (DSt w v1 gs v zs m1) := D_0.out.step s_ g_
      have NA_1 := Lib.hid (D_0.out.keep g_ (by omega) NA_0.out)
      have RE_1 := Lib.hid (D_0.out.keep g_ (by omega) RE_0.out)
      have O_1 := Lib.hid (O_0.out.kept g_ (.inr (by simp [Value.ownBlock]; omega)))
      have DR1 := Lib.hid dr25
      clear s_ g_ D_0 NA_0 RE_0 O_0 DR dr25
      cases bb with
      | false =>
        obtain ⟨b2, hb2⟩ := ok_boolD (OkA q ys)
        have HB2 := Lib.hid hb2
        clear hb2
        have C := Lib.hid (l02Is_any AX 28 q (some ⟨ag, 0, none⟩) cap ys v1 (by have e := NA_1.out; rwa [show L = ys.length from HL.out] at e) (by have e := O_1.out.rd encCv_len; rwa [show L = ys.length from HL.out] at e) (by have := HL.out; omega) b2 HB2.out)
        go_wp2_with fail
        refine C.out.mono ?_
        rintro e v2 ⟨rfl, b_⟩
        have D_2 : Hid (DSt w v2 gs v zs m1) := D_1.out.later b_
        have NA_2 := Lib.hid ((b_.block AX (Array.getElem?_eq_some_iff.1 NA_1.out).1).trans NA_1.out)
        have RE_2 := (b_.block w.heap.size (Array.getElem?_eq_some_iff.1 RE_1.out).1).trans RE_1.out
        have O_2 := Lib.hid (O_1.out.later b_)
        clear C b_ D_1 NA_1 RE_1 O_1
        obtain ⟨⟨y0, y1, y2, y3, y4⟩, -⟩ := boxA_at (q := ⟨0, 0, 0, 0⟩) RE_2
        have f0 := frozen_of_row v2 w.heap.size 0 _ _ RE_2
        have f1 := frozen_of_row v2 w.heap.size 1 _ _ RE_2
        have f2 := frozen_of_row v2 w.heap.size 2 _ _ RE_2
        have f3 := frozen_of_row v2 w.heap.size 3 _ _ RE_2
        have f4 := frozen_of_row v2 w.heap.size 4 _ _ RE_2
        obtain ⟨⟨x0_, x1_, x2_, x3_, x4_⟩, -⟩ := boxA_at (q := q) NA_2.out
        have h0 := frozen_of_row v2 AX 0 _ _ NA_2.out
        have h1 := frozen_of_row v2 AX 1 _ _ NA_2.out
        have h2 := frozen_of_row v2 AX 2 _ _ NA_2.out
        have h3 := frozen_of_row v2 AX 3 _ _ NA_2.out
        have ne1 : ¬ AX = w.heap.size := by omega
        have ne2 : ¬ w.heap.size = AX := by omega
        have lw2 : w.heap.size < B1 ∧ AX ≠ ag := by omega
        clear RE_2 NA_2
        cases b2 with
        | true =>
          have OKQ := Lib.hid (HB2.out.mp rfl)
          clear HB2
          go_wp2
          refine bodyPost_ret (v := (.agg #[.int .i64 q.s, .int .i64 q.h, .int .i64 q.y, .int .i64 q.p, (.slice (some ⟨ag, 0, none⟩) L cap)])) (by simp [results, Try.results44, go_sem, y0, y1, y2, y3, y4]; try rfl) rfl ?_
          refine ⟨q, _, ys, m1, rfl, OKQ.out, ?_, by omega, ?_⟩
          · refine OwnS.mono ?_ (show w.heap.size ≤ B1 by omega)
            exact ((((O_2.out.setBelow (by simp; omega) _).setBelow (by simp; omega) _).setBelow (by simp; omega) _).setBelow (by simp; omega) _).setBelow (by simp; omega) _
          · exact ((((D_2.out.set w.heap.size 0 (Nat.le_refl _) _).set w.heap.size 1 (Nat.le_refl _) _).set w.heap.size 2 (Nat.le_refl _) _).set w.heap.size 3 (Nat.le_refl _) _).set w.heap.size 4 (Nat.le_refl _) _
        | false =>
          have OKZ : Hid (OkA ⟨0, 0, 0, 0⟩ ys) := zero_ok (by have := HL.out; omega) (by have := HL.out; omega) DR1.out.ok (by have := DR1.out.sum; omega)
          clear HB2
          go_wp2
          refine bodyPost_ret (v := .agg #[.int .i64 0, .int .i64 0, .int .i64 0, .int .i64 0, .slice (some ⟨ag, 0, none⟩) L cap]) (by simp [results, Try.results44, go_sem, y0, y1, y2, y3, y4, ne1, ne2]; try rfl) rfl ?_
          refine ⟨⟨0, 0, 0, 0⟩, _, ys, m1, rfl, OKZ.out, ?_, by omega, ?_⟩
          · refine OwnS.mono ?_ (show w.heap.size ≤ B1 by omega)
            have o := (((O_2.out.kept (grownBy_setCell' _ ⟨AX, 0, none⟩ (.int .i64 0)) (.inr (by simp [Value.ownBlock]; omega))).kept (grownBy_setCell' _ ⟨AX, 1, none⟩ (.int .i64 0)) (.inr (by simp [Value.ownBlock]; omega))).kept (grownBy_setCell' _ ⟨AX, 2, none⟩ (.int .i64 0)) (.inr (by simp [Value.ownBlock]; omega))).kept (grownBy_setCell' _ ⟨AX, 3, none⟩ (.int .i64 0)) (.inr (by simp [Value.ownBlock]; omega))
            exact ((((o.setBelow (by simp; omega) _).setBelow (by simp; omega) _).setBelow (by simp; omega) _).setBelow (by simp; omega) _).setBelow (by simp; omega) _
          · have d := (((D_2.out.set AX 0 (by omega) (.int .i64 0)).set AX 1 (by omega) (.int .i64 0)).set AX 2 (by omega) (.int .i64 0)).set AX 3 (by omega) (.int .i64 0)
            exact ((((d.set w.heap.size 0 (Nat.le_refl _) _).set w.heap.size 1 (Nat.le_refl _) _).set w.heap.size 2 (Nat.le_refl _) _).set w.heap.size 3 (Nat.le_refl _) _).set w.heap.size 4 (Nat.le_refl _) _
      | true =>
        go_wp2
        go_loopg [] (8 - L) (fun g wr => ∃ (ys : List Cv) (ag L cap : Nat), g = 8 - L ∧ L ≤ 8 ∧ 1 ≤ L ∧ Hid (L = ys.length) ∧ Hid (DrL ys (25 + (L : Int))) ∧ Hid (OwnS 46 3 encCv wr B1 (.slice (some ⟨ag, 0, none⟩) L cap) ys) ∧ Hid (wr.heap[AX]? = some (.cells #[.int .i64 q.s, .int .i64 q.h, .int .i64 q.y, .int .i64 q.p, .slice (some ⟨ag, 0, none⟩) L cap] 28 (0, 0))) ∧ ag ≠ AX ∧ Hid (wr.heap[w.heap.size]? = some (.cells #[.int .i64 0, .int .i64 0, .int .i64 0, .int .i64 0, .slice none 0 0] 28 (0, 0))) ∧ Hid (DSt w wr gs v zs m1))
        case atStart => exact ⟨ys, ag, L, cap, rfl, by omega, by omega, HL, DR1, O_1, NA_1, nga0, RE_1, D_1⟩
        case round =>
          clear HL DR1 O_1 NA_1 nga0 RE_1 D_1 lag0 hjl hlj
          obtain ⟨ys, ag, L, cap, rfl, hL8, hL1, HL, DR1, O_1, NA_1, nga0, RE_1, D_1⟩ := hrel
          have lag0 := (O_1.out.lt ag rfl).1
          obtain ⟨⟨-, -, -, -, a4_⟩, -⟩ := boxA_at (q := q) NA_1.out
          by_cases hlt : L < 8
          · have hlt' : (L : Int) < 8 := by omega
            have rm0 := Int.emod_nonneg (L : Int) (show (3 : Int) ≠ 0 by decide)
            have rm1 := Int.emod_lt_of_pos (L : Int) (show (0 : Int) < 3 by decide)
            have own : Hid (wr.ownsRow B1 46 3 (.slice (some ⟨ag, 0, none⟩) L cap) L (ys.flatMap encCv)) := by
              have e := O_1.out
              unfold OwnS at e
              rwa [← HL.out] at e
            have LT := Lib.hid O_1.out.lt
            have sz_ := D_1.out.size
            have bA_ := (Array.getElem?_eq_some_iff.1 NA_1.out).1
            have bL_ := (O_1.out.lt ag rfl).2
            go_wp2_with (at_builtin; refine wpList_append_lies _ rfl _ _ _ rfl B1 46 i0 _ 3 24 Try.underlying26 hi hz0 hz1 hz2 rfl (by omega) _ _ _ rfl (own.out.alloc _) ⟨wr.heap.size, 0, none⟩ 1 1 [.int .i64 (1), .int .i64 ((L : Int) % 3), .int .i64 (0)] rfl rfl (World.news_of_block (cs := #[.int .i64 (1), .int .i64 ((L : Int) % 3), .int .i64 (0)]) (t := 46) (fr := (0, 0)) (heap_alloc_new wr _)) (by simp [Value.oneCell']) (by omega) (by unfold maxLen; omega) (by omega) (by simp only [World.size_alloc]; omega) _ rfl ?_)
            intro gg cap1 y5 hown1 hgrow hat hlt'
            have O5 : OwnS 46 3 encCv y5 B1 (.slice (some ⟨gg, 0, none⟩) (L + 1) cap1) (ys ++ [⟨1, (L : Int) % 3, 0⟩]) := by
              unfold OwnS
              rw [List.length_append, ← HL.out, List.flatMap_append]
              exact hown1
            have gr : World.grownBy wr y5 (some ag) := grownBy_trans' (World.grownBy_alloc wr _ _) hgrow
            have lgg := (O5.lt gg rfl).1
            have nga : gg ≠ AX := by
              rcases hat with h | h
              · have e : ag = gg := Option.some.inj h
                omega
              · first | omega | (simp only [World.size_alloc] at h; omega)
            have D5 := DSt.app D_1.out gr (by omega)
            have NA5 := (gr.block AX bA_ (fun e => by have e2 := Option.some.inj e; omega)).trans NA_1.out
            have RE5 := (gr.block w.heap.size (by omega) (fun e => by have e2 := Option.some.inj e; omega)).trans RE_1.out
            obtain ⟨⟨-, -, -, -, k4_⟩, -⟩ := boxA_at (q := q) NA5
            have kf4 := frozen_of_row y5 AX 4 _ _ NA5
            have O6 : Hid (OwnS 46 3 encCv (y5.setCell ⟨AX, 4, none⟩ (.slice (some ⟨gg, 0, none⟩) (L + 1) cap1)) B1 (.slice (some ⟨gg, 0, none⟩) (L + 1) cap1) (ys ++ [⟨1, (L : Int) % 3, 0⟩])) := O5.kept (grownBy_setCell' _ _ _) (.inr (by simp [Value.ownBlock]; omega))
            have D6 : Hid (DSt w (y5.setCell ⟨AX, 4, none⟩ (.slice (some ⟨gg, 0, none⟩) (L + 1) cap1)) gs v zs m1) := D5.set AX 4 (by omega) _
            have NA6 : Hid ((y5.setCell ⟨AX, 4, none⟩ (.slice (some ⟨gg, 0, none⟩) (L + 1) cap1)).heap[AX]? = some (.cells #[.int .i64 q.s, .int .i64 q.h, .int .i64 q.y, .int .i64 q.p, .slice (some ⟨gg, 0, none⟩) (L + 1) cap1] 28 (0, 0))) := heap_setA4 NA5 _
            have RE6 : Hid ((y5.setCell ⟨AX, 4, none⟩ (.slice (some ⟨gg, 0, none⟩) (L + 1) cap1)).heap[w.heap.size]? = some (.cells #[.int .i64 0, .int .i64 0, .int .i64 0, .int .i64 0, .slice none 0 0] 28 (0, 0))) := set_row (by omega) RE5
            have HL6 : Hid (L + 1 = (ys ++ [(⟨1, (L : Int) % 3, 0⟩ : Cv)]).length) := by show _ = _; rw [List.length_append, ← HL.out]; rfl
            have DR6_ := (DR1.out.snoc1 (c := ⟨1, (L : Int) % 3, 0⟩) (by unfold DrC; dsimp only; omega) rfl)
            have DR6 : Hid (DrL (ys ++ [⟨1, (L : Int) % 3, 0⟩]) (25 + ((L + 1 : Nat) : Int))) := by show DrL _ _; rw [show (25 + ((L + 1 : Nat) : Int)) = 25 + (L : Int) + 1 by omega]; exact DR6_
            clear DR6_ hown1 hgrow hat hlt' gr O5 D5 NA5 RE5 own LT HL DR1 D_1 NA_1 RE_1 O_1
            go_wp2
            go_roundg (8 - (L + 1))
            case measure => omega
            case rel => exact ⟨_, gg, L + 1, cap1, rfl, by omega, by omega, HL6, DR6, O6, NA6, nga, RE6, D6⟩
          · have hge : ¬ (L : Int) < 8 := by omega
            obtain ⟨b2, hb2⟩ := ok_boolD (OkA q ys)
            have HB2 := Lib.hid hb2
            clear hb2
            have C := Lib.hid (l02Is_any AX 28 q (some ⟨ag, 0, none⟩) cap ys wr (by have e := NA_1.out; rwa [show L = ys.length from HL.out] at e) (by have e := O_1.out.rd encCv_len; rwa [show L = ys.length from HL.out] at e) (by have := HL.out; omega) b2 HB2.out)
            go_wp2_with fail
            refine C.out.mono ?_
            rintro e v2 ⟨rfl, b_⟩
            have D_2 : Hid (DSt w v2 gs v zs m1) := D_1.out.later b_
            have NA_2 := Lib.hid ((b_.block AX (Array.getElem?_eq_some_iff.1 NA_1.out).1).trans NA_1.out)
            have RE_2 := (b_.block w.heap.size (Array.getElem?_eq_some_iff.1 RE_1.out).1).trans RE_1.out
            have O_2 := Lib.hid (O_1.out.later b_)
            clear C b_ D_1 NA_1 RE_1 O_1
            obtain ⟨⟨y0, y1, y2, y3, y4⟩, -⟩ := boxA_at (q := ⟨0, 0, 0, 0⟩) RE_2
            have f0 := frozen_of_row v2 w.heap.size 0 _ _ RE_2
            have f1 := frozen_of_row v2 w.heap.size 1 _ _ RE_2
            have f2 := frozen_of_row v2 w.heap.size 2 _ _ RE_2
            have f3 := frozen_of_row v2 w.heap.size 3 _ _ RE_2
            have f4 := frozen_of_row v2 w.heap.size 4 _ _ RE_2
            obtain ⟨⟨x0_, x1_, x2_, x3_, x4_⟩, -⟩ := boxA_at (q := q) NA_2.out
            have h0 := frozen_of_row v2 AX 0 _ _ NA_2.out
            have h1 := frozen_of_row v2 AX 1 _ _ NA_2.out
            have h2 := frozen_of_row v2 AX 2 _ _ NA_2.out
            have h3 := frozen_of_row v2 AX 3 _ _ NA_2.out
            have ne1 : ¬ AX = w.heap.size := by omega
            have ne2 : ¬ w.heap.size = AX := by omega
            have lw2 : w.heap.size < B1 ∧ AX ≠ ag := by omega
            clear RE_2 NA_2
            cases b2 with
            | true =>
              have OKQ := Lib.hid (HB2.out.mp rfl)
              clear HB2
              go_wp2
              refine bodyPost_ret (v := (.agg #[.int .i64 q.s, .int .i64 q.h, .int .i64 q.y, .int .i64 q.p, (.slice (some ⟨ag, 0, none⟩) L cap)])) (by simp [results, Try.results44, go_sem, y0, y1, y2, y3, y4]; try rfl) rfl ?_
              refine ⟨q, _, ys, m1, rfl, OKQ.out, ?_, by omega, ?_⟩
              · refine OwnS.mono ?_ (show w.heap.size ≤ B1 by omega)
                exact ((((O_2.out.setBelow (by simp; omega) _).setBelow (by simp; omega) _).setBelow (by simp; omega) _).setBelow (by simp; omega) _).setBelow (by simp; omega) _
              · exact ((((D_2.out.set w.heap.size 0 (Nat.le_refl _) _).set w.heap.size 1 (Nat.le_refl _) _).set w.heap.size 2 (Nat.le_refl _) _).set w.heap.size 3 (Nat.le_refl _) _).set w.heap.size 4 (Nat.le_refl _) _
            | false =>
              have OKZ : Hid (OkA ⟨0, 0, 0, 0⟩ ys) := zero_ok (by have := HL.out; omega) (by have := HL.out; omega) DR1.out.ok (by have := DR1.out.sum; omega)
              clear HB2
              go_wp2
              refine bodyPost_ret (v := .agg #[.int .i64 0, .int .i64 0, .int .i64 0, .int .i64 0, .slice (some ⟨ag, 0, none⟩) L cap]) (by simp [results, Try.results44, go_sem, y0, y1, y2, y3, y4, ne1, ne2]; try rfl) rfl ?_
              refine ⟨⟨0, 0, 0, 0⟩, _, ys, m1, rfl, OKZ.out, ?_, by omega, ?_⟩
              · refine OwnS.mono ?_ (show w.heap.size ≤ B1 by omega)
                have o := (((O_2.out.kept (grownBy_setCell' _ ⟨AX, 0, none⟩ (.int .i64 0)) (.inr (by simp [Value.ownBlock]; omega))).kept (grownBy_setCell' _ ⟨AX, 1, none⟩ (.int .i64 0)) (.inr (by simp [Value.ownBlock]; omega))).kept (grownBy_setCell' _ ⟨AX, 2, none⟩ (.int .i64 0)) (.inr (by simp [Value.ownBlock]; omega))).kept (grownBy_setCell' _ ⟨AX, 3, none⟩ (.int .i64 0)) (.inr (by simp [Value.ownBlock]; omega))
                exact ((((o.setBelow (by simp; omega) _).setBelow (by simp; omega) _).setBelow (by simp; omega) _).setBelow (by simp; omega) _).setBelow (by simp; omega) _
              · have d := (((D_2.out.set AX 0 (by omega) (.int .i64 0)).set AX 1 (by omega) (.int .i64 0)).set AX 2 (by omega) (.int .i64 0)).set AX 3 (by omega) (.int .i64 0)
                exact ((((d.set w.heap.size 0 (Nat.le_refl _) _).set w.heap.size 1 (Nat.le_refl _) _).set w.heap.size 2 (Nat.le_refl _) _).set w.heap.size 3 (Nat.le_refl _) _).set w.heap.size 4 (Nat.le_refl _) _
    · skip
      have jp : (0 : Int) < (j : Int) := by omega
      have q1 : IntKind.i64.wrap ((j : Int) - 1) = ((j - 1 : Nat) : Int) := by rw [show ((j - 1 : Nat) : Int) = (j : Int) - 1 by omega]; exact IntWalk.i64_in _ (by omega)
      have lag := (O_0.out.lt ag rfl).1
      go_wp2_with fail
      refine (pick_any _ gs v zs m 5 D_0.out.src (by omega) lz (by omega) (by omega)).mono ?_
      rintro e v1 ⟨x1, m1, rfl, p1_, q1_, -, l1, u1, s_, g_⟩
      have D_1 : Hid (DSt w v1 gs v zs m1) := D_0.out.step s_ g_
      have NA_1 := Lib.hid (D_0.out.keep g_ (by omega) NA_0.out)
      have RE_1 := Lib.hid (D_0.out.keep g_ (by omega) RE_0.out)
      have O_1 := Lib.hid (O_0.out.kept g_ (.inr (by simp [Value.ownBlock]; omega)))
      clear D_0 NA_0 RE_0 O_0 s_ g_
      have X1 := q1_ (by omega)
      clear q1_
      have wx1 : IntKind.i64.wrap (1 + x1) = 1 + x1 := IntWalk.i64_in _ (by omega)
      go_wp2_with fail
      obtain ⟨CB, hCB⟩ : ∃ p, p = v1.heap.size := ⟨_, rfl⟩
      have lz_ := D_1.out.size
      have bNA_ := (Array.getElem?_eq_some_iff.1 NA_1.out).1
      have bRE_ := (Array.getElem?_eq_some_iff.1 RE_1.out).1
      have lo_ := (O_1.out.lt ag rfl).2
      generalize hx_ : v1.alloc (.cells #[.int .i64 (1 + x1), .int .i64 0, .int .i64 0] 46) = v2
      have D_2 : Hid (DSt w v2 gs v zs m1) := by rw [← hx_]; exact D_1.out.alloc _
      have NA_2 := Lib.hid ((by rw [← hx_]; exact (Below.heap_alloc _ _ _ bNA_).trans NA_1.out : v2.heap[AX]? = some (.cells #[.int .i64 q.s, .int .i64 q.h, .int .i64 q.y, .int .i64 q.p, .slice (some ⟨ag, 0, none⟩) L cap] 28 (0, 0))))
      have RE_2 := Lib.hid ((by rw [← hx_]; exact (Below.heap_alloc _ _ _ bRE_).trans RE_1.out : v2.heap[w.heap.size]? = some (.cells #[.int .i64 0, .int .i64 0, .int .i64 0, .int .i64 0, .slice none 0 0] 28 (0, 0))))
      have O_2 := Lib.hid ((by rw [← hx_]; exact O_1.out.alloc _ : OwnS 46 3 encCv v2 B1 (.slice (some ⟨ag, 0, none⟩) L cap) ys))
      have NC_2 : Hid (v2.heap[CB]? = some (.cells #[.int .i64 (1 + x1), .int .i64 0, .int .i64 0] 46 (0, 0))) := by rw [← hx_, hCB]; exact heap_alloc_new _ _
      have lCB : w.heap.size < CB ∧ AX < CB ∧ ag < CB := by omega
      rw [← hCB]
      clear D_1 NA_1 RE_1 O_1 hx_ lz_ lo_ bNA_ bRE_ hCB
      refine (pick_any _ gs v zs m1 5 D_2.out.src (by omega) lz (by omega) (by omega)).mono ?_
      rintro e v3 ⟨x2, m3, rfl, p2_, q2_, -, l3, u3, s_, g_⟩
      have D_3 : Hid (DSt w v3 gs v zs m3) := D_2.out.step s_ g_
      have NA_3 := Lib.hid (D_2.out.keep g_ (by omega) NA_2.out)
      have RE_3 := Lib.hid (D_2.out.keep g_ (by omega) RE_2.out)
      have NC_3 := Lib.hid (D_2.out.keep g_ (by omega) NC_2.out)
      have O_3 := Lib.hid (O_2.out.kept g_ (.inr (by simp [Value.ownBlock]; omega)))
      clear D_2 NA_2 RE_2 NC_2 O_2 s_ g_
      have X2 := q2_ (by omega)
      clear q2_
      have wx2 : IntKind.i64.wrap (x2 - 2) = x2 - 2 := IntWalk.i64_in _ (by omega)
      obtain ⟨⟨c0_, c1_, c2_⟩, ⟨f0_, f1_, f2_⟩, -⟩ := boxCv_at (q := ⟨1 + x1, 0, 0⟩) NC_3.out
      go_wp2_with fail
      generalize hx_ : v3.setCell ⟨CB, 1, none⟩ (.int .i64 (x2 - 2)) = v4
      have D_4 : Hid (DSt w v4 gs v zs m3) := by rw [← hx_]; exact D_3.out.set CB 1 (by omega) _
      have NA_4 := Lib.hid ((by rw [← hx_]; exact set_row (by omega) NA_3.out : v4.heap[AX]? = some (.cells #[.int .i64 q.s, .int .i64 q.h, .int .i64 q.y, .int .i64 q.p, .slice (some ⟨ag, 0, none⟩) L cap] 28 (0, 0))))
      have RE_4 := Lib.hid ((by rw [← hx_]; exact set_row (by omega) RE_3.out : v4.heap[w.heap.size]? = some (.cells #[.int .i64 0, .int .i64 0, .int .i64 0, .int .i64 0, .slice none 0 0] 28 (0, 0))))
      have O_4 := Lib.hid ((by rw [← hx_]; exact O_3.out.kept (grownBy_setCell' _ _ _) (.inr (by simp [Value.ownBlock]; omega)) : OwnS 46 3 encCv v4 B1 (.slice (some ⟨ag, 0, none⟩) L cap) ys))
      have NC_4 : Hid (v4.heap[CB]? = some (.cells #[.int .i64 (1 + x1), .int .i64 (x2 - 2), .int .i64 (0)] 46 (0, 0))) := by rw [← hx_]; exact heap_setCell_same _ CB 1 _ _ _ NC_3.out
      clear D_3 NA_3 RE_3 NC_3 O_3 hx_ c0_ c1_ c2_ f0_ f1_ f2_
      refine (pick_any _ gs v zs m3 5 D_4.out.src (by omega) lz (by omega) (by omega)).mono ?_
      rintro e v5 ⟨x3, m5, rfl, p3_, q3_, -, l5, u5, s_, g_⟩
      have D_5 : Hid (DSt w v5 gs v zs m5) := D_4.out.step s_ g_
      have NA_5 := Lib.hid (D_4.out.keep g_ (by omega) NA_4.out)
      have RE_5 := Lib.hid (D_4.out.keep g_ (by omega) RE_4.out)
      have NC_5 := Lib.hid (D_4.out.keep g_ (by omega) NC_4.out)
      have O_5 := Lib.hid (O_4.out.kept g_ (.inr (by simp [Value.ownBlock]; omega)))
      clear D_4 NA_4 RE_4 NC_4 O_4 s_ g_
      have X3 := q3_ (by omega)
      clear q3_
      have wx3 : IntKind.i64.wrap (x3 - 2) = x3 - 2 := IntWalk.i64_in _ (by omega)
      obtain ⟨⟨c0_, c1_, c2_⟩, ⟨f0_, f1_, f2_⟩, -⟩ := boxCv_at (q := ⟨1 + x1, x2 - 2, 0⟩) NC_5.out
      go_wp2_with fail
      generalize hx_ : v5.setCell ⟨CB, 2, none⟩ (.int .i64 (x3 - 2)) = v6
      have D_6 : Hid (DSt w v6 gs v zs m5) := by rw [← hx_]; exact D_5.out.set CB 2 (by omega) _
      have NA_6 := Lib.hid ((by rw [← hx_]; exact set_row (by omega) NA_5.out : v6.heap[AX]? = some (.cells #[.int .i64 q.s, .int .i64 q.h, .int .i64 q.y, .int .i64 q.p, .slice (some ⟨ag, 0, none⟩) L cap] 28 (0, 0))))
      have RE_6 := Lib.hid ((by rw [← hx_]; exact set_row (by omega) RE_5.out : v6.heap[w.heap.size]? = some (.cells #[.int .i64 0, .int .i64 0, .int .i64 0, .int .i64 0, .slice none 0 0] 28 (0, 0))))
      have O_6 := Lib.hid ((by rw [← hx_]; exact O_5.out.kept (grownBy_setCell' _ _ _) (.inr (by simp [Value.ownBlock]; omega)) : OwnS 46 3 encCv v6 B1 (.slice (some ⟨ag, 0, none⟩) L cap) ys))
      have NC_6 : Hid (v6.heap[CB]? = some (.cells #[.int .i64 (1 + x1), .int .i64 (x2 - 2), .int .i64 (x3 - 2)] 46 (0, 0))) := by rw [← hx_]; exact heap_setCell_same _ CB 2 _ _ _ NC_5.out
      clear D_5 NA_5 RE_5 NC_5 O_5 hx_ c0_ c1_ c2_ f0_ f1_ f2_
      refine (one_any _ gs v zs m5 10 D_6.out.src (by omega) lz (by omega) (by omega)).mono ?_
      rintro e v7 ⟨bb, m7, rfl, l7, u7, s_, g_⟩
      have D_7 : Hid (DSt w v7 gs v zs m7) := D_6.out.step s_ g_
      have NA_7 := Lib.hid (D_6.out.keep g_ (by omega) NA_6.out)
      have RE_7 := Lib.hid (D_6.out.keep g_ (by omega) RE_6.out)
      have NC_7 := Lib.hid (D_6.out.keep g_ (by omega) NC_6.out)
      have O_7 := Lib.hid (O_6.out.kept g_ (.inr (by simp [Value.ownBlock]; omega)))
      clear D_6 NA_6 RE_6 NC_6 O_6 s_ g_
      cases bb with
      | false =>
        obtain ⟨⟨c0_, c1_, c2_⟩, -, -⟩ := boxCv_at (q := ⟨1 + x1, x2 - 2, x3 - 2⟩) NC_7.out
        obtain ⟨⟨-, -, -, -, a4_⟩, -⟩ := boxA_at (q := q) NA_7.out
        have own : Hid (v7.ownsRow B1 46 3 (.slice (some ⟨ag, 0, none⟩) L cap) L (ys.flatMap encCv)) := by
          have e := O_7.out
          unfold OwnS at e
          rwa [← HL.out] at e
        have LT := Lib.hid O_7.out.lt
        have sz_ := D_7.out.size
        have bA_ := (Array.getElem?_eq_some_iff.1 NA_7.out).1
        have bL_ := (O_7.out.lt ag rfl).2
        go_wp2_with (at_builtin; refine wpList_append_lies _ rfl _ _ _ rfl B1 46 i0 _ 3 24 Try.underlying26 hi hz0 hz1 hz2 rfl (by omega) _ _ _ rfl (own.out.alloc _) ⟨v7.heap.size, 0, none⟩ 1 1 [.int .i64 (1 + x1), .int .i64 (x2 - 2), .int .i64 (x3 - 2)] rfl rfl (World.news_of_block (cs := #[.int .i64 (1 + x1), .int .i64 (x2 - 2), .int .i64 (x3 - 2)]) (t := 46) (fr := (0, 0)) (heap_alloc_new v7 _)) (by simp [Value.oneCell']) (by omega) (by unfold maxLen; omega) (by omega) (by simp only [World.size_alloc]; omega) _ rfl ?_)
        intro gg cap1 y5 hown1 hgrow hat hlt'
        have O5 : OwnS 46 3 encCv y5 B1 (.slice (some ⟨gg, 0, none⟩) (L + 1) cap1) (ys ++ [⟨1 + x1, x2 - 2, x3 - 2⟩]) := by
          unfold OwnS
          rw [List.length_append, ← HL.out, List.flatMap_append]
          exact hown1
        have gr : World.grownBy v7 y5 (some ag) := grownBy_trans' (World.grownBy_alloc v7 _ _) hgrow
        have lgg := (O5.lt gg rfl).1
        have nga : gg ≠ AX := by
          rcases hat with h | h
          · have e : ag = gg := Option.some.inj h
            omega
          · first | omega | (simp only [World.size_alloc] at h; omega)
        have D5 := DSt.app D_7.out gr (by omega)
        have NA5 := (gr.block AX bA_ (fun e => by have e2 := Option.some.inj e; omega)).trans NA_7.out
        have RE5 := (gr.block w.heap.size (by omega) (fun e => by have e2 := Option.some.inj e; omega)).trans RE_7.out
        obtain ⟨⟨-, -, -, -, k4_⟩, -⟩ := boxA_at (q := q) NA5
        have kf4 := frozen_of_row y5 AX 4 _ _ NA5
        have O6 : Hid (OwnS 46 3 encCv (y5.setCell ⟨AX, 4, none⟩ (.slice (some ⟨gg, 0, none⟩) (L + 1) cap1)) B1 (.slice (some ⟨gg, 0, none⟩) (L + 1) cap1) (ys ++ [⟨1 + x1, x2 - 2, x3 - 2⟩])) := O5.kept (grownBy_setCell' _ _ _) (.inr (by simp [Value.ownBlock]; omega))
        have D6 : Hid (DSt w (y5.setCell ⟨AX, 4, none⟩ (.slice (some ⟨gg, 0, none⟩) (L + 1) cap1)) gs v zs m7) := D5.set AX 4 (by omega) _
        have NA6 : Hid ((y5.setCell ⟨AX, 4, none⟩ (.slice (some ⟨gg, 0, none⟩) (L + 1) cap1)).heap[AX]? = some (.cells #[.int .i64 q.s, .int .i64 q.h, .int .i64 q.y, .int .i64 q.p, .slice (some ⟨gg, 0, none⟩) (L + 1) cap1] 28 (0, 0))) := heap_setA4 NA5 _
        have RE6 : Hid ((y5.setCell ⟨AX, 4, none⟩ (.slice (some ⟨gg, 0, none⟩) (L + 1) cap1)).heap[w.heap.size]? = some (.cells #[.int .i64 0, .int .i64 0, .int .i64 0, .int .i64 0, .slice none 0 0] 28 (0, 0))) := set_row (by omega) RE5
        have HL6 : Hid (L + 1 = (ys ++ [(⟨1 + x1, x2 - 2, x3 - 2⟩ : Cv)]).length) := by show _ = _; rw [List.length_append, ← HL.out]; rfl
        have DR6 := Lib.hid (DR.out.snoc (c := ⟨1 + x1, x2 - 2, x3 - 2⟩) (by unfold DrC; dsimp only; omega) (by dsimp only; omega))
        clear hown1 hgrow hat hlt' gr O5 D5 NA5 RE5 own LT HL DR D_7 NA_7 RE_7 O_7 NC_7
        go_wp2
        exact ⟨⟨j - 1, m7, ys ++ [⟨1 + x1, x2 - 2, x3 - 2⟩], gg, L + 1, cap1, rfl, by omega, by omega, by omega, HL6, by have e := DR6.out; show DrL _ _; rw [show (5 * ((L + 1 : Nat) : Int)) = 5 * (L : Int) + 5 by omega]; exact e, O6, NA6, nga, RE6, D6, by omega⟩, by simp only [intOf]; omega⟩
      | true =>
        have QA : Hid _ := Lib.hid (ownI_lit v7 [(-12), (12)] (by simp)).rd
        have zg_ : gs < v7.heap.size := by have := D_7.out.size; have := D_7.out.gl; omega
        have lz_ := D_7.out.size
        have bNA_ := (Array.getElem?_eq_some_iff.1 NA_7.out).1
        have bRE_ := (Array.getElem?_eq_some_iff.1 RE_7.out).1
        have bNC_ := (Array.getElem?_eq_some_iff.1 NC_7.out).1
        have lo_ := (O_7.out.lt ag rfl).2
        go_wp2_with fail
        generalize hx_ : v7.alloc _ = v8
        have QB : Hid (RdI v8 (.slice (some ⟨v7.heap.size, 0, none⟩) 2 2) [(-12), 12]) := by rw [← hx_]; exact QA.out
        have D_8 : Hid (DSt w v8 gs v zs m7) := by rw [← hx_]; exact D_7.out.alloc _
        have NA_8 := Lib.hid ((by rw [← hx_]; exact (Below.heap_alloc _ _ _ bNA_).trans NA_7.out : v8.heap[AX]? = some (.cells #[.int .i64 q.s, .int .i64 q.h, .int .i64 q.y, .int .i64 q.p, .slice (some ⟨ag, 0, none⟩) L cap] 28 (0, 0))))
        have RE_8 := Lib.hid ((by rw [← hx_]; exact (Below.heap_alloc _ _ _ bRE_).trans RE_7.out : v8.heap[w.heap.size]? = some (.cells #[.int .i64 0, .int .i64 0, .int .i64 0, .int .i64 0, .slice none 0 0] 28 (0, 0))))
        have NC_8 := Lib.hid ((by rw [← hx_]; exact (Below.heap_alloc _ _ _ bNC_).trans NC_7.out : v8.heap[CB]? = some (.cells #[.int .i64 (1 + x1), .int .i64 (x2 - 2), .int .i64 (x3 - 2)] 46 (0, 0))))
        have O_8 := Lib.hid ((by rw [← hx_]; exact O_7.out.alloc _ : OwnS 46 3 encCv v8 B1 (.slice (some ⟨ag, 0, none⟩) L cap) ys))
        clear D_7 NA_7 RE_7 NC_7 O_7 hx_ lz_ lo_ bNA_ bRE_ bNC_
        refine (amongIn_any _ gs v zs m7 _ 2 2 [(-12), (12)] D_8.out.src (by omega) lz rfl (by omega) (by omega) QB.out (by intro b o e; cases e; omega)).mono ?_
        rintro e v9 ⟨xb, m9, rfl, XB, l9, u9, s_, g_⟩
        have D_9 : Hid (DSt w v9 gs v zs m9) := D_8.out.step s_ g_
        have NA_9 := Lib.hid (D_8.out.keep g_ (by omega) NA_8.out)
        have RE_9 := Lib.hid (D_8.out.keep g_ (by omega) RE_8.out)
        have NC_9 := Lib.hid (D_8.out.keep g_ (by omega) NC_8.out)
        have O_9 := Lib.hid (O_8.out.kept g_ (.inr (by simp [Value.ownBlock]; omega)))
        clear D_8 NA_8 RE_8 NC_8 O_8 s_ g_
        have xb12 : xb = -12 ∨ xb = 12 := by simpa using XB.out
        clear XB QA QB
        obtain ⟨⟨c0_, c1_, c2_⟩, ⟨f0_, f1_, f2_⟩, -⟩ := boxCv_at (q := ⟨1 + x1, x2 - 2, x3 - 2⟩) NC_9.out
        go_upto_region 10 with (fail)
        generalize hx_ : v9.setCell ⟨CB, 1, none⟩ (.int .i64 (xb)) = v10
        have D_10 : Hid (DSt w v10 gs v zs m9) := by rw [← hx_]; exact D_9.out.set CB 1 (by omega) _
        have NA_10 := Lib.hid ((by rw [← hx_]; exact set_row (by omega) NA_9.out : v10.heap[AX]? = some (.cells #[.int .i64 q.s, .int .i64 q.h, .int .i64 q.y, .int .i64 q.p, .slice (some ⟨ag, 0, none⟩) L cap] 28 (0, 0))))
        have RE_10 := Lib.hid ((by rw [← hx_]; exact set_row (by omega) RE_9.out : v10.heap[w.heap.size]? = some (.cells #[.int .i64 0, .int .i64 0, .int .i64 0, .int .i64 0, .slice none 0 0] 28 (0, 0))))
        have O_10 := Lib.hid ((by rw [← hx_]; exact O_9.out.kept (grownBy_setCell' _ _ _) (.inr (by simp [Value.ownBlock]; omega)) : OwnS 46 3 encCv v10 B1 (.slice (some ⟨ag, 0, none⟩) L cap) ys))
        have NC_10 : Hid (v10.heap[CB]? = some (.cells #[.int .i64 (1 + x1), .int .i64 (xb), .int .i64 (x3 - 2)] 46 (0, 0))) := by rw [← hx_]; exact heap_setCell_same _ CB 1 _ _ _ NC_9.out
        clear D_9 NA_9 RE_9 NC_9 O_9 hx_ c0_ c1_ c2_ f0_ f1_ f2_
        obtain ⟨⟨c0_, c1_, c2_⟩, -, -⟩ := boxCv_at (q := ⟨1 + x1, xb, x3 - 2⟩) NC_10.out
        obtain ⟨⟨-, -, -, -, a4_⟩, -⟩ := boxA_at (q := q) NA_10.out
        have own : Hid (v10.ownsRow B1 46 3 (.slice (some ⟨ag, 0, none⟩) L cap) L (ys.flatMap encCv)) := by
          have e := O_10.out
          unfold OwnS at e
          rwa [← HL.out] at e
        have LT := Lib.hid O_10.out.lt
        have sz_ := D_10.out.size
        have bA_ := (Array.getElem?_eq_some_iff.1 NA_10.out).1
        have bL_ := (O_10.out.lt ag rfl).2
        go_wp2_with (at_builtin; refine wpList_append_lies _ rfl _ _ _ rfl B1 46 i0 _ 3 24 Try.underlying26 hi hz0 hz1 hz2 rfl (by omega) _ _ _ rfl (own.out.alloc _) ⟨v10.heap.size, 0, none⟩ 1 1 [.int .i64 (1 + x1), .int .i64 (xb), .int .i64 (x3 - 2)] rfl rfl (World.news_of_block (cs := #[.int .i64 (1 + x1), .int .i64 (xb), .int .i64 (x3 - 2)]) (t := 46) (fr := (0, 0)) (heap_alloc_new v10 _)) (by simp [Value.oneCell']) (by omega) (by unfold maxLen; omega) (by omega) (by simp only [World.size_alloc]; omega) _ rfl ?_)
        intro gg cap1 y5 hown1 hgrow hat hlt'
        have O5 : OwnS 46 3 encCv y5 B1 (.slice (some ⟨gg, 0, none⟩) (L + 1) cap1) (ys ++ [⟨1 + x1, xb, x3 - 2⟩]) := by
          unfold OwnS
          rw [List.length_append, ← HL.out, List.flatMap_append]
          exact hown1
        have gr : World.grownBy v10 y5 (some ag) := grownBy_trans' (World.grownBy_alloc v10 _ _) hgrow
        have lgg := (O5.lt gg rfl).1
        have nga : gg ≠ AX := by
          rcases hat with h | h
          · have e : ag = gg := Option.some.inj h
            omega
          · first | omega | (simp only [World.size_alloc] at h; omega)
        have D5 := DSt.app D_10.out gr (by omega)
        have NA5 := (gr.block AX bA_ (fun e => by have e2 := Option.some.inj e; omega)).trans NA_10.out
        have RE5 := (gr.block w.heap.size (by omega) (fun e => by have e2 := Option.some.inj e; omega)).trans RE_10.out
        obtain ⟨⟨-, -, -, -, k4_⟩, -⟩ := boxA_at (q := q) NA5
        have kf4 := frozen_of_row y5 AX 4 _ _ NA5
        have O6 : Hid (OwnS 46 3 encCv (y5.setCell ⟨AX, 4, none⟩ (.slice (some ⟨gg, 0, none⟩) (L + 1) cap1)) B1 (.slice (some ⟨gg, 0, none⟩) (L + 1) cap1) (ys ++ [⟨1 + x1, xb, x3 - 2⟩])) := O5.kept (grownBy_setCell' _ _ _) (.inr (by simp [Value.ownBlock]; omega))
        have D6 : Hid (DSt w (y5.setCell ⟨AX, 4, none⟩ (.slice (some ⟨gg, 0, none⟩) (L + 1) cap1)) gs v zs m9) := D5.set AX 4 (by omega) _
        have NA6 : Hid ((y5.setCell ⟨AX, 4, none⟩ (.slice (some ⟨gg, 0, none⟩) (L + 1) cap1)).heap[AX]? = some (.cells #[.int .i64 q.s, .int .i64 q.h, .int .i64 q.y, .int .i64 q.p, .slice (some ⟨gg, 0, none⟩) (L + 1) cap1] 28 (0, 0))) := heap_setA4 NA5 _
        have RE6 : Hid ((y5.setCell ⟨AX, 4, none⟩ (.slice (some ⟨gg, 0, none⟩) (L + 1) cap1)).heap[w.heap.size]? = some (.cells #[.int .i64 0, .int .i64 0, .int .i64 0, .int .i64 0, .slice none 0 0] 28 (0, 0))) := set_row (by omega) RE5
        have HL6 : Hid (L + 1 = (ys ++ [(⟨1 + x1, xb, x3 - 2⟩ : Cv)]).length) := by show _ = _; rw [List.length_append, ← HL.out]; rfl
        have DR6 := Lib.hid (DR.out.snoc (c := ⟨1 + x1, xb, x3 - 2⟩) (by unfold DrC; dsimp only; omega) (by dsimp only; omega))
        clear hown1 hgrow hat hlt' gr O5 D5 NA5 RE5 own LT HL DR D_10 NA_10 RE_10 O_10 NC_10
        go_wp2
        exact ⟨⟨j - 1, m9, ys ++ [⟨1 + x1, xb, x3 - 2⟩], gg, L + 1, cap1, rfl, by omega, by omega, by omega, HL6, by have e := DR6.out; show DrL _ _; rw [show (5 * ((L + 1 : Nat) : Int)) = 5 * (L : Int) + 5 by omega]; exact e, O6, NA6, nga, RE6, D6, by omega⟩, by simp only [intOf]; omega⟩

end Go.Proofs.Ythhnnkgfnhggbaa
