/- The walk of the program's AxisOf. -/
import Derived.Test.YthhnnkgfnhggbaaRoad
import Derived.Test.YthhnnkgfnhggbaaMerge2
import Derived.Test.YthhnnkgfnhggbaaPosesOf
import Derived.Deep.DeepCutAuto
namespace Go.Proofs.Ythhnnkgfnhggbaa
open Go.ChangeShapes Go.WideShapes Go.ChangeAt Go.RowKit
set_option linter.unusedVariables false
set_option linter.unusedSimpArgs false

def zP0 : Ps := ⟨0, 0, 0, 0⟩
def headP (xs : List Ps) : Ps := xs.head?.getD zP0
theorem cboxR2 (w : World) (o p : Obj) : ((w.alloc o).alloc p).heap[w.heap.size + 1]? = some p := by
  have h := heap_alloc_new (w.alloc o) p
  rwa [World.size_alloc] at h
theorem neP {o q : Ps} (h : ¬ o = q) : ¬ o.s = q.s ∨ (q.s = o.s ∧ ¬ o.h = q.h) ∨ (q.s = o.s ∧ q.h = o.h ∧ ¬ o.y = q.y) ∨ (q.s = o.s ∧ q.h = o.h ∧ q.y = o.y ∧ ¬ o.p = q.p) := by
  by_cases h0 : o.s = q.s
  · by_cases h1 : o.h = q.h
    · by_cases h2 : o.y = q.y
      · by_cases h3 : o.p = q.p
        · exact absurd (Ps.eq h0 h1 h2 h3) h
        · exact .inr (.inr (.inr ⟨h0.symm, h1.symm, h2.symm, h3⟩))
      · exact .inr (.inr (.inl ⟨h0.symm, h1.symm, h2⟩))
    · exact .inr (.inl ⟨h0.symm, h1⟩)
  · exact .inl h0
/-- An axis has these poses. -/
def AxV (xs : List Ps) : Prop := (2 ≤ xs.length ∧ xs.length ≤ 61) ∧ Road xs xs.length ∧ (mergeL (difs xs)).length ≤ 8

theorem wrap_in (x : Int) (h : -1000 ≤ x ∧ x ≤ 1000) : IntKind.i64.wrap x = x := IntWalk.i64_in _ (by omega)
theorem Road.step {xs : List Ps} (hr : Road xs xs.length) {k : Nat} {p q : Ps} (hp : xs[k]? = some p) (hq : xs[k + 1]? = some q) {bd rs : Int} (h1 : IntKind.i64.wrap (q.y - p.y) = bd) (h2 : IntKind.i64.wrap (q.p - p.p) = rs) : CanP p bd rs ∧ stepP p bd rs = q := by
  have hl : k + 1 < xs.length := (List.getElem?_eq_some_iff.1 hq).1
  have o1 := hr.1 k p (by omega) hp
  have o2 := hr.1 (k + 1) q hl hq
  have s := hr.2 k p q hl hp hq
  have a1 := s.1
  have a2 := s.2.1
  unfold OkTurn at a1 a2
  rw [wrap_in _ (by omega)] at h1 h2
  subst h1 h2
  exact ⟨⟨o1, s.1, s.2.1, by rw [s.2.2]; exact o2⟩, s.2.2⟩
theorem step_dif {p q : Ps} {bd rs : Int} (h : stepP p bd rs = q) : bd = q.y - p.y ∧ rs = q.p - p.p := by
  subst h
  simp only [stepP]
  omega
theorem RdS.at4g {w : World} {g n cap : Nat} {xs : List Ps} (h : RdS 4 encPs w (.slice (some ⟨g, 0, none⟩) n cap) xs) {i : Nat} {x : Ps} (hx : xs[i]? = some x) :
    w.cell? ⟨g, i * 4, none⟩ = some (.int .i64 x.s) ∧ w.cell? ⟨g, i * 4 + 1, none⟩ = some (.int .i64 x.h) ∧ w.cell? ⟨g, i * 4 + 2, none⟩ = some (.int .i64 x.y) ∧ w.cell? ⟨g, i * 4 + 3, none⟩ = some (.int .i64 x.p) := by
  obtain ⟨a', c', hv, h⟩ := h
  simp only [Value.slice.injEq] at hv
  obtain ⟨rfl, -, -⟩ := hv
  obtain ⟨b, off, e, h2⟩ := h.resolve_left (by intro e; rw [e] at hx; simp at hx)
  cases e
  have q0 := h2 i x hx 0 _ rfl
  have q1 := h2 i x hx 1 _ rfl
  have q2 := h2 i x hx 2 _ rfl
  have q3 := h2 i x hx 3 _ rfl
  simp only [Nat.zero_add, Nat.add_zero] at q0 q1 q2 q3
  exact ⟨q0, q1, q2, q3⟩

theorem OwnS.caps {T : Type} {k : Nat} {enc : T → List Value} {t : TypeId} {w : World} {B : Nat} {v : Value} {xs : List T} (h : OwnS t k enc w B v xs) (h0 : 0 < xs.length) : ∃ g cap, v = .slice (some ⟨g, 0, none⟩) xs.length cap ∧ xs.length ≤ cap := by
  obtain ⟨h1, h2 | ⟨g, cap, cur, rfl, h3, h4, h5, h6⟩⟩ := h
  · have := h2.2; omega
  · exact ⟨g, cap, rfl, h5⟩

set_option maxRecDepth 100000 in
set_option maxHeartbeats 8000000 in
theorem implAxisOf_short (v : Value) (xs : List Ps) (w : World) (hO : ∃ B, OwnS 25 4 encPs w B v xs) (lz : xs.length ≤ 1048576) (hl : ¬ (2 ≤ xs.length ∧ xs.length ≤ 61)) :
    Calls Try.prog 16 #[v] w fun e w' => ∃ v', e = .returned (.tuple #[(.agg #[.int .i64 zP0.s, .int .i64 zP0.h, .int .i64 zP0.y, .int .i64 zP0.p, v']), .bool false]) ∧ OwnS 46 3 encCv w' w.heap.size v' [] ∧ Below w.heap.size w w' := by
  obtain ⟨BO, hO⟩ := hO
  obtain ⟨a, cap, rfl⟩ := hO.form
  have c1 := Lib.hid (fun w => withinI_any (xs.length : Int) 2 61 false ⟨fun e => (by cases e), fun e => absurd ⟨by omega, by omega⟩ hl⟩ w)
  clear hl hO
  go_enter Try.func16, Try.ntmps16
  go_wp2_with fail
  refine (c1.out _).mono ?_
  rintro e w1 ⟨rfl, rfl⟩
  clear c1 lz
  go_wp2
  refine bodyPost_ret (v := .tuple #[.agg #[.int .i64 0, .int .i64 0, .int .i64 0, .int .i64 0, .slice none 0 0], .bool false]) (by simp [results, Try.results16, go_sem]; try rfl) rfl ⟨_, rfl, OwnS.nil _ _, ?_⟩
  go_grown

set_option maxRecDepth 100000 in
set_option maxHeartbeats 8000000 in
theorem implAxisOf_long (v : Value) (xs : List Ps) (w : World) (hO : ∃ B, OwnS 25 4 encPs w B v xs) (hl : 2 ≤ xs.length ∧ xs.length ≤ 61) (b : Bool) (hb : b = true ↔ Road xs xs.length ∧ (mergeL (difs xs)).length ≤ 8) (r : Ps) (hr : r = if b = true then headP xs else zP0) (ys : List Cv) (hy : ys = if b = true then mergeL (difs xs) else []) :
    Calls Try.prog 16 #[v] w fun e w' => ∃ v', e = .returned (.tuple #[(.agg #[.int .i64 r.s, .int .i64 r.h, .int .i64 r.y, .int .i64 r.p, v']), .bool b]) ∧ OwnS 46 3 encCv w' w.heap.size v' ys ∧ Below w.heap.size w w' := by
  obtain ⟨i0, hi, hz0, hz1, hz2⟩ := info_parts info_CvM
  obtain ⟨BO, hO⟩ := hO
  obtain ⟨g, cap, rfl, hcap⟩ := hO.caps (by omega)
  have HO := Lib.hid (hO.rd encPs_len)
  have lg : g < w.heap.size := (hO.lt g rfl).2
  have CW := Lib.hid (fun w => withinI_any (xs.length : Int) 2 61 true ⟨fun _ => ⟨by omega, by omega⟩, fun _ => rfl⟩ w)
  have HB := Lib.hid hb
  have HR := Lib.hid hr
  have HY := Lib.hid hy
  obtain ⟨n, hn⟩ : ∃ n, xs.length = n + 1 := ⟨xs.length - 1, by omega⟩
  have n1 : 1 ≤ n := by omega
  have n60 : n ≤ 60 := by omega
  have HN := Lib.hid hn
  rw [hn] at CW HO ⊢
  have e1 : IntKind.i64.wrap (((n + 1 : Nat) : Int) - 1) = (n : Int) := by rw [show ((n + 1 : Nat) : Int) - 1 = (n : Int) by omega]; exact IntWalk.i64_in _ (by omega)
  have n2 : n + 1 ≤ cap := by omega
  clear hb hr hy hO hl hn hcap
  go_enter Try.func16, Try.ntmps16
  go_wp2_with fail
  refine (CW.out _).mono ?_
  rintro e w1 ⟨rfl, rfl⟩
  clear CW
  go_wp2_with (at_make; refine wpList_make_own _ rfl _ _ _ rfl (w.heap.size + 1) 46 i0 _ 3 Try.underlying76 hi hz0 hz1 .i64 .i64 _ 60 rfl rfl rfl (by rw [hz2]; omega) (by unfold maxLen; omega) (by simp) ?_)
  intro u hown hg
  have BU : Hid (Below w.heap.size w u) := Below.grown (Below.alloc (Below.refl _ _) (Nat.le_refl _) _) hg (by simp) (fun k h => by cases h)
  have NU : Hid (u.heap[w.heap.size]? = some (.cells #[.int .i64 0, .int .i64 0, .int .i64 0, .int .i64 0, .slice none 0 0] 28 (0, 0))) := (hg.block w.heap.size (by simp) (by simp)).trans (heap_alloc_new w _)
  have OU : Hid (OwnS 46 3 encCv u (w.heap.size + 1) (.slice (some ⟨w.heap.size + 1, 0, none⟩) 0 60) ((difs xs).take 0)) := by
    show OwnS _ _ _ _ _ _ _
    exact hown
  clear hown hg
  go_wp2
  go_loopw [4, 20] (fun cv iv wr => ∃ (k c1 ag : Nat), k ≤ n ∧ iv = .int .i64 k ∧ cv = .slice (some ⟨ag, 0, none⟩) k c1 ∧ Hid (OwnS 46 3 encCv wr (w.heap.size + 1) cv ((difs xs).take k)) ∧ Hid (1 ≤ k → Road xs (k + 1)) ∧ Hid (Below w.heap.size w wr) ∧ Hid (wr.heap[w.heap.size]? = some (.cells #[.int .i64 0, .int .i64 0, .int .i64 0, .int .i64 0, .slice none 0 0] 28 (0, 0)))) (fun _ iv _ => n - (intOf iv).toNat)
  case atStart => exact ⟨0, 60, _, by omega, rfl, rfl, OU, fun h => by omega, BU, NU⟩
  case round =>
    obtain ⟨k, c1, ag, hk, rfl, rfl, O, RD, B, NR⟩ := hrel
    clear OU BU NU
    have hsz := B.out.size
    have lnr : w.heap.size < wr.heap.size := (Array.getElem?_eq_some_iff.1 NR.out).1
    by_cases hlt : k < n
    · obtain ⟨p, hp⟩ : ∃ x, xs[k]? = some x := ⟨_, List.getElem?_eq_getElem (by have := HN.out; omega)⟩
      obtain ⟨q, hq⟩ : ∃ x, xs[k + 1]? = some x := ⟨_, List.getElem?_eq_getElem (by have := HN.out; omega)⟩
      obtain ⟨p0, p1, p2, p3⟩ := (HO.out.later B.out).at4g hp
      obtain ⟨q0, q1, q2, q3⟩ := (HO.out.later B.out).at4g hq
      rw [show (k + 1) * 4 = 4 + k * 4 by omega] at q0 q1 q2 q3
      obtain ⟨bd, hbd⟩ : ∃ x, IntKind.i64.wrap (q.y - p.y) = x := ⟨_, rfl⟩
      obtain ⟨rs, hrs⟩ : ∃ x, IntKind.i64.wrap (q.p - p.p) = x := ⟨_, rfl⟩
      have lg2 : g < wr.heap.size := by omega
      have P := Lib.hid hp
      have Q := Lib.hid hq
      clear hp hq
      by_cases hc : CanP p bd rs
      · have C := Lib.hid (fun w => implNext_yes p bd rs hc.1 hc.2.1 hc.2.2.1 hc.2.2.2 w)
        have HC := Lib.hid hc
        clear hc
        by_cases ho : stepP p bd rs = q
        · rw [ho] at C
          have E2 : Hid ((difs xs).take (k + 1) = (difs xs).take k ++ [⟨1, bd, rs⟩]) := by
            show _ = _
            rw [difs_succ P.out Q.out, (step_dif ho).1, (step_dif ho).2]
            rfl
          have RD2 : Hid (1 ≤ k + 1 → Road xs (k + 1 + 1)) := by
            intro _
            have hs : StepOk p q := by
              have := step_dif ho
              rw [this.1, this.2] at HC ho
              exact ⟨HC.out.2.1, HC.out.2.2.1, ho⟩
            have hq : OkP q := by rw [← ho]; exact HC.out.2.2.2
            by_cases k0 : k = 0
            · subst k0
              exact (Road.one P.out HC.out.1).next P.out Q.out hq hs
            · exact (RD.out (by omega)).next P.out Q.out hq hs
          clear ho
          go_wp2_with fail
          refine (C.out _).mono ?_
          rintro e w5 ⟨rfl, b5⟩
          have z5 := b5.size
          simp only [World.size_alloc] at z5
          have NQ := (b5.block wr.heap.size (by simp only [World.size_alloc]; omega)).trans ((Below.heap_alloc _ _ _ (by simp only [World.size_alloc]; omega)).trans (heap_alloc2_old wr _ _))
          have NC := (b5.block (wr.heap.size + 1 + 1) (by simp only [World.size_alloc]; omega)).trans (show (((wr.alloc _).alloc _).alloc _).heap[wr.heap.size + 1 + 1]? = _ from by have h := heap_alloc_new ((wr.alloc (.cells #[.int .i64 q.s, .int .i64 q.h, .int .i64 q.y, .int .i64 q.p] 25)).alloc (.cells #[.int .i64 p.s, .int .i64 p.h, .int .i64 p.y, .int .i64 p.p] 25)) (.cells #[.int .i64 1, .int .i64 bd, .int .i64 rs] 46); simpa only [World.size_alloc] using h)
          have bw : Below wr.heap.size wr w5 := Below.trans (by go_grown) (b5.mono (by simp only [World.size_alloc]; omega))
          have B5 : Hid (Below w.heap.size w w5) := B.out.trans (bw.mono hsz)
          have O5 := Lib.hid (O.out.later bw)
          have NR5 := Lib.hid ((bw.block w.heap.size lnr).trans NR.out)
          have z6 : wr.heap.size + 3 ≤ w5.heap.size := by omega
          have y6 : ¬ wr.heap.size = w5.heap.size := by omega
          have y7 : ¬ wr.heap.size + 1 + 1 = w5.heap.size := by omega
          have l6 : wr.heap.size < w5.heap.size := by omega
          have l7 : wr.heap.size + 1 + 1 < w5.heap.size := by omega
          obtain ⟨⟨j0, j1, j2, j3⟩, -⟩ := boxPs_at NQ
          obtain ⟨⟨m0, m1, m2⟩, -⟩ := boxCv_at (q := ⟨1, bd, rs⟩) NC
          clear b5 bw NQ NC O B NR p0 p1 p2 p3 q0 q1 q2 q3 C z5
          have hlen : ((difs xs).take k).length = k := by rw [List.length_take, difs_len, HN.out]; omega
          have own := O5.out
          unfold OwnS at own
          rw [hlen] at own
          have OWN := Lib.hid own
          clear own
          have agl := O5.out.lt ag rfl
          have HLEN := Lib.hid hlen
          clear hlen
          go_wp2_with (at_builtin; refine wpList_append_lies _ rfl _ _ _ rfl (w.heap.size + 1) 46 i0 _ 3 24 Try.underlying76 hi hz0 hz1 hz2 rfl (by omega) _ _ _ rfl ((OWN.out.alloc _).alloc _) ⟨w5.heap.size + 1, 0, none⟩ 1 1 [.int .i64 1, .int .i64 bd, .int .i64 rs] rfl rfl (World.news_of_block (cs := #[.int .i64 1, .int .i64 bd, .int .i64 rs]) (t := 46) (fr := (0, 0)) (cboxR2 w5 _ _)) (by simp [Value.oneCell']) (by omega) (by unfold maxLen; omega) (by omega) (by simp only [World.size_alloc]; omega) _ rfl ?_)
          intro gg cap1 w6 hown1 hgrow hat hlt'
          have O6 : Hid (OwnS 46 3 encCv w6 (w.heap.size + 1) (.slice (some ⟨gg, 0, none⟩) (k + 1) cap1) ((difs xs).take (k + 1))) := by
            show OwnS _ _ _ _ _ _ _
            unfold OwnS
            rw [E2.out, List.length_append, HLEN.out, List.flatMap_append]
            exact hown1
          have gr := grownBy_trans' (grownBy_trans' (World.grownBy_alloc w5 _ _) (World.grownBy_alloc _ _ _)) hgrow
          have B6 : Hid (Below w.heap.size w w6) := B5.out.grown gr (by omega) (fun j e => by have := (O5.out.lt j e).1; omega)
          have NR6 : Hid (w6.heap[w.heap.size]? = some (.cells #[.int .i64 0, .int .i64 0, .int .i64 0, .int .i64 0, .slice none 0 0] 28 (0, 0))) := (gr.block w.heap.size (by omega) (fun h => by have := (O5.out.lt _ h.symm).1; omega)).trans NR5.out
          clear hown1 hgrow hat hlt' gr OWN O5 B5 NR5 j0 j1 j2 j3 m0 m1 m2 HLEN
          go_wp2
          exact ⟨⟨k + 1, cap1, gg, by omega, by push_cast; rfl, rfl, O6, RD2, B6, NR6⟩, by simp only [intOf]; omega⟩
        · clear HC
          obtain rfl : b = false := bool_false HB.out (fun h => ho (h.1.step P.out Q.out hbd hrs).2)
          obtain rfl : r = zP0 := HR.out
          obtain rfl : ys = [] := HY.out
          obtain ⟨o, hoe⟩ : ∃ x, stepP p bd rs = x := ⟨_, rfl⟩
          rw [hoe] at ho C
          clear hoe RD
          go_wp2_with fail
          refine (C.out _).mono ?_
          rintro e w5 ⟨rfl, b5⟩
          have z5 := b5.size
          simp only [World.size_alloc] at z5
          have NQ := (b5.block wr.heap.size (by simp only [World.size_alloc]; omega)).trans ((Below.heap_alloc _ _ _ (by simp only [World.size_alloc]; omega)).trans (heap_alloc2_old wr _ _))
          have NC := (b5.block (wr.heap.size + 1 + 1) (by simp only [World.size_alloc]; omega)).trans (show (((wr.alloc _).alloc _).alloc _).heap[wr.heap.size + 1 + 1]? = _ from by have h := heap_alloc_new ((wr.alloc (.cells #[.int .i64 q.s, .int .i64 q.h, .int .i64 q.y, .int .i64 q.p] 25)).alloc (.cells #[.int .i64 p.s, .int .i64 p.h, .int .i64 p.y, .int .i64 p.p] 25)) (.cells #[.int .i64 1, .int .i64 bd, .int .i64 rs] 46); simpa only [World.size_alloc] using h)
          have bw : Below wr.heap.size wr w5 := Below.trans (by go_grown) (b5.mono (by simp only [World.size_alloc]; omega))
          have B5 : Hid (Below w.heap.size w w5) := B.out.trans (bw.mono hsz)
          have O5 := Lib.hid (O.out.later bw)
          have NR5 := Lib.hid ((bw.block w.heap.size lnr).trans NR.out)
          have z6 : wr.heap.size + 3 ≤ w5.heap.size := by omega
          have y6 : ¬ wr.heap.size = w5.heap.size := by omega
          have y7 : ¬ wr.heap.size + 1 + 1 = w5.heap.size := by omega
          have l6 : wr.heap.size < w5.heap.size := by omega
          have l7 : wr.heap.size + 1 + 1 < w5.heap.size := by omega
          obtain ⟨⟨j0, j1, j2, j3⟩, -⟩ := boxPs_at NQ
          obtain ⟨⟨m0, m1, m2⟩, -⟩ := boxCv_at (q := ⟨1, bd, rs⟩) NC
          clear b5 bw NQ NC O B NR p0 p1 p2 p3 q0 q1 q2 q3 C z5
          rcases neP ho with h | ⟨h0, h⟩ | ⟨h0, h1, h⟩ | ⟨h0, h1, h2, h⟩
          all_goals
            clear ho
            have N7 : ((w5.alloc (.cells #[.int .i64 o.s, .int .i64 o.h, .int .i64 o.y, .int .i64 o.p] 25)).heap[w.heap.size]? = some (.cells #[.int .i64 0, .int .i64 0, .int .i64 0, .int .i64 0, .slice none 0 0] 28 (0, 0))) := (Below.heap_alloc w5 _ _ (by omega)).trans NR5.out
            have B7 : Hid (Below w.heap.size w (w5.alloc (.cells #[.int .i64 o.s, .int .i64 o.h, .int .i64 o.y, .int .i64 o.p] 25))) := B5.out.alloc (by have := B5.out.size; omega) _
            have N7' := Lib.hid N7
            clear N7 m0 m1 m2 NR5 B5 O5
            go_upto_region 11 with (fail)
            generalize w5.alloc (.cells #[.int .i64 o.s, .int .i64 o.h, .int .i64 o.y, .int .i64 o.p] 25) = w7 at N7' B7 ⊢
            clear y6 y7 l6 l7
            obtain ⟨⟨g0, g1, g2, g3, g4⟩, l9⟩ := boxA_at (q := zP0) N7'.out
            have f0 := frozen_of_row w7 w.heap.size 0 _ _ N7'.out
            have f1 := frozen_of_row w7 w.heap.size 1 _ _ N7'.out
            have f2 := frozen_of_row w7 w.heap.size 2 _ _ N7'.out
            have f3 := frozen_of_row w7 w.heap.size 3 _ _ N7'.out
            have f4 := frozen_of_row w7 w.heap.size 4 _ _ N7'.out
            have BF : Hid (Below w.heap.size w w7) := B7
            go_wp2
            refine bodyPost_ret (v := .tuple #[.agg #[.int .i64 0, .int .i64 0, .int .i64 0, .int .i64 0, .slice none 0 0], .bool false]) (by simp [results, Try.results16, go_sem, g0, g1, g2, g3, g4]; try rfl) rfl ?_
            refine ⟨_, rfl, OwnS.nil _ _, ?_⟩
            have b := BF.out
            go_grown
      · have C := Lib.hid (fun w => implNext_no p bd rs hc w)
        obtain rfl : b = false := bool_false HB.out (fun h => hc (h.1.step P.out Q.out hbd hrs).1)
        obtain rfl : r = zP0 := HR.out
        obtain rfl : ys = [] := HY.out
        clear hc RD
        obtain ⟨o, hoe⟩ : ∃ x, noP = x := ⟨_, rfl⟩
        rw [hoe] at C
        clear hoe
        go_wp2_with fail
        refine (C.out _).mono ?_
        rintro e w5 ⟨rfl, b5⟩
        have z5 := b5.size
        simp only [World.size_alloc] at z5
        have NQ := (b5.block wr.heap.size (by simp only [World.size_alloc]; omega)).trans ((Below.heap_alloc _ _ _ (by simp only [World.size_alloc]; omega)).trans (heap_alloc2_old wr _ _))
        have NC := (b5.block (wr.heap.size + 1 + 1) (by simp only [World.size_alloc]; omega)).trans (show (((wr.alloc _).alloc _).alloc _).heap[wr.heap.size + 1 + 1]? = _ from by have h := heap_alloc_new ((wr.alloc (.cells #[.int .i64 q.s, .int .i64 q.h, .int .i64 q.y, .int .i64 q.p] 25)).alloc (.cells #[.int .i64 p.s, .int .i64 p.h, .int .i64 p.y, .int .i64 p.p] 25)) (.cells #[.int .i64 1, .int .i64 bd, .int .i64 rs] 46); simpa only [World.size_alloc] using h)
        have bw : Below wr.heap.size wr w5 := Below.trans (by go_grown) (b5.mono (by simp only [World.size_alloc]; omega))
        have B5 : Hid (Below w.heap.size w w5) := B.out.trans (bw.mono hsz)
        have O5 := Lib.hid (O.out.later bw)
        have NR5 := Lib.hid ((bw.block w.heap.size lnr).trans NR.out)
        have z6 : wr.heap.size + 3 ≤ w5.heap.size := by omega
        have y6 : ¬ wr.heap.size = w5.heap.size := by omega
        have y7 : ¬ wr.heap.size + 1 + 1 = w5.heap.size := by omega
        have l6 : wr.heap.size < w5.heap.size := by omega
        have l7 : wr.heap.size + 1 + 1 < w5.heap.size := by omega
        obtain ⟨⟨j0, j1, j2, j3⟩, -⟩ := boxPs_at NQ
        obtain ⟨⟨m0, m1, m2⟩, -⟩ := boxCv_at (q := ⟨1, bd, rs⟩) NC
        clear b5 bw NQ NC O B NR p0 p1 p2 p3 q0 q1 q2 q3 C z5
        have N7 : ((w5.alloc (.cells #[.int .i64 o.s, .int .i64 o.h, .int .i64 o.y, .int .i64 o.p] 25)).heap[w.heap.size]? = some (.cells #[.int .i64 0, .int .i64 0, .int .i64 0, .int .i64 0, .slice none 0 0] 28 (0, 0))) := (Below.heap_alloc w5 _ _ (by omega)).trans NR5.out
        have B7 : Hid (Below w.heap.size w (w5.alloc (.cells #[.int .i64 o.s, .int .i64 o.h, .int .i64 o.y, .int .i64 o.p] 25))) := B5.out.alloc (by have := B5.out.size; omega) _
        have N7' := Lib.hid N7
        clear N7 j0 j1 j2 j3 m0 m1 m2 NR5 B5 O5
        go_upto_region 11 with (fail)
        generalize w5.alloc (.cells #[.int .i64 o.s, .int .i64 o.h, .int .i64 o.y, .int .i64 o.p] 25) = w7 at N7' B7 ⊢
        clear y6 y7 l6 l7
        obtain ⟨⟨g0, g1, g2, g3, g4⟩, l9⟩ := boxA_at (q := zP0) N7'.out
        have f0 := frozen_of_row w7 w.heap.size 0 _ _ N7'.out
        have f1 := frozen_of_row w7 w.heap.size 1 _ _ N7'.out
        have f2 := frozen_of_row w7 w.heap.size 2 _ _ N7'.out
        have f3 := frozen_of_row w7 w.heap.size 3 _ _ N7'.out
        have f4 := frozen_of_row w7 w.heap.size 4 _ _ N7'.out
        have BF : Hid (Below w.heap.size w w7) := B7
        go_wp2
        refine bodyPost_ret (v := .tuple #[.agg #[.int .i64 0, .int .i64 0, .int .i64 0, .int .i64 0, .slice none 0 0], .bool false]) (by simp [results, Try.results16, go_sem, g0, g1, g2, g3, g4]; try rfl) rfl ?_
        refine ⟨_, rfl, OwnS.nil _ _, ?_⟩
        have b := BF.out
        go_grown
    · obtain rfl : k = n := by omega
      have EA : Hid ((difs xs).take k = difs xs) := List.take_of_length_le (by rw [difs_len]; have := HN.out; omega)
      have RDA : Hid (Road xs xs.length) := by
        show Road _ _
        rw [HN.out]
        exact RD.out n1
      have RC := Lib.hid (road_cv RDA.out (by have := HN.out; omega) (by have := HN.out; omega))
      have O2 := O.out
      rw [EA.out] at O2
      have DL : Hid ((difs xs).length = k) := by show _ = _; rw [difs_len, HN.out]; rfl
      have OD := Lib.hid (O2.rd encCv_len)
      obtain ⟨x0, hx0⟩ : ∃ x, xs[0]? = some x := ⟨_, List.getElem?_eq_getElem (by have := HN.out; omega)⟩
      have C2 := Lib.hid (merged_any (.slice (some ⟨ag, 0, none⟩) k c1) (difs xs) wr OD.out (by have := DL.out; omega) (fun d hd => by rw [difs_one d hd]; omega) (by rw [sumR_one _ difs_one, DL.out]; omega))
      obtain ⟨L, hL⟩ : ∃ L, mergeL (difs xs) = L := ⟨_, rfl⟩
      have HB' : Hid (b = true ↔ L.length ≤ 8) := by
        show _ ↔ _
        rw [HB.out, ← hL]
        exact ⟨fun h => h.2, fun h => ⟨RDA.out, h⟩⟩
      have LL : Hid (L.length ≤ 60 ∧ 1 ≤ L.length) := by
        have h := mergeL_length (difs xs)
        have h2 := RC.out.2
        rw [hL] at h h2
        refine ⟨by have := DL.out; omega, ?_⟩
        cases L with
        | nil => simp only [sumR] at h2; have := HN.out; omega
        | cons c cs => simp
      rw [hL] at C2 HY RC
      clear O O2 EA RD OD hL HB
      go_wp2_with fail
      refine C2.out.mono ?_
      rintro e w5 ⟨vm, rfl, om, b5⟩
      obtain ⟨am, cm, rfl⟩ := om.form
      have z5 := b5.size
      have B5 : Hid (Below w.heap.size w w5) := B.out.trans (b5.mono hsz)
      have NR5 := Lib.hid ((b5.block w.heap.size lnr).trans NR.out)
      have OM := Lib.hid om
      have HX := Lib.hid hx0
      clear om b5 C2 B NR hx0
      have C3 := Lib.hid (fun w (h : RdS 3 encCv w (.slice am L.length cm) L) => routeOk_any (.slice am L.length cm) L w h (by have := LL.out; omega) b (by
        rw [HB'.out]
        have l := LL.out
        exact ⟨fun h => ⟨⟨by omega, by omega⟩, RC.out.1, by have h2 := RC.out.2; have := HN.out; omega⟩, fun h => by omega⟩))
      go_wp2_with fail
      refine (C3.out _ (OM.out.rd encCv_len)).mono ?_
      rintro e w6 ⟨rfl, b6⟩
      have z6 := b6.size
      have B6 : Hid (Below w.heap.size w w6) := B5.out.trans (b6.mono (by omega))
      have NR6 := Lib.hid ((b6.block w.heap.size (by omega)).trans NR5.out)
      have OM6 := Lib.hid (OM.out.later b6)
      obtain ⟨x0', x1', x2', x3'⟩ := (HO.out.later B6.out).at4g HX.out
      simp only [Nat.zero_mul, Nat.zero_add] at x0' x1' x2' x3'
      clear b6 B5 NR5 OM C3
      have lgw : g < w6.heap.size := by omega
      have nlg : ¬ g = w.heap.size := by omega
      obtain ⟨⟨g0, g1, g2, g3, g4⟩, l9⟩ := boxA_at (q := zP0) NR6.out
      have f0 := frozen_of_row w6 w.heap.size 0 _ _ NR6.out
      have f1 := frozen_of_row w6 w.heap.size 1 _ _ NR6.out
      have f2 := frozen_of_row w6 w.heap.size 2 _ _ NR6.out
      have f3 := frozen_of_row w6 w.heap.size 3 _ _ NR6.out
      have f4 := frozen_of_row w6 w.heap.size 4 _ _ NR6.out
      have BF : Hid (Below w.heap.size w w6) := B6
      cases b with
      | false =>
        obtain rfl : r = zP0 := HR.out
        obtain rfl : ys = [] := HY.out
        clear x0' x1' x2' x3' LL OM6
        go_wp2
        refine bodyPost_ret (v := .tuple #[.agg #[.int .i64 0, .int .i64 0, .int .i64 0, .int .i64 0, .slice none 0 0], .bool false]) (by simp [results, Try.results16, go_sem, g0, g1, g2, g3, g4]; try rfl) rfl ?_
        refine ⟨_, rfl, OwnS.nil _ _, ?_⟩
        have b := BF.out
        go_grown
      | true =>
        have hh : x0 = r := by
          rw [show r = headP xs from HR.out]
          have h := HX.out
          rw [← List.head?_eq_getElem?] at h
          unfold headP
          rw [h]
          rfl
        subst hh
        obtain rfl : ys = L := HY.out
        have lt6 := OM6.out.lt
        clear LL
        go_wp2
        refine bodyPost_ret (v := .tuple #[(.agg #[.int .i64 x0.s, .int .i64 x0.h, .int .i64 x0.y, .int .i64 x0.p, (.slice am ys.length cm)]), .bool true]) (by simp [results, Try.results16, go_sem, g0, g1, g2, g3, g4]; try rfl) rfl ⟨_, rfl, ?_, ?_⟩
        · refine OwnS.mono ?_ (show w.heap.size ≤ w.heap.size + 1 by omega)
          have o := OM6.out.mono (show w.heap.size + 1 ≤ wr.heap.size by omega)
          exact ((((o.setBelow (by simp) _).setBelow (by simp) _).setBelow (by simp) _).setBelow (by simp) _).setBelow (by simp) _
        · have b := BF.out
          go_grown
end Go.Proofs.Ythhnnkgfnhggbaa
