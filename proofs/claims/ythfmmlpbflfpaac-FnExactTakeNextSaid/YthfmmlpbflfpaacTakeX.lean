/- TakeNext: the specification's side. -/
import Derived.Test.YthfmmlpbflfpaacTakeS
import Derived.Test.YthfmmlpbflfpaacYardX
import Derived.Test.YthfmmlpbflfpaacYardO
namespace Go.Proofs.Ythfmmlpbflfpaac
open Go.ChangeShapes Go.WideShapes Go.ChangeAt Go.RowKit
set_option linter.unusedVariables false
set_option linter.unusedSimpArgs false

def CanAt (g : Yd) (i : Nat) (t : List Int) : Prop := (g.x.map Sl.t)[i]? = some t ∧ (nxS (tt g) g.x.length).2 = (i : Int) ∧ 0 < t.length ∧ Least t
/-- What TakeNext answers. -/
def TakeAns (g y : Yd) (b : Bool) : Prop := (OkYd g ∧ ∃ i t, CanAt g i t ∧ b = true ∧ y.h = g.h ∧ y.x.map Sl.t = (g.x.map Sl.t).set i (t.take (t.length - 1))) ∨ (¬ (OkYd g ∧ ∃ i t, CanAt g i t) ∧ b = false ∧ y.h = 0 ∧ y.x = [])
theorem tt_same {g k : Yd} (h : g.same k) : tt g = tt k := by funext i; unfold tt; rw [h.2]
theorem CanAt.same {g k : Yd} {i : Nat} {t : List Int} (h : CanAt g i t) (e : g.same k) : CanAt k i t := by
  obtain ⟨a, b, c⟩ := h
  exact ⟨by rw [← e.2]; exact a, by rw [← tt_same e, ← e.len]; exact b, c⟩
theorem TakeAns.same {g k y : Yd} {b : Bool} (h : TakeAns g y b) (e : g.same k) : TakeAns k y b := by
  rcases h with ⟨a, i, t, c, d, f, j⟩ | ⟨a, c⟩
  · exact .inl ⟨a.same e, i, t, c.same e, d, by rw [f, e.1], by rw [j, e.2]⟩
  · exact .inr ⟨fun ⟨q, i, t, r⟩ => a ⟨q.same (Yd.same_symm e), i, t, r.same (Yd.same_symm e)⟩, c⟩
theorem CanAt.uniq {g : Yd} {i j : Nat} {t s : List Int} (h : CanAt g i t) (k : CanAt g j s) : i = j ∧ t = s := by
  obtain ⟨a, b, -⟩ := h
  obtain ⟨c, d, -⟩ := k
  have e : i = j := by omega
  subst e
  exact ⟨rfl, Option.some.inj (a.symm.trans c)⟩
theorem take_can {u : Yd} {i : Nat} {x : Sl} (hx : u.x[i]? = some x) (h1 : (nxS (tt u) u.x.length).2 = (i : Int)) (h2 : 0 < x.t.length) (h3 : Least x.t) : CanAt u i x.t := ⟨by rw [List.getElem?_map, hx]; rfl, h1, h2, h3⟩

def zeroYd : Yd := ⟨0, none, 0, []⟩
theorem own_zeroYd (w : World) (B C : Nat) (h : C ≤ w.heap.size) : OwnYd w B C 0 zeroYd := ⟨OwnSS.none w B C h⟩

set_option maxRecDepth 100000 in
set_option maxHeartbeats 16000000 in
theorem specTake_any (g : Yd) (n0 : Nat) (w : World) (hr : RdYd w n0 g) (l0 : n0 + sumT g.x ≤ 1048576) (y : Yd) (nr : Nat) (hn : nr = y.x.length) (b : Bool) (hA : TakeAns g y b) :
    Calls Try.prog 5 #[(.agg #[.int .i64 g.h, .slice g.xa n0 g.xc])] w fun e w' => ∃ u : Yd, e = .returned (.tuple #[.agg #[.int .i64 u.h, .slice u.xa nr u.xc], .bool b]) ∧ u.same y ∧ OwnYd w' w.heap.size w'.heap.size nr u ∧ Below w.heap.size w w' := by
  have E0 := Lib.hid hr.len
  obtain ⟨b1, h1⟩ := bool_of (OkYd g)
  have C1 := Lib.hid (fun (w : World) G hG hr => l09Yard_any G 26 g n0 w hG hr l0 b1 h1)
  have C2 := Lib.hid (fun (w : World) G hG hr ok => l09Own_any G 26 g n0 w hG hr ok)
  have C3 := Lib.hid (fun (u : Yd) B C (w : World) G hG ho hGB ok => l09Take_any G 26 u n0 B C w hG ho hGB ok)
  have HR := Lib.hid hr
  have H1 := Lib.hid h1
  have HA := Lib.hid hA
  have HN := Lib.hid hn
  clear hr h1 hA hn
  go_enter Try.func5, Try.ntmps5
  go_wp2_with fail
  have NB0 := box2_0 w (.cells #[.int .i64 g.h, .slice g.xa n0 g.xc] 26) (.cells #[.int .i64 0, .slice none 0 0] 26)
  have NR0 := box2_1 w (.cells #[.int .i64 g.h, .slice g.xa n0 g.xc] 26) (.cells #[.int .i64 0, .slice none 0 0] 26)
  have B0 : Below w.heap.size w ((w.alloc (.cells #[.int .i64 g.h, .slice g.xa n0 g.xc] 26)).alloc (.cells #[.int .i64 0, .slice none 0 0] 26)) := by go_grown
  have z0 : w.heap.size + 2 ≤ ((w.alloc (.cells #[.int .i64 g.h, .slice g.xa n0 g.xc] 26)).alloc (.cells #[.int .i64 0, .slice none 0 0] 26)).heap.size := by simp
  generalize (w.alloc (.cells #[.int .i64 g.h, .slice g.xa n0 g.xc] 26)).alloc (.cells #[.int .i64 0, .slice none 0 0] 26) = wb at *
  refine (C1.out wb _ NB0 (HR.out.later B0)).mono ?_
  rintro e w1 ⟨rfl, c1⟩
  have B1 : Hid (Below w.heap.size w w1) := B0.trans (c1.mono (by omega))
  have N1 := Lib.hid ((c1.block w.heap.size (by omega)).trans NB0)
  have R1 := Lib.hid ((c1.block (w.heap.size + 1) (by omega)).trans NR0)
  have z1 : w.heap.size + 2 ≤ w1.heap.size := by have := c1.size; omega
  clear c1 C1 NB0 NR0 B0 z0
  cases b1 with
  | false =>
    have no : ¬ OkYd g := fun q => by have := H1.out.mpr q; simp at this
    obtain ⟨-, rfl, y1, y2⟩ := HA.out.resolve_left (fun q => no q.1)
    obtain rfl : nr = 0 := by have := HN.out; rw [y2] at this; simpa using this
    have SM : Hid (zeroYd.same y) := ⟨y1.symm, by rw [y2]; rfl⟩
    obtain ⟨⟨d0, d1⟩, ⟨f0, f1⟩, -⟩ := boxedYd_at R1.out
    clear y1 y2
    have RE : Hid (((w1.setCell ⟨w.heap.size + 1, 0, none⟩ (.int .i64 0)).setCell ⟨w.heap.size + 1, 1, none⟩ (.slice none 0 0)).heap[w.heap.size + 1]? = some (.cells #[.int .i64 0, .slice none 0 0] 26 (0, 0))) := putYd_1 _ (putYd_0 _ R1.out)
    have BE : Hid (Below w.heap.size w ((w1.setCell ⟨w.heap.size + 1, 0, none⟩ (.int .i64 0)).setCell ⟨w.heap.size + 1, 1, none⟩ (.slice none 0 0))) := (B1.out.setCell (p := ⟨w.heap.size + 1, 0, none⟩) (by show w.heap.size ≤ w.heap.size + 1; omega) _).setCell (p := ⟨w.heap.size + 1, 1, none⟩) (by show w.heap.size ≤ w.heap.size + 1; omega) _
    go_wp2
    clear d0 d1 f0 f1
    obtain ⟨⟨r0, r1⟩, -, -⟩ := boxedYd_at RE.out
    refine bodyPost_ret (v := .tuple #[.agg #[.int .i64 0, .slice none 0 0], .bool false]) (by simp [results, Try.results5, go_sem, r0, r1]; try rfl) rfl ?_
    exact ⟨zeroYd, rfl, SM.out, own_zeroYd _ _ _ (Nat.le_refl _), BE.out⟩
  | true =>
  have ok := Lib.hid (H1.out.mp (by trivial))
  go_wp2_with fail
  refine (C2.out w1 _ N1.out (HR.out.later B1.out) ok.out).mono ?_
  rintro e w2 ⟨v, sv, rfl, ov, c2⟩
  have B2 : Hid (Below w.heap.size w w2) := B1.out.trans (c2.mono (by omega))
  have R2 := Lib.hid ((c2.block (w.heap.size + 1) (by omega)).trans R1.out)
  have z2 : w1.heap.size ≤ w2.heap.size := c2.size
  have OV := Lib.hid ov
  have SV := Lib.hid sv
  have OKV := Lib.hid (ok.out.same (Yd.same_symm sv))
  clear c2 C2 ov sv N1 R1 B1
  go_wp2_with fail
  have NT := heap_alloc_new w2 (.cells #[.int .i64 v.h, .slice v.xa n0 v.xc] 26)
  have bT : Below w2.heap.size w2 (w2.alloc (.cells #[.int .i64 v.h, .slice v.xa n0 v.xc] 26)) := by go_grown
  have zT : w2.heap.size + 1 ≤ (w2.alloc (.cells #[.int .i64 v.h, .slice v.xa n0 v.xc] 26)).heap.size := by simp
  generalize w2.alloc (.cells #[.int .i64 v.h, .slice v.xa n0 v.xc] 26) = wt at *
  refine (C3.out v w1.heap.size w2.heap.size wt w2.heap.size NT (OV.out.later bT) (.inr (Nat.le_refl _)) OKV.out).mono ?_
  rintro e w3 ⟨b3, v3, res, rfl, hT, ov3, c3⟩
  have RES := Lib.hid res
  have T3 := Lib.hid hT
  have O3 := Lib.hid ov3
  have B3 : Hid (Below w.heap.size w w3) := c3.below (B2.out.trans (bT.mono (by omega))) (by omega) (by omega)
  have R3 : Hid (w3.heap[w.heap.size + 1]? = some (.cells #[.int .i64 0, .slice none 0 0] 26 (0, 0))) := (c3.block _ (by omega) (.inl (by omega))).trans ((bT.block _ (by omega)).trans R2.out)
  have z3 : wt.heap.size ≤ w3.heap.size := c3.size
  clear NT bT C3 res hT ov3 c3 B2 R2 OV
  cases b3 with
  | false =>
    have no : ¬ ∃ i t, CanAt g i t := by
      rintro ⟨i, t, hc⟩
      have hc2 := hc.same (Yd.same_symm SV.out)
      rcases RES.out with ⟨h1, -⟩ | ⟨j, x, h1, h2, h3, h4 | h4⟩
      · have := hc2.2.1; omega
      · have e : i = j := by have := hc2.2.1; omega
        subst e
        have e2 : x.t = t := by have := hc2.1; rw [List.getElem?_map, h1] at this; simpa using this
        exact h4.1 (by rw [e2]; exact hc2.2.2.2)
      · have := h4.2.1; simp at this
    obtain ⟨-, rfl, y1, y2⟩ := HA.out.resolve_left (fun ⟨_, i, t, h, _⟩ => no ⟨i, t, h⟩)
    obtain rfl : nr = 0 := by have := HN.out; rw [y2] at this; simpa using this
    have SM : Hid (zeroYd.same y) := ⟨y1.symm, by rw [y2]; rfl⟩
    obtain ⟨⟨d0, d1⟩, ⟨f0, f1⟩, -⟩ := boxedYd_at R3.out
    clear y1 y2 no
    have RE : Hid (((w3.setCell ⟨w.heap.size + 1, 0, none⟩ (.int .i64 0)).setCell ⟨w.heap.size + 1, 1, none⟩ (.slice none 0 0)).heap[w.heap.size + 1]? = some (.cells #[.int .i64 0, .slice none 0 0] 26 (0, 0))) := putYd_1 _ (putYd_0 _ R3.out)
    have BE : Hid (Below w.heap.size w ((w3.setCell ⟨w.heap.size + 1, 0, none⟩ (.int .i64 0)).setCell ⟨w.heap.size + 1, 1, none⟩ (.slice none 0 0))) := (B3.out.setCell (p := ⟨w.heap.size + 1, 0, none⟩) (by show w.heap.size ≤ w.heap.size + 1; omega) _).setCell (p := ⟨w.heap.size + 1, 1, none⟩) (by show w.heap.size ≤ w.heap.size + 1; omega) _
    go_wp2
    clear d0 d1 f0 f1
    obtain ⟨⟨r0, r1⟩, -, -⟩ := boxedYd_at RE.out
    refine bodyPost_ret (v := .tuple #[.agg #[.int .i64 0, .slice none 0 0], .bool false]) (by simp [results, Try.results5, go_sem, r0, r1]; try rfl) rfl ?_
    exact ⟨zeroYd, rfl, SM.out, own_zeroYd _ _ _ (Nat.le_refl _), BE.out⟩
  | true =>
    obtain ⟨i, x, h1, h2, h3, h4⟩ : ∃ (i : Nat) (x : Sl), v.x[i]? = some x ∧ (nxS (tt v) v.x.length).2 = (i : Int) ∧ 0 < x.t.length ∧ Least x.t ∧ v3 = cutAt v i x := by
      rcases RES.out with ⟨-, h, -⟩ | ⟨i, x, h1, h2, h3, h4 | h4⟩
      · simp at h
      · have := h4.2.1; simp at this
      · exact ⟨i, x, h1, h2, h3, h4.1, h4.2.2⟩
    obtain ⟨h4, h5⟩ := h4
    have can := (take_can h1 h2 h3 h4).same SV.out
    obtain ⟨-, j, t, hc, rfl, y1, y2⟩ := HA.out.resolve_right (fun h => h.1 ⟨ok.out, i, x.t, can⟩)
    obtain ⟨rfl, rfl⟩ := can.uniq hc
    have en : nr = n0 := by
      have := congrArg List.length y2
      rw [List.length_set, List.length_map, List.length_map] at this
      have := HN.out; have := E0.out; omega
    subst en
    have SM : Hid (v3.same y) := by
      refine ⟨?_, ?_⟩
      · rw [h5, y1, ← SV.out.1]; rfl
      · rw [y2, ← SV.out.2, h5]
        show (v.x.set i _).map Sl.t = _
        rw [List.map_set]
    obtain ⟨⟨d0, d1⟩, ⟨f0, f1⟩, -⟩ := boxedYd_at R3.out
    obtain ⟨⟨g0, g1⟩, -, -⟩ := boxedYd_at T3.out
    clear h1 h2 h3 h4 h5 can hc y1 y2
    have RE : Hid (((w3.setCell ⟨w.heap.size + 1, 0, none⟩ (.int .i64 v3.h)).setCell ⟨w.heap.size + 1, 1, none⟩ (.slice v3.xa nr v3.xc)).heap[w.heap.size + 1]? = some (.cells #[.int .i64 v3.h, .slice v3.xa nr v3.xc] 26 (0, 0))) := putYd_1 _ (putYd_0 _ R3.out)
    have BE : Hid (Below w.heap.size w ((w3.setCell ⟨w.heap.size + 1, 0, none⟩ (.int .i64 v3.h)).setCell ⟨w.heap.size + 1, 1, none⟩ (.slice v3.xa nr v3.xc))) := (B3.out.setCell (p := ⟨w.heap.size + 1, 0, none⟩) (by show w.heap.size ≤ w.heap.size + 1; omega) _).setCell (p := ⟨w.heap.size + 1, 1, none⟩) (by show w.heap.size ≤ w.heap.size + 1; omega) _
    have OE : Hid (OwnYd ((w3.setCell ⟨w.heap.size + 1, 0, none⟩ (.int .i64 v3.h)).setCell ⟨w.heap.size + 1, 1, none⟩ (.slice v3.xa nr v3.xc)) w.heap.size ((w3.setCell ⟨w.heap.size + 1, 0, none⟩ (.int .i64 v3.h)).setCell ⟨w.heap.size + 1, 1, none⟩ (.slice v3.xa nr v3.xc)).heap.size nr v3) := by
      have o := OwnSS.moveB (O3.out.o0.of_blocks (w' := (w3.setCell ⟨w.heap.size + 1, 0, none⟩ (.int .i64 v3.h)).setCell ⟨w.heap.size + 1, 1, none⟩ (.slice v3.xa nr v3.xc)) (by simp) fun k h1 h2 => by rw [Below.heap_setCell _ _ _ _ (by show k ≠ w.heap.size + 1; omega), Below.heap_setCell _ _ _ _ (by show k ≠ w.heap.size + 1; omega)]) (show w.heap.size ≤ w1.heap.size by omega)
      exact ⟨⟨o.rows, fun k e => by have := o.rb k e; simp; omega, o.tops, fun x hx k e => by have := o.tb x hx k e; simp; omega, o.apart, Nat.le_refl _⟩⟩
    go_wp2
    clear d0 d1 f0 f1 g0 g1
    obtain ⟨⟨r0, r1⟩, -, -⟩ := boxedYd_at RE.out
    refine bodyPost_ret (v := .tuple #[.agg #[.int .i64 v3.h, .slice v3.xa nr v3.xc], .bool true]) (by simp [results, Try.results5, go_sem, r0, r1]; try rfl) rfl ?_
    exact ⟨v3, rfl, SM.out, OE.out, BE.out⟩
end Go.Proofs.Ythfmmlpbflfpaac
