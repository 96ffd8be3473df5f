/- TakeNext: what it answers, the program's side, both sides. (TakeL, TakeY by tools/mkafter.py, TakeZ merged.) -/
import Derived.Test.YthfmmlpbflfpaacTakeD
import Derived.Test.YthfmmlpbflfpaacTopsX
import Derived.Test.YthfmmlpbflfpaacDepY
import Derived.Test.YthfmmlpbflfpaacBlkX
namespace Go.Proofs.Ythfmmlpbflfpaac
open Go.ChangeShapes Go.WideShapes Go.ChangeAt Go.RowKit
set_option linter.unusedVariables false
set_option linter.unusedSimpArgs false

theorem nxS_four {g : Yd} (ok : OkYd g) : nxS (tt g) 4 = nxS (tt g) g.x.length := nxS_past 4 ok.n0.2
theorem top_least {g : Yd} (ok : OkYd g) {i : Nat} {x : Sl} (hx : g.x[i]? = some x) (h2 : (nxS (tt g) 4).2 = (i : Int)) (h0 : 0 < x.t.length) : topOf x.t = (nxS (tt g) 4).1 ↔ Least x.t := by
  obtain ⟨z, hz⟩ : ∃ z, x.t[x.t.length - 1]? = some z := ⟨_, List.getElem?_eq_getElem (by omega)⟩
  have tz : topOf x.t = z := topOf_get hz (by omega)
  rcases nxS_ok (tt g) 4 (fun i _ z hz => (tt_bd ok i z hz).2) with ⟨h, -⟩ | ⟨k, k1, k2, k3, -, k5⟩
  · rw [h] at h2; have : (-1 : Int) = (i : Int) := h2; omega
  · have e : k = i := by omega
    subst e
    rw [tt_get hx] at k3
    have k6 := k5 k k1
    rw [tt_get hx] at k6
    rw [tz]
    constructor
    · intro e j a b h1 h3 h4
      rw [hz] at h4
      obtain rfl := Option.some.inj h4
      rw [e]
      exact k6 a (List.mem_of_getElem? h3)
    · intro hl
      obtain ⟨j, hj, e⟩ := List.mem_iff_getElem.1 k3
      have ej : x.t[j]? = some (nxS (tt g) 4).1 := by rw [List.getElem?_eq_getElem hj, e]
      have lz := k6 z (List.mem_of_getElem? hz)
      by_cases l : j + 1 < x.t.length
      · have := hl j _ z l ej hz; omega
      · have e2 : j = x.t.length - 1 := by omega
        rw [e2, hz] at ej
        exact Option.some.inj ej
/-- When the program takes the next lot. -/
theorem takeD_can {g : Yd} (ok : OkYd g) {q q' : Nat → Pl} {b : Bool} (h : TakeD (tt g) q b q') : (b = false ∧ ¬ ∃ i t, CanAt g i t) ∨ ∃ i t, CanAt g i t ∧ b = true ∧ i < 4 ∧ t = tt g i ∧ q' = upd q i (pil (t.take (t.length - 1))) := by
  have e4 := nxS_four ok
  rcases h with ⟨h1, h2, -⟩ | ⟨i, h1, h2, h3, h4⟩
  · refine .inl ⟨h2, ?_⟩
    rintro ⟨i, t, hc⟩
    have := hc.2.1
    rw [← e4] at this
    omega
  · obtain ⟨x, hx⟩ : ∃ x, g.x[i]? = some x := by
      cases h : g.x[i]? with
      | none => rw [tt_past (List.getElem?_eq_none_iff.1 h)] at h3; simp at h3
      | some x => exact ⟨x, rfl⟩
    have et := tt_get hx
    rw [et] at h3 h4
    have key := top_least ok hx h2 h3
    rcases h4 with ⟨h5, h6, -⟩ | ⟨h5, h6, h7⟩
    · refine .inl ⟨h6, ?_⟩
      rintro ⟨j, t, hc⟩
      have e : j = i := by have := hc.2.1; rw [← e4] at this; omega
      subst e
      have e2 : t = x.t := by have := hc.1; rw [List.getElem?_map, hx] at this; simpa using this.symm
      exact h5 (key.mpr (by rw [← e2]; exact hc.2.2.2))
    · exact .inr ⟨i, x.t, take_can hx (by rw [← e4]; exact h2) h3 (key.mp h5), h6, h1, et.symm, by rw [h7, List.dropLast_eq_take]⟩


/-- A store into the box just made. -/
theorem wpList_store_last {ops : Array Oper} {rest : List Oper} {o : Oper} {a : Act} {w0 : World} {old : Array Value} {t : TypeId} {Q : Exit → Act → World → Prop} (hgd : o.guard = none) (ty : TypeId) (x y : Operand) (ho : o.op = .store ty x y)
    (R : Array Value) (hx : a.eval x = .pointer (some ⟨w0.heap.size, 0, none⟩)) (hy : a.eval y = .agg R) (hi : (Try.prog.info? ty).map (·.size) = some R.size) (hold : old.size = R.size) (h1 : R.all (·.oneCell') = true)
    (h : ∀ w' : World, Hid (w'.heap[w0.heap.size]? = some (.cells R t (0, 0))) → Hid (Below w0.heap.size w0 w') → w0.heap.size + 1 ≤ w'.heap.size → wpList Try.prog ops Q rest (a.put o.dst undef) w') :
    wpList Try.prog ops Q (o :: rest) a (w0.alloc (.cells old t (0, 0))) := by
  have hg := heap_alloc_new w0 (.cells old t (0, 0))
  refine wpList_store_row hgd ty x y ho w0.heap.size R hx hy t old hg hi hold h1 (h _ ?_ ?_ ?_)
  · exact setRow_heap _ _ _ _ _ _ hg
  · exact below_setRow (by go_grown) (Nat.le_refl _) _
  · simp [World.setRow]
theorem pil_ok {t : List Int} (l4 : t.length ≤ 4) (hb : ∀ z ∈ t, z ≤ 99) : PileOk (pil t) t := ⟨in4_pil _ l4, rfl, l4, hb⟩
def cutT (g : Yd) (i : Nat) : Nat → List Int := fun j => if j = i then (tt g i).take ((tt g i).length - 1) else tt g j
theorem cut_ok {g : Yd} (ok : OkYd g) {q : Nat → Pl} (hq : ∀ i, i < 4 → q i = pil (tt g i)) (i : Nat) : ∀ j, j < 4 → PileOk (upd q i (pil ((tt g i).take ((tt g i).length - 1))) j) (cutT g i j) := by
  intro j hj
  have hk := tt_ok ok i
  unfold upd cutT
  by_cases e : j = i
  · rw [if_pos e, if_pos e]
    exact pil_ok (by rw [List.length_take]; have := hk.l4; omega) fun z hz => hk.hb z (List.mem_of_mem_take hz)
  · rw [if_neg e, if_neg e, hq j hj]
    exact tt_ok ok j
theorem range_cut {g : Yd} (i : Nat) (n : Nat) (hn : n = g.x.length) : (List.range n).map (cutT g i) = (g.x.map Sl.t).set i ((tt g i).take ((tt g i).length - 1)) := by
  subst hn
  apply List.ext_getElem
  · simp
  · intro j h1 h2
    have hj : j < g.x.length := by simpa using h1
    rw [List.getElem_map, List.getElem_range, List.getElem_set]
    unfold cutT
    by_cases e : j = i
    · subst e; rw [if_pos rfl, if_pos rfl]
    · rw [if_neg e, if_neg (fun q => e q.symm), List.getElem_map]
      exact tt_get (List.getElem?_eq_getElem hj)

set_option maxRecDepth 100000 in
set_option maxHeartbeats 16000000 in
theorem afterTake_any (g : Yd) (n0 : Nat) (w : World) (hr : RdYd w n0 g) (l0 : n0 + sumT g.x ≤ 1048576) (y : Yd) (nr : Nat) (hn : nr = y.x.length) (b : Bool) (hA : TakeAns g y b) :
    Calls Try.prog 16 #[(.agg #[.int .i64 g.h, .slice g.xa n0 g.xc]), .func (Fn.func 17) #[] #[]] w fun e w' => ∃ u : Yd, e = .returned (.tuple #[.agg #[.int .i64 u.h, .slice u.xa nr u.xc], .bool b]) ∧ u.same y ∧ OwnYd w' w.heap.size w'.heap.size nr u ∧ Below w.heap.size w w' := by
  have E0 := Lib.hid hr.len
  obtain ⟨b1, h1⟩ := bool_of (OkYd g)
  have C1 := Lib.hid (fun (w : World) hr => implYard_any g n0 w hr l0 b1 h1)
  have C2 := Lib.hid (fun (w : World) hr ok => depotOf_any g n0 w hr ok)
  have C3 := Lib.hid (fun (D : Nat) (q : Nat → Pl) hq ok pos (w : World) hD => takeNext_any D g.h (n0 : Int) q (tt g) hq ok pos w 55 hD)
  have C4 := Lib.hid (fun (q : Nat → Pl) (t : Nat → List Int) ok (n4 : n0 ≤ 4) (w : World) => dYard_any g.h n0 q t ok n4 w)
  have HR := Lib.hid hr
  have H1 := Lib.hid h1
  have HA := Lib.hid hA
  have HN := Lib.hid hn
  clear hr h1 hA hn
  go_enter Try.func16, Try.ntmps16
  go_wp2_with fail
  have NB0 := box2_0 w (.cells #[.int .i64 g.h, .slice g.xa n0 g.xc] 26) (.cells #[.int .i64 0, .slice none 0 0] 26)
  have NR0 := box2_1 w (.cells #[.int .i64 g.h, .slice g.xa n0 g.xc] 26) (.cells #[.int .i64 0, .slice none 0 0] 26)
  have B0 : Below w.heap.size w ((w.alloc (.cells #[.int .i64 g.h, .slice g.xa n0 g.xc] 26)).alloc (.cells #[.int .i64 0, .slice none 0 0] 26)) := by go_grown
  have z0 : w.heap.size + 2 ≤ ((w.alloc (.cells #[.int .i64 g.h, .slice g.xa n0 g.xc] 26)).alloc (.cells #[.int .i64 0, .slice none 0 0] 26)).heap.size := by simp
  generalize (w.alloc (.cells #[.int .i64 g.h, .slice g.xa n0 g.xc] 26)).alloc (.cells #[.int .i64 0, .slice none 0 0] 26) = wb at *
  refine (C1.out wb (HR.out.later B0)).mono ?_
  rintro e w1 ⟨rfl, c1⟩
  have B1 : Hid (Below w.heap.size w w1) := B0.trans (c1.mono (by omega))
  have N1 := Lib.hid ((c1.block w.heap.size (by omega)).trans NB0)
  have R1 := Lib.hid ((c1.block (w.heap.size + 1) (by omega)).trans NR0)
  have z1 : w.heap.size + 2 ≤ w1.heap.size := by have := c1.size; omega
  clear c1 C1 NB0 NR0 B0 z0
  cases b1 with
  | false =>
    have no : ¬ OkYd g := fun q => by have := H1.out.mpr q; simp at this
    obtain ⟨-, rfl, y1, y2⟩ := HA.out.resolve_left (fun q => no q.1)
    obtain rfl : nr = 0 := by have := HN.out; rw [y2] at this; simpa using this
    have SM : Hid (zeroYd.same y) := ⟨y1.symm, by rw [y2]; rfl⟩
    obtain ⟨⟨d0, d1⟩, ⟨f0, f1⟩, -⟩ := boxedYd_at R1.out
    clear y1 y2
    have RE : Hid (((w1.setCell ⟨w.heap.size + 1, 0, none⟩ (.int .i64 0)).setCell ⟨w.heap.size + 1, 1, none⟩ (.slice none 0 0)).heap[w.heap.size + 1]? = some (.cells #[.int .i64 0, .slice none 0 0] 26 (0, 0))) := putYd_1 _ (putYd_0 _ R1.out)
    have BE : Hid (Below w.heap.size w ((w1.setCell ⟨w.heap.size + 1, 0, none⟩ (.int .i64 0)).setCell ⟨w.heap.size + 1, 1, none⟩ (.slice none 0 0))) := (B1.out.setCell (p := ⟨w.heap.size + 1, 0, none⟩) (by show w.heap.size ≤ w.heap.size + 1; omega) _).setCell (p := ⟨w.heap.size + 1, 1, none⟩) (by show w.heap.size ≤ w.heap.size + 1; omega) _
    go_wp2
    clear d0 d1 f0 f1
    obtain ⟨⟨r0, r1⟩, -, -⟩ := boxedYd_at RE.out
    refine bodyPost_ret (v := .tuple #[.agg #[.int .i64 0, .slice none 0 0], .bool false]) (by simp [results, Try.results16, go_sem, r0, r1]; try rfl) rfl ?_
    exact ⟨zeroYd, rfl, SM.out, own_zeroYd _ _ _ (Nat.le_refl _), BE.out⟩
  | true =>
  have ok := Lib.hid (H1.out.mp (by trivial))
  obtain ⟨⟨k0, k1⟩, -, -⟩ := boxedYd_at N1.out
  go_wp2_with fail
  refine (C2.out w1 (HR.out.later B1.out) ok.out).mono ?_
  rintro e w2 ⟨q, hq, rfl, c2⟩
  have B2 : Hid (Below w.heap.size w w2) := B1.out.trans (c2.mono (by omega))
  have R2 := Lib.hid ((c2.block (w.heap.size + 1) (by omega)).trans R1.out)
  have z2 : w1.heap.size ≤ w2.heap.size := c2.size
  have HQ := Lib.hid hq
  have n4 : n0 ≤ 4 := by have := ok.out.n0; have := E0.out; omega
  obtain ⟨F, hu⟩ := isStruct_depot
  clear c2 C2 hq N1 R1 B1 k0 k1
  go_wp2_with (first | (refine wpList_store_last rfl 55 _ _ rfl #[.int .i64 g.h, .int .i64 (n0 : Int), .int .i64 (q 0).a, .int .i64 (q 0).b, .int .i64 (q 0).c, .int .i64 (q 0).d, .int .i64 (q 0).n, .int .i64 (q 1).a, .int .i64 (q 1).b, .int .i64 (q 1).c, .int .i64 (q 1).d, .int .i64 (q 1).n, .int .i64 (q 2).a, .int .i64 (q 2).b, .int .i64 (q 2).c, .int .i64 (q 2).d, .int .i64 (q 2).n, .int .i64 (q 3).a, .int .i64 (q 3).b, .int .i64 (q 3).c, .int .i64 (q 3).d, .int .i64 (q 3).n] rfl rfl infoD_depot rfl (one_all [g.h, (n0 : Int), (q 0).a, (q 0).b, (q 0).c, (q 0).d, (q 0).n, (q 1).a, (q 1).b, (q 1).c, (q 1).d, (q 1).n, (q 2).a, (q 2).b, (q 2).c, (q 2).d, (q 2).n, (q 3).a, (q 3).b, (q 3).c, (q 3).d, (q 3).n]) ?_; intro wd hD hB hz) | fail)
  refine (C3.out w2.heap.size q HQ.out (fun i hi => by rw [HQ.out i hi]; exact tt_ok ok.out i) (fun i _ z hz => (tt_bd ok.out i z hz).1) wd hD.out).mono ?_
  rintro e w3 ⟨b3, q3, res, rfl, h3, g3⟩
  have B3 : Hid (Below w.heap.size w w3) := (B2.out.trans (hB.out.mono (by omega))).grown g3 (by omega) (fun j e => by have := Option.some.inj e; omega)
  have R3 : Hid (w3.heap[w.heap.size + 1]? = some (.cells #[.int .i64 0, .slice none 0 0] 26 (0, 0))) := (g3.block _ (by omega) (fun e => by have := Option.some.inj e; omega)).trans ((hB.out.block _ (by omega)).trans R2.out)
  have z3 : wd.heap.size ≤ w3.heap.size := g3.size
  have CAN := Lib.hid (takeD_can ok.out res)
  have H3 := Lib.hid h3
  clear res h3 g3 hB hD C3 B2 R2
  rcases CAN.out with ⟨rfl, no⟩ | ⟨i, t, can, rfl, hi4, rfl, rfl⟩
  · clear CAN
    obtain ⟨-, rfl, y1, y2⟩ := HA.out.resolve_left (fun ⟨_, i, t, h, _⟩ => no ⟨i, t, h⟩)
    obtain rfl : nr = 0 := by have := HN.out; rw [y2] at this; simpa using this
    have SM : Hid (zeroYd.same y) := ⟨y1.symm, by rw [y2]; rfl⟩
    obtain ⟨⟨d0, d1⟩, ⟨f0, f1⟩, -⟩ := boxedYd_at R3.out
    clear y1 y2 no
    have RE : Hid (((w3.setCell ⟨w.heap.size + 1, 0, none⟩ (.int .i64 0)).setCell ⟨w.heap.size + 1, 1, none⟩ (.slice none 0 0)).heap[w.heap.size + 1]? = some (.cells #[.int .i64 0, .slice none 0 0] 26 (0, 0))) := putYd_1 _ (putYd_0 _ R3.out)
    have BE : Hid (Below w.heap.size w ((w3.setCell ⟨w.heap.size + 1, 0, none⟩ (.int .i64 0)).setCell ⟨w.heap.size + 1, 1, none⟩ (.slice none 0 0))) := (B3.out.setCell (p := ⟨w.heap.size + 1, 0, none⟩) (by show w.heap.size ≤ w.heap.size + 1; omega) _).setCell (p := ⟨w.heap.size + 1, 1, none⟩) (by show w.heap.size ≤ w.heap.size + 1; omega) _
    go_wp2
    clear d0 d1 f0 f1
    obtain ⟨⟨r0, r1⟩, -, -⟩ := boxedYd_at RE.out
    refine bodyPost_ret (v := .tuple #[.agg #[.int .i64 0, .slice none 0 0], .bool false]) (by simp [results, Try.results16, go_sem, r0, r1]; try rfl) rfl ?_
    exact ⟨zeroYd, rfl, SM.out, own_zeroYd _ _ _ (Nat.le_refl _), BE.out⟩
  · clear CAN
    obtain ⟨-, j, t, hc, rfl, y1, y2⟩ := HA.out.resolve_right (fun h => h.1 ⟨ok.out, i, tt g i, can⟩)
    obtain ⟨rfl, rfl⟩ := can.uniq hc
    have en : nr = n0 := by
      have := congrArg List.length y2
      rw [List.length_set, List.length_map, List.length_map] at this
      have := HN.out; have := E0.out; omega
    subst en
    have Y1 := Lib.hid y1
    have Y2 := Lib.hid (y2.trans (range_cut i nr E0.out).symm)
    have OK3 := Lib.hid (cut_ok ok.out HQ.out i)
    clear can hc y1 y2
    go_wp2_with (first | (refine wpList_load_row rfl 55 _ rfl w2.heap.size rfl 55 #[.int .i64 g.h, .int .i64 (nr : Int), .int .i64 ((upd q i (pil ((tt g i).take ((tt g i).length - 1)))) 0).a, .int .i64 ((upd q i (pil ((tt g i).take ((tt g i).length - 1)))) 0).b, .int .i64 ((upd q i (pil ((tt g i).take ((tt g i).length - 1)))) 0).c, .int .i64 ((upd q i (pil ((tt g i).take ((tt g i).length - 1)))) 0).d, .int .i64 ((upd q i (pil ((tt g i).take ((tt g i).length - 1)))) 0).n, .int .i64 ((upd q i (pil ((tt g i).take ((tt g i).length - 1)))) 1).a, .int .i64 ((upd q i (pil ((tt g i).take ((tt g i).length - 1)))) 1).b, .int .i64 ((upd q i (pil ((tt g i).take ((tt g i).length - 1)))) 1).c, .int .i64 ((upd q i (pil ((tt g i).take ((tt g i).length - 1)))) 1).d, .int .i64 ((upd q i (pil ((tt g i).take ((tt g i).length - 1)))) 1).n, .int .i64 ((upd q i (pil ((tt g i).take ((tt g i).length - 1)))) 2).a, .int .i64 ((upd q i (pil ((tt g i).take ((tt g i).length - 1)))) 2).b, .int .i64 ((upd q i (pil ((tt g i).take ((tt g i).length - 1)))) 2).c, .int .i64 ((upd q i (pil ((tt g i).take ((tt g i).length - 1)))) 2).d, .int .i64 ((upd q i (pil ((tt g i).take ((tt g i).length - 1)))) 2).n, .int .i64 ((upd q i (pil ((tt g i).take ((tt g i).length - 1)))) 3).a, .int .i64 ((upd q i (pil ((tt g i).take ((tt g i).length - 1)))) 3).b, .int .i64 ((upd q i (pil ((tt g i).take ((tt g i).length - 1)))) 3).c, .int .i64 ((upd q i (pil ((tt g i).take ((tt g i).length - 1)))) 3).d, .int .i64 ((upd q i (pil ((tt g i).take ((tt g i).length - 1)))) 3).n] (0, 0) (.struct F) H3.out hu rfl infoD_depot ?_) | fail)
    refine (C4.out _ _ OK3.out n4 _).mono ?_
    rintro e w4 ⟨v3, vh, vx, rfl, ov, c4⟩
    have z4 : w3.heap.size ≤ w4.heap.size := c4.size
    have B4 : Hid (Below w.heap.size w w4) := B3.out.trans (c4.mono (by omega))
    have R4 := Lib.hid ((c4.block (w.heap.size + 1) (by omega)).trans R3.out)
    have O4 := Lib.hid ov
    have SM : Hid (v3.same y) := ⟨by rw [vh, Y1.out], by rw [vx, Y2.out]⟩
    obtain ⟨⟨d0, d1⟩, ⟨f0, f1⟩, -⟩ := boxedYd_at R4.out
    clear vh vx ov c4 C4 R3 B3 Y1 Y2 OK3 H3
    have RE : Hid (((w4.setCell ⟨w.heap.size + 1, 0, none⟩ (.int .i64 v3.h)).setCell ⟨w.heap.size + 1, 1, none⟩ (.slice v3.xa nr v3.xc)).heap[w.heap.size + 1]? = some (.cells #[.int .i64 v3.h, .slice v3.xa nr v3.xc] 26 (0, 0))) := putYd_1 _ (putYd_0 _ R4.out)
    have BE : Hid (Below w.heap.size w ((w4.setCell ⟨w.heap.size + 1, 0, none⟩ (.int .i64 v3.h)).setCell ⟨w.heap.size + 1, 1, none⟩ (.slice v3.xa nr v3.xc))) := (B4.out.setCell (p := ⟨w.heap.size + 1, 0, none⟩) (by show w.heap.size ≤ w.heap.size + 1; omega) _).setCell (p := ⟨w.heap.size + 1, 1, none⟩) (by show w.heap.size ≤ w.heap.size + 1; omega) _
    have OE : Hid (OwnYd ((w4.setCell ⟨w.heap.size + 1, 0, none⟩ (.int .i64 v3.h)).setCell ⟨w.heap.size + 1, 1, none⟩ (.slice v3.xa nr v3.xc)) w.heap.size ((w4.setCell ⟨w.heap.size + 1, 0, none⟩ (.int .i64 v3.h)).setCell ⟨w.heap.size + 1, 1, none⟩ (.slice v3.xa nr v3.xc)).heap.size nr v3) := by
      have o := OwnSS.moveB (O4.out.o0.of_blocks (w' := (w4.setCell ⟨w.heap.size + 1, 0, none⟩ (.int .i64 v3.h)).setCell ⟨w.heap.size + 1, 1, none⟩ (.slice v3.xa nr v3.xc)) (by simp) fun k h1 h2 => by rw [Below.heap_setCell _ _ _ _ (by show k ≠ w.heap.size + 1; omega), Below.heap_setCell _ _ _ _ (by show k ≠ w.heap.size + 1; omega)]) (show w.heap.size ≤ w3.heap.size by omega)
      exact ⟨⟨o.rows, fun k e => by have := o.rb k e; simp; omega, o.tops, fun x hx k e => by have := o.tb x hx k e; simp; omega, o.apart, Nat.le_refl _⟩⟩
    go_wp2
    clear d0 d1 f0 f1
    obtain ⟨⟨r0, r1⟩, -, -⟩ := boxedYd_at RE.out
    refine bodyPost_ret (v := .tuple #[.agg #[.int .i64 v3.h, .slice v3.xa nr v3.xc], .bool true]) (by simp [results, Try.results16, go_sem, r0, r1]; try rfl) rfl ?_
    exact ⟨v3, rfl, SM.out, OE.out, BE.out⟩


set_option maxRecDepth 100000 in
set_option maxHeartbeats 8000000 in
theorem implTake_any (g : Yd) (n0 : Nat) (w : World) (hr : RdYd w n0 g) (l0 : n0 + sumT g.x ≤ 1048576) (y : Yd) (nr : Nat) (hn : nr = y.x.length) (b : Bool) (hA : TakeAns g y b) :
    Calls Try.prog 7 #[(.agg #[.int .i64 g.h, .slice g.xa n0 g.xc])] w fun e w' => ∃ u : Yd, e = .returned (.tuple #[.agg #[.int .i64 u.h, .slice u.xa nr u.xc], .bool b]) ∧ u.same y ∧ OwnYd w' w.heap.size w'.heap.size nr u ∧ Below w.heap.size w w' := by
  have C1 := Lib.hid (fun (w : World) hr => afterTake_any g n0 w hr l0 y nr hn b hA)
  have HR := Lib.hid hr
  clear hr hA hn
  go_enter Try.func7, Try.ntmps7
  go_wp2_with fail
  have NR0 := box2_1 w (.cells #[.int .i64 g.h, .slice g.xa n0 g.xc] 26) (.cells #[.int .i64 0, .slice none 0 0] 26)
  have B0 : Below w.heap.size w ((w.alloc (.cells #[.int .i64 g.h, .slice g.xa n0 g.xc] 26)).alloc (.cells #[.int .i64 0, .slice none 0 0] 26)) := by go_grown
  have z0 : w.heap.size + 2 ≤ ((w.alloc (.cells #[.int .i64 g.h, .slice g.xa n0 g.xc] 26)).alloc (.cells #[.int .i64 0, .slice none 0 0] 26)).heap.size := by simp
  generalize (w.alloc (.cells #[.int .i64 g.h, .slice g.xa n0 g.xc] 26)).alloc (.cells #[.int .i64 0, .slice none 0 0] 26) = wb at *
  refine (C1.out wb (HR.out.later B0)).mono ?_
  rintro e w4 ⟨v3, rfl, sm, ov, c4⟩
  have z4 : wb.heap.size ≤ w4.heap.size := c4.size
  have B4 : Hid (Below w.heap.size w w4) := B0.trans (c4.mono (by omega))
  have R4 := Lib.hid ((c4.block (w.heap.size + 1) (by omega)).trans NR0)
  have O4 := Lib.hid ov
  have SM := Lib.hid sm
  obtain ⟨⟨d0, d1⟩, ⟨f0, f1⟩, -⟩ := boxedYd_at R4.out
  clear sm ov c4 C1 NR0 B0
  have RE : Hid (((w4.setCell ⟨w.heap.size + 1, 0, none⟩ (.int .i64 v3.h)).setCell ⟨w.heap.size + 1, 1, none⟩ (.slice v3.xa nr v3.xc)).heap[w.heap.size + 1]? = some (.cells #[.int .i64 v3.h, .slice v3.xa nr v3.xc] 26 (0, 0))) := putYd_1 _ (putYd_0 _ R4.out)
  have BE : Hid (Below w.heap.size w ((w4.setCell ⟨w.heap.size + 1, 0, none⟩ (.int .i64 v3.h)).setCell ⟨w.heap.size + 1, 1, none⟩ (.slice v3.xa nr v3.xc))) := (B4.out.setCell (p := ⟨w.heap.size + 1, 0, none⟩) (by show w.heap.size ≤ w.heap.size + 1; omega) _).setCell (p := ⟨w.heap.size + 1, 1, none⟩) (by show w.heap.size ≤ w.heap.size + 1; omega) _
  have OE : Hid (OwnYd ((w4.setCell ⟨w.heap.size + 1, 0, none⟩ (.int .i64 v3.h)).setCell ⟨w.heap.size + 1, 1, none⟩ (.slice v3.xa nr v3.xc)) w.heap.size ((w4.setCell ⟨w.heap.size + 1, 0, none⟩ (.int .i64 v3.h)).setCell ⟨w.heap.size + 1, 1, none⟩ (.slice v3.xa nr v3.xc)).heap.size nr v3) := by
    have o := OwnSS.moveB (O4.out.o0.of_blocks (w' := (w4.setCell ⟨w.heap.size + 1, 0, none⟩ (.int .i64 v3.h)).setCell ⟨w.heap.size + 1, 1, none⟩ (.slice v3.xa nr v3.xc)) (by simp) fun k h1 h2 => by rw [Below.heap_setCell _ _ _ _ (by show k ≠ w.heap.size + 1; omega), Below.heap_setCell _ _ _ _ (by show k ≠ w.heap.size + 1; omega)]) (show w.heap.size ≤ wb.heap.size by omega)
    exact ⟨⟨o.rows, fun k e => by have := o.rb k e; simp; omega, o.tops, fun x hx k e => by have := o.tb x hx k e; simp; omega, o.apart, Nat.le_refl _⟩⟩
  go_wp2
  clear d0 d1 f0 f1
  obtain ⟨⟨r0, r1⟩, -, -⟩ := boxedYd_at RE.out
  refine bodyPost_ret (v := .tuple #[.agg #[.int .i64 v3.h, .slice v3.xa nr v3.xc], .bool b]) (by simp [results, Try.results7, go_sem, r0, r1]; try rfl) rfl ?_
  exact ⟨v3, rfl, SM.out, OE.out, BE.out⟩

theorem exTakeNext (g0 : Yd) (n0 : Nat) (e : n0 = g0.x.length) (lt : ((n0 + sumT g0.x : Nat) : Int) ≤ 1048576) : ∃ (y : Yd) (nr : Nat) (b : Bool) (_ : nr = y.x.length ∧ nr + sumT y.x ≤ 1048576),
    Hid (∀ (w : World) (k0 : Yd), k0.same g0 → k0.caps n0 → RdYd w n0 k0 → Calls Try.prog 5 #[(.agg #[.int .i64 k0.h, .slice k0.xa n0 k0.xc])] w fun e w' => ∃ u : Yd, e = .returned (.tuple #[.agg #[.int .i64 u.h, .slice u.xa nr u.xc], .bool b]) ∧ u.same y ∧ OwnYd w' w.heap.size w'.heap.size nr u ∧ Below w.heap.size w w') ∧
    Hid (∀ (w : World) (k0 : Yd), k0.same g0 → k0.caps n0 → RdYd w n0 k0 → Calls Try.prog 7 #[(.agg #[.int .i64 k0.h, .slice k0.xa n0 k0.xc])] w fun e w' => ∃ u : Yd, e = .returned (.tuple #[.agg #[.int .i64 u.h, .slice u.xa nr u.xc], .bool b]) ∧ u.same y ∧ OwnYd w' w.heap.size w'.heap.size nr u ∧ Below w.heap.size w w') := by
  obtain ⟨y, b, hA, hl⟩ : ∃ y b, TakeAns g0 y b ∧ y.x.length + sumT y.x ≤ 1048576 := by
    by_cases c : OkYd g0 ∧ ∃ i t, CanAt g0 i t
    · obtain ⟨ok, i, t, hc⟩ := c
      refine ⟨⟨g0.h, none, 0, (g0.x.set i ⟨none, 0, t.take (t.length - 1)⟩)⟩, true, .inl ⟨ok, i, t, hc, rfl, rfl, by rw [List.map_set]⟩, ?_⟩
      have h1 : (g0.x.set i ⟨none, 0, t.take (t.length - 1)⟩).length = g0.x.length := List.length_set
      have h2 : ∀ x ∈ g0.x.set i ⟨none, 0, t.take (t.length - 1)⟩, x.t.length ≤ 4 := by
        intro x hx
        rcases List.mem_or_eq_of_mem_set hx with h | h
        · have := ok.t0 x h; have := ok.h0; omega
        · subst h
          have hm := hc.1
          rw [List.getElem?_map] at hm
          obtain ⟨z, hz, hzt⟩ := Option.map_eq_some_iff.1 hm
          have := ok.t0 z (List.mem_of_getElem? hz); have := ok.h0
          rw [hzt] at *
          show (t.take _).length ≤ 4
          rw [List.length_take]; omega
      have h3 : ∀ xs : List Sl, (∀ x ∈ xs, x.t.length ≤ 4) → sumT xs ≤ 4 * xs.length := by
        intro xs
        induction xs with
        | nil => intro _; simp [sumT]
        | cons x xs ih =>
          intro h
          have a := ih fun z hz => h z (List.mem_cons_of_mem _ hz)
          have b := h x (by simp)
          simp only [sumT, List.map_cons, List.sum_cons, List.length_cons] at a ⊢
          omega
      have := h3 _ h2
      have := ok.n0
      show (g0.x.set i _).length + sumT (g0.x.set i _) ≤ 1048576
      rw [h1] at *
      omega
    · exact ⟨zeroYd, false, .inr ⟨c, rfl, rfl, rfl⟩, by decide⟩
  exact ⟨y, y.x.length, b, ⟨rfl, hl⟩, fun w k hs _ hr => specTake_any k n0 w hr (by have := hs.sum; omega) y _ rfl b (hA.same (Yd.same_symm hs)), fun w k hs _ hr => implTake_any k n0 w hr (by have := hs.sum; omega) y _ rfl b (hA.same (Yd.same_symm hs))⟩

end Go.Proofs.Ythfmmlpbflfpaac
