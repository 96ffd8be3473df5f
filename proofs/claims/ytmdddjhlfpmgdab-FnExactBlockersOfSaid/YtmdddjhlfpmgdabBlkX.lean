/- BlockersOf on both sides. -/
import Derived.Test.YtmdddjhlfpmgdabBlkS
import Derived.Test.YtmdddjhlfpmgdabDepO
namespace Go.Proofs.Ytmdddjhlfpmgdab
open Go.ChangeShapes Go.WideShapes Go.ChangeAt Go.RowKit
set_option linter.unusedVariables false
set_option linter.unusedSimpArgs false

theorem flat4 (xs : List (List Int)) (h : xs.length ≤ 4) (f : List Int → List Int) (f0 : f [] = []) : ((List.range 4).flatMap fun i => f (xs.getD i [])) = xs.flatMap f := by
  match xs, h with
  | [], _ => simp [List.range_succ, f0]
  | [_], _ => simp [List.range_succ, f0]
  | [_, _], _ => simp [List.range_succ, f0]
  | [_, _, _], _ => simp [List.range_succ, f0]
  | [_, _, _, _], _ => simp [List.range_succ, f0]
theorem blkF_bS {g : Yd} (ok : OkYd g) : blkF (tt g) 4 = bS g g.x.length := by
  have h := flat4 (g.x.map Sl.t) (by rw [List.length_map]; exact ok.n0.2) (fun t => blkTo t t.length) (by rfl)
  have e : bS g g.x.length = (g.x.map Sl.t).flatMap fun t => blkTo t t.length := by
    have := blk_all (g.x.map Sl.t)
    rw [List.length_map] at this
    exact this
  rw [e, ← h]
  rfl
theorem tt_ok {g : Yd} (ok : OkYd g) (i : Nat) : PileOk (pil (tt g i)) (tt g i) := by
  have l4 : (tt g i).length ≤ 4 := by
    cases h : g.x[i]? with
    | none => rw [tt_past (List.getElem?_eq_none_iff.1 h)]; simp
    | some x => rw [tt_get h]; have := ok.t0 x (List.mem_of_getElem? h); have := ok.h0; omega
  refine ⟨in4_pil _ l4, rfl, l4, fun z hz => ?_⟩
  cases h : g.x[i]? with
  | none => rw [tt_past (List.getElem?_eq_none_iff.1 h)] at hz; simp at hz
  | some x =>
    rw [tt_get h] at hz
    exact (ok.l1.1 z (List.mem_flatMap.2 ⟨x, List.mem_of_getElem? h, hz⟩)).2

set_option maxRecDepth 100000 in
set_option maxHeartbeats 16000000 in
theorem implBlk_any (g : Yd) (n0 : Nat) (w : World) (hr : RdYd w n0 g) (l0 : n0 + sumT g.x ≤ 1048576) (L : List Int) (b : Bool) (hL : BlkRes g L b) :
    Calls Try.prog 21 #[(.agg #[.int .i64 g.h, .slice g.xa n0 g.xc])] w fun e w' => ∃ u, e = .returned (.tuple #[u, .bool b]) ∧ OwnIC w' w.heap.size w'.heap.size u L ∧ Below w.heap.size w w' := by
  obtain ⟨i0, hi, hz0, hz1, hz2⟩ := info_parts info_i64
  have E0 := Lib.hid hr.len
  obtain ⟨b1, h1⟩ := bool_of (OkYd g)
  have C := Lib.hid (fun (w : World) hr => implYard_any g n0 w hr l0 b1 h1)
  have H := Lib.hid hr.r0
  have HR := Lib.hid hr
  have C2 := Lib.hid (fun (w : World) hr ok => depotOf_any g n0 w hr ok)
  have C3 := Lib.hid (fun (hh : Int) n (q : Nat → Pl) (w : World) ok => dBlk_any hh n q (tt g) ok w)
  have H1 := Lib.hid h1
  have HL := Lib.hid hL
  clear hr h1 hL
  go_enter Try.func21, Try.ntmps21
  go_wp2_with fail
  refine (C.out _ (HR.out.later (by go_grown))).mono ?_
  rintro e w1 ⟨rfl, c1⟩
  have B1 : Hid (Below w.heap.size w w1) := Below.trans (by go_grown) (c1.mono (by simp only [World.size_alloc]; omega))
  have N1 : Hid (w1.heap[w.heap.size]? = some (.cells #[.int .i64 g.h, .slice g.xa n0 g.xc] 27 (0, 0))) := (c1.block w.heap.size (by simp)).trans (heap_alloc_new w _)
  have z1 : w.heap.size + 1 ≤ w1.heap.size := by have := c1.size; simp only [World.size_alloc] at this; exact this
  clear c1 C
  obtain ⟨⟨k0, k1⟩, -, -⟩ := boxedYd_at N1.out
  cases b1 with
  | false =>
    have no : ¬ OkYd g := fun q => by have := H1.out.mpr q; simp at this
    obtain ⟨rfl, rfl⟩ : L = [] ∧ b = false := by
      rcases HL.out with k | k
      · exact absurd k.1 no
      · exact k.2
    go_wp2
    go_ret2
    exact ⟨_, rfl, OwnIC.of (ownI_none' _ _), B1.out⟩
  | true =>
  have ok := Lib.hid (H1.out.mp (by trivial))
  obtain ⟨HV, rfl⟩ : Hid (L = asc (bS g g.x.length)) ∧ b = true := by
    rcases HL.out with k | k
    · exact k.2
    · exact absurd ok.out k.1
  clear HL H1
  go_wp2_with fail
  refine (C2.out _ (HR.out.later B1.out) ok.out).mono ?_
  rintro e w5 ⟨q, hq, rfl, b5⟩
  have B5 : Hid (Below w.heap.size w w5) := B1.out.trans (b5.mono (by omega))
  have z5 : w.heap.size ≤ w5.heap.size := B5.out.size
  have QK := Lib.hid (show ∀ i, i < 4 → PileOk (q i) (tt g i) from fun i hi => by rw [hq i hi]; exact tt_ok ok.out i)
  clear b5 hq N1 B1 C2
  go_wp2_with fail
  refine (C3.out _ _ q _ QK.out).mono ?_
  rintro e w6 ⟨u6, rfl, o6, b6⟩
  have B6 : Hid (Below w.heap.size w w6) := B5.out.trans (b6.mono z5)
  have O6 : Hid (OwnI w6 w.heap.size u6 L) := by
    show OwnI _ _ _ _
    rw [HV.out, ← blkF_bS ok.out]
    exact o6.mono z5
  clear o6 b6 C3
  go_wp2
  go_ret2
  exact ⟨_, rfl, OwnIC.of O6.out, B6.out⟩

theorem exBlockersOf (g0 : Yd) (n0 : Nat) (e : n0 = g0.x.length) (lt : ((n0 + sumT g0.x : Nat) : Int) ≤ 1048576) : ∃ (L : List Int) (b : Bool) (_ : L.length ≤ 1048576),
    Hid (∀ (w : World) (k0 : Yd), k0.same g0 → k0.caps n0 → RdYd w n0 k0 → Calls Try.prog 20 #[(.agg #[.int .i64 k0.h, .slice k0.xa n0 k0.xc])] w fun e w' => ∃ u, e = .returned (.tuple #[u, .bool b]) ∧ OwnIC w' w.heap.size w'.heap.size u L ∧ Below w.heap.size w w') ∧
    Hid (∀ (w : World) (k0 : Yd), k0.same g0 → k0.caps n0 → RdYd w n0 k0 → Calls Try.prog 21 #[(.agg #[.int .i64 k0.h, .slice k0.xa n0 k0.xc])] w fun e w' => ∃ u, e = .returned (.tuple #[u, .bool b]) ∧ OwnIC w' w.heap.size w'.heap.size u L ∧ Below w.heap.size w w') := by
  obtain ⟨L, b, hL⟩ : ∃ L b, BlkRes g0 L b := by
    by_cases ok : OkYd g0
    · exact ⟨_, _, .inl ⟨ok, rfl, rfl⟩⟩
    · exact ⟨_, _, .inr ⟨ok, rfl, rfl⟩⟩
  have ll : L.length ≤ 1048576 := by
    rcases hL with ⟨-, k, -⟩ | ⟨-, k, -⟩
    · rw [k, asc_length]; unfold bS; have := (blkS_sub (g0.x.map Sl.t) g0.x.length).length_le; rw [← flat_map_t, ← catS_all, catS_len, List.take_length] at this; omega
    · rw [k]; simp
  exact ⟨L, b, ll, fun w k hs _ hr => specBlk_any k n0 w hr (by have := hs.sum; omega) L b (hL.same (Yd.same_symm hs)), fun w k hs _ hr => implBlk_any k n0 w hr (by have := hs.sum; omega) L b (hL.same (Yd.same_symm hs))⟩
end Go.Proofs.Ytmdddjhlfpmgdab
