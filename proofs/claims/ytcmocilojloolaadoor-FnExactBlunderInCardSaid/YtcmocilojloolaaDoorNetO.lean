/- The network of a survey: networkOf, of the program. (Written by tools/mkneto.py.) -/
import Derived.Test.YtcmocilojloolaaDoorNetJ
import Derived.Deep.MidRow
namespace Go.Proofs.YtcmocilojloolaaDoor
open Go.ChangeShapes Go.WideShapes Go.ChangeAt Go.RowKit
set_option linter.unusedVariables false
set_option linter.unusedSimpArgs false

theorem infos_Net : (Tryd.prog.info? 63).map (fun i => i.size) = some 4 := by kernel_rfl
theorem box4_at {w : World} {g : Nat} {t : TypeId} {a b c d : Value} (h : w.heap[g]? = some (.cells #[a, b, c, d] t (0, 0))) :
    (w.cell? ⟨g, 0, none⟩ = some a ∧ w.cell? ⟨g, 1, none⟩ = some b ∧ w.cell? ⟨g, 2, none⟩ = some c ∧ w.cell? ⟨g, 3, none⟩ = some d) ∧ (w.frozen? ⟨g, 0, none⟩ = false ∧ w.frozen? ⟨g, 1, none⟩ = false ∧ w.frozen? ⟨g, 2, none⟩ = false ∧ w.frozen? ⟨g, 3, none⟩ = false) ∧ g < w.heap.size :=
  ⟨⟨cell_of_row w g 0 _ t _ h, cell_of_row w g 1 _ t _ h, cell_of_row w g 2 _ t _ h, cell_of_row w g 3 _ t _ h⟩, ⟨frozen_of_row w g 0 _ t h, frozen_of_row w g 1 _ t h, frozen_of_row w g 2 _ t h, frozen_of_row w g 3 _ t h⟩, (Array.getElem?_eq_some_iff.1 h).1⟩
theorem box4_put {w : World} {g : Nat} {t : TypeId} {a b c d : Value} (a' b' c' d' : Value) (h : w.heap[g]? = some (.cells #[a, b, c, d] t (0, 0))) :
    ((((w.setCell ⟨g, 0, none⟩ a').setCell ⟨g, 1, none⟩ b').setCell ⟨g, 2, none⟩ c').setCell ⟨g, 3, none⟩ d').heap[g]? = some (.cells #[a', b', c', d'] t (0, 0)) := by
  have h0 : (w.setCell ⟨g, 0, none⟩ a').heap[g]? = some (.cells #[a', b, c, d] t (0, 0)) := by simpa using heap_setCell_same _ g 0 _ t a' h
  have h1 : ((w.setCell ⟨g, 0, none⟩ a').setCell ⟨g, 1, none⟩ b').heap[g]? = some (.cells #[a', b', c, d] t (0, 0)) := by simpa using heap_setCell_same _ g 1 _ t b' h0
  have h2 : (((w.setCell ⟨g, 0, none⟩ a').setCell ⟨g, 1, none⟩ b').setCell ⟨g, 2, none⟩ c').heap[g]? = some (.cells #[a', b', c', d] t (0, 0)) := by simpa using heap_setCell_same _ g 2 _ t c' h1
  simpa using heap_setCell_same _ g 3 _ t d' h2

theorem there4 {w : World} {g : Nat} {t : TypeId} {a b c d : Value} (h : w.heap[g]? = some (.cells #[a, b, c, d] t (0, 0))) : ∀ j, j < 4 → (w.cell? ⟨g, 0 + j, none⟩).isSome = true ∧ w.frozen? ⟨g, 0 + j, none⟩ = false := by
  intro j hj
  rw [Nat.zero_add]
  obtain ⟨⟨c0, c1, c2, c3⟩, ⟨f0, f1, f2, f3⟩, -⟩ := box4_at h
  match j, hj with
  | 0, _ => exact ⟨by rw [c0]; rfl, f0⟩
  | 1, _ => exact ⟨by rw [c1]; rfl, f1⟩
  | 2, _ => exact ⟨by rw [c2]; rfl, f2⟩
  | 3, _ => exact ⟨by rw [c3]; rfl, f3⟩
theorem wpList_store_Net {ops : Array Oper} {rest : List Oper} {op : Oper} {a : Act} {w : World} {Q : Exit → Act → World → Prop} (hgd : op.guard = none) (x y : Operand) (ho : op.op = .store 63 x y)
    (g : Nat) (q0 q1 q2 q3 : Value) (p : Int) (xa ra : Option Addr) (xn xc rn rc : Nat) (D : Int) (t : TypeId) (hx : a.eval x = .pointer (some ⟨g, 0, none⟩)) (hy : a.eval y = .agg #[.int .i64 p, .slice xa xn xc, .slice ra rn rc, .int .i64 D]) (hg : w.heap[g]? = some (.cells #[q0, q1, q2, q3] t (0, 0)))
    (h : ∀ w', w'.heap[g]? = some (.cells #[.int .i64 p, .slice xa xn xc, .slice ra rn rc, .int .i64 D] t (0, 0)) → (∀ j, j ≠ g → w'.heap[j]? = w.heap[j]?) → Below g w w' → wpList Tryd.prog ops Q rest (a.put op.dst undef) w') : wpList Tryd.prog ops Q (op :: rest) a w := by
  refine wpList_store_mid hgd 63 x y ho g 0 #[.int .i64 p, .slice xa xn xc, .slice ra rn rc, .int .i64 D] hx hy (there4 hg) infos_Net (by simp [Value.oneCell']) ?_
  refine h _ (box4_put _ _ _ _ hg) ?_ ?_
  · intro j hj
    show ((((w.setCell ⟨g, 0, none⟩ (.int .i64 p)).setCell ⟨g, 1, none⟩ (.slice xa xn xc)).setCell ⟨g, 2, none⟩ (.slice ra rn rc)).setCell ⟨g, 3, none⟩ (.int .i64 D)).heap[j]? = _
    rw [Below.heap_setCell _ _ _ _ hj, Below.heap_setCell _ _ _ _ hj, Below.heap_setCell _ _ _ _ hj, Below.heap_setCell _ _ _ _ hj]
  · exact ((((Below.refl g w).setCell (p := ⟨g, 0, none⟩) (Nat.le_refl g) _).setCell (p := ⟨g, 1, none⟩) (Nat.le_refl g) _).setCell (p := ⟨g, 2, none⟩) (Nat.le_refl g) _).setCell (p := ⟨g, 3, none⟩) (Nat.le_refl g) _
theorem step_store_Net {ops : Array Oper} {op : Oper} {a : Act} {w : World} {K : Act → World → Prop} {Q : Exit → Act → World → Prop} {E : Prop} (hgd : op.guard = none) (x y : Operand) (ho : op.op = .store 63 x y)
    (g : Nat) (q0 q1 q2 q3 : Value) (p : Int) (xa ra : Option Addr) (xn xc rn rc : Nat) (D : Int) (t : TypeId) (hx : a.eval x = .pointer (some ⟨g, 0, none⟩)) (hy : a.eval y = .agg #[.int .i64 p, .slice xa xn xc, .slice ra rn rc, .int .i64 D]) (hg : w.heap[g]? = some (.cells #[q0, q1, q2, q3] t (0, 0)))
    (h : ∀ w', w'.heap[g]? = some (.cells #[.int .i64 p, .slice xa xn xc, .slice ra rn rc, .int .i64 D] t (0, 0)) → (∀ j, j ≠ g → w'.heap[j]? = w.heap[j]?) → Below g w w' → K (a.put op.dst undef) w') :
    if Region.wanted op (yielded ops a.tmps) = true then op.wp Tryd.prog a w K Q else E := by
  have hw : Region.wanted op (yielded ops a.tmps) = true := by simp [Region.wanted, hgd]
  rw [if_pos hw]
  refine wp_store_mid 63 x y ho g 0 #[.int .i64 p, .slice xa xn xc, .slice ra rn rc, .int .i64 D] hx hy (there4 hg) infos_Net (by simp [Value.oneCell']) ?_
  refine h _ (box4_put _ _ _ _ hg) ?_ ?_
  · intro j hj
    show ((((w.setCell ⟨g, 0, none⟩ (.int .i64 p)).setCell ⟨g, 1, none⟩ (.slice xa xn xc)).setCell ⟨g, 2, none⟩ (.slice ra rn rc)).setCell ⟨g, 3, none⟩ (.int .i64 D)).heap[j]? = _
    rw [Below.heap_setCell _ _ _ _ hj, Below.heap_setCell _ _ _ _ hj, Below.heap_setCell _ _ _ _ hj, Below.heap_setCell _ _ _ _ hj]
  · exact ((((Below.refl g w).setCell (p := ⟨g, 0, none⟩) (Nat.le_refl g) _).setCell (p := ⟨g, 1, none⟩) (Nat.le_refl g) _).setCell (p := ⟨g, 2, none⟩) (Nat.le_refl g) _).setCell (p := ⟨g, 3, none⟩) (Nat.le_refl g) _

theorem Mx.sq {w : World} {B rb m : Nat} {bs : List Nat} {R : List (List Int)} (h : Mx w B rb bs m R) (hbl : bs.length = m) : Sq w m (some ⟨rb, 0, none⟩) m (slsOf m bs R) := by
  refine ⟨h.rd hbl.symm, by rw [slsOf_len h.rl, hbl], Nat.le_refl _, fun x hx => ?_⟩
  obtain ⟨i, hi⟩ := List.mem_iff_getElem?.1 hx
  simp only [slsOf, List.getElem?_zipWith] at hi
  cases e1 : bs[i]? with
  | none => rw [e1] at hi; simp at hi
  | some b =>
    cases e2 : R[i]? with
    | none => rw [e1, e2] at hi; simp at hi
    | some r =>
      rw [e1, e2] at hi
      obtain rfl := Option.some.inj hi
      exact ⟨(h.row _ _ _ e1 e2).2, Nat.le_refl _⟩
theorem Con.facts {m n0 : Nat} {xa : Option Addr} {xc : Nat} {xs : List St} (hc : Con ⟨(m : Int), xa, xc, xs⟩) : (2 ≤ m ∧ m ≤ 5) ∧ xs.length ≤ 8 ∧ (∀ x ∈ xs, OkSt m x) ∧ trAll (trTo m xs xs.length) = true := by
  refine ⟨?_, hc.1.n0, ?_, ?_⟩
  · have := hc.1.p0; simp only at this; omega
  · have := hc.1.sts; simpa using this
  · have := hc.2; unfold trOf at this; simpa using this

set_option maxRecDepth 100000 in
set_option maxHeartbeats 16000000 in
theorem netOf_bad (g : Sv) (n0 : Nat) (w : World) (hr : RdSv w n0 g) (l0 : n0 ≤ 1048576) (hT : TSv w) (hc : ¬ Con g) :
    Calls Tryd.prog 73 #[(.agg #[.int .i64 g.p, .slice g.xa n0 g.xc])] w fun e w' => (∃ a, e = .returned (.tuple #[.agg #[.int .i64 0, .slice none 0 0, .slice none 0 0, .int .i64 0], .iface 136 (.pointer (some a))])) ∧ Below w.heap.size w w' := by
  obtain ⟨a0, a1, -, k0, k1⟩ := hT.cells
  have l0' := World.block_lt_of_cell? w _ k0
  have l1' := World.block_lt_of_cell? w _ k1
  have W1 : Hid (((w.alloc (.cells #[.int .i64 g.p, .slice g.xa n0 g.xc] 26)).alloc (.cells #[.int .i64 0, .slice none 0 0, .slice none 0 0, .int .i64 0] 63)).heap[w.heap.size]? = some (.cells #[.int .i64 g.p, .slice g.xa n0 g.xc] 26 (0, 0))) := box2_0 w _ _
  have W2 : Hid (((w.alloc (.cells #[.int .i64 g.p, .slice g.xa n0 g.xc] 26)).alloc (.cells #[.int .i64 0, .slice none 0 0, .slice none 0 0, .int .i64 0] 63)).heap[w.heap.size + 1]? = some (.cells #[.int .i64 0, .slice none 0 0, .slice none 0 0, .int .i64 0] 63 (0, 0))) := box2_1 w _ _
  have W3 : Hid (Below w.heap.size w ((w.alloc (.cells #[.int .i64 g.p, .slice g.xa n0 g.xc] 26)).alloc (.cells #[.int .i64 0, .slice none 0 0, .slice none 0 0, .int .i64 0] 63))) := by show Below _ _ _; go_grown
  have W4 : w.heap.size + 2 ≤ ((w.alloc (.cells #[.int .i64 g.p, .slice g.xa n0 g.xc] 26)).alloc (.cells #[.int .i64 0, .slice none 0 0, .slice none 0 0, .int .i64 0] 63)).heap.size := by simp
  have C := Lib.hid (treeOf_any g n0 _ (hr.later W3.out) l0 a0 a1 ((W3.out.cell (p := ⟨0, 0, none⟩) l0').trans k0) ((W3.out.cell (p := ⟨1, 0, none⟩) l1').trans k1))
  have HC := Lib.hid hc
  clear hr hT hc k0 k1 l0' l1'
  go_enter Tryd.func73, Tryd.ntmps73
  go_wp2_with fail
  refine C.out.mono ?_
  rintro e w2 ⟨h, b2⟩
  rcases h with ⟨hc, a, rfl, -⟩ | ⟨hc, -⟩
  rotate_left
  · exact absurd hc HC.out
  have B2 : Hid (Below w.heap.size w w2) := W3.out.trans (b2.mono (by omega))
  have V2 := Lib.hid ((b2.block (w.heap.size + 1) (by omega)).trans W2.out)
  have z2 := b2.size
  have BE : Hid (Below w.heap.size w (w2.alloc (.cells #[.slice none 0 0, .slice none 0 0] 67))) := B2.out.alloc (by omega) _
  have VE : Hid ((w2.alloc (.cells #[.slice none 0 0, .slice none 0 0] 67)).heap[w.heap.size + 1]? = some (.cells #[.int .i64 0, .slice none 0 0, .slice none 0 0, .int .i64 0] 63 (0, 0))) := (Below.heap_alloc _ _ _ (by omega)).trans V2.out
  clear b2 C W1 W2 W3 W4 V2 B2 hc
  go_upto_region 3 with (fail)
  generalize w2.alloc (.cells #[.slice none 0 0, .slice none 0 0] 67) = w3 at *
  go_wp2_with (first | (refine wpList_store_Net rfl _ _ rfl (w.heap.size + 1) _ _ _ _ 0 none none 0 0 0 0 0 _ rfl rfl VE.out ?_; intro wE hE oE bE) | fail)
  obtain ⟨⟨c0, c1, c2, c3⟩, -, -⟩ := box4_at hE
  have BF : Hid (Below w.heap.size w wE) := BE.out.trans (bE.mono (by omega))
  clear oE bE VE hE
  go_wp2
  refine bodyPost_ret (v := .tuple #[.agg #[.int .i64 0, .slice none 0 0, .slice none 0 0, .int .i64 0], .iface 136 (.pointer (some a))]) (by simp [results, Tryd.results73, go_sem, c0, c1, c2, c3]; try rfl) rfl ?_
  exact ⟨⟨a, rfl⟩, BF.out⟩

set_option maxRecDepth 100000 in
set_option maxHeartbeats 16000000 in
theorem netOf_ok (m n0 xc : Nat) (xa : Option Addr) (xs : List St) (w : World) (hr : RdS 4 encSt w (.slice xa n0 xc) xs) (hT : TSv w) (hc : Con ⟨(m : Int), xa, xc, xs⟩) :
    Calls Tryd.prog 73 #[.agg #[.int .i64 m, .slice xa n0 xc]] w fun e w' => ∃ (rb : Nat) (bs : List Nat), e = .returned (.tuple #[.agg #[.int .i64 m, .slice xa n0 xc, .slice (some ⟨rb, 0, none⟩) m m, .int .i64 (det m (rowsP (m - 1) xs))], .nilIface]) ∧ bs.length = m ∧ Mx w' w.heap.size rb bs m (rowsP (m - 1) xs) ∧ Below w.heap.size w w' := by
  obtain ⟨hm, l8, ok, -⟩ := hc.facts (n0 := n0)
  have e0 : n0 = xs.length := (RdSv.len (g := ⟨(m : Int), xa, xc, xs⟩) ⟨hr⟩)
  obtain ⟨a0, a1, -, k0, k1⟩ := hT.cells
  have l0' := World.block_lt_of_cell? w _ k0
  have l1' := World.block_lt_of_cell? w _ k1
  have W1 : Hid (((w.alloc (.cells #[.int .i64 m, .slice xa n0 xc] 26)).alloc (.cells #[.int .i64 0, .slice none 0 0, .slice none 0 0, .int .i64 0] 63)).heap[w.heap.size]? = some (.cells #[.int .i64 m, .slice xa n0 xc] 26 (0, 0))) := box2_0 w _ _
  have W2 : Hid (((w.alloc (.cells #[.int .i64 m, .slice xa n0 xc] 26)).alloc (.cells #[.int .i64 0, .slice none 0 0, .slice none 0 0, .int .i64 0] 63)).heap[w.heap.size + 1]? = some (.cells #[.int .i64 0, .slice none 0 0, .slice none 0 0, .int .i64 0] 63 (0, 0))) := box2_1 w _ _
  have W3 : Hid (Below w.heap.size w ((w.alloc (.cells #[.int .i64 m, .slice xa n0 xc] 26)).alloc (.cells #[.int .i64 0, .slice none 0 0, .slice none 0 0, .int .i64 0] 63))) := by show Below _ _ _; go_grown
  have W4 : w.heap.size + 2 ≤ ((w.alloc (.cells #[.int .i64 m, .slice xa n0 xc] 26)).alloc (.cells #[.int .i64 0, .slice none 0 0, .slice none 0 0, .int .i64 0] 63)).heap.size := by simp
  have C := Lib.hid (treeOf_any ⟨(m : Int), xa, xc, xs⟩ n0 _ ⟨hr.later W3.out⟩ (by omega) a0 a1 ((W3.out.cell (p := ⟨0, 0, none⟩) l0').trans k0) ((W3.out.cell (p := ⟨1, 0, none⟩) l1').trans k1))
  have C2 : Hid (∀ wq, Below w.heap.size w wq → Calls Tryd.prog 100 #[.agg #[.int .i64 m, .slice xa n0 xc]] wq fun e w' => ∃ (rb : Nat) (bs : List Nat), e = .returned (.slice (some ⟨rb, 0, none⟩) m m) ∧ bs.length = m ∧ Mx w' wq.heap.size rb bs m (rowsP (m - 1) xs) ∧ Below wq.heap.size wq w') :=
    fun wq b => normalRows_any m n0 xa xc xs wq (hr.later b) e0 (by omega) ok hm
  have C3 : Hid (∀ wq B rb bs, Mx wq B rb bs m (rowsP (m - 1) xs) → bs.length = m → Calls Tryd.prog 101 #[.slice (some ⟨rb, 0, none⟩) m m] wq fun e w' => e = .returned (.int .i64 (det m (rowsP (m - 1) xs))) ∧ Below wq.heap.size wq w') := by
    intro wq B rb bs h hb
    have := det_any m m (some ⟨rb, 0, none⟩) _ wq (by omega) (h.sq hb) (fun x hx => by
      have h9 : x.t ∈ (slsOf m bs (rowsP (m - 1) xs)).map Sl.t := List.mem_map.2 ⟨x, hx, rfl⟩
      rw [slsOf_t h.rl] at h9
      have := rowsP_nrm (by omega) ok l8 _ h9
      omega)
    rwa [slsOf_t h.rl] at this
  have HC := Lib.hid hc
  clear hr hT hc k0 k1 l0' l1' ok e0
  obtain ⟨R, hR⟩ : ∃ R, R = rowsP (m - 1) xs := ⟨_, rfl⟩
  rw [← hR] at C2 C3 ⊢
  obtain ⟨D, hD⟩ : ∃ D, D = det m R := ⟨_, rfl⟩
  rw [← hD] at C3 ⊢
  clear hR hD
  go_enter Tryd.func73, Tryd.ntmps73
  go_wp2_with fail
  refine C.out.mono ?_
  rintro e w2 ⟨h, b2⟩
  rcases h with ⟨hc, -⟩ | ⟨hc, gb, q, c1, ad, gl, R', S', D', rfl, -, -, -, -⟩
  · exact absurd HC.out hc
  have B2 : Hid (Below w.heap.size w w2) := W3.out.trans (b2.mono (by omega))
  have V1 := Lib.hid ((b2.block w.heap.size (by omega)).trans W1.out)
  have V2 := Lib.hid ((b2.block (w.heap.size + 1) (by omega)).trans W2.out)
  have z2 := b2.size
  clear b2 C W1 W2 W3 hc HC
  simp only [Int.toNat_natCast]
  have BE : Hid (Below w.heap.size w (w2.alloc (.cells #[.slice (some ⟨gb, 0, none⟩) m m, .slice ad q c1] 67))) := B2.out.alloc (by omega) _
  have VE1 : Hid ((w2.alloc (.cells #[.slice (some ⟨gb, 0, none⟩) m m, .slice ad q c1] 67)).heap[w.heap.size]? = some (.cells #[.int .i64 m, .slice xa n0 xc] 26 (0, 0))) := (Below.heap_alloc _ _ _ (by omega)).trans V1.out
  have VE : Hid ((w2.alloc (.cells #[.slice (some ⟨gb, 0, none⟩) m m, .slice ad q c1] 67)).heap[w.heap.size + 1]? = some (.cells #[.int .i64 0, .slice none 0 0, .slice none 0 0, .int .i64 0] 63 (0, 0))) := (Below.heap_alloc _ _ _ (by omega)).trans V2.out
  have zE : w.heap.size + 2 ≤ (w2.alloc (.cells #[.slice (some ⟨gb, 0, none⟩) m m, .slice ad q c1] 67)).heap.size := by simp; omega
  clear V1 V2 B2 W4 z2
  go_upto_region 4 with (fail)
  generalize w2.alloc (.cells #[.slice (some ⟨gb, 0, none⟩) m m, .slice ad q c1] 67) = w3 at *
  obtain ⟨⟨p0, p1⟩, -, -⟩ := boxedSv_at VE1.out
  have CN := Lib.hid (C2.out w3 BE.out)
  clear C2
  go_wp2_with fail
  refine CN.out.mono ?_
  rintro e w4 ⟨rb, bs, rfl, hbl, mx, b4⟩
  have z4 := b4.size
  have B4 : Hid (Below w.heap.size w w4) := BE.out.trans (b4.mono (by omega))
  have F1 := Lib.hid ((b4.block w.heap.size (by omega)).trans VE1.out)
  have F2 := Lib.hid ((b4.block (w.heap.size + 1) (by omega)).trans VE.out)
  have CD := Lib.hid (C3.out w4.drew _ rb bs mx.drew hbl)
  have MX := Lib.hid mx
  clear CN C3 BE VE VE1 p0 p1 b4 mx
  obtain ⟨⟨p0, p1⟩, -, -⟩ := boxedSv_at F1.out
  go_wp2_with fail
  go_region_law (first
    | ((try go_simp); go_at_call 101; refine CD.out.mono ?_; rintro e w5 ⟨rfl, b5⟩; have z5 := b5.size; have G1 := Lib.hid ((b5.block w.heap.size (by simp only [World.size_drew]; omega)).trans F1.out); have G2 := Lib.hid ((b5.block (w.heap.size + 1) (by simp only [World.size_drew]; omega)).trans F2.out); have B5 : Hid (Below w.heap.size w w5) := B4.out.drew.trans (b5.mono (by simp only [World.size_drew]; omega)); have M5 := Lib.hid (MX.out.drew.later b5); obtain ⟨⟨g0, g1⟩, -, -⟩ := boxedSv_at G1.out; obtain ⟨⟨c0, c1', c2, c3⟩, ⟨f0, f1, f2, f3⟩, -⟩ := box4_at G2.out; clear b5))
  all_goals
    have hE := box4_put (.int .i64 m) (.slice xa n0 xc) (.slice (some ⟨rb, 0, none⟩) m m) (.int .i64 D) G2.out
    have oE : ∀ j, j ≠ w.heap.size + 1 → ((((w5.setCell ⟨w.heap.size + 1, 0, none⟩ (.int .i64 m)).setCell ⟨w.heap.size + 1, 1, none⟩ (.slice xa n0 xc)).setCell ⟨w.heap.size + 1, 2, none⟩ (.slice (some ⟨rb, 0, none⟩) m m)).setCell ⟨w.heap.size + 1, 3, none⟩ (.int .i64 D)).heap[j]? = w5.heap[j]? := fun j hj => by rw [Below.heap_setCell _ _ _ _ hj, Below.heap_setCell _ _ _ _ hj, Below.heap_setCell _ _ _ _ hj, Below.heap_setCell _ _ _ _ hj]
    have bE : Below (w.heap.size + 1) w5 ((((w5.setCell ⟨w.heap.size + 1, 0, none⟩ (.int .i64 m)).setCell ⟨w.heap.size + 1, 1, none⟩ (.slice xa n0 xc)).setCell ⟨w.heap.size + 1, 2, none⟩ (.slice (some ⟨rb, 0, none⟩) m m)).setCell ⟨w.heap.size + 1, 3, none⟩ (.int .i64 D)) := ((((Below.refl _ w5).setCell (p := ⟨w.heap.size + 1, 0, none⟩) (Nat.le_refl _) _).setCell (p := ⟨w.heap.size + 1, 1, none⟩) (Nat.le_refl _) _).setCell (p := ⟨w.heap.size + 1, 2, none⟩) (Nat.le_refl _) _).setCell (p := ⟨w.heap.size + 1, 3, none⟩) (Nat.le_refl _) _
    clear c0 c1' c2 c3 f0 f1 f2 f3 g0 g1 p0 p1
    generalize ((((w5.setCell ⟨w.heap.size + 1, 0, none⟩ (.int .i64 m)).setCell ⟨w.heap.size + 1, 1, none⟩ (.slice xa n0 xc)).setCell ⟨w.heap.size + 1, 2, none⟩ (.slice (some ⟨rb, 0, none⟩) m m)).setCell ⟨w.heap.size + 1, 3, none⟩ (.int .i64 D)) = wE at *
    obtain ⟨⟨c0, c1', c2, c3⟩, -, -⟩ := box4_at hE
    have BF : Hid (Below w.heap.size w wE) := B5.out.trans (bE.mono (by omega))
    have MF : Hid (Mx wE w.heap.size rb bs m R) := by
      have h := M5.out
      have hg := h.ge
      have hx := h.gt
      exact (⟨(oE rb (by omega)).trans h.hd, h.rl, fun i b r hb hr => ⟨(h.row i b r hb hr).1.of (oE b (by have := hx b (List.mem_of_getElem? hb); omega)), (h.row i b r hb hr).2⟩, by omega, h.gt, h.inj⟩)
    clear oE bE hE G1 G2 M5 B5
    go_wp2
    refine bodyPost_ret (v := .tuple #[.agg #[.int .i64 m, .slice xa n0 xc, .slice (some ⟨rb, 0, none⟩) m m, .int .i64 D], .nilIface]) (by simp [results, Tryd.results73, go_sem, c0, c1', c2, c3]; try rfl) rfl ?_
    exact ⟨rb, bs, rfl, hbl, MF.out, BF.out⟩
end Go.Proofs.YtcmocilojloolaaDoor
