/- A column of a matrix is exchanged with a list, and back; Cramer's rule: of the program. (Written by tools/mkexch.py.) -/
import Derived.Test.YtcmocilojloolaaDoorNormR
import Derived.Test.YtcmocilojloolaaDoorDetI
import Derived.Defers
namespace Go.Proofs.YtcmocilojloolaaDoor
open Go.ChangeShapes Go.WideShapes Go.ChangeAt Go.RowKit
set_option linter.unusedVariables false
set_option linter.unusedSimpArgs false

/-- A column. -/
def colOf (R : List (List Int)) (c : Nat) : List Int := R.map fun r => r.getD c 0
/-- What i rounds of the exchange leave. -/
def exR (R : List (List Int)) (c : Nat) (b : List Int) (i : Nat) : List (List Int) := colSet (R.take i) c (b.take i) ++ R.drop i
def exL (R : List (List Int)) (c : Nat) (b : List Int) (i : Nat) : List Int := (colOf R c).take i ++ b.drop i
theorem exR_zero (R : List (List Int)) (c : Nat) (b : List Int) : exR R c b 0 = R := by simp [exR, colSet]
theorem exL_zero (R : List (List Int)) (c : Nat) (b : List Int) : exL R c b 0 = b := by simp [exL]
theorem exR_all {R : List (List Int)} {c : Nat} {b : List Int} {m : Nat} (h1 : R.length = m) (h2 : b.length = m) : exR R c b m = colSet R c b := by
  unfold exR; rw [List.take_of_length_le (by omega), List.take_of_length_le (by omega), List.drop_of_length_le (by omega), List.append_nil]
theorem exL_all {R : List (List Int)} {c : Nat} {b : List Int} {m : Nat} (h1 : R.length = m) (h2 : b.length = m) : exL R c b m = colOf R c := by
  unfold exL; rw [List.take_of_length_le (by simp [colOf]; omega), List.drop_of_length_le (by omega), List.append_nil]
theorem exR_get {R : List (List Int)} {c i : Nat} {b : List Int} (hb : i ≤ b.length) (hi : i < R.length) : (exR R c b i)[i]? = R[i]? := by
  have e : (colSet (R.take i) c (b.take i)).length = i := by simp [colSet]; omega
  unfold exR
  rw [List.getElem?_append_right (by omega), e, Nat.sub_self, List.getElem?_drop, Nat.add_zero]
theorem exL_get {R : List (List Int)} {c i : Nat} {b : List Int} (hb : i ≤ R.length) : (exL R c b i)[i]? = b[i]? := by
  have e : ((colOf R c).take i).length = i := by simp [colOf]; omega
  unfold exL
  rw [List.getElem?_append_right (by omega), e, Nat.sub_self, List.getElem?_drop, Nat.add_zero]
theorem exR_set {R : List (List Int)} {c i : Nat} {b r : List Int} {y : Int} (hr : R[i]? = some r) (hy : b[i]? = some y) : (exR R c b i).set i (r.set c y) = exR R c b (i + 1) := by
  have hi := (List.getElem?_eq_some_iff.1 hr).1
  have hb := (List.getElem?_eq_some_iff.1 hy).1
  have e : (colSet (R.take i) c (b.take i)).length = i := by simp [colSet]; omega
  unfold exR
  rw [List.set_append_right _ _ (by omega), e, Nat.sub_self, List.drop_eq_getElem_cons hi, List.set_cons_zero, List.take_add_one, List.take_add_one, hr, hy]
  unfold colSet
  rw [List.zipWith_append (by simp; omega)]
  simp
theorem exL_set {R : List (List Int)} {c i : Nat} {b r : List Int} {x : Int} (hr : R[i]? = some r) (hx : r[c]? = some x) (hb : i < b.length) : (exL R c b i).set i x = exL R c b (i + 1) := by
  have hi := (List.getElem?_eq_some_iff.1 hr).1
  have e : ((colOf R c).take i).length = i := by simp [colOf]; omega
  unfold exL
  rw [List.set_append_right _ _ (by omega), e, Nat.sub_self, List.drop_eq_getElem_cons hb, List.set_cons_zero, List.take_add_one]
  have : (colOf R c)[i]? = some x := by simp [colOf, hr, List.getD, hx]
  rw [this]; simp
theorem exR_row {R : List (List Int)} {c i m : Nat} {b : List Int} (h : ∀ r ∈ R, r.length = m) : ∀ r ∈ exR R c b i, r.length = m := by
  intro r hr
  rcases List.mem_append.1 hr with h1 | h1
  · exact colSet_row (fun r hr => h r (List.mem_of_mem_take hr)) r h1
  · exact h r (List.mem_of_mem_drop h1)
theorem colSet_back {R : List (List Int)} {c m : Nat} {b : List Int} (h : ∀ r ∈ R, r.length = m) (hc : c < m) (hb : b.length = R.length) : colSet (colSet R c b) c (colOf R c) = R := by
  refine List.ext_getElem? fun i => ?_
  simp only [colSet, colOf, List.getElem?_zipWith, List.getElem?_map]
  by_cases hi : i < R.length
  · rw [List.getElem?_eq_getElem hi, List.getElem?_eq_getElem (by omega : i < b.length)]
    have := h _ (List.getElem_mem hi)
    simp only [Option.map_some, List.set_set, Option.some.injEq]
    refine List.ext_getElem? fun j => ?_
    by_cases e : j = c
    · subst e
      rw [List.getElem?_set_self (by omega)]
      rw [List.getElem?_eq_getElem (by omega)]; simp [List.getD, hc, this]
    · rw [List.getElem?_set_ne (by omega)]
  · rw [List.getElem?_eq_none (by omega : R.length ≤ i)]
theorem colOf_set {R : List (List Int)} {c m : Nat} {b : List Int} (h : ∀ r ∈ R, r.length = m) (hc : c < m) (hb : b.length = R.length) : colOf (colSet R c b) c = b := by
  refine List.ext_getElem? fun i => ?_
  simp only [colSet, colOf, List.getElem?_zipWith, List.getElem?_map]
  by_cases hi : i < R.length
  · rw [List.getElem?_eq_getElem hi, List.getElem?_eq_getElem (by omega : i < b.length)]
    have := h _ (List.getElem_mem hi)
    simp [List.getD, this, hc]
  · rw [List.getElem?_eq_none (by omega : R.length ≤ i), List.getElem?_eq_none (by omega : b.length ≤ i)]; rfl

/-- Some blocks may have changed. -/
structure Swp (w w' : World) (lb : Nat) (bs : List Nat) : Prop where
  os : w'.os = w.os
  tape : w'.tape = w.tape
  output : w'.output = w.output
  size : w.heap.size = w'.heap.size
  block : ∀ k, k ≠ lb → k ∉ bs → w'.heap[k]? = w.heap[k]?
theorem Swp.refl (w : World) (lb : Nat) (bs : List Nat) : Swp w w lb bs := ⟨rfl, rfl, rfl, rfl, fun _ _ _ => rfl⟩
theorem Swp.two {w w' : World} {lb b : Nat} {bs : List Nat} (h : Swp w w' lb bs) (hb : b ∈ bs) (i j : Nat) (u v : Value) : Swp w ((w'.setCell ⟨b, i, none⟩ u).setCell ⟨lb, j, none⟩ v).drew lb bs := by
  refine ⟨h.os, h.tape, h.output, ?_, fun k h1 h2 => ?_⟩
  · rw [h.size]; simp
  · show ((w'.setCell ⟨b, i, none⟩ u).setCell ⟨lb, j, none⟩ v).heap[k]? = _
    rw [Below.heap_setCell _ _ _ _ h1, Below.heap_setCell _ _ _ _ (by intro c; have c : k = b := c; subst c; exact h2 hb)]
    exact h.block k h1 h2
/-- A matrix and a list to exchange with. -/
structure MxL (w : World) (B rb lb : Nat) (bs : List Nat) (m : Nat) (R : List (List Int)) (b : List Int) : Prop where
  mx : Mx w B rb bs m R
  li : Rw w lb b
  ne : lb ≠ rb
  nb : lb ∉ bs
theorem MxL.step {w : World} {B rb lb m c i bb : Nat} {bs : List Nat} {R : List (List Int)} {L r : List Int} (h : MxL w B rb lb bs m R L) (eb : bs[i]? = some bb) (hr : R[i]? = some r) (x y : Int) :
    MxL ((w.setCell ⟨bb, c, none⟩ (.int .i64 y)).setCell ⟨lb, i, none⟩ (.int .i64 x)).drew B rb lb bs m (R.set i (r.set c y)) (L.set i x) := by
  have hbb : lb ≠ bb := fun e => h.nb (by rw [e]; exact List.mem_of_getElem? eb)
  have M1 := h.mx.store eb hr c y
  have L1 : Rw (w.setCell ⟨bb, c, none⟩ (.int .i64 y)) lb L := h.li.of (Below.heap_setCell _ _ _ _ hbb)
  refine ⟨(M1.of_blocks ?_ fun k hk => ?_).drew, L1.store i x, h.ne, h.nb⟩
  · exact Below.heap_setCell _ _ _ _ (fun e => h.ne (by have e : rb = lb := e; exact e.symm))
  · exact Below.heap_setCell _ _ _ _ (by intro e; have e : k = lb := e; subst e; exact h.nb hk)

set_option maxRecDepth 100000 in
set_option maxHeartbeats 8000000 in
theorem exch_any (B rb lb m c lc : Nat) (bs : List Nat) (R : List (List Int)) (b : List Int) (w : World) (h : MxL w B rb lb bs m R b) (hbl : bs.length = m) (hl : b.length = m) (hc : c < m) (hm : m ≤ 5) :
    Calls Tryd.prog 116 #[.slice (some ⟨rb, 0, none⟩) m m, .int .i64 c, .slice (some ⟨lb, 0, none⟩) m lc] w fun e w' => e = .returned (.tuple #[]) ∧ MxL w' B rb lb bs m (colSet R c b) (colOf R c) ∧ Swp w w' lb bs := by
  have H := Lib.hid h
  have RL : Hid (R.length = m) := by show _ = _; rw [h.mx.rl, hbl]
  have BL := Lib.hid hl
  have RR : Hid (∀ r ∈ R, r.length = m) := fun r hr => by
    obtain ⟨i, hi⟩ := List.mem_iff_getElem?.1 hr
    obtain ⟨bb, r', e1, e2, -, h2, -⟩ := h.mx.pair (i := i) (by rw [← h.mx.rl]; exact (List.getElem?_eq_some_iff.1 hi).1)
    rw [hi] at e2
    obtain rfl := Option.some.inj e2
    exact h2
  have M0 : Hid (MxL w B rb lb bs m (exR R c b 0) (exL R c b 0)) := by show MxL _ _ _ _ _ _ _ _; rw [exR_zero, exL_zero]; exact h
  have S0 : Hid (Swp w w lb bs) := Swp.refl _ _ _
  clear h hl
  go_enter Tryd.func116, Tryd.ntmps116
  go_wp2
  go_loopw [6, 7, 10] (fun _ _ iv wr => ∃ i : Nat, i ≤ m ∧ iv = .int .i64 i ∧ Hid (MxL wr B rb lb bs m (exR R c b i) (exL R c b i)) ∧ Hid (Swp w wr lb bs)) (fun _ _ iv _ => m - (intOf iv).toNat)
  case atStart => exact ⟨0, by omega, rfl, M0, S0⟩
  case round =>
    obtain ⟨i, hi, rfl, mx, sw⟩ := hrel
    clear M0 S0
    by_cases hlt : i < m
    · obtain ⟨bb, r, eb, e2, rw1, rl1, rb1⟩ := mx.out.mx.pair (i := i) (by omega)
      have e3 : R[i]? = some r := by have := exR_get (R := R) (c := c) (i := i) (b := b) (by have := BL.out; omega) (by have := RL.out; omega); rw [← this]; exact e2
      obtain ⟨x, hx⟩ : ∃ x, r[c]? = some x := ⟨_, List.getElem?_eq_getElem (by omega)⟩
      obtain ⟨y, hy⟩ : ∃ y, b[i]? = some y := ⟨_, List.getElem?_eq_getElem (by have := BL.out; omega)⟩
      have hyl := exL_get (R := R) (c := c) (i := i) (b := b) (by have := RL.out; omega)
      rw [hy] at hyl
      have c0 := mx.out.mx.head eb
      have c1 := rw1.cell hx
      have c2 := mx.out.li.cell hyl
      have f1 := rw1.frozen c
      have f2 := mx.out.li.frozen i
      have n1 : ¬ lb = bb := fun e => mx.out.nb (by rw [e]; exact List.mem_of_getElem? eb)
      have n2 : ¬ bb = lb := fun e => n1 e.symm
      have MN := mx.out.step (c := c) eb e2 x y
      rw [exR_set e3 hy, exL_set e3 hx (by have := BL.out; omega)] at MN
      have MH := Lib.hid MN
      have SN := Lib.hid (sw.out.two (List.mem_of_getElem? eb) c i (.int .i64 y) (.int .i64 x))
      clear MN mx sw hx hy hyl e2 e3 eb rw1 rl1 RR BL RL H
      go_wp2_with fail
      go_region
      go_wp2
      exact ⟨⟨i + 1, by omega, by go_num, MH, SN⟩, by simp only [intOf]; omega⟩
    · obtain rfl : i = m := by omega
      have MF : Hid (MxL wr B rb lb bs i (colSet R c b) (colOf R c)) := by
        have := mx.out
        rwa [exR_all RL.out BL.out, exL_all RL.out BL.out] at this
      clear mx
      go_wp2
      go_end0
      exact ⟨rfl, MF.out, sw.out⟩

set_option maxRecDepth 100000 in
set_option maxHeartbeats 8000000 in
theorem exchD_any (u : FrameMode) (B rb lb m c lc : Nat) (bs : List Nat) (R : List (List Int)) (b : List Int) (w : World) (h : MxL w B rb lb bs m R b) (hbl : bs.length = m) (hl : b.length = m) (hc : c < m) (hm : m ≤ 5) :
    CallsD Tryd.prog 116 #[.slice (some ⟨rb, 0, none⟩) m m, .int .i64 c, .slice (some ⟨lb, 0, none⟩) m lc] u w fun e u' w' => u' = u ∧ (e = .returned (.tuple #[]) ∧ MxL w' B rb lb bs m (colSet R c b) (colOf R c) ∧ Swp w w' lb bs) := by
  have H := Lib.hid h
  have RL : Hid (R.length = m) := by show _ = _; rw [h.mx.rl, hbl]
  have BL := Lib.hid hl
  have RR : Hid (∀ r ∈ R, r.length = m) := fun r hr => by
    obtain ⟨i, hi⟩ := List.mem_iff_getElem?.1 hr
    obtain ⟨bb, r', e1, e2, -, h2, -⟩ := h.mx.pair (i := i) (by rw [← h.mx.rl]; exact (List.getElem?_eq_some_iff.1 hi).1)
    rw [hi] at e2
    obtain rfl := Option.some.inj e2
    exact h2
  have M0 : Hid (MxL w B rb lb bs m (exR R c b 0) (exL R c b 0)) := by show MxL _ _ _ _ _ _ _ _; rw [exR_zero, exL_zero]; exact h
  have S0 : Hid (Swp w w lb bs) := Swp.refl _ _ _
  clear h hl
  go_enter_d Tryd.func116, Tryd.ntmps116
  go_wp2
  go_loopw [6, 7, 10] (fun _ _ iv wr => ∃ i : Nat, i ≤ m ∧ iv = .int .i64 i ∧ Hid (MxL wr B rb lb bs m (exR R c b i) (exL R c b i)) ∧ Hid (Swp w wr lb bs)) (fun _ _ iv _ => m - (intOf iv).toNat)
  case atStart => exact ⟨0, by omega, rfl, M0, S0⟩
  case round =>
    obtain ⟨i, hi, rfl, mx, sw⟩ := hrel
    clear M0 S0
    by_cases hlt : i < m
    · obtain ⟨bb, r, eb, e2, rw1, rl1, rb1⟩ := mx.out.mx.pair (i := i) (by omega)
      have e3 : R[i]? = some r := by have := exR_get (R := R) (c := c) (i := i) (b := b) (by have := BL.out; omega) (by have := RL.out; omega); rw [← this]; exact e2
      obtain ⟨x, hx⟩ : ∃ x, r[c]? = some x := ⟨_, List.getElem?_eq_getElem (by omega)⟩
      obtain ⟨y, hy⟩ : ∃ y, b[i]? = some y := ⟨_, List.getElem?_eq_getElem (by have := BL.out; omega)⟩
      have hyl := exL_get (R := R) (c := c) (i := i) (b := b) (by have := RL.out; omega)
      rw [hy] at hyl
      have c0 := mx.out.mx.head eb
      have c1 := rw1.cell hx
      have c2 := mx.out.li.cell hyl
      have f1 := rw1.frozen c
      have f2 := mx.out.li.frozen i
      have n1 : ¬ lb = bb := fun e => mx.out.nb (by rw [e]; exact List.mem_of_getElem? eb)
      have n2 : ¬ bb = lb := fun e => n1 e.symm
      have MN := mx.out.step (c := c) eb e2 x y
      rw [exR_set e3 hy, exL_set e3 hx (by have := BL.out; omega)] at MN
      have MH := Lib.hid MN
      have SN := Lib.hid (sw.out.two (List.mem_of_getElem? eb) c i (.int .i64 y) (.int .i64 x))
      clear MN mx sw hx hy hyl e2 e3 eb rw1 rl1 RR BL RL H
      go_wp2_with fail
      go_region
      go_wp2
      exact ⟨⟨i + 1, by omega, by go_num, MH, SN⟩, by simp only [intOf]; omega⟩
    · obtain rfl : i = m := by omega
      have MF : Hid (MxL wr B rb lb bs i (colSet R c b) (colOf R c)) := by
        have := mx.out
        rwa [exR_all RL.out BL.out, exL_all RL.out BL.out] at this
      clear mx
      go_wp2
      go_end0
      exact ⟨rfl, MF.out, sw.out⟩


theorem MxL.sq {w : World} {B rb lb m : Nat} {bs : List Nat} {R : List (List Int)} {b : List Int} (h : MxL w B rb lb bs m R b) (hbl : bs.length = m) : Sq w m (some ⟨rb, 0, none⟩) m (slsOf m bs R) := by
  refine ⟨h.mx.rd hbl.symm, by rw [slsOf_len h.mx.rl, hbl], Nat.le_refl _, fun x hx => ?_⟩
  obtain ⟨i, hi⟩ := List.mem_iff_getElem?.1 hx
  simp only [slsOf, List.getElem?_zipWith] at hi
  cases e1 : bs[i]? with
  | none => rw [e1] at hi; simp at hi
  | some b =>
    cases e2 : R[i]? with
    | none => rw [e1, e2] at hi; simp at hi
    | some r =>
      rw [e1, e2] at hi
      obtain rfl := Option.some.inj hi
      exact ⟨(h.mx.row _ _ _ e1 e2).2, Nat.le_refl _⟩
set_option maxRecDepth 100000 in
set_option maxHeartbeats 4000000 in
theorem detWith_any (B rb lb m c lc : Nat) (bs : List Nat) (R : List (List Int)) (b : List Int) (w : World) (h : MxL w B rb lb bs m R b) (hbl : bs.length = m) (hl : b.length = m) (hc : c < m) (hm : m ≤ 5) (hn : ∀ r ∈ colSet R c b, nrm r ≤ 3000) :
    Calls Tryd.prog 108 #[.slice (some ⟨rb, 0, none⟩) m m, .int .i64 c, .slice (some ⟨lb, 0, none⟩) m lc] w fun e w' => e = .returned (.int .i64 (det m (colSet R c b))) ∧ Below w.heap.size w w' := by
  have RR : ∀ r ∈ R, r.length = m := fun r hr => by
    obtain ⟨i, hi⟩ := List.mem_iff_getElem?.1 hr
    obtain ⟨bb, r', e1, e2, -, h2, -⟩ := h.mx.pair (i := i) (by rw [← h.mx.rl]; exact (List.getElem?_eq_some_iff.1 hi).1)
    rw [hi] at e2
    obtain rfl := Option.some.inj e2
    exact h2
  have RL : R.length = m := by rw [h.mx.rl, hbl]
  have C1 := Lib.hid (exch_any B rb lb m c lc bs R b w h hbl hl hc hm)
  have C2 : Hid (∀ w1, MxL w1 B rb lb bs m (colSet R c b) (colOf R c) → Calls Tryd.prog 101 #[.slice (some ⟨rb, 0, none⟩) m m] w1 fun e w' => e = .returned (.int .i64 (det m (colSet R c b))) ∧ Below w1.heap.size w1 w') := by
    intro w1 h1
    have := det_any m m (some ⟨rb, 0, none⟩) _ w1 hm (h1.sq hbl) (fun x hx => hn x.t (by
      have h9 : x.t ∈ (slsOf m bs (colSet R c b)).map Sl.t := List.mem_map.2 ⟨x, hx, rfl⟩
      rwa [slsOf_t h1.mx.rl] at h9))
    rwa [slsOf_t h1.mx.rl] at this
  have C3 : Hid (∀ u w1, MxL w1 B rb lb bs m (colSet R c b) (colOf R c) → CallsD Tryd.prog 116 #[.slice (some ⟨rb, 0, none⟩) m m, .int .i64 c, .slice (some ⟨lb, 0, none⟩) m lc] u w1 fun e u' w' => u' = u ∧ (e = .returned (.tuple #[]) ∧ MxL w' B rb lb bs m R b ∧ Swp w1 w' lb bs)) := by
    intro u w1 h1
    have := exchD_any u B rb lb m c lc bs (colSet R c b) (colOf R c) w1 h1 hbl (by simp [colOf, RL]) hc hm
    rwa [colSet_back RR hc (by omega), colOf_set RR hc (by omega)] at this
  have BB : Hid (∀ w1 w2 w3, Swp w w1 lb bs → Below w1.heap.size w1 w2 → Swp w2 w3 lb bs → MxL w3 B rb lb bs m R b → Below w.heap.size w w3) := by
    intro w1 w2 w3 s1 b2 s3 m3
    refine ⟨s3.os.trans (b2.os.trans s1.os), s3.tape.trans (b2.tape.trans s1.tape), s3.output.trans (b2.output.trans s1.output), ?_, fun k hk => ?_⟩
    · have := b2.size; have := s1.size; have := s3.size; omega
    · by_cases e1 : k = lb
      · subst e1
        exact m3.li.trans h.li.symm
      · by_cases e2 : k ∈ bs
        · obtain ⟨i, hi⟩ := List.mem_iff_getElem?.1 e2
          obtain ⟨bb, r, g1, g2, g3, -, -⟩ := h.mx.pair (i := i) (List.getElem?_eq_some_iff.1 hi).1
          obtain ⟨bb', r', k1, k2, k3, -, -⟩ := m3.mx.pair (i := i) (List.getElem?_eq_some_iff.1 hi).1
          rw [hi] at g1 k1
          obtain rfl := Option.some.inj g1
          obtain rfl := Option.some.inj k1
          rw [g2] at k2
          obtain rfl := Option.some.inj k2
          exact k3.trans g3.symm
        · rw [s3.block k e1 e2, b2.block k (by rw [← s1.size]; exact hk), s1.block k e1 e2]
  clear h hl hn RR RL
  go_enter_defers Tryd.func108, Tryd.ntmps108
  go_wp2_with fail
  refine C1.out.mono ?_
  rintro e w1 ⟨rfl, m1, s1⟩
  have CC := Lib.hid (C2.out w1 m1)
  have M1 := Lib.hid m1
  have S1 := Lib.hid s1
  clear m1 s1 C1 C2
  go_wp2_with fail
  refine CC.out.mono ?_
  rintro e w2 ⟨rfl, b2⟩
  have M2 : Hid (MxL w2 B rb lb bs m (colSet R c b) (colOf R c)) := ⟨M1.out.mx.later b2, M1.out.li.later b2, M1.out.ne, M1.out.nb⟩
  have B2 := Lib.hid b2
  clear b2 CC M1
  go_wp2
  refine leaves_cons (f := 116) (args := #[.slice (some ⟨rb, 0, none⟩) m m, .int .i64 c, .slice (some ⟨lb, 0, none⟩) m lc]) (by simp) (by simp [go_sem]) ?_
  refine (C3.out .returning _ M2.out).mono ?_
  rintro e u' w3 ⟨rfl, rfl, m3, s3⟩
  exact ⟨_, results_tmp rfl _ _ _, rfl, BB.out _ _ _ S1.out B2.out s3 m3⟩
end Go.Proofs.YtcmocilojloolaaDoor
