/- The network of a survey: its numbers, of the program. (Written by tools/mknet.py.) -/
import Derived.Test.YtcmocilojloolaaDoorExchI
namespace Go.Proofs.YtcmocilojloolaaDoor
open Go.ChangeShapes Go.WideShapes Go.ChangeAt Go.RowKit
set_option linter.unusedVariables false
set_option linter.unusedSimpArgs false

/-- The numbers by Cramer's rule. -/
def solL (m : Nat) (R : List (List Int)) (b : List Int) : List Int := (List.range m).map fun c => det m (colSet R c (b.set 0 0))
theorem solL_len (m : Nat) (R : List (List Int)) (b : List Int) : (solL m R b).length = m := by simp [solL]
theorem solL_get {m : Nat} {R : List (List Int)} {b : List Int} {c : Nat} (h : c < m) : (solL m R b)[c]? = some (det m (colSet R c (b.set 0 0))) := by simp [solL, h]
theorem grown_of_below {w w' : World} {row : Option Nat} (h : Below w.heap.size w w') : w.grownBy w' row := ⟨h.os, h.tape, h.output, h.size, fun i hi _ => h.block i hi⟩
theorem MxL.later {w w' : World} {B rb lb m : Nat} {bs : List Nat} {R : List (List Int)} {b : List Int} (h : MxL w B rb lb bs m R b) (e : Below w.heap.size w w') : MxL w' B rb lb bs m R b := ⟨h.mx.later e, h.li.later e, h.ne, h.nb⟩
/-- A number of the list is stored. -/
theorem MxL.put {w : World} {B rb lb m : Nat} {bs : List Nat} {R : List (List Int)} {b : List Int} (h : MxL w B rb lb bs m R b) (j : Nat) (x : Int) : MxL (w.setCell ⟨lb, j, none⟩ (.int .i64 x)) B rb lb bs m R (b.set j x) :=
  ⟨h.mx.of_blocks (Below.heap_setCell _ _ _ _ (fun e => h.ne (by have e : rb = lb := e; exact e.symm))) (fun k hk => Below.heap_setCell _ _ _ _ (by intro e; have e : k = lb := e; subst e; exact h.nb hk)), h.li.store j x, h.ne, h.nb⟩
theorem MxL.keep {w w' : World} {B rb lb m : Nat} {bs : List Nat} {R : List (List Int)} {b : List Int} (h : MxL w B rb lb bs m R b) (e : ∀ k, (k = rb ∨ k = lb ∨ k ∈ bs) → w'.heap[k]? = w.heap[k]?) : MxL w' B rb lb bs m R b :=
  ⟨h.mx.of_blocks (e rb (.inl rfl)) (fun k hk => e k (.inr (.inr hk))), h.li.of (e lb (.inr (.inl rfl))), h.ne, h.nb⟩
theorem grown_put {w w' : World} {row : Option Nat} (h : w.grownBy w' row) {a : Addr} (ha : w.heap.size ≤ a.block) (u : Value) : w.grownBy (w'.setCell a u) row :=
  ⟨h.os, h.tape, h.output, by rw [World.size_setCell]; exact h.size, fun i hi hn => (Below.heap_setCell _ _ _ _ (by omega)).trans (h.block i hi hn)⟩
theorem MxL.alloc {w : World} {B rb lb m : Nat} {bs : List Nat} {R : List (List Int)} {b : List Int} (h : MxL w B rb lb bs m R b) (o : Obj) : MxL (w.alloc o) B rb lb bs m R b := h.later (by go_grown)

set_option maxRecDepth 100000 in
set_option maxHeartbeats 8000000 in
theorem solve_any (B rb lb m n0 xc : Nat) (xa : Option Addr) (D : Int) (bs : List Nat) (R : List (List Int)) (b : List Int) (w : World) (h : MxL w B rb lb bs m R b) (hbl : bs.length = m) (hl : b.length = m) (hm : 1 ≤ m ∧ m ≤ 5) (hn : ∀ c, ∀ r ∈ colSet R c (b.set 0 0), nrm r ≤ 3000) :
    Calls Tryd.prog 81 #[.agg #[.int .i64 m, .slice xa n0 xc, .slice (some ⟨rb, 0, none⟩) m m, .int .i64 D], .slice (some ⟨lb, 0, none⟩) m m] w fun e w' => ∃ u, e = .returned u ∧ OwnI w' w.heap.size u (solL m R b) ∧ w.grownBy w' (some lb) := by
  obtain ⟨i0, hi, hz0, hz1, hz2⟩ := info_parts info_i64
  have lbw : lb < w.heap.size := h.li.lt
  obtain ⟨b0, hb0⟩ : ∃ x, b[0]? = some x := ⟨_, List.getElem?_eq_getElem (by omega)⟩
  have W1 : Hid ((w.alloc (.cells #[.int .i64 m, .slice xa n0 xc, .slice (some ⟨rb, 0, none⟩) m m, .int .i64 D] 63)).heap[w.heap.size]? = some (.cells #[.int .i64 m, .slice xa n0 xc, .slice (some ⟨rb, 0, none⟩) m m, .int .i64 D] 63 (0, 0))) := heap_alloc_new w _
  have W2 : Hid (w.grownBy (w.alloc (.cells #[.int .i64 m, .slice xa n0 xc, .slice (some ⟨rb, 0, none⟩) m m, .int .i64 D] 63)) (some lb)) := World.grownBy_alloc w _ _
  have W3 : (w.alloc (.cells #[.int .i64 m, .slice xa n0 xc, .slice (some ⟨rb, 0, none⟩) m m, .int .i64 D] 63)).heap.size = w.heap.size + 1 := by simp
  have M0 := Lib.hid (h.alloc (.cells #[.int .i64 m, .slice xa n0 xc, .slice (some ⟨rb, 0, none⟩) m m, .int .i64 D] 63))
  have C := Lib.hid (fun c wq (hc : c < m) (hq : MxL wq B rb lb bs m R (b.set 0 0)) => detWith_any B rb lb m c m bs R (b.set 0 0) wq hq hbl (by rw [List.length_set]; exact hl) hc hm.2 (hn c))
  have SL := Lib.hid (solL_len m R b)
  have SG : Hid (∀ c, c < m → (solL m R b)[c]? = some (det m (colSet R c (b.set 0 0)))) := fun c hc => solL_get hc
  have HB0 := Lib.hid hb0
  have SR : Hid (rb < w.heap.size ∧ ∀ k ∈ bs, k < w.heap.size) := ⟨h.mx.lt, h.mx.blt⟩
  obtain ⟨S, hS⟩ : ∃ S, S = solL m R b := ⟨_, rfl⟩
  rw [← hS] at SL SG ⊢
  clear h hn hl hbl hb0 hS
  go_enter Tryd.func81, Tryd.ntmps81
  go_upto_region 1 with (fail)
  generalize w.alloc (.cells #[.int .i64 m, .slice xa n0 xc, .slice (some ⟨rb, 0, none⟩) m m, .int .i64 D] 63) = w0 at *
  have c0 := M0.out.li.cell HB0.out
  have f0 := M0.out.li.frozen 0
  have lne : lb ≠ w.heap.size := by omega
  have M1 := Lib.hid (M0.out.put 0 0)
  have G1 : Hid (w.grownBy (w0.setCell ⟨lb, 0, none⟩ (.int .i64 0)) (some lb)) := grownBy_trans W2.out (grownBy_setCell w0 ⟨lb, 0, none⟩ (.int .i64 0))
  have N1 : Hid ((w0.setCell ⟨lb, 0, none⟩ (.int .i64 0)).heap[w.heap.size]? = some (.cells #[.int .i64 m, .slice xa n0 xc, .slice (some ⟨rb, 0, none⟩) m m, .int .i64 D] 63 (0, 0))) := (Below.heap_setCell _ _ _ _ (fun e => lne e.symm)).trans W1.out
  have S1 : (w0.setCell ⟨lb, 0, none⟩ (.int .i64 0)).heap.size = w.heap.size + 1 := by rw [World.size_setCell]; exact W3
  go_upto_region 2 with (fail)
  clear W1 W2 W3 M0 HB0 c0 f0
  generalize w0.setCell ⟨lb, 0, none⟩ (.int .i64 0) = w1 at *
  have y0 := cell_of_row w1 w.heap.size 0 _ _ _ N1.out
  go_wp2_with (first | (at_make; refine wpList_make_full _ rfl _ _ _ rfl w1.heap.size 2 i0 (.int .i64 0) 1 Tryd.underlying28 hi hz0 hz1 .i64 .i64 _ _ m rfl rfl rfl rfl ?b2 ?b3 (Nat.le_refl _) ?_) | go_in)
  case b2 => rw [hz2]; omega
  case b3 => unfold maxLen; omega
  intro w2 hown hg
  rw [toList_madeCells_one] at hown
  obtain ⟨lk, hlk⟩ : ∃ lk, lk = w.heap.size + 1 := ⟨_, rfl⟩
  rw [← hlk] at hown ⊢
  have O2 : Hid (OwnI w2 lk (.slice (some ⟨lk, 0, none⟩) m m) (part S m 0)) := part_made hown
  have B2 : Below w1.heap.size w1 w2 := (Below.refl _ _).grown hg (Nat.le_refl _) (fun k h => by cases h)
  have M2 := Lib.hid (M1.out.later B2)
  have G2 : Hid (w.grownBy w2 (some lb)) := grownBy_trans G1.out (grown_of_below B2)
  have N2 := Lib.hid ((B2.block w.heap.size (by omega)).trans N1.out)
  have ge1 : w.heap.size + 1 ≤ lk := by omega
  clear hown hg B2 M1 G1 N1 y0 hlk S1
  go_wp2
  go_loopw [6, 15] (fun _ iv wr => ∃ c : Nat, c ≤ m ∧ iv = .int .i64 c ∧ Hid (OwnI wr lk (.slice (some ⟨lk, 0, none⟩) m m) (part S m c)) ∧ Hid (MxL wr B rb lb bs m R (b.set 0 0)) ∧ Hid (w.grownBy wr (some lb)) ∧ Hid (wr.heap[w.heap.size]? = some (.cells #[.int .i64 m, .slice xa n0 xc, .slice (some ⟨rb, 0, none⟩) m m, .int .i64 D] 63 (0, 0)))) (fun _ iv _ => m - (intOf iv).toNat)
  case atStart => exact ⟨0, by omega, rfl, O2, M2, G2, N2⟩
  case round =>
    obtain ⟨c, hc, rfl, ho, mx, gr, nb⟩ := hrel
    clear O2 M2 G2 N2
    by_cases hlt : c < m
    · have CC := Lib.hid (C.out c wr hlt mx.out)
      have y2 := cell_of_row wr w.heap.size 2 _ _ _ nb.out
      have SGc := Lib.hid (SG.out c hlt)
      obtain ⟨d, hd⟩ : ∃ d, d = det m (colSet R c (b.set 0 0)) := ⟨_, rfl⟩
      rw [← hd] at CC SGc
      clear hd
      have lkw := (ho.out.lt lk rfl).2
      have nbw : w.heap.size < wr.heap.size := (Array.getElem?_eq_some_iff.1 nb.out).1
      have lne2 : lb ≠ lk := by omega
      have sr := SR.out
      go_wp2_with fail
      refine CC.out.mono ?_
      rintro e w3 ⟨rfl, b3⟩
      have z3 := b3.size
      have O3 : OwnI w3 lk (.slice (some ⟨lk, 0, none⟩) m m) (part S m c) := ho.out.later b3
      have M3 := mx.out.later b3
      have G3 : w.grownBy w3 (some lb) := grownBy_trans gr.out (grown_of_below b3)
      have N3 := (b3.block w.heap.size nbw).trans nb.out
      obtain ⟨d0, z0⟩ := part_cell SL.out hlt O3
      have OE := Lib.hid (part_store SL.out SGc.out O3)
      have ME : Hid (MxL (w3.setCell ⟨lk, c, none⟩ (.int .i64 d)) B rb lb bs m R (b.set 0 0)) := M3.keep (fun k hk => Below.heap_setCell _ _ _ _ (by
        rcases hk with h | h | h
        · show k ≠ lk; omega
        · show k ≠ lk; omega
        · have := sr.2 k h; show k ≠ lk; omega))
      have GE : Hid (w.grownBy (w3.setCell ⟨lk, c, none⟩ (.int .i64 d)) (some lb)) := grown_put G3 (a := ⟨lk, c, none⟩) (by show w.heap.size ≤ lk; omega) _
      have NE : Hid ((w3.setCell ⟨lk, c, none⟩ (.int .i64 d)).heap[w.heap.size]? = some (.cells #[.int .i64 m, .slice xa n0 xc, .slice (some ⟨rb, 0, none⟩) m m, .int .i64 D] 63 (0, 0))) := (Below.heap_setCell _ _ _ _ (by show w.heap.size ≠ lk; omega)).trans N3
      clear O3 M3 G3 N3 b3 CC ho mx gr nb y2 SGc
      go_wp2
      exact ⟨⟨c + 1, by omega, by go_num, OE, ME, GE, NE⟩, by simp only [intOf]; omega⟩
    · obtain rfl : c = m := by omega
      have O5 := ho.out
      rw [part_all SL.out] at O5
      have O6 := Lib.hid (OwnI.mono O5 (show w.heap.size ≤ lk by omega))
      clear O5 ho mx nb
      go_wp2
      go_ret
      exact ⟨_, rfl, O6.out, gr.out⟩

/-- The right side of the normal equations, sight by sight. -/
def rightTo (m : Nat) (xs : List St) : Nat → List Int
  | 0 => List.replicate m 0
  | k + 1 => match xs[k]? with
    | some x => ((rightTo m xs k).set x.t.toNat ((rightTo m xs k).getD x.t.toNat 0 + x.v * x.r)).set x.f.toNat ((rightTo m xs k).getD x.f.toNat 0 - x.v * x.r)
    | none => rightTo m xs k
theorem rightTo_succ {m : Nat} {xs : List St} {k : Nat} {x : St} (h : xs[k]? = some x) : rightTo m xs (k + 1) = ((rightTo m xs k).set x.t.toNat ((rightTo m xs k).getD x.t.toNat 0 + x.v * x.r)).set x.f.toNat ((rightTo m xs k).getD x.f.toNat 0 - x.v * x.r) := by
  simp only [rightTo, h]
theorem rightTo_len (m : Nat) (xs : List St) (k : Nat) : (rightTo m xs k).length = m := by
  induction k with
  | zero => simp [rightTo]
  | succ k ih =>
    simp only [rightTo]
    split
    · simp [ih]
    · exact ih
theorem prod_bd300 {x : St} {p : Nat} (h : OkSt p x) : Bd 300 (x.v * x.r) := by
  have a : Bd 3 x.v := by have := h.v0; have := h.v1; unfold Bd; omega
  have b : Bd 100 x.r := by have := h.r0; have := h.r1; unfold Bd; omega
  exact (a.mul b).mono (by decide)
theorem getD_bd {L : List Int} {M : Int} (hM : 0 ≤ M) (h : ∀ x ∈ L, Bd M x) (j : Nat) : Bd M (L.getD j 0) := by
  rw [List.getD_eq_getElem?_getD]
  cases e : L[j]? with
  | none => exact Bd.zero hM
  | some x => exact h x (List.mem_of_getElem? e)
theorem rightTo_bd {p m : Nat} {xs : List St} (hx : ∀ x ∈ xs, OkSt p x) (k : Nat) : ∀ y ∈ rightTo m xs k, Bd (300 * (k : Nat)) y := by
  induction k with
  | zero => intro y hy; rw [List.eq_of_mem_replicate hy]; exact Bd.zero (by omega)
  | succ k ih =>
    intro y hy
    simp only [rightTo] at hy
    split at hy
    · rename_i x e
      have b := prod_bd300 (hx x (List.mem_of_getElem? e))
      rcases List.mem_or_eq_of_mem_set hy with h | h
      · rcases List.mem_or_eq_of_mem_set h with h | h
        · exact (ih y h).mono (by omega)
        · rw [h]; exact ((getD_bd (by omega) ih _).add b).mono (by omega)
      · rw [h]; exact ((getD_bd (by omega) ih _).sub b).mono (by omega)
    · exact (ih y hy).mono (by omega)
theorem right_bd {p m : Nat} {xs : List St} (hx : ∀ x ∈ xs, OkSt p x) (l8 : xs.length ≤ 8) : ∀ y ∈ rightTo m xs xs.length, Bd 2400 y := fun y hy => (rightTo_bd hx _ y hy).mono (by omega)
theorem set0_bd {b : List Int} {M : Int} (hM : 0 ≤ M) (h : ∀ y ∈ b, Bd M y) : ∀ y ∈ b.set 0 0, Bd M y := by
  intro y hy
  rcases List.mem_or_eq_of_mem_set hy with h1 | h1
  · exact h y h1
  · rw [h1]; exact Bd.zero hM
theorem col_nrm {p n : Nat} {xs : List St} (hn : n ≤ 4) (hx : ∀ x ∈ xs, OkSt p x) (l8 : xs.length ≤ 8) {b : List Int} (hb : ∀ y ∈ b, Bd 2400 y) (c : Nat) : ∀ r ∈ colSet (rowsP n xs) c (b.set 0 0), nrm r ≤ 3000 := fun r hr => by
  have := colSet_nrm (rowsP_nrm hn hx l8) (set0_bd (by omega) hb) r hr
  omega
theorem solL_bd {p m : Nat} {xs : List St} (hm : 1 ≤ m ∧ m ≤ 5) (hx : ∀ x ∈ xs, OkSt p x) (l8 : xs.length ≤ 8) {b : List Int} (hl : b.length = m) (hb : ∀ y ∈ b, Bd 2400 y) : ∀ y ∈ solL m (rowsP (m - 1) xs) b, Bd 81000000000000 y := by
  intro y hy
  simp only [solL, List.mem_map] at hy
  obtain ⟨c, -, rfl⟩ := hy
  obtain ⟨n, rfl⟩ : ∃ n, m = n + 1 := ⟨m - 1, by omega⟩
  exact cramer_bd (by omega) hx l8 hl hb c

set_option maxRecDepth 100000 in
set_option maxHeartbeats 16000000 in
theorem netHeights_any (B rb m n0 xc : Nat) (xa : Option Addr) (D : Int) (bs : List Nat) (xs : List St) (w : World) (hM : Mx w B rb bs m (rowsP (m - 1) xs)) (hbl : bs.length = m) (hr : RdS 4 encSt w (.slice xa n0 xc) xs) (e0 : n0 = xs.length) (l8 : n0 ≤ 8) (ok : ∀ x ∈ xs, OkSt m x) (hm : 1 ≤ m ∧ m ≤ 5) :
    Calls Tryd.prog 46 #[.agg #[.int .i64 m, .slice xa n0 xc, .slice (some ⟨rb, 0, none⟩) m m, .int .i64 D]] w fun e w' => ∃ u, e = .returned u ∧ OwnI w' w.heap.size u (solL m (rowsP (m - 1) xs) (rightTo m xs n0)) ∧ Below w.heap.size w w' := by
  obtain ⟨i0, hi, hz0, hz1, hz2⟩ := info_parts info_i64
  have H := Lib.hid hr
  have E0 := Lib.hid e0
  have OK := Lib.hid ok
  have MH := Lib.hid hM
  have LT : Hid (rb < w.heap.size ∧ ∀ k ∈ bs, k < w.heap.size) := ⟨hM.lt, hM.blt⟩
  have C : Hid (∀ wq lb, MxL wq B rb lb bs m (rowsP (m - 1) xs) (rightTo m xs n0) → Calls Tryd.prog 81 #[.agg #[.int .i64 m, .slice xa n0 xc, .slice (some ⟨rb, 0, none⟩) m m, .int .i64 D], .slice (some ⟨lb, 0, none⟩) m m] wq fun e w' => ∃ u, e = .returned u ∧ OwnI w' wq.heap.size u (solL m (rowsP (m - 1) xs) (rightTo m xs n0)) ∧ wq.grownBy w' (some lb)) :=
    fun wq lb hq => solve_any B rb lb m n0 xc xa D bs _ _ wq hq hbl (rightTo_len _ _ _) hm (fun c => col_nrm (by omega) ok (by omega) (by rw [e0]; exact right_bd ok (by omega)) c)
  have W1 : Hid ((w.alloc (.cells #[.int .i64 m, .slice xa n0 xc, .slice (some ⟨rb, 0, none⟩) m m, .int .i64 D] 63)).heap[w.heap.size]? = some (.cells #[.int .i64 m, .slice xa n0 xc, .slice (some ⟨rb, 0, none⟩) m m, .int .i64 D] 63 (0, 0))) := heap_alloc_new w _
  have W2 : Hid (Below w.heap.size w (w.alloc (.cells #[.int .i64 m, .slice xa n0 xc, .slice (some ⟨rb, 0, none⟩) m m, .int .i64 D] 63))) := by show Below _ _ _; go_grown
  have W3 : (w.alloc (.cells #[.int .i64 m, .slice xa n0 xc, .slice (some ⟨rb, 0, none⟩) m m, .int .i64 D] 63)).heap.size = w.heap.size + 1 := by simp
  obtain ⟨R, hR⟩ : ∃ R, R = rowsP (m - 1) xs := ⟨_, rfl⟩
  rw [← hR] at MH C ⊢
  clear hr e0 ok hM hbl hR
  go_enter Tryd.func46, Tryd.ntmps46
  go_upto_region 1 with (fail)
  generalize w.alloc (.cells #[.int .i64 m, .slice xa n0 xc, .slice (some ⟨rb, 0, none⟩) m m, .int .i64 D] 63) = w0 at *
  have y0 := cell_of_row w0 w.heap.size 0 _ _ _ W1.out
  go_wp2_with (first | (at_make; refine wpList_make_full _ rfl _ _ _ rfl w0.heap.size 2 i0 (.int .i64 0) 1 Tryd.underlying28 hi hz0 hz1 .i64 .i64 _ _ m rfl rfl rfl rfl ?b2 ?b3 (Nat.le_refl _) ?_) | go_in)
  case b2 => rw [hz2]; omega
  case b3 => unfold maxLen; omega
  intro w1 hown hg
  rw [toList_madeCells_one] at hown
  obtain ⟨lb, hlb⟩ : ∃ lb, lb = w.heap.size + 1 := ⟨_, rfl⟩
  rw [← hlb] at hown ⊢
  have O1 : Hid (Rw w1 lb (rightTo m xs 0)) := (Rw.made hown).2
  have B1 : Hid (Below w0.heap.size w0 w1) := (Below.refl _ _).grown hg (Nat.le_refl _) (fun k h => by cases h)
  have V1 := Lib.hid ((B1.out.block w.heap.size (by omega)).trans W1.out)
  have V2 : Hid (Below w.heap.size w w1) := W2.out.trans (B1.out.mono (by omega))
  have rl : w.heap.size < lb := by omega
  clear hown hg B1 W1 W2 W3 hlb y0
  have y1 := cell_of_row w1 w.heap.size 1 _ _ _ V1.out
  go_wp2
  go_loopw [14] (fun i wr => ∃ k : Nat, k ≤ n0 ∧ i = .int .i64 k ∧ Hid (Rw wr lb (rightTo m xs k)) ∧ Hid (Below w.heap.size w wr) ∧ Hid (wr.heap[w.heap.size]? = some (.cells #[.int .i64 m, .slice xa n0 xc, .slice (some ⟨rb, 0, none⟩) m m, .int .i64 D] 63 (0, 0)))) (fun i _ => n0 - (intOf i).toNat)
  case atStart => exact ⟨0, by omega, rfl, O1, V2, V1⟩
  case round =>
    obtain ⟨k, hk, rfl, ho, B2, NB⟩ := hrel
    clear O1 V1 V2 y1
    by_cases hlt : k < n0
    · obtain ⟨x, hx⟩ : ∃ x, xs[k]? = some x := ⟨_, List.getElem?_eq_getElem (by have := E0.out; omega)⟩
      have okx := OK.out x (List.mem_of_getElem? hx)
      obtain ⟨ba, oa, rfl, u0, u1, u2, u3⟩ := (H.out.later B2.out).at4g k x hx _ _ _ _ rfl
      have RS := rightTo_succ (m := m) hx
      have pb := prod_bd300 okx
      obtain ⟨f, t, r, v⟩ := x
      obtain ⟨F, hf⟩ : ∃ F : Nat, f = F := ⟨f.toNat, by have := okx.f0; simp only at this; omega⟩
      obtain ⟨T, ht⟩ : ∃ T : Nat, t = T := ⟨t.toNat, by have := okx.t0; simp only at this; omega⟩
      subst hf
      subst ht
      have Fn : F < m := by have := okx.f1; simp only at this; omega
      have Tn : T < m := by have := okx.t1; simp only at this; omega
      have ne : T ≠ F := by have := okx.ne; simp only at this; omega
      simp only [Int.toNat_natCast] at u0 u1 u2 u3 RS pb
      obtain ⟨L, hL⟩ : ∃ L, L = rightTo m xs k := ⟨_, rfl⟩
      have LL : L.length = m := by rw [hL]; exact rightTo_len _ _ _
      have LB : ∀ y ∈ L, Bd 2400 y := by rw [hL]; exact fun y hy => (rightTo_bd OK.out k y hy).mono (by omega)
      obtain ⟨y, hy⟩ : ∃ y, L[T]? = some y := ⟨_, List.getElem?_eq_getElem (by omega)⟩
      obtain ⟨z, hz⟩ : ∃ z, L[F]? = some z := ⟨_, List.getElem?_eq_getElem (by omega)⟩
      have yb := LB y (List.mem_of_getElem? hy)
      have zb := LB z (List.mem_of_getElem? hz)
      have RS' : Hid (rightTo m xs (k + 1) = (L.set T (y + v * r)).set F (z - v * r)) := by
        show _ = _
        rw [RS, ← hL]
        simp [List.getD, hy, hz]
      rw [← hL] at ho
      have HY := Lib.hid hy
      have HZ : Hid ((L.set T (y + v * r))[F]? = some z) := by show _ = _; rw [List.getElem?_set_ne ne]; exact hz
      unfold Bd at pb yb zb
      obtain ⟨P, hP⟩ : ∃ P, P = v * r := ⟨_, rfl⟩
      have q0 : IntKind.i64.wrap (v * r) = P := by rw [hP]; exact IntWalk.i64_in _ (by omega)
      rw [← hP] at pb RS' HZ
      have q1 : IntKind.i64.wrap (y + P) = y + P := IntWalk.i64_in _ (by omega)
      have q2 : IntKind.i64.wrap (z - P) = z - P := IntWalk.i64_in _ (by omega)
      have lbw := ho.out.lt
      have NS : Hid ((wr.alloc (.cells #[.int .i64 F, .int .i64 T, .int .i64 r, .int .i64 v] 32)).heap[wr.heap.size]? = some (.cells #[.int .i64 F, .int .i64 T, .int .i64 r, .int .i64 v] 32 (0, 0))) := heap_alloc_new wr _
      have AB : Below wr.heap.size wr (wr.alloc (.cells #[.int .i64 F, .int .i64 T, .int .i64 r, .int .i64 v] 32)) := by go_grown
      have L1 := Lib.hid (ho.out.later AB)
      have B3 : Hid (Below w.heap.size w (wr.alloc (.cells #[.int .i64 F, .int .i64 T, .int .i64 r, .int .i64 v] 32))) := B2.out.trans (AB.mono B2.out.size)
      have nbw := (Array.getElem?_eq_some_iff.1 NB.out).1
      have NB1 : Hid ((wr.alloc (.cells #[.int .i64 F, .int .i64 T, .int .i64 r, .int .i64 v] 32)).heap[w.heap.size]? = some (.cells #[.int .i64 m, .slice (some ⟨ba, oa, none⟩) n0 xc, .slice (some ⟨rb, 0, none⟩) m m, .int .i64 D] 63 (0, 0))) := (AB.block _ nbw).trans NB.out
      clear hx okx AB ho B2 hL LB yb zb pb RS hy hz hP NB C H MH
      go_upto_region 5 with (fail)
      generalize wr.alloc (.cells #[.int .i64 F, .int .i64 T, .int .i64 r, .int .i64 v] 32) = wa at *
      have wne : lb ≠ wr.heap.size := by omega
      go_cut [] (fun wx => Hid (Rw wx lb (L.set T (y + P))) ∧ Hid (wx.heap[wr.heap.size]? = some (.cells #[.int .i64 F, .int .i64 T, .int .i64 r, .int .i64 v] 32 (0, 0))) ∧ Hid (Below w.heap.size w wx) ∧ Hid (wx.heap[w.heap.size]? = some (.cells #[.int .i64 m, .slice (some ⟨ba, oa, none⟩) n0 xc, .slice (some ⟨rb, 0, none⟩) m m, .int .i64 D] 63 (0, 0))))
      case first =>
        obtain ⟨⟨s0, s1, s2, s3⟩, -, ls⟩ := boxSt_at (q := ⟨F, T, r, v⟩) NS.out
        simp only at s0 s1 s2 s3
        have c1 := L1.out.cell HY.out
        have f1 := L1.out.frozen T
        have MN : Hid (Rw (wa.setCell ⟨lb, T, none⟩ (.int .i64 (y + P))).drew lb (L.set T (y + P))) := L1.out.store T (y + P)
        have NN : Hid ((wa.setCell ⟨lb, T, none⟩ (.int .i64 (y + P))).drew.heap[wr.heap.size]? = some (.cells #[.int .i64 F, .int .i64 T, .int .i64 r, .int .i64 v] 32 (0, 0))) := (Below.heap_setCell _ _ _ _ (fun e => wne e.symm)).trans NS.out
        have BN : Hid (Below w.heap.size w (wa.setCell ⟨lb, T, none⟩ (.int .i64 (y + P))).drew) := (B3.out.setCell (p := ⟨lb, T, none⟩) (by show w.heap.size ≤ lb; omega) _).drew
        have KN : Hid ((wa.setCell ⟨lb, T, none⟩ (.int .i64 (y + P))).drew.heap[w.heap.size]? = some (.cells #[.int .i64 m, .slice (some ⟨ba, oa, none⟩) n0 xc, .slice (some ⟨rb, 0, none⟩) m m, .int .i64 D] 63 (0, 0))) := (Below.heap_setCell _ _ _ _ (by show w.heap.size ≠ lb; omega)).trans NB1.out
        clear L1 B3 NS NB1 HY HZ RS' LT OK E0
        go_wp2_with fail
        go_region
        go_wp2_with fail
        go_meet
        exact ⟨MN, NN, BN, KN⟩
      case rest =>
        clear L1 B3 NS NB1
        obtain ⟨w5, hwc⟩ : ∃ x, x = wc := ⟨_, rfl⟩
        rw [← hwc] at hcut ⊢; clear hwc
        obtain ⟨L2, NS2, B4, NB2⟩ := hcut
        obtain ⟨⟨s0, s1, s2, s3⟩, -, ls⟩ := boxSt_at (q := ⟨F, T, r, v⟩) NS2.out
        simp only at s0 s1 s2 s3
        have c1 := L2.out.cell HZ.out
        have f1 := L2.out.frozen F
        have MN : Hid (Rw (w5.setCell ⟨lb, F, none⟩ (.int .i64 (z - P))).drew lb (rightTo m xs (k + 1))) := by
          show Rw _ _ _
          rw [RS'.out]; exact L2.out.store F (z - P)
        have BN : Hid (Below w.heap.size w (w5.setCell ⟨lb, F, none⟩ (.int .i64 (z - P))).drew) := (B4.out.setCell (p := ⟨lb, F, none⟩) (by show w.heap.size ≤ lb; omega) _).drew
        have KN : Hid ((w5.setCell ⟨lb, F, none⟩ (.int .i64 (z - P))).drew.heap[w.heap.size]? = some (.cells #[.int .i64 m, .slice (some ⟨ba, oa, none⟩) n0 xc, .slice (some ⟨rb, 0, none⟩) m m, .int .i64 D] 63 (0, 0))) := (Below.heap_setCell _ _ _ _ (by show w.heap.size ≠ lb; omega)).trans NB2.out
        clear L2 B4 NS2 NB2 HY HZ RS'
        go_wp2_with fail
        go_region
        clear s0 s1 s2 s3 c1 f1
        generalize (w5.setCell ⟨lb, F, none⟩ (.int .i64 (z - P))).drew = w8 at *
        go_wp2
        exact ⟨⟨k + 1, by omega, by go_num, MN, BN, KN⟩, by simp only [intOf]; omega⟩
    · obtain rfl : k = n0 := by omega
      have y0 := cell_of_row wr w.heap.size 0 _ _ _ NB.out
      have y1 := cell_of_row wr w.heap.size 1 _ _ _ NB.out
      have y2 := cell_of_row wr w.heap.size 2 _ _ _ NB.out
      have y3 := cell_of_row wr w.heap.size 3 _ _ _ NB.out
      have lt := LT.out
      have CC := Lib.hid (C.out wr lb ⟨MH.out.of_blocks (B2.out.block _ lt.1) (fun k hk => B2.out.block _ (lt.2 k hk)), ho.out, by omega, fun h => by have := lt.2 lb h; omega⟩)
      have sz := B2.out.size
      clear C ho NB
      go_wp2_with fail
      refine CC.out.mono ?_
      rintro e w5 ⟨u, rfl, o5, g5⟩
      have O5 := Lib.hid (OwnI.mono o5 sz)
      have B5 : Hid (Below w.heap.size w w5) := B2.out.grown g5 sz (fun j e => by obtain rfl := Option.some.inj e; omega)
      clear o5 g5 CC y0 y1 y2 y3
      go_wp2
      go_ret
      exact ⟨_, rfl, O5.out, B5.out⟩

end Go.Proofs.YtcmocilojloolaaDoor
