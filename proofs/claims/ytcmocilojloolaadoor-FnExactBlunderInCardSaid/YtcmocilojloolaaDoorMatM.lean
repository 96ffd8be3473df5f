/- Rows of numbers that lie in blocks of just their size, and matrices of them. -/
import Derived.Test.YtcmocilojloolaaDoorSSY
import Derived.Test.YtcmocilojloolaaDoorLinB
import Derived.Test.YtcmocilojloolaaDoorPart
namespace Go.Proofs.YtcmocilojloolaaDoor
open Go.ChangeShapes Go.WideShapes Go.ChangeAt Go.RowKit
set_option linter.unusedVariables false
set_option linter.unusedSimpArgs false

/-- Block b is just the row r. -/
def Rw (w : World) (b : Nat) (r : List Int) : Prop := w.heap[b]? = some (.cells (r.map (Value.int .i64)).toArray 2 (0, 0))
theorem Rw.cell {w : World} {b j : Nat} {r : List Int} {x : Int} (h : Rw w b r) (hx : r[j]? = some x) : w.cell? ⟨b, j, none⟩ = some (.int .i64 x) := by
  rw [cell_of_row w b j _ _ _ h]; simp [hx]
theorem Rw.frozen {w : World} {b : Nat} {r : List Int} (h : Rw w b r) (j : Nat) : w.frozen? ⟨b, j, none⟩ = false := frozen_of_row w b j _ _ h
theorem Rw.lt {w : World} {b : Nat} {r : List Int} (h : Rw w b r) : b < w.heap.size := (Array.getElem?_eq_some_iff.1 h).1
theorem Rw.of {w w' : World} {b : Nat} {r : List Int} (h : Rw w b r) (e : w'.heap[b]? = w.heap[b]?) : Rw w' b r := e.trans h
theorem Rw.later {w w' : World} {b : Nat} {r : List Int} (h : Rw w b r) (e : Below w.heap.size w w') : Rw w' b r := h.of (e.block b h.lt)
theorem Rw.store {w : World} {b : Nat} {r : List Int} (h : Rw w b r) (j : Nat) (x : Int) : Rw (w.setCell ⟨b, j, none⟩ (.int .i64 x)) b (r.set j x) := by
  have e := heap_setCell_same w b j _ _ (.int .i64 x) h
  show _ = _
  rw [e]
  simp [List.map_set]
theorem Rw.rd {w : World} {b n c : Nat} {r : List Int} (h : Rw w b r) (hn : n = r.length) : RdI w (.slice (some ⟨b, 0, none⟩) n c) r := by
  subst hn
  exact ⟨_, c, rfl, .inr ⟨b, 0, rfl, fun i x hx => by rw [Nat.zero_add]; exact h.cell hx⟩⟩
theorem Rw.own {w : World} {b n B : Nat} {r : List Int} (h : Rw w b r) (hn : n = r.length) (hB : B ≤ b) (l : n ≤ 1000) : OwnI w B (.slice (some ⟨b, 0, none⟩) n n) r := by
  subst hn
  exact ⟨by simp, .inr ⟨b, r.length, _, rfl, hB, h, Nat.le_refl _, by unfold maxLen; omega, by simp, by rw [Nat.mul_one]; exact List.take_of_length_le (by simp)⟩⟩
theorem exact_row {w : World} {B g n : Nat} {e : TypeId} {xs : List Value} (h : w.ownsRow B e 1 (.slice (some ⟨g, 0, none⟩) n n) n xs) : B ≤ g ∧ w.heap[g]? = some (.cells xs.toArray e (0, 0)) := by
  obtain ⟨h1, h2 | ⟨g', cap, cur, hv, h3, h4, h5, h6, h7, h8⟩⟩ := h
  · simp at h2
  · simp only [Value.slice.injEq, Option.some.injEq, Addr.mk.injEq, and_true, true_and] at hv
    obtain ⟨rfl, rfl⟩ := hv
    refine ⟨h3, ?_⟩
    rw [h4]
    have : cur = xs.toArray := by
      apply Array.toList_inj.1
      rw [← h8, List.take_of_length_le (by simp [h7])]
    rw [this]
theorem Rw.of_own {w : World} {B g n : Nat} {r : List Int} (hn : n = r.length) (h : OwnI w B (.slice (some ⟨g, 0, none⟩) n n) r) : B ≤ g ∧ Rw w g r := by
  subst hn
  exact exact_row h
theorem Rw.made {w : World} {B g n : Nat} (h : w.ownsRow B 2 1 (.slice (some ⟨g, 0, none⟩) n n) n (List.replicate n (.int .i64 0))) : B ≤ g ∧ Rw w g (List.replicate n 0) := by
  have := exact_row h
  unfold Rw
  rwa [List.map_replicate]

/-- The header of rows that lie in the blocks bs, each of m numbers. -/
def hdV (m : Nat) (bs : List Nat) : List Value := bs.map fun b => Value.slice (some ⟨b, 0, none⟩) m m
/-- A matrix of one's own: the header in block rb, the rows in the blocks bs. -/
structure Mx (w : World) (B rb : Nat) (bs : List Nat) (m : Nat) (R : List (List Int)) : Prop where
  hd : w.heap[rb]? = some (.cells (hdV m bs).toArray 28 (0, 0))
  rl : R.length = bs.length
  row : ∀ (i b : Nat) (r : List Int), bs[i]? = some b → R[i]? = some r → Rw w b r ∧ r.length = m
  ge : B ≤ rb
  gt : ∀ b ∈ bs, rb < b
  inj : ∀ (i j b : Nat), bs[i]? = some b → bs[j]? = some b → i = j

theorem Mx.lt {w : World} {B rb m : Nat} {bs : List Nat} {R : List (List Int)} (h : Mx w B rb bs m R) : rb < w.heap.size := (Array.getElem?_eq_some_iff.1 h.hd).1
theorem Mx.pair {w : World} {B rb m : Nat} {bs : List Nat} {R : List (List Int)} (h : Mx w B rb bs m R) {i : Nat} (hi : i < bs.length) : ∃ b r, bs[i]? = some b ∧ R[i]? = some r ∧ Rw w b r ∧ r.length = m ∧ rb < b := by
  have e1 : bs[i]? = some bs[i] := List.getElem?_eq_getElem hi
  have e2 : R[i]? = some (R[i]'(by rw [h.rl]; exact hi)) := List.getElem?_eq_getElem _
  exact ⟨_, _, e1, e2, (h.row i _ _ e1 e2).1, (h.row i _ _ e1 e2).2, h.gt _ (List.getElem_mem hi)⟩
theorem Mx.blt {w : World} {B rb m : Nat} {bs : List Nat} {R : List (List Int)} (h : Mx w B rb bs m R) : ∀ b ∈ bs, b < w.heap.size := by
  intro b hb
  obtain ⟨i, hi⟩ := List.mem_iff_getElem?.1 hb
  obtain ⟨b', r, e1, -, h1, -, -⟩ := h.pair (List.getElem?_eq_some_iff.1 hi).1
  rw [hi] at e1
  obtain rfl := Option.some.inj e1
  exact h1.lt
theorem Mx.head {w : World} {B rb m : Nat} {bs : List Nat} {R : List (List Int)} (h : Mx w B rb bs m R) {i b : Nat} (hb : bs[i]? = some b) : w.cell? ⟨rb, i, none⟩ = some (.slice (some ⟨b, 0, none⟩) m m) := by
  rw [cell_of_row w rb i _ _ _ h.hd]; simp [hdV, hb]
theorem Mx.of_blocks {w w' : World} {B rb m : Nat} {bs : List Nat} {R : List (List Int)} (h : Mx w B rb bs m R) (e0 : w'.heap[rb]? = w.heap[rb]?) (e : ∀ b ∈ bs, w'.heap[b]? = w.heap[b]?) : Mx w' B rb bs m R :=
  ⟨e0.trans h.hd, h.rl, fun i b r hb hr => ⟨(h.row i b r hb hr).1.of (e b (List.mem_of_getElem? hb)), (h.row i b r hb hr).2⟩, h.ge, h.gt, h.inj⟩
theorem Mx.later {w w' : World} {B rb m : Nat} {bs : List Nat} {R : List (List Int)} (h : Mx w B rb bs m R) (e : Below w.heap.size w w') : Mx w' B rb bs m R :=
  h.of_blocks (e.block _ h.lt) (fun b hb => e.block _ (h.blt b hb))
theorem Mx.drew {w : World} {B rb m : Nat} {bs : List Nat} {R : List (List Int)} (h : Mx w B rb bs m R) : Mx w.drew B rb bs m R := h.of_blocks rfl (fun _ _ => rfl)
/-- A store of a number. -/
theorem Mx.store {w : World} {B rb m : Nat} {bs : List Nat} {R : List (List Int)} (h : Mx w B rb bs m R) {i b : Nat} {r : List Int} (hb : bs[i]? = some b) (hr : R[i]? = some r) (j : Nat) (x : Int) :
    Mx (w.setCell ⟨b, j, none⟩ (.int .i64 x)) B rb bs m (R.set i (r.set j x)) := by
  have hi : i < R.length := (List.getElem?_eq_some_iff.1 hr).1
  refine ⟨?_, by rw [List.length_set]; exact h.rl, ?_, h.ge, h.gt, h.inj⟩
  · rw [Below.heap_setCell _ _ _ _ (by have := h.gt b (List.mem_of_getElem? hb); show rb ≠ b; omega)]
    exact h.hd
  · intro i' b' r' hb' hr'
    by_cases e : i' = i
    · subst e
      rw [hb] at hb'
      obtain rfl := Option.some.inj hb'
      rw [List.getElem?_set_self hi] at hr'
      obtain rfl := Option.some.inj hr'
      exact ⟨(h.row _ _ _ hb hr).1.store j x, by rw [List.length_set]; exact (h.row _ _ _ hb hr).2⟩
    · rw [List.getElem?_set_ne (by omega)] at hr'
      obtain ⟨h1, h2⟩ := h.row _ _ _ hb' hr'
      refine ⟨h1.of (Below.heap_setCell _ _ _ _ ?_), h2⟩
      intro c
      have c : b' = b := c
      subst c
      exact e (h.inj _ _ _ hb' hb)
theorem Mx.below {w : World} {B N rb m : Nat} {bs : List Nat} {R : List (List Int)} (h : Mx w B rb bs m R) {w0 : World} (B0 : Below N w0 w) (hN : N ≤ B) {i b : Nat} (hb : bs[i]? = some b) (j : Nat) (x : Int) : Below N w0 (w.setCell ⟨b, j, none⟩ (.int .i64 x)) :=
  B0.setCell (p := ⟨b, j, none⟩) (by have := h.gt b (List.mem_of_getElem? hb); have := h.ge; show N ≤ b; omega) _

/-- The rows, as they are read. -/
def slsOf (m : Nat) (bs : List Nat) (R : List (List Int)) : List Sl := List.zipWith (fun b r => ⟨some ⟨b, 0, none⟩, m, r⟩) bs R
theorem slsOf_t {m : Nat} {bs : List Nat} {R : List (List Int)} (h : R.length = bs.length) : (slsOf m bs R).map Sl.t = R := by
  refine List.ext_getElem? fun i => ?_
  simp only [slsOf, List.getElem?_map, List.getElem?_zipWith]
  by_cases hi : i < R.length
  · rw [List.getElem?_eq_getElem hi, List.getElem?_eq_getElem (by omega)]; rfl
  · rw [List.getElem?_eq_none (by omega : R.length ≤ i), List.getElem?_eq_none (by omega : bs.length ≤ i)]; rfl
theorem slsOf_len {m : Nat} {bs : List Nat} {R : List (List Int)} (h : R.length = bs.length) : (slsOf m bs R).length = bs.length := by simp [slsOf, h]
theorem Mx.rd {w : World} {B rb m n : Nat} {bs : List Nat} {R : List (List Int)} (h : Mx w B rb bs m R) (hn : n = bs.length) : RdSS w (.slice (some ⟨rb, 0, none⟩) n n) (slsOf m bs R) := by
  have key : ∀ (i : Nat) (x : Sl), (slsOf m bs R)[i]? = some x → ∃ b r, bs[i]? = some b ∧ R[i]? = some r ∧ x = ⟨some ⟨b, 0, none⟩, m, r⟩ := by
    intro i x hx
    simp only [slsOf, List.getElem?_zipWith] at hx
    cases e1 : bs[i]? with
    | none => rw [e1] at hx; simp at hx
    | some b =>
      cases e2 : R[i]? with
      | none => rw [e1, e2] at hx; simp at hx
      | some r =>
        rw [e1, e2] at hx
        exact ⟨b, r, rfl, rfl, (Option.some.inj hx).symm⟩
  refine ⟨⟨_, n, by rw [slsOf_len h.rl, hn], .inr ⟨rb, 0, rfl, fun i x hx j u hu => ?_⟩⟩, fun x hx => ?_⟩
  · obtain ⟨b, r, e1, e2, rfl⟩ := key i x hx
    have hj : j = 0 := by
      have := (List.getElem?_eq_some_iff.1 hu).1
      simp [encSl] at this; omega
    subst hj
    have hu2 : u = .slice (some ⟨b, 0, none⟩) m m := by
      simp only [encSl, List.getElem?_cons_zero, Option.some.injEq] at hu
      rw [← hu, (h.row _ _ _ e1 e2).2]
    rw [Nat.zero_add, Nat.mul_one, Nat.add_zero, hu2]
    exact h.head e1
  · obtain ⟨i, hi⟩ := List.mem_iff_getElem?.1 hx
    obtain ⟨b, r, e1, e2, rfl⟩ := key i x hi
    obtain ⟨h1, h2⟩ := h.row _ _ _ e1 e2
    exact h1.rd (by rfl)

/-- A matrix by its numbers. -/
def mat (n m : Nat) (f : Nat → Nat → Int) : List (List Int) := (List.range n).map fun i => (List.range m).map (f i)
theorem mat_len (n m : Nat) (f : Nat → Nat → Int) : (mat n m f).length = n := by simp [mat]
theorem mat_get {n m : Nat} {f : Nat → Nat → Int} {i : Nat} (hi : i < n) : (mat n m f)[i]? = some ((List.range m).map (f i)) := by simp [mat, hi]
theorem rowf_get {m : Nat} {g : Nat → Int} {j : Nat} (hj : j < m) : ((List.range m).map g)[j]? = some (g j) := by simp [hj]
def upd (f : Nat → Nat → Int) (i j : Nat) (x : Int) : Nat → Nat → Int := fun a b => if a = i ∧ b = j then x else f a b
theorem mat_set (n m : Nat) (f : Nat → Nat → Int) (i j : Nat) (x : Int) : (mat n m f).set i (((List.range m).map (f i)).set j x) = mat n m (upd f i j x) := by
  refine List.ext_getElem? fun a => ?_
  by_cases ha : a < n
  · rw [mat_get ha]
    by_cases e : a = i
    · subst e
      rw [List.getElem?_set_self (by rw [mat_len]; exact ha)]
      congr 1
      refine List.ext_getElem? fun b => ?_
      by_cases hb : b < m
      · rw [rowf_get hb]
        by_cases e : b = j
        · subst e
          rw [List.getElem?_set_self (by simpa using hb)]; simp [upd]
        · rw [List.getElem?_set_ne (by omega), rowf_get hb]; simp [upd, e]
      · rw [List.getElem?_eq_none (by simp; omega), List.getElem?_eq_none (by simp; omega)]
    · rw [List.getElem?_set_ne (by omega), mat_get ha]
      congr 1
      refine List.map_congr_left fun b _ => ?_
      simp [upd, e]
  · rw [List.getElem?_eq_none (by rw [List.length_set, mat_len]; omega), List.getElem?_eq_none (by rw [mat_len]; omega)]
theorem mat_row {n m : Nat} {f : Nat → Nat → Int} : ∀ r ∈ mat n m f, r.length = m := by
  intro r hr
  simp only [mat, List.mem_map] at hr
  obtain ⟨i, -, rfl⟩ := hr
  simp
theorem mat_congr {n m : Nat} {f g : Nat → Nat → Int} (h : ∀ i j, i < n → j < m → f i j = g i j) : mat n m f = mat n m g := by
  unfold mat
  refine List.map_congr_left fun i hi => List.map_congr_left fun j hj => ?_
  exact h i j (List.mem_range.1 hi) (List.mem_range.1 hj)
theorem mat_zero (n m : Nat) : mat n m (fun _ _ => 0) = List.replicate n (List.replicate m 0) := by
  unfold mat
  rw [List.map_const', List.length_range, List.map_const', List.length_range]
/-- The cells of a place, and what a store there leaves. -/
theorem Mx.atf {w : World} {B rb n m : Nat} {bs : List Nat} {f : Nat → Nat → Int} (h : Mx w B rb bs m (mat n m f)) {i j : Nat} (hi : i < n) (hj : j < m) :
    ∃ b, bs[i]? = some b ∧ w.cell? ⟨rb, i, none⟩ = some (.slice (some ⟨b, 0, none⟩) m m) ∧ w.cell? ⟨b, j, none⟩ = some (.int .i64 (f i j)) ∧ w.frozen? ⟨b, j, none⟩ = false ∧ rb < b ∧ b < w.heap.size ∧
      ∀ x, Mx (w.setCell ⟨b, j, none⟩ (.int .i64 x)) B rb bs m (mat n m (upd f i j x)) := by
  obtain ⟨b, r, e1, e2, h1, h2, h3⟩ := h.pair (i := i) (by rw [← h.rl, mat_len]; exact hi)
  rw [mat_get hi] at e2
  obtain rfl := Option.some.inj e2
  refine ⟨b, e1, h.head e1, h1.cell (rowf_get hj), h1.frozen j, h3, h1.lt, fun x => ?_⟩
  have := h.store e1 (mat_get hi) j x
  rwa [mat_set] at this

/-- The normal matrix, by its numbers. -/
def nrmF (xs : List St) (i j : Nat) : Int := if i = 0 then (if j = 0 then 1 else 0) else lapE xs i j
theorem rowsP_mat (n : Nat) (xs : List St) : rowsP n xs = mat (n + 1) (n + 1) (nrmF xs) := by
  unfold rowsP mat
  refine List.map_congr_left fun i hi => ?_
  by_cases h : i = 0
  · subst h
    rw [if_pos rfl]
    refine List.ext_getElem? fun j => ?_
    by_cases hj : j < n + 1
    · rw [rowf_get hj]
      cases j with
      | zero => simp [nrmF]
      | succ j => rw [List.getElem?_cons_succ, List.getElem?_replicate, if_pos (by omega)]; simp [nrmF]
    · rw [List.getElem?_eq_none (by simp; omega), List.getElem?_eq_none (by simp; omega)]
  · rw [if_neg h]
    refine List.map_congr_left fun j _ => ?_
    simp [nrmF, h]
theorem lapE_take {xs : List St} {k : Nat} {x : St} (h : xs[k]? = some x) (i j : Int) : lapE (xs.take (k + 1)) i j = lapE (xs.take k) i j + lapC x i j := by
  have app : ∀ (a b : List St), lapE (a ++ b) i j = lapE a i j + lapE b i j := by
    intro a b
    induction a with
    | nil => simp [lapE]
    | cons y ys ih => simp only [List.cons_append, lapE, ih]; omega
  rw [List.take_add_one, h, app]
  simp [lapE]
end Go.Proofs.YtcmocilojloolaaDoor
