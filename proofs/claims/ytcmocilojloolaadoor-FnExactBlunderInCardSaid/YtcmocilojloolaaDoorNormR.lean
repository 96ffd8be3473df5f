/- The normal matrix of a survey: of the program. -/
import Derived.Test.YtcmocilojloolaaDoorMatM
import Derived.Test.YtcmocilojloolaaDoorConnI
import Derived.BigRegion
import Derived.Deep.DeepCutAuto
namespace Go.Proofs.YtcmocilojloolaaDoor
open Go.ChangeShapes Go.WideShapes Go.ChangeAt Go.RowKit
set_option linter.unusedVariables false
set_option linter.unusedSimpArgs false

/-- A matrix of which the first rows are made. -/
structure Hx (w : World) (B rb : Nat) (bs : List Nat) (m k : Nat) : Prop where
  hd : w.heap[rb]? = some (.cells (hdV m bs ++ List.replicate (m - k) (Value.slice none 0 0)).toArray 28 (0, 0))
  bl : bs.length = k
  row : ∀ b ∈ bs, Rw w b (List.replicate m 0)
  ge : B ≤ rb
  gt : ∀ b ∈ bs, rb < b
  inj : ∀ (i j b : Nat), bs[i]? = some b → bs[j]? = some b → i = j
theorem Hx.cell {w : World} {B rb m k : Nat} {bs : List Nat} (h : Hx w B rb bs m k) (hk : k < m) : w.cell? ⟨rb, k, none⟩ = some (.slice none 0 0) ∧ w.frozen? ⟨rb, k, none⟩ = false := by
  refine ⟨?_, frozen_of_row w rb k _ _ h.hd⟩
  rw [cell_of_row w rb k _ _ _ h.hd]
  have e : (hdV m bs).length = k := by simp [hdV, h.bl]
  rw [List.getElem?_toArray, List.getElem?_append_right (by omega), e, Nat.sub_self, List.getElem?_replicate, if_pos (by omega)]
theorem Hx.push {w w2 : World} {B rb m k g : Nat} {bs : List Nat} (h : Hx w B rb bs m k) (hk : k < m) (hg : w.grownBy w2 none) (hb : w.heap.size ≤ g) (hr : Rw w2 g (List.replicate m 0)) :
    Hx (w2.setCell ⟨rb, k, none⟩ (.slice (some ⟨g, 0, none⟩) m m)) B rb (bs ++ [g]) m (k + 1) := by
  have lr : rb < w.heap.size := (Array.getElem?_eq_some_iff.1 h.hd).1
  have h2 : w2.heap[rb]? = _ := (hg.block rb lr (fun e => by cases e)).trans h.hd
  have hlt : ∀ b ∈ bs, b < w.heap.size := fun b hb => (h.row b hb).lt
  refine ⟨?_, by simp [h.bl], ?_, h.ge, ?_, ?_⟩
  · rw [heap_setCell_same w2 rb k _ _ _ h2]
    have e : (hdV m bs).length = k := by simp [hdV, h.bl]
    congr 2
    rw [List.setIfInBounds_toArray]
    congr 1
    rw [List.set_append_right _ _ (by omega), e, Nat.sub_self, show m - k = (m - (k + 1)) + 1 by omega, List.replicate_succ, List.set_cons_zero]
    simp [hdV]
  · intro b hb'
    rcases List.mem_append.1 hb' with h' | h'
    · refine (h.row b h').of ?_
      rw [Below.heap_setCell _ _ _ _ (by have := h.gt b h'; show b ≠ rb; omega)]
      exact hg.block b (hlt b h') (fun e => by cases e)
    · obtain rfl : b = g := by simpa using h'
      exact hr.of (Below.heap_setCell _ _ _ _ (by show b ≠ rb; omega))
  · intro b hb'
    rcases List.mem_append.1 hb' with h' | h'
    · exact h.gt b h'
    · obtain rfl : b = g := by simpa using h'
      omega
  · intro i j b hi hj
    have key : ∀ i, (bs ++ [g])[i]? = some b → (i < k ∧ bs[i]? = some b ∧ b < w.heap.size) ∨ (i = k ∧ w.heap.size ≤ b) := by
      intro i hi
      by_cases hi' : i < bs.length
      · rw [List.getElem?_append_left hi'] at hi
        exact .inl ⟨by have := h.bl; omega, hi, hlt b (List.mem_of_getElem? hi)⟩
      · have hi2 : i < bs.length + 1 := by have := (List.getElem?_eq_some_iff.1 hi).1; simpa using this
        obtain rfl : i = bs.length := by omega
        rw [List.getElem?_append_right (Nat.le_refl _), Nat.sub_self] at hi
        obtain rfl := Option.some.inj hi
        exact .inr ⟨h.bl, hb⟩
    rcases key i hi with ⟨a1, a2, a3⟩ | ⟨a1, a2⟩
    · rcases key j hj with ⟨b1, b2, b3⟩ | ⟨b1, b2⟩
      · exact h.inj i j b a2 b2
      · omega
    · rcases key j hj with ⟨b1, b2, b3⟩ | ⟨b1, b2⟩
      · omega
      · omega
theorem Hx.later {w w' : World} {B rb m k : Nat} {bs : List Nat} (h : Hx w B rb bs m k) (e : Below w.heap.size w w') : Hx w' B rb bs m k :=
  ⟨(e.block _ (Array.getElem?_eq_some_iff.1 h.hd).1).trans h.hd, h.bl, fun b hb => (h.row b hb).later e, h.ge, h.gt, h.inj⟩
theorem Hx.full {w : World} {B rb m : Nat} {bs : List Nat} (h : Hx w B rb bs m m) : Mx w B rb bs m (mat m m (fun _ _ => 0)) := by
  refine ⟨by have := h.hd; rwa [Nat.sub_self, List.replicate_zero, List.append_nil] at this, by rw [mat_len, h.bl], ?_, h.ge, h.gt, h.inj⟩
  intro i b r hb hr
  rw [mat_zero, List.getElem?_replicate] at hr
  split at hr
  · obtain rfl := Option.some.inj hr
    exact ⟨h.row b (List.mem_of_getElem? hb), by simp⟩
  · cases hr

/-- What the four stores of a sight leave. -/
theorem lap_upd {E : Nat → Nat → Int} {x : St} {F T : Nat} (hf : x.f = F) (ht : x.t = T) (hne : F ≠ T) :
    upd (upd (upd (upd E F F (E F F + x.v)) T T (E T T + x.v)) F T (E F T - x.v)) T F (E T F - x.v) = fun i j => E i j + lapC x i j := by
  funext i j
  unfold upd lapC
  rw [hf, ht]
  by_cases a1 : i = F <;> by_cases a2 : i = T <;> by_cases b1 : j = F <;> by_cases b2 : j = T <;> simp_all <;> omega
def lapF (xs : List St) (i j : Nat) : Int := lapE xs i j

def clr (r : List Int) (o : Nat) : Nat → List Int
  | 0 => r
  | k + 1 => clr (r.set o 0) (o + 1) k
theorem clr_get (k : Nat) : ∀ (r : List Int) (o j : Nat), (clr r o k)[j]? = if o ≤ j ∧ j < o + k then (if j < r.length then some 0 else none) else r[j]? := by
  induction k with
  | zero => intro r o j; rw [if_neg (by omega)]; rfl
  | succ k ih =>
    intro r o j
    show (clr (r.set o 0) (o + 1) k)[j]? = _
    rw [ih, List.length_set]
    by_cases h1 : o + 1 ≤ j ∧ j < o + 1 + k
    · have c : o ≤ j ∧ j < o + (k + 1) := by omega
      rw [if_pos h1, if_pos c]
    · rw [if_neg h1]
      by_cases h2 : j = o
      · subst h2
        have c : j ≤ j ∧ j < j + (k + 1) := by omega
        rw [if_pos c]
        by_cases h3 : j < r.length
        · rw [List.getElem?_set_self h3, if_pos h3]
        · rw [if_neg h3, List.getElem?_eq_none (by rw [List.length_set]; omega)]
      · have c : ¬ (o ≤ j ∧ j < o + (k + 1)) := by omega
        rw [if_neg c, List.getElem?_set_ne (by omega)]
theorem clr_all (r : List Int) : clr r 0 r.length = List.replicate r.length 0 := by
  refine List.ext_getElem? fun j => ?_
  rw [clr_get, List.getElem?_replicate]
  by_cases h : j < r.length
  · have c : 0 ≤ j ∧ j < 0 + r.length := by omega
    rw [if_pos c]
  · have c : ¬ (0 ≤ j ∧ j < 0 + r.length) := by omega
    rw [if_neg c, if_neg h, List.getElem?_eq_none (by omega)]
theorem Rw.cleared (k : Nat) : ∀ (w : World) (b o : Nat) (r : List Int), Rw w b r → Rw (w.setCells b o (List.replicate k (.int .i64 0))) b (clr r o k) := by
  induction k with
  | zero => intro w b o r h; exact h
  | succ k ih => intro w b o r h; exact ih _ b (o + 1) _ (h.store o 0)
theorem heap_setCells (vs : List Value) : ∀ (w : World) (b o j : Nat), j ≠ b → (w.setCells b o vs).heap[j]? = w.heap[j]? := by
  induction vs with
  | nil => intro w b o j h; rfl
  | cons v vs ih => intro w b o j h; exact (ih _ b (o + 1) j h).trans (Below.heap_setCell _ _ _ _ h)
theorem below_setCells (vs : List Value) : ∀ (w0 w : World) (N b o : Nat), N ≤ b → Below N w0 w → Below N w0 (w.setCells b o vs) := by
  induction vs with
  | nil => intro w0 w N b o h k; exact k
  | cons v vs ih => intro w0 w N b o h k; exact ih _ _ _ b (o + 1) h (k.setCell (p := ⟨b, o, none⟩) h _)
theorem clear5_run (w : World) (b k c : Nat) (r : List Int) (hk : 1 ≤ k) (hr : Rw w b r) (hl : r.length = k) :
    (Builtin.clear_ #[28] 0 #[.slice (some ⟨b, 0, none⟩) k c]).run Tryd.prog w = .ok (.tuple #[]) (w.setCells b 0 (List.replicate k (.int .i64 0))) := by
  obtain ⟨i0, hi, hz0, hz1, hz2⟩ := info_parts info_i64
  have h := run_storeCells_cells (P := Tryd.prog) b 0 (List.replicate k (.int .i64 0)) 0 w (fun j hj => by
    rw [List.length_replicate] at hj
    obtain ⟨x, hx⟩ : ∃ x, r[j]? = some x := ⟨_, List.getElem?_eq_getElem (by omega)⟩
    rw [Nat.zero_add, hr.cell hx]; rfl) (fun j hj => by rw [Nat.zero_add]; exact hr.frozen j) (fun v hv => by rw [List.eq_of_mem_replicate hv]; rfl)
  obtain ⟨k', rfl⟩ : ∃ k', k = k' + 1 := ⟨k - 1, by omega⟩
  have hz : Builtin.zeroCells (Value.cells (.int .i64 0)) (k' + 1) = (List.replicate (k' + 1) (Value.int .i64 0)).toArray := by
    apply Array.ext
    · simp [Builtin.zeroCells, Value.cells]
    · intro i h1 h2
      simp [Builtin.zeroCells, Value.cells, Nat.mod_one]
  simp only [Nat.add_zero] at h
  simp [Builtin.clear_, run_underlying Tryd.underlying28, zeroValue, typeInfo, hi, hz0, Result.andThen]
  rw [hz]
  simp only [h]
theorem Mx.put {w w' : World} {B rb m i b : Nat} {bs : List Nat} {R : List (List Int)} {r r' : List Int} (h : Mx w B rb bs m R) (hb : bs[i]? = some b) (hr : R[i]? = some r) (h1 : Rw w' b r') (hl : r'.length = m) (h2 : ∀ j, j ≠ b → w'.heap[j]? = w.heap[j]?) : Mx w' B rb bs m (R.set i r') := by
  have hi : i < R.length := (List.getElem?_eq_some_iff.1 hr).1
  refine ⟨(h2 rb (by have := h.gt b (List.mem_of_getElem? hb); omega)).trans h.hd, by rw [List.length_set]; exact h.rl, ?_, h.ge, h.gt, h.inj⟩
  intro i' b' q hb' hq
  by_cases e : i' = i
  · subst e
    rw [hb] at hb'
    obtain rfl := Option.some.inj hb'
    rw [List.getElem?_set_self hi] at hq
    obtain rfl := Option.some.inj hq
    exact ⟨h1, hl⟩
  · rw [List.getElem?_set_ne (by omega)] at hq
    obtain ⟨k1, k2⟩ := h.row _ _ _ hb' hq
    exact ⟨k1.of (h2 b' (fun c => by subst c; exact e (h.inj _ _ _ hb' hb))), k2⟩
theorem rowsP_fin (k : Nat) (hk : 1 ≤ k) (xs : List St) : ((mat k k (lapF xs)).set 0 (List.replicate k 0)).set 0 ((List.replicate k 0).set 0 1) = rowsP (k - 1) xs := by
  obtain ⟨n, rfl⟩ : ∃ n, k = n + 1 := ⟨k - 1, by omega⟩
  rw [Nat.add_sub_cancel, rowsP_mat, List.set_set]
  refine List.ext_getElem? fun i => ?_
  cases i with
  | zero =>
    rw [List.getElem?_set_self (by rw [mat_len]; omega), mat_get (by omega), List.replicate_succ, List.set_cons_zero]
    congr 1
    refine List.ext_getElem? fun j => ?_
    by_cases hj : j < n + 1
    · rw [rowf_get hj]
      cases j with
      | zero => simp [nrmF]
      | succ j => rw [List.getElem?_cons_succ, List.getElem?_replicate, if_pos (by omega)]; simp [nrmF]
    · rw [List.getElem?_eq_none (by simp; omega), List.getElem?_eq_none (by simp; omega)]
  | succ i =>
    rw [List.getElem?_set_ne (by omega)]
    by_cases hi : i + 1 < n + 1
    · rw [mat_get hi, mat_get hi]
      congr 1
    · rw [List.getElem?_eq_none (by rw [mat_len]; omega), List.getElem?_eq_none (by rw [mat_len]; omega)]

set_option maxRecDepth 100000 in
set_option maxHeartbeats 16000000 in
theorem normalRows_any (m n0 : Nat) (xa : Option Addr) (xc : Nat) (xs : List St) (w : World) (hr : RdS 4 encSt w (.slice xa n0 xc) xs) (e0 : n0 = xs.length) (l8 : n0 ≤ 8) (ok : ∀ x ∈ xs, OkSt m x) (hm : 2 ≤ m ∧ m ≤ 5) :
    Calls Tryd.prog 100 #[.agg #[.int .i64 m, .slice xa n0 xc]] w fun e w' => ∃ (rb : Nat) (bs : List Nat), e = .returned (.slice (some ⟨rb, 0, none⟩) m m) ∧ bs.length = m ∧ Mx w' w.heap.size rb bs m (rowsP (m - 1) xs) ∧ Below w.heap.size w w' := by
  obtain ⟨i0, hi, hz0, hz1, hz2⟩ := info_parts info_i64
  obtain ⟨i1, ki, kz0, kz1, kz2⟩ := info_parts info_SlS
  have H := Lib.hid hr
  have E0 := Lib.hid e0
  have OK := Lib.hid ok
  have W1 : Hid ((w.alloc (.cells #[.int .i64 m, .slice xa n0 xc] 26)).heap[w.heap.size]? = some (.cells #[.int .i64 m, .slice xa n0 xc] 26 (0, 0))) := heap_alloc_new w _
  have W2 : Hid (Below w.heap.size w (w.alloc (.cells #[.int .i64 m, .slice xa n0 xc] 26))) := by show Below _ _ _; go_grown
  have W3 : (w.alloc (.cells #[.int .i64 m, .slice xa n0 xc] 26)).heap.size = w.heap.size + 1 := by simp
  clear hr e0 ok
  go_enter Tryd.func100, Tryd.ntmps100
  go_upto_region 1 with (fail)
  generalize w.alloc (.cells #[.int .i64 m, .slice xa n0 xc] 26) = w0 at *
  obtain ⟨⟨p0, p1⟩, -, -⟩ := boxedSv_at W1.out
  go_wp2_with (first | (at_make; refine wpList_make_full _ rfl _ _ _ rfl w0.heap.size 28 i1 (.slice none 0 0) 1 Tryd.underlying61 ki kz0 kz1 .i64 .i64 _ _ m rfl rfl rfl rfl ?b2 ?b3 (Nat.le_refl _) ?_) | go_in)
  case b2 => rw [kz2]; omega
  case b3 => unfold maxLen; omega
  intro w1 hown hg
  rw [toList_madeCells_one] at hown
  obtain ⟨rb, hrb⟩ : ∃ rb, rb = w.heap.size + 1 := ⟨_, rfl⟩
  rw [← hrb] at hown ⊢
  have O1 : Hid (Hx w1 w.heap.size rb [] m 0) := ⟨(exact_row hown).2, rfl, fun b h => by simp at h, by omega, fun b h => by simp at h, fun i j b h => by simp at h⟩
  have B1 : Hid (Below w0.heap.size w0 w1) := (Below.refl _ _).grown hg (Nat.le_refl _) (fun k h => by cases h)
  have V1 := Lib.hid ((B1.out.block w.heap.size (by omega)).trans W1.out)
  have V2 : Hid (Below w.heap.size w w1) := W2.out.trans (B1.out.mono (by omega))
  have rl : w.heap.size < rb := by omega
  clear hown hg B1 W1 W2 W3 hrb p0 p1
  go_wp2
  go_loopw [12] (fun i wr => ∃ (k : Nat) (bs : List Nat), k ≤ m ∧ i = .int .i64 k ∧ Hid (Hx wr w.heap.size rb bs m k) ∧ Hid (Below w.heap.size w wr) ∧ Hid (wr.heap[w.heap.size]? = some (.cells #[.int .i64 m, .slice xa n0 xc] 26 (0, 0)))) (fun i _ => m - (intOf i).toNat)
  case atStart => exact ⟨0, [], by omega, rfl, O1, V2, V1⟩
  case round =>
    obtain ⟨k, bs, hk, rfl, ho, B, V⟩ := hrel
    clear O1 V1 V2
    by_cases hlt : k < m
    · obtain ⟨⟨p0, p1⟩, -, lw⟩ := boxedSv_at V.out
      obtain ⟨wo, hwo⟩ : ∃ x, x = wr := ⟨_, rfl⟩
      subst hwo
      go_wp2_with (first | (at_make; refine wpList_make_full _ rfl _ _ _ rfl wo.heap.size 2 i0 (.int .i64 0) 1 Tryd.underlying28 hi hz0 hz1 .i64 .i64 _ _ m rfl rfl rfl rfl ?b2 ?b3 (Nat.le_refl _) ?_) | go_in)
      case b2 => rw [hz2]; omega
      case b3 => unfold maxLen; omega
      intro w2 hown hg
      rw [toList_madeCells_one] at hown
      have HP := Lib.hid (ho.out.push hlt hg (Nat.le_refl _) (Rw.made hown).2)
      have lr : rb < wo.heap.size := (Array.getElem?_eq_some_iff.1 ho.out.hd).1
      have c2 : w2.cell? ⟨rb, k, none⟩ = some (.slice none 0 0) := (World.cell?_of_block (w := wo) (a := ⟨rb, k, none⟩) (hg.block rb lr (fun e => by cases e))).trans (ho.out.cell hlt).1
      have f2 : w2.frozen? ⟨rb, k, none⟩ = false := frozen_of_row w2 rb k _ _ ((hg.block rb lr (fun e => by cases e)).trans ho.out.hd)
      have BE : Hid (Below w.heap.size w (w2.setCell ⟨rb, k, none⟩ (.slice (some ⟨wo.heap.size, 0, none⟩) m m))) := (B.out.grown hg B.out.size (fun k h => by cases h)).setCell (p := ⟨rb, k, none⟩) (by show w.heap.size ≤ rb; omega) _
      have VE : Hid ((w2.setCell ⟨rb, k, none⟩ (.slice (some ⟨wo.heap.size, 0, none⟩) m m)).heap[w.heap.size]? = some (.cells #[.int .i64 m, .slice xa n0 xc] 26 (0, 0))) := by
        show _ = _
        rw [Below.heap_setCell _ _ _ _ (by show w.heap.size ≠ rb; omega)]
        exact (hg.block _ lw (fun e => by cases e)).trans V.out
      clear hown hg ho B V p0 p1
      go_wp2
      exact ⟨⟨k + 1, _, by omega, by go_num, HP, BE, VE⟩, by simp only [intOf]; omega⟩
    · obtain rfl : k = m := by omega
      have MX := Lib.hid ho.out.full
      obtain ⟨⟨p0, p1⟩, -, -⟩ := boxedSv_at V.out
      have bl := Lib.hid ho.out.bl
      have LP := Lib.hid (lapE_bd OK.out (by have := E0.out; omega))
      have MX0 : Hid (Mx wr w.heap.size rb bs k (mat k k (lapF (xs.take 0)))) := MX.out
      obtain ⟨wm, hwm⟩ : ∃ x, x = wr := ⟨_, rfl⟩
      subst hwm
      clear ho MX
      go_wp2
      go_loopw [25] (fun i wr => ∃ j : Nat, j ≤ n0 ∧ i = .int .i64 j ∧ Hid (Mx wr w.heap.size rb bs k (mat k k (lapF (xs.take j)))) ∧ Hid (Below w.heap.size w wr)) (fun i _ => n0 - (intOf i).toNat)
      case atStart => exact ⟨0, by omega, rfl, MX0, B⟩
      case round =>
        obtain ⟨j, hj, rfl, mx, B2⟩ := hrel
        clear MX0 B V p0 p1
        by_cases hlt2 : j < n0
        · obtain ⟨x, hx⟩ : ∃ x, xs[j]? = some x := ⟨_, List.getElem?_eq_getElem (by have := E0.out; omega)⟩
          have okx := OK.out x (List.mem_of_getElem? hx)
          obtain ⟨ba, oa, rfl, u0, u1, u2, u3⟩ := (H.out.later B2.out).at4g j x hx _ _ _ _ rfl
          have LT : Hid (∀ a b : Nat, lapF (xs.take (j + 1)) a b = lapF (xs.take j) a b + lapC x a b) := fun a b => lapE_take hx a b
          have LB : Hid (∀ a b : Nat, Bd 24 (lapF (xs.take j) a b)) := fun a b => lapE_bd (xs := xs.take j) (fun y hy => OK.out y (List.mem_of_mem_take hy)) (by rw [List.length_take]; omega) a b
          obtain ⟨f, t, r, v⟩ := x
          obtain ⟨F, hf⟩ : ∃ F : Nat, f = F := ⟨f.toNat, by have := okx.f0; simp only at this; omega⟩
          obtain ⟨T, ht⟩ : ∃ T : Nat, t = T := ⟨t.toNat, by have := okx.t0; simp only at this; omega⟩
          subst hf
          subst ht
          have Fn : F < k := by have := okx.f1; simp only at this; omega
          have Tn : T < k := by have := okx.t1; simp only at this; omega
          have ne : F ≠ T := by have := okx.ne; simp only at this; omega
          have v0 : 1 ≤ v := okx.v0
          have v1 : v ≤ 3 := okx.v1
          simp only at u0 u1 u2 u3
          have NS : Hid ((wr.alloc (.cells #[.int .i64 F, .int .i64 T, .int .i64 r, .int .i64 v] 32)).heap[wr.heap.size]? = some (.cells #[.int .i64 F, .int .i64 T, .int .i64 r, .int .i64 v] 32 (0, 0))) := heap_alloc_new wr _
          have AB : Below wr.heap.size wr (wr.alloc (.cells #[.int .i64 F, .int .i64 T, .int .i64 r, .int .i64 v] 32)) := by go_grown
          have M1 := Lib.hid (mx.out.later AB)
          have BL := Lib.hid mx.out.blt
          have B3 : Hid (Below w.heap.size w (wr.alloc (.cells #[.int .i64 F, .int .i64 T, .int .i64 r, .int .i64 v] 32))) := B2.out.trans (AB.mono B2.out.size)
          clear hx okx AB mx B2
          go_upto_region 10 with (fail)
          generalize wr.alloc (.cells #[.int .i64 F, .int .i64 T, .int .i64 r, .int .i64 v] 32) = wa at *
          obtain ⟨E, hE⟩ : ∃ E, E = lapF (xs.take j) := ⟨_, rfl⟩
          rw [← hE] at LT LB M1
          clear hE
          obtain ⟨E1, hE1⟩ : ∃ G, G = upd E F F (E F F + v) := ⟨_, rfl⟩
          obtain ⟨E2, hE2⟩ : ∃ G, G = upd E1 T T (E T T + v) := ⟨_, rfl⟩
          obtain ⟨E3, hE3⟩ : ∃ G, G = upd E2 F T (E F T - v) := ⟨_, rfl⟩
          obtain ⟨E4, hE4⟩ : ∃ G, G = upd E3 T F (E T F - v) := ⟨_, rfl⟩
          have v1 : Hid (E1 T T = E T T) := by show _ = _; rw [hE1]; simp [upd, ne, ne.symm]
          have v2 : Hid (E2 F T = E F T) := by show _ = _; rw [hE2, hE1]; simp [upd, ne, ne.symm]
          have v3 : Hid (E3 T F = E T F) := by show _ = _; rw [hE3, hE2, hE1]; simp [upd, ne, ne.symm]
          have e4 : E4 = lapF (xs.take (j + 1)) := by
            have := lap_upd (E := E) (x := ⟨F, T, r, v⟩) rfl rfl ne
            rw [hE4, hE3, hE2, hE1]
            rw [this]; funext a b; exact (LT.out a b).symm
          have HE1 := Lib.hid hE1
          have HE2 := Lib.hid hE2
          have HE3 := Lib.hid hE3
          have HE4 := Lib.hid hE4
          have HE := Lib.hid e4
          clear hE1 hE2 hE3 hE4 e4 LT ne
          have NS0 := NS
          clear NS
          go_cut [] (fun wx => Hid (Mx wx w.heap.size rb bs k (mat k k E1)) ∧ Hid (wx.heap[wr.heap.size]? = some (.cells #[.int .i64 F, .int .i64 T, .int .i64 r, .int .i64 v] 32 (0, 0))) ∧ Hid (Below w.heap.size w wx))
          case first =>
            obtain ⟨⟨s0, s1, s2, s3⟩, -, ls⟩ := boxSt_at (q := ⟨F, T, r, v⟩) NS0.out
            simp only at s0 s1 s2 s3
            obtain ⟨b, eb, h1, h2, h3, h4, h5, hs⟩ := M1.out.atf Fn Fn
            have l1 := LB.out F F
            unfold Bd at l1
            have q1 : IntKind.i64.wrap (E F F + v) = E F F + v := IntWalk.i64_in _ (by omega)
            have bne : b ≠ wr.heap.size := by have := BL.out b (List.mem_of_getElem? eb); omega
            have MN : Hid (Mx (wa.setCell ⟨b, F, none⟩ (.int .i64 (E F F + v))).drew w.heap.size rb bs k (mat k k E1)) := by show Mx _ _ _ _ _ _; rw [HE1.out]; exact (hs _).drew
            have BN : Hid (Below w.heap.size w (wa.setCell ⟨b, F, none⟩ (.int .i64 (E F F + v))).drew) := (M1.out.below B3.out (Nat.le_refl _) eb F _).drew
            have NN : Hid ((wa.setCell ⟨b, F, none⟩ (.int .i64 (E F F + v))).drew.heap[wr.heap.size]? = some (.cells #[.int .i64 F, .int .i64 T, .int .i64 r, .int .i64 v] 32 (0, 0))) := (Below.heap_setCell _ _ _ _ (fun e => bne e.symm)).trans NS0.out
            clear l1 hs eb bne M1 B3 NS0 BL LB HE1 HE2 HE3 HE4 HE v1 v2 v3 LP H OK E0
            go_wp2_with fail
            go_region
            go_wp2_with fail
            go_meet
            exact ⟨MN, NN, BN⟩
          case rest =>
            clear M1 B3 NS0
            obtain ⟨w5, hwc⟩ : ∃ x, x = wc := ⟨_, rfl⟩
            rw [← hwc] at hcut ⊢; clear hwc
            obtain ⟨M2, NS1, B4⟩ := hcut
            go_upto_region 11 with (fail)
            go_cut [] (fun wx => Hid (Mx wx w.heap.size rb bs k (mat k k E2)) ∧ Hid (wx.heap[wr.heap.size]? = some (.cells #[.int .i64 F, .int .i64 T, .int .i64 r, .int .i64 v] 32 (0, 0))) ∧ Hid (Below w.heap.size w wx))
            case first =>
              obtain ⟨⟨s0, s1, s2, s3⟩, -, ls⟩ := boxSt_at (q := ⟨F, T, r, v⟩) NS1.out
              simp only at s0 s1 s2 s3
              obtain ⟨b, eb, h1, h2, h3, h4, h5, hs⟩ := M2.out.atf Tn Tn
              rw [v1.out] at h2
              have l1 := LB.out T T
              unfold Bd at l1
              have q1 : IntKind.i64.wrap (E T T + v) = E T T + v := IntWalk.i64_in _ (by omega)
              have bne : b ≠ wr.heap.size := by have := BL.out b (List.mem_of_getElem? eb); omega
              have MN : Hid (Mx (w5.setCell ⟨b, T, none⟩ (.int .i64 (E T T + v))).drew w.heap.size rb bs k (mat k k E2)) := by show Mx _ _ _ _ _ _; rw [HE2.out]; exact (hs _).drew
              have BN : Hid (Below w.heap.size w (w5.setCell ⟨b, T, none⟩ (.int .i64 (E T T + v))).drew) := (M2.out.below B4.out (Nat.le_refl _) eb T _).drew
              have NN : Hid ((w5.setCell ⟨b, T, none⟩ (.int .i64 (E T T + v))).drew.heap[wr.heap.size]? = some (.cells #[.int .i64 F, .int .i64 T, .int .i64 r, .int .i64 v] 32 (0, 0))) := (Below.heap_setCell _ _ _ _ (fun e => bne e.symm)).trans NS1.out
              clear l1 hs eb bne M2 B4 NS1 BL LB HE1 HE2 HE3 HE4 HE v1 v2 v3 LP H OK E0
              go_wp2_with fail
              go_region
              go_wp2_with fail
              go_meet
              exact ⟨MN, NN, BN⟩
            case rest =>
              clear M2 B4 NS1
              obtain ⟨w6, hwc⟩ : ∃ x, x = wc := ⟨_, rfl⟩
              rw [← hwc] at hcut ⊢; clear hwc
              obtain ⟨M3, NS2, B5⟩ := hcut
              go_upto_region 12 with (fail)
              go_cut [] (fun wx => Hid (Mx wx w.heap.size rb bs k (mat k k E3)) ∧ Hid (wx.heap[wr.heap.size]? = some (.cells #[.int .i64 F, .int .i64 T, .int .i64 r, .int .i64 v] 32 (0, 0))) ∧ Hid (Below w.heap.size w wx))
              case first =>
                obtain ⟨⟨s0, s1, s2, s3⟩, -, ls⟩ := boxSt_at (q := ⟨F, T, r, v⟩) NS2.out
                simp only at s0 s1 s2 s3
                obtain ⟨b, eb, h1, h2, h3, h4, h5, hs⟩ := M3.out.atf Fn Tn
                rw [v2.out] at h2
                have l1 := LB.out F T
                unfold Bd at l1
                have q1 : IntKind.i64.wrap (E F T - v) = E F T - v := IntWalk.i64_in _ (by omega)
                have bne : b ≠ wr.heap.size := by have := BL.out b (List.mem_of_getElem? eb); omega
                have MN : Hid (Mx (w6.setCell ⟨b, T, none⟩ (.int .i64 (E F T - v))).drew w.heap.size rb bs k (mat k k E3)) := by show Mx _ _ _ _ _ _; rw [HE3.out]; exact (hs _).drew
                have BN : Hid (Below w.heap.size w (w6.setCell ⟨b, T, none⟩ (.int .i64 (E F T - v))).drew) := (M3.out.below B5.out (Nat.le_refl _) eb T _).drew
                have NN : Hid ((w6.setCell ⟨b, T, none⟩ (.int .i64 (E F T - v))).drew.heap[wr.heap.size]? = some (.cells #[.int .i64 F, .int .i64 T, .int .i64 r, .int .i64 v] 32 (0, 0))) := (Below.heap_setCell _ _ _ _ (fun e => bne e.symm)).trans NS2.out
                clear l1 hs eb bne M3 B5 NS2 BL LB HE1 HE2 HE3 HE4 HE v1 v2 v3 LP H OK E0
                go_wp2_with fail
                go_region
                go_wp2_with fail
                go_meet
                exact ⟨MN, NN, BN⟩
              case rest =>
                clear M3 B5 NS2
                obtain ⟨w7, hwc⟩ : ∃ x, x = wc := ⟨_, rfl⟩
                rw [← hwc] at hcut ⊢; clear hwc
                obtain ⟨M4, NS3, B6⟩ := hcut
                go_upto_region 13 with (fail)
                obtain ⟨⟨s0, s1, s2, s3⟩, -, ls⟩ := boxSt_at (q := ⟨F, T, r, v⟩) NS3.out
                simp only at s0 s1 s2 s3
                obtain ⟨b, eb, h1, h2, h3, h4, h5, hs⟩ := M4.out.atf Tn Fn
                rw [v3.out] at h2
                have l1 := LB.out T F
                unfold Bd at l1
                have q1 : IntKind.i64.wrap (E T F - v) = E T F - v := IntWalk.i64_in _ (by omega)
                have bne : b ≠ wr.heap.size := by have := BL.out b (List.mem_of_getElem? eb); omega
                have MN : Hid (Mx (w7.setCell ⟨b, F, none⟩ (.int .i64 (E T F - v))).drew w.heap.size rb bs k (mat k k E4)) := by show Mx _ _ _ _ _ _; rw [HE4.out]; exact (hs _).drew
                have BN : Hid (Below w.heap.size w (w7.setCell ⟨b, F, none⟩ (.int .i64 (E T F - v))).drew) := (M4.out.below B6.out (Nat.le_refl _) eb F _).drew
                have NN : Hid ((w7.setCell ⟨b, F, none⟩ (.int .i64 (E T F - v))).drew.heap[wr.heap.size]? = some (.cells #[.int .i64 F, .int .i64 T, .int .i64 r, .int .i64 v] 32 (0, 0))) := (Below.heap_setCell _ _ _ _ (fun e => bne e.symm)).trans NS3.out
                clear l1 hs eb bne M4 B6 NS3
                go_wp2_with fail
                go_region
                clear s0 s1 s2 s3 h1 h2 h3 h4 h5 q1
                generalize (w7.setCell ⟨b, F, none⟩ (.int .i64 (E T F - v))).drew = w8 at *
                have MF : Hid (Mx w8 w.heap.size rb bs k (mat k k (lapF (xs.take (j + 1))))) := by show Mx _ _ _ _ _ _; rw [← HE.out]; exact MN.out
                clear MN NN HE1 HE2 HE3 HE4 HE v1 v2 v3 LB BL
                go_wp2
                exact ⟨⟨j + 1, by omega, by go_num, MF, BN⟩, by simp only [intOf]; omega⟩
        · obtain rfl : j = n0 := by omega
          obtain ⟨b, eb, h1, h2, h3, h4, h5, -⟩ := mx.out.atf (i := 0) (j := 0) (by omega) (by omega)
          have LT0 : Hid (xs.take j = xs) := by show _ = _; rw [E0.out, List.take_length]
          have e2 := mat_get (n := k) (m := k) (f := lapF (xs.take j)) (i := 0) (by omega)
          have RW := (mx.out.row _ _ _ eb e2).1
          have K := clear5_run wr b k k _ (by omega) RW (by simp)
          have RC := Rw.cleared k wr b 0 _ RW
          rw [show clr ((List.range k).map (lapF (xs.take j) 0)) 0 k = List.replicate k 0 by have := clr_all ((List.range k).map (lapF (xs.take j) 0)); simpa using this] at RC
          have M2 := mx.out.put eb e2 RC (by simp) (fun j hj => heap_setCells _ _ _ _ _ hj)
          have c0 : (wr.setCells b 0 (List.replicate k (.int .i64 0))).cell? ⟨rb, 0, none⟩ = some (.slice (some ⟨b, 0, none⟩) k k) := M2.head eb
          have e3 : ((mat k k (lapF (xs.take j))).set 0 (List.replicate k 0))[0]? = some (List.replicate k 0) := List.getElem?_set_self (by rw [mat_len]; omega)
          have c1 : (wr.setCells b 0 (List.replicate k (.int .i64 0))).cell? ⟨b, 0, none⟩ = some (.int .i64 0) := RC.cell (by rw [List.getElem?_replicate, if_pos (by omega)])
          have f1 : (wr.setCells b 0 (List.replicate k (.int .i64 0))).frozen? ⟨b, 0, none⟩ = false := RC.frozen 0
          have M3 := Lib.hid (M2.store eb e3 0 1)
          rw [LT0.out, rowsP_fin k (by omega)] at M3
          have hge := mx.out.ge
          have BE : Hid (Below w.heap.size w ((wr.setCells b 0 (List.replicate k (.int .i64 0))).setCell ⟨b, 0, none⟩ (.int .i64 1))) := M2.below (below_setCells _ _ _ _ _ _ (by omega) B2.out) (Nat.le_refl _) eb 0 1
          clear LP H OK mx B2 e2 RW RC M2 e3 eb h2 h3 LT0 E0
          go_upto_region 16 with (fail)
          clear K
          generalize wr.setCells b 0 (List.replicate k (.int .i64 0)) = wz at *
          clear h1
          go_wp2
          go_ret
          exact ⟨rb, bs, rfl, bl.out, M3.out, BE.out⟩
end Go.Proofs.YtcmocilojloolaaDoor
