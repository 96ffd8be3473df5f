/- Rows of tops that are filled number by number. -/
import Derived.Test.YtobfephcmiolbabTopM
namespace Go.Proofs.Ytobfephcmiolbab
open Go.ChangeShapes Go.WideShapes Go.ChangeAt Go.RowKit
set_option linter.unusedVariables false
set_option linter.unusedSimpArgs false

theorem tops_two {xs : List Hu} (hr : Rise xs) {ring : Int} {B : Nat} (hB : Behind xs ring B) {ts : List Int} (h : IsTops xs ring B ts) : ∃ (ia ib : Nat) (x y : Hu), ia < xs.length ∧ ib < xs.length ∧ (if (B : Int) - 1 < 0 then 0 else (B : Int) - 1) = ia ∧ (if (xs.length : Int) - 1 < B then (xs.length : Int) - 1 else B) = ib ∧ xs[ia]? = some x ∧ xs[ib]? = some y ∧
    ((x.r = y.r ∧ ts = x.t) ∨ (x.r < y.r ∧ ts = inter x y ring x.t.length)) := by
  have hl := hB.le
  cases h with
  | front x hB0 hx =>
    have := (List.getElem?_eq_some_iff.1 hx).1
    exact ⟨0, 0, x, x, by omega, by omega, by split <;> omega, by split <;> omega, hx, hx, .inl ⟨rfl, rfl⟩⟩
  | last x hBl h0 hx => exact ⟨B - 1, B - 1, x, x, by omega, by omega, by split <;> omega, by split <;> omega, hx, hx, .inl ⟨rfl, rfl⟩⟩
  | mid x y h0 hBl hx hy => exact ⟨B - 1, B, x, y, by omega, by omega, by split <;> omega, by split <;> omega, hx, hy, .inr ⟨rise_le hr (by omega) hx hy, rfl⟩⟩

/-- The row of tops, the first k of which are those at the ring. -/
def mixT (x y : Hu) (ring : Int) (k : Nat) : List Int := inter x y ring k ++ x.t.drop k
theorem mixT_len {x y : Hu} {ring : Int} {k : Nat} (hk : k ≤ x.t.length) : (mixT x y ring k).length = x.t.length := by simp [mixT, inter_len]; omega
theorem mixT_zero (x y : Hu) (ring : Int) : mixT x y ring 0 = x.t := by simp [mixT, inter]
theorem mixT_all (x y : Hu) (ring : Int) : mixT x y ring x.t.length = inter x y ring x.t.length := by simp [mixT]
theorem mixT_get {x y : Hu} {ring : Int} {k : Nat} {a : Int} (ha : x.t[k]? = some a) : (mixT x y ring k)[k]? = some a := by
  unfold mixT
  rw [List.getElem?_append_right (by rw [inter_len]; omega), inter_len, Nat.sub_self, List.getElem?_drop, Nat.add_zero, ha]
theorem mixT_set {x y : Hu} {ring : Int} {k : Nat} {a b : Int} (ha : x.t[k]? = some a) (hb : y.t[k]? = some b) : (mixT x y ring k).set k (a + (b - a) * (ring - x.r) / (y.r - x.r)) = mixT x y ring (k + 1) := by
  have hk := (List.getElem?_eq_some_iff.1 ha).1
  unfold mixT
  rw [List.set_append_right _ _ (by rw [inter_len]; omega), inter_len, Nat.sub_self, List.drop_eq_getElem_cons hk, List.set_cons_zero, inter_succ ha hb, List.append_assoc]
  rfl
theorem mixT_cell {x y : Hu} {ring : Int} {n k cap g B : Nat} {a : Int} {w : World} (hn : n = x.t.length) (hk : k < n) (ha : x.t[k]? = some a) (o : OwnI w B (.slice (some ⟨g, 0, none⟩) n cap) (mixT x y ring k)) :
    w.cell? ⟨g, k, none⟩ = some (.int .i64 a) ∧ w.frozen? ⟨g, k, none⟩ = false := by
  have own := o
  unfold OwnI at own
  rw [mixT_len (by omega), ← hn] at own
  have c := own.cellAt k (by omega)
  rw [List.getElem?_map, mixT_get ha] at c
  exact ⟨c, own.frozenAt k⟩
theorem mixT_store {x y : Hu} {ring : Int} {n k cap g B : Nat} {a b : Int} {w : World} (hn : n = x.t.length) (hk : k < n) (ha : x.t[k]? = some a) (hb : y.t[k]? = some b) (o : OwnI w B (.slice (some ⟨g, 0, none⟩) n cap) (mixT x y ring k)) :
    OwnI (w.setCell ⟨g, k, none⟩ (.int .i64 (a + (b - a) * (ring - x.r) / (y.r - x.r)))) B (.slice (some ⟨g, 0, none⟩) n cap) (mixT x y ring (k + 1)) := by
  have := o.stored (by rw [mixT_len (by omega)]; exact hn) k (a + (b - a) * (ring - x.r) / (y.r - x.r)) (by rw [mixT_len (by omega)]; omega)
  rwa [mixT_set ha hb] at this
theorem RdI.spot {w : World} {a : Option Addr} {n cap : Nat} {zs : List Int} (h : RdI w (.slice a n cap) zs) (h0 : 0 < zs.length) : ∃ b off, a = some ⟨b, off, none⟩ ∧ b < w.heap.size ∧ ∀ (i : Nat) x, zs[i]? = some x → w.cell? ⟨b, off + i, none⟩ = some (.int .i64 x) := by
  obtain ⟨a', c', hv, h2⟩ := h
  simp only [Value.slice.injEq] at hv
  obtain ⟨rfl, -, -⟩ := hv
  obtain ⟨b, off, rfl, hc⟩ := h2.resolve_left (by intro e; rw [e] at h0; simp at h0)
  obtain ⟨x, hx⟩ : ∃ x, zs[0]? = some x := ⟨_, List.getElem?_eq_getElem h0⟩
  exact ⟨b, off, rfl, World.block_lt_of_cell? w _ (hc 0 x hx), hc⟩
theorem OwnI.spot {w : World} {B : Nat} {a : Option Addr} {n cap : Nat} {zs : List Int} (h : OwnI w B (.slice a n cap) zs) (h0 : 0 < zs.length) : ∃ g, a = some ⟨g, 0, none⟩ ∧ B ≤ g := by
  obtain ⟨h1, h2 | ⟨g, cap', cur, e, h3, h4⟩⟩ := h
  · obtain ⟨e, h2⟩ := h2; omega
  · simp only [Value.slice.injEq] at e
    exact ⟨g, e.1, h3⟩
/-- The products and the sums stay in range. -/
theorem mix_bd {a b r rx ry : Int} (ha : -100000 ≤ a ∧ a ≤ 100000) (hb : -100000 ≤ b ∧ b ≤ 100000) (h0 : 0 ≤ r ∧ r ≤ 60) (hx : 0 ≤ rx ∧ rx ≤ 60) (hy : 0 ≤ ry ∧ ry ≤ 60) (hxy : rx < ry) :
    (-100000000 ≤ (b - a) * (r - rx) ∧ (b - a) * (r - rx) ≤ 100000000) ∧ (-100000000 ≤ (b - a) * (r - rx) / (ry - rx) ∧ (b - a) * (r - rx) / (ry - rx) ≤ 100000000) := by
  have h1 : ((b - a) * (r - rx)).natAbs ≤ 200000 * 60 := by
    rw [Int.natAbs_mul]
    exact Nat.mul_le_mul (by omega) (by omega)
  obtain ⟨M, hM⟩ : ∃ M, M = (b - a) * (r - rx) := ⟨_, rfl⟩
  rw [← hM] at h1 ⊢
  obtain ⟨e, he⟩ : ∃ e, e = ry - rx := ⟨_, rfl⟩
  have e1 : 1 ≤ e := by omega
  rw [← he]
  refine ⟨by omega, ?_, ?_⟩
  · rw [Int.le_ediv_iff_mul_le (by omega)]
    have : -100000000 * e ≤ -100000000 * 1 := Int.mul_le_mul_of_nonpos_left (by omega) e1
    omega
  · refine Int.ediv_le_of_le_mul (by omega) ?_
    have : 100000000 * 1 ≤ 100000000 * e := Int.mul_le_mul_of_nonneg_left e1 (by omega)
    omega
end Go.Proofs.Ytobfephcmiolbab
