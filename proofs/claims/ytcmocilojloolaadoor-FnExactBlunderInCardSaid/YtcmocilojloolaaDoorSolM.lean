/- The specification's elimination: its numbers, and a matrix of which only the cells are known. -/
import Derived.Test.YtcmocilojloolaaDoorNetI
namespace Go.Proofs.YtcmocilojloolaaDoor
open Go.ChangeShapes Go.WideShapes Go.ChangeAt Go.RowKit
set_option linter.unusedVariables false
set_option linter.unusedSimpArgs false

/-- A step of the elimination, number by number. -/
def elimN (last : Int) (f : Nat → Nat → Int) (c a b : Nat) : Int := (f a b * f c c - f a c * f c b).tdiv last
def elimF (last : Int) (f : Nat → Nat → Int) (c : Nat) : Nat → Nat → Int := fun a b => if a = c then f a b else elimN last f c a b
def elimS (f0 : Nat → Nat → Int) : Nat → (Nat → Nat → Int) × Int
  | 0 => (f0, 1)
  | c + 1 => (elimF (elimS f0 c).2 (elimS f0 c).1 c, (elimS f0 c).1 c c)
theorem mat_getD {n m : Nat} {f : Nat → Nat → Int} {i j : Nat} (hi : i < n) (hj : j < m) : ((mat n m f).getD i []).getD j 0 = f i j := by
  have e : (mat n m f).getD i [] = (List.range m).map (f i) := by rw [List.getD_eq_getElem?_getD, mat_get hi]; rfl
  rw [e, List.getD_eq_getElem?_getD, rowf_get hj]; rfl
theorem elimC_mat {n m c : Nat} {f : Nat → Nat → Int} {last : Int} (hc : c < n) (hm : c < m) : elimC last (mat n m f) c = mat n m (elimF last f c) := by
  refine List.ext_getElem? fun a => ?_
  unfold elimC
  rw [List.getElem?_mapIdx]
  by_cases ha : a < n
  · rw [mat_get ha, mat_get ha]
    simp only [Option.map_some, Option.some.injEq]
    have hg : (mat n m f).getD c [] = (List.range m).map (f c) := by rw [List.getD_eq_getElem?_getD, mat_get hc]; rfl
    by_cases e : a = c
    · subst e
      rw [if_pos rfl]
      refine List.map_congr_left fun b _ => ?_
      simp [elimF]
    · rw [if_neg e, hg]
      unfold elimR
      refine List.ext_getElem? fun b => ?_
      rw [List.getElem?_zipWith]
      by_cases hb : b < m
      · rw [rowf_get hb, rowf_get hb, rowf_get hb]
        simp only [Option.some.injEq, elimF, if_neg e, elimN]
        have e1 : ((List.range m).map (f c)).getD c 0 = f c c := by rw [List.getD_eq_getElem?_getD, rowf_get hm]; rfl
        have e2 : ((List.range m).map (f a)).getD c 0 = f a c := by rw [List.getD_eq_getElem?_getD, rowf_get hm]; rfl
        rw [e1, e2]
      · rw [List.getElem?_eq_none (by simp; omega), List.getElem?_eq_none (by simp; omega), List.getElem?_eq_none (by simp; omega)]
  · rw [List.getElem?_eq_none (by rw [mat_len]; omega), List.getElem?_eq_none (by rw [mat_len]; omega)]; rfl
theorem elimTo_mat {n m : Nat} {f0 : Nat → Nat → Int} (hm : n ≤ m) : ∀ c, c ≤ n → elimTo (mat n m f0) c = (mat n m (elimS f0 c).1, (elimS f0 c).2) := by
  intro c
  induction c with
  | zero => intro _; rfl
  | succ c ih =>
    intro hc
    rw [elimTo, ih (by omega)]
    simp only [elimS]
    rw [elimC_mat (by omega) (by omega), mat_getD (by omega) (by omega)]
/-- The equations' numbers. -/
def eqF (n : Nat) (xs : List St) (b : List Int) (i j : Nat) : Int := if j < n then lapE xs ((i : Int) + 1) ((j : Int) + 1) else b.getD (i + 1) 0
theorem rowsS_mat (n : Nat) (xs : List St) (b : List Int) : rowsS n xs b = mat n (n + 1) (eqF n xs b) := by
  unfold rowsS mat
  refine List.map_congr_left fun i _ => ?_
  rw [List.range_succ, List.map_append]
  congr 1
  · refine List.map_congr_left fun j hj => ?_
    simp [eqF, List.mem_range.1 hj]
  · simp [eqF]
/-- What the elimination keeps. -/
theorem elimS_bd {n : Nat} {xs : List St} (hn : n ≤ 4) (h1 : 1 ≤ n) (hx : ∀ x ∈ xs, OkSt (n + 1) x) (l8 : xs.length ≤ 8) (hc : trAll (trTo (n + 1) xs xs.length) = true) {b : List Int} (hl : b.length = n + 1) (hb : ∀ x ∈ b, Bd 2400 x) :
    ∀ c, c ≤ n → (∀ i j, i < n → j < n + 1 → Bd 1000000000 ((elimS (eqF n xs b) c).1 i j)) ∧ 0 < (elimS (eqF n xs b) c).2 ∧ Bd 1000000000 (elimS (eqF n xs b) c).2 := by
  intro c hcn
  have h := elim_bd hn h1 hx l8 hc b hl hb c hcn
  rw [rowsS_mat, elimTo_mat (by omega) c hcn] at h
  refine ⟨fun i j hi hj => ?_, h.2.2.1, h.2.2.2⟩
  exact (h.2.1 _ (List.mem_of_getElem? (mat_get hi))).2 _ (List.mem_of_getElem? (rowf_get hj))
/-- The elimination computes what Cramer's rule does. -/
theorem elimS_sol {n : Nat} {xs : List St} (hn : n ≤ 4) (h1 : 1 ≤ n) (hx : ∀ x ∈ xs, OkSt (n + 1) x) (hc : trAll (trTo (n + 1) xs xs.length) = true) {b : List Int} (hl : b.length = n + 1) :
    solL (n + 1) (rowsP n xs) b = 0 :: (List.range n).map (fun k => (elimS (eqF n xs b) n).1 k n) ∧ det (n + 1) (rowsP n xs) = (elimS (eqF n xs b) n).2 := by
  obtain ⟨s1, s2, s3⟩ := solve_same hn h1 hx hc b hl
  rw [rowsS_mat, elimTo_mat (by omega) n (Nat.le_refl _)] at s1 s3
  refine ⟨?_, s1⟩
  unfold solL
  rw [List.range_succ_eq_map, List.map_cons, s2, List.map_map]
  congr 1
  refine List.map_congr_left fun k hk => ?_
  have := s3 k (List.mem_range.1 hk)
  rw [mat_getD (List.mem_range.1 hk) (by omega)] at this
  exact this

/-- A matrix of which the cells are known: the header at block rb, the rows in the blocks bs. -/
structure Mg (w : World) (B rb : Nat) (bs : List Nat) (cs : Nat → Nat) (n m : Nat) (f : Nat → Nat → Int) : Prop where
  bl : bs.length = n
  hd : ∀ (i b : Nat), bs[i]? = some b → w.cell? ⟨rb, i, none⟩ = some (.slice (some ⟨b, 0, none⟩) m (cs i))
  row : ∀ (i b j : Nat), bs[i]? = some b → j < m → w.cell? ⟨b, j, none⟩ = some (.int .i64 (f i j))
  fz : ∀ (b j : Nat), b ∈ bs → w.frozen? ⟨b, j, none⟩ = false
  rg : B ≤ rb ∧ rb < w.heap.size ∧ ∀ b ∈ bs, B ≤ b ∧ b < w.heap.size
  ne : rb ∉ bs
  inj : ∀ (i j b : Nat), bs[i]? = some b → bs[j]? = some b → i = j
theorem Mg.later {w w' : World} {B rb n m : Nat} {bs : List Nat} {cs : Nat → Nat} {f : Nat → Nat → Int} (h : Mg w B rb bs cs n m f) (e : Below w.heap.size w w') : Mg w' B rb bs cs n m f := by
  refine ⟨h.bl, fun i b hb => ?_, fun i b j hb hj => ?_, fun b j hb => ?_, ⟨h.rg.1, Nat.lt_of_lt_of_le h.rg.2.1 e.size, fun b hb => ⟨(h.rg.2.2 b hb).1, Nat.lt_of_lt_of_le (h.rg.2.2 b hb).2 e.size⟩⟩, h.ne, h.inj⟩
  · exact (e.cell (p := ⟨rb, i, none⟩) h.rg.2.1).trans (h.hd i b hb)
  · exact (e.cell (p := ⟨b, j, none⟩) (h.rg.2.2 b (List.mem_of_getElem? hb)).2).trans (h.row i b j hb hj)
  · have h1 := h.fz b j hb
    have h2 := e.block b (h.rg.2.2 b hb).2
    simp only [World.frozen?] at h1 ⊢
    rw [h2]; exact h1
theorem Mg.drew {w : World} {B rb n m : Nat} {bs : List Nat} {cs : Nat → Nat} {f : Nat → Nat → Int} (h : Mg w B rb bs cs n m f) : Mg w.drew B rb bs cs n m f := ⟨h.bl, h.hd, h.row, h.fz, h.rg, h.ne, h.inj⟩
/-- The cells of a place, and what a store there leaves. -/
theorem Mg.atf {w : World} {B rb n m : Nat} {bs : List Nat} {cs : Nat → Nat} {f : Nat → Nat → Int} (h : Mg w B rb bs cs n m f) {i j : Nat} (hi : i < n) (hj : j < m) :
    ∃ b, bs[i]? = some b ∧ w.cell? ⟨rb, i, none⟩ = some (.slice (some ⟨b, 0, none⟩) m (cs i)) ∧ w.cell? ⟨b, j, none⟩ = some (.int .i64 (f i j)) ∧ w.frozen? ⟨b, j, none⟩ = false ∧ (B ≤ b ∧ b < w.heap.size) ∧
      ∀ x, Mg (w.setCell ⟨b, j, none⟩ (.int .i64 x)) B rb bs cs n m (upd f i j x) := by
  obtain ⟨b, hb⟩ : ∃ b, bs[i]? = some b := ⟨_, List.getElem?_eq_getElem (by rw [h.bl]; exact hi)⟩
  have hbm := List.mem_of_getElem? hb
  refine ⟨b, hb, h.hd i b hb, h.row i b j hb hj, h.fz b j hbm, h.rg.2.2 b hbm, fun x => ?_⟩
  refine ⟨h.bl, fun i' b' hb' => ?_, fun i' b' j' hb' hj' => ?_, fun b' j' hb' => ?_, ⟨h.rg.1, by simpa using h.rg.2.1, fun b' hb' => by simpa using h.rg.2.2 b' hb'⟩, h.ne, h.inj⟩
  · rw [World.cell?_setCell_other (h := by intro e; simp only [Addr.mk.injEq] at e; exact h.ne (by rw [← e.1]; exact hbm))]
    exact h.hd i' b' hb'
  · by_cases e : i' = i ∧ j' = j
    · obtain ⟨rfl, rfl⟩ := e
      rw [hb] at hb'
      obtain rfl := Option.some.inj hb'
      rw [World.cell?_setCell_same (h := h.row _ _ _ hb hj)]
      simp [upd]
    · rw [World.cell?_setCell_other (h := by
        intro e2
        simp only [Addr.mk.injEq, and_true] at e2
        obtain ⟨rfl, rfl⟩ := e2
        exact e ⟨h.inj _ _ _ hb' hb, rfl⟩)]
      rw [h.row i' b' j' hb' hj']
      simp [upd, e]
  · rw [World.frozen?_setCell]; exact h.fz b' j' hb'
theorem Mg.congr {w : World} {B rb n m : Nat} {bs : List Nat} {cs : Nat → Nat} {f g : Nat → Nat → Int} (h : Mg w B rb bs cs n m f) (e : ∀ i j, i < n → j < m → f i j = g i j) : Mg w B rb bs cs n m g :=
  ⟨h.bl, h.hd, fun i b j hb hj => by rw [h.row i b j hb hj, e i j (by rw [← h.bl]; exact (List.getElem?_eq_some_iff.1 hb).1) hj], h.fz, h.rg, h.ne, h.inj⟩
/-- Slices of slices of one's own, all of one length, are such a matrix. -/
theorem Mg.of_own {w : World} {B C g n m cap : Nat} {ys : List Sl} {f : Nat → Nat → Int} (h : OwnSS w B C (.slice (some ⟨g, 0, none⟩) n cap) ys) (hn : ys.length = n) (hm : 0 < m) (hy : ys.map Sl.t = mat n m f) :
    ∃ bs cs, Mg w B g bs cs n m f := by
  have len : ∀ y ∈ ys, y.t.length = m := fun y h => mat_row y.t (by rw [← hy]; exact List.mem_map.2 ⟨y, h, rfl⟩)
  have form : ∀ y ∈ ys, ∃ b, y.a = some ⟨b, 0, none⟩ ∧ B ≤ b ∧ b < w.heap.size := by
    intro y hy'
    have o := h.tops y hy'
    have lt := o.lt
    obtain ⟨h1, h2 | ⟨b, cap', cur, hv, h3⟩⟩ := o
    · have := len y hy'; omega
    · simp only [Sl.u, Value.slice.injEq] at hv
      exact ⟨b, hv.1, lt b (by simp [Sl.u, hv.1, Value.ownBlock])⟩
  have at' : ∀ (i : Nat) y, ys[i]? = some y → ∃ b, (ys.map fun y => (y.a.map Addr.block).getD 0)[i]? = some b ∧ y.a = some ⟨b, 0, none⟩ := by
    intro i y hi
    obtain ⟨b, hb, -⟩ := form y (List.mem_of_getElem? hi)
    exact ⟨b, by rw [List.getElem?_map, hi]; simp [hb], hb⟩
  have back : ∀ (i b : Nat), (ys.map fun y => (y.a.map Addr.block).getD 0)[i]? = some b → ∃ y, ys[i]? = some y ∧ y.a = some ⟨b, 0, none⟩ := by
    intro i b hi
    have hl : i < ys.length := by have := (List.getElem?_eq_some_iff.1 hi).1; simpa using this
    have hy' : ys[i]? = some ys[i] := List.getElem?_eq_getElem hl
    obtain ⟨b', e1, e2⟩ := at' i _ hy'
    rw [hi] at e1
    obtain rfl := Option.some.inj e1
    exact ⟨_, hy', e2⟩
  refine ⟨ys.map fun y => (y.a.map Addr.block).getD 0, fun i => (ys[i]?.map Sl.c).getD 0, by simp [hn], ?_, ?_, ?_, ?_, ?_, ?_⟩
  · intro i b hb
    obtain ⟨y, e1, e2⟩ := back i b hb
    obtain ⟨b0, off, e3, c1, -, -⟩ := h.rd.at e1
    simp only [Option.some.injEq, Addr.mk.injEq, and_true] at e3
    obtain ⟨rfl, rfl⟩ := e3
    rw [Nat.zero_add, len y (List.mem_of_getElem? e1), e2] at c1
    rw [c1, e1]; rfl
  · intro i b j hb hj
    obtain ⟨y, e1, e2⟩ := back i b hb
    have o := (h.tops y (List.mem_of_getElem? e1)).rd
    rw [Sl.u, e2] at o
    have hi : i < n := by rw [← hn]; exact (List.getElem?_eq_some_iff.1 e1).1
    have e5 : y.t = (List.range m).map (f i) := by
      have e6 : (ys.map Sl.t)[i]? = some y.t := by rw [List.getElem?_map, e1]; rfl
      rw [hy, mat_get hi] at e6
      exact (Option.some.inj e6).symm
    obtain ⟨b1, o1, e7, c1⟩ := RdI.atV o j (f i j) (by rw [e5]; exact rowf_get hj)
    simp only [Option.some.injEq, Addr.mk.injEq, and_true] at e7
    obtain ⟨rfl, rfl⟩ := e7
    rw [Nat.zero_add] at c1
    exact c1
  · intro b j hb
    obtain ⟨i, hi⟩ := List.mem_iff_getElem?.1 hb
    obtain ⟨y, e1, e2⟩ := back i b hi
    have o := h.tops y (List.mem_of_getElem? e1)
    unfold OwnI at o
    rw [Sl.u, e2] at o
    exact World.ownsRow.frozenAt o j
  · refine ⟨(h.rows.lt g rfl).1, (h.rows.lt g rfl).2, fun b hb => ?_⟩
    obtain ⟨i, hi⟩ := List.mem_iff_getElem?.1 hb
    obtain ⟨y, e1, e2⟩ := back i b hi
    obtain ⟨b', e3, e4⟩ := form y (List.mem_of_getElem? e1)
    rw [e2] at e3
    simp only [Option.some.injEq, Addr.mk.injEq, and_true] at e3
    subst e3
    exact e4
  · intro hg
    obtain ⟨i, hi⟩ := List.mem_iff_getElem?.1 hg
    obtain ⟨y, e1, e2⟩ := back i g hi
    exact own_typesS h.rows (h.tops y (List.mem_of_getElem? e1)) rfl (show y.u.ownBlock = some g by simp [Sl.u, e2, Value.ownBlock]) rfl
  · intro i j b hi hj
    obtain ⟨y, e1, e2⟩ := back i b hi
    obtain ⟨z, e3, e4⟩ := back j b hj
    exact h.apart i j y z b e1 e3 (by simp [Sl.u, e2, Value.ownBlock]) (by simp [Sl.u, e4, Value.ownBlock])
end Go.Proofs.YtcmocilojloolaaDoor
