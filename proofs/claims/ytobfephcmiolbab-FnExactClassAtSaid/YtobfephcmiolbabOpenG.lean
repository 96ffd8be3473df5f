/- An argument that is a ground, opened; small facts for the laws of grounds. -/
import Derived.Test.YtobfephcmiolbabOpens2
import Derived.Test.YtobfephcmiolbabGrounds
namespace Go.Proofs.Ytobfephcmiolbab
open Go.ChangeShapes Go.WideShapes Go.ChangeAt Go.RowKit
set_option linter.unusedVariables false
set_option linter.unusedSimpArgs false

theorem boxG_at {w : World} {g : Nat} {x y : Value} {t : TypeId} (h : w.heap[g]? = some (.cells #[x, y] t (0, 0))) : w.cell? ⟨g, 0, none⟩ = some x ∧ w.cell? ⟨g, 1, none⟩ = some y :=
  ⟨cell_of_row w g 0 _ t _ h, cell_of_row w g 1 _ t _ h⟩

theorem Gu.same.trans' {g k l : Gu} (h : g.same l) (h' : k.same l) : g.same k := Gu.same_trans h (Gu.same_symm h')

theorem RdI.chg {w w' : World} {v : Value} {xs : List Int} {B C : Nat} (h : RdI w v xs) (hc : Chg B C w w') (hne : ∀ b, v.ownBlock = some b → b < B ∨ C ≤ b) : RdI w' v xs := by
  obtain ⟨a, cap, rfl, h | ⟨b, off, rfl, h⟩⟩ := h
  · exact ⟨a, cap, rfl, .inl h⟩
  · refine ⟨_, cap, rfl, .inr ⟨b, off, rfl, fun i x hx => ?_⟩⟩
    have c := h i x hx
    exact (World.cell?_of_block (w := w) (a := ⟨b, off + i, none⟩) (hc.block b (World.block_lt_of_cell? w _ c) (hne b rfl))).trans c

def WfG (g : Gu) : Prop := g.d.length ≤ maxLen ∧ g.xs.length ≤ maxLen ∧ ∀ x ∈ g.xs, x.t.length ≤ maxLen

section
variable {H : Type} {enc : TypeId × Value → H} {P : Program} {w : World} {base : Nat} {spare : Nat → Bool} {held : Bool}

theorem trod_intS {t e : TypeId} {fuel : Nat} {cs : List Value} {x : DataW H × List MemPlace} (ht : P.underlying t = some (.slice e)) (he : P.underlying e = some (.int .i64)) (hc : P.cellsOf e = 1) (h : DataW.trod enc P w base spare held fuel t cs = some x) :
    ∃ (a : Option Addr) (cap : Nat) (zs : List Int), cs = [.slice a zs.length cap] ∧ RdI w (.slice a zs.length cap) zs ∧ zs.length ≤ maxLen := by
  rcases open_ints ht he hc h with ⟨hcs, _⟩ | ⟨a, len, cap, zs, hcs, _, hl, hm, hz, _, hcell, _⟩
  · exact ⟨none, 0, [], by simpa using hcs, ⟨none, 0, rfl, .inl rfl⟩, Nat.zero_le _⟩
  · have lz : len ≤ zs.length := by rw [hz]; split <;> omega
    have e1 : (zs.take len).length = len := by rw [List.length_take]; omega
    refine ⟨some a, cap, zs.take len, by rw [e1]; exact hcs, ⟨some a, cap, rfl, ?_⟩, by omega⟩
    by_cases h0 : len = 0
    · subst h0; exact .inl rfl
    · right
      have c0 := hcell 0 (by omega)
      obtain ⟨b, off, spot⟩ := a
      have hspot : spot = none := by simpa [Addr.add] using World.cell?_spot c0
      subst hspot
      refine ⟨b, off, rfl, fun i x hx => ?_⟩
      have hi : i < len := by have := (List.getElem?_eq_some_iff.1 hx).1; omega
      rw [List.getElem?_take, if_pos hi] at hx
      have := hcell i (by omega)
      rw [Go.WideShapes.add_plain] at this
      rw [this]
      simp [List.getD, hx]

/-- A struct of an int64 and a slice of int64s. -/
theorem trod_hole {t t1 e : TypeId} {f0 f1 : Field} {fuel : Nat} {cs : List Value} {x : DataW H × List MemPlace} (hT : P.underlying t = some (.struct #[f0, f1])) (o0 : f0.offset = 0) (o1 : f1.offset = 1) (n0 : P.cellsOf f0.type = 1) (n1 : P.cellsOf f1.type = 1) (hCt : P.cellsOf t = 2)
    (h0 : P.underlying f0.type = some (.int .i64)) (h1 : P.underlying f1.type = some (.slice e)) (he : P.underlying e = some (.int .i64)) (hc : P.cellsOf e = 1) (h : DataW.trod enc P w base spare held fuel t cs = some x) :
    ∃ y : Hu, cs = encHu y ∧ RdI w y.u y.t ∧ y.t.length ≤ maxLen := by
  obtain ⟨us, n, _, _, hl, hyl, hat⟩ := DataW.trod_struct hT h
  have g0 := hat 0 f0 rfl
  have g1 := hat 1 f1 rfl
  have y0 : us[0]? = some (us[0]'(by rw [hyl]; simp)) := List.getElem?_eq_getElem _
  have y1 : us[1]? = some (us[1]'(by rw [hyl]; simp)) := List.getElem?_eq_getElem _
  rw [y0, o0, n0, List.drop_zero] at g0
  rw [y1, o1, n1] at g1
  obtain ⟨r, u1, _, _⟩ := DataW.trod_int h0 g0
  obtain ⟨a, c, zs, z1, z2, z3⟩ := trod_intS h1 he hc g1
  refine ⟨⟨r, a, c, zs⟩, ?_, z2, z3⟩
  have e1 : cs = cs.take 1 ++ cs.drop 1 := (List.take_append_drop _ _).symm
  have e2 : (cs.drop 1).take 1 = cs.drop 1 := List.take_of_length_le (by rw [List.length_drop, hl, hCt]; omega)
  rw [e1, ← e2, z1, u1]
  rfl

theorem trod_holes {t e q : TypeId} {f0 f1 : Field} {fuel : Nat} {cs : List Value} {x : DataW H × List MemPlace} (ht : P.underlying t = some (.slice e)) (hT : P.underlying e = some (.struct #[f0, f1])) (o0 : f0.offset = 0) (o1 : f1.offset = 1) (n0 : P.cellsOf f0.type = 1) (n1 : P.cellsOf f1.type = 1) (hCt : P.cellsOf e = 2)
    (h0 : P.underlying f0.type = some (.int .i64)) (h1 : P.underlying f1.type = some (.slice q)) (he : P.underlying q = some (.int .i64)) (hc : P.cellsOf q = 1) (h : DataW.trod enc P w base spare held fuel t cs = some x) :
    ∃ (a : Option Addr) (cap : Nat) (xs : List Hu), cs = [.slice a xs.length cap] ∧ RdH w (.slice a xs.length cap) xs ∧ xs.length ≤ maxLen ∧ ∀ x ∈ xs, x.t.length ≤ maxLen := by
  rcases Go.Deep.open_slice ht h with ⟨hcs, _⟩ | ⟨a, len, cap, m, n, D, Pl, hcs, _, hl, hm, hmm, _, hi⟩
  · exact ⟨none, 0, [], by simpa using hcs, ⟨⟨none, 0, rfl, .inl rfl⟩, by simp⟩, Nat.zero_le _, by simp⟩
  · have lm : len ≤ m := by rw [hmm]; split <;> omega
    obtain ⟨xs, hxl, hx⟩ := choose_list len (fun i (y : Hu) => (RdI w y.u y.t ∧ y.t.length ≤ maxLen) ∧ ∀ j u, (encHu y)[j]? = some u → w.cell? (a.add (i * 2 + j)) = some u) (by
      intro i hil
      obtain ⟨cs', hcc, ht'⟩ := hi i (by omega)
      obtain ⟨y, rfl, z2, z3⟩ := trod_hole (t1 := q) hT o0 o1 n0 n1 hCt h0 h1 he hc ht'
      refine ⟨y, ⟨z2, z3⟩, fun j u hu => ?_⟩
      obtain ⟨_, _, hat⟩ := World.cells?_some hcc
      have hj : j < P.cellsOf e := by rw [hCt]; have := (List.getElem?_eq_some_iff.1 hu).1; simpa [encHu] using this
      have := hat j hj
      rw [Go.Deep.add_add, hCt] at this
      rw [this, hu])
    refine ⟨some a, cap, xs, by rw [hxl]; exact hcs, ⟨⟨some a, cap, rfl, ?_⟩, ?_⟩, by omega, ?_⟩
    · by_cases h0' : xs = []
      · exact .inl h0'
      · right
        obtain ⟨y, hy⟩ : ∃ y, xs[0]? = some y := ⟨_, List.getElem?_eq_getElem (List.length_pos_iff.mpr h0')⟩
        have c0 := (hx 0 y hy).2 0 _ rfl
        obtain ⟨b, off, spot⟩ := a
        have hspot : spot = none := by simpa [Addr.add] using World.cell?_spot c0
        subst hspot
        refine ⟨b, off, rfl, fun i z hz j v hv => ?_⟩
        rw [← Go.WideShapes.add_plain]
        exact (hx i z hz).2 j v hv
    · intro y hy
      obtain ⟨i, hi', rfl⟩ := List.mem_iff_getElem.1 hy
      exact (hx i _ (List.getElem?_eq_getElem hi')).1.1
    · intro y hy
      obtain ⟨i, hi', rfl⟩ := List.mem_iff_getElem.1 hy
      exact (hx i _ (List.getElem?_eq_getElem hi')).1.2

/-- A struct of a slice of int64s and a slice of structs of an int64 and a slice of int64s. -/
theorem open_ground {r : Reach} {b0 : Nat} {t e q q0 : TypeId} {k0 k1 f0 f1 : Field} {v : Value} {d : DataW H} {p : List MemPlace}
    (hG : P.underlying t = some (.struct #[k0, k1])) (p0 : k0.offset = 0) (p1 : k1.offset = 1) (c0 : P.cellsOf k0.type = 1) (c1 : P.cellsOf k1.type = 1) (hCG : P.cellsOf t = 2)
    (hk0 : P.underlying k0.type = some (.slice q0)) (hq0 : P.underlying q0 = some (.int .i64)) (cq0 : P.cellsOf q0 = 1) (ht : P.underlying k1.type = some (.slice e))
    (hT : P.underlying e = some (.struct #[f0, f1])) (o0 : f0.offset = 0) (o1 : f1.offset = 1) (n0 : P.cellsOf f0.type = 1) (n1 : P.cellsOf f1.type = 1) (hCt : P.cellsOf e = 2)
    (h0 : P.underlying f0.type = some (.int .i64)) (h1 : P.underlying f1.type = some (.slice q)) (he : P.underlying q = some (.int .i64)) (hc : P.cellsOf q = 1)
    (hv : Value.okWide P w r b0 t v) (h : DataW.Trod enc P w base spare held t v d p) :
    ∃ g : Gu, v = .agg #[.slice g.da g.d.length g.dc, .slice g.ha g.xs.length g.hc] ∧ RdG w g ∧ WfG g := by
  obtain ⟨cs, rfl, hsz⟩ := okWide_struct hG hv
  obtain ⟨fuel, hd⟩ := h
  obtain ⟨us, n, _, _, hl, hyl, hat⟩ := DataW.trod_struct hG hd
  have g0 := hat 0 k0 rfl
  have g1 := hat 1 k1 rfl
  have y0 : us[0]? = some (us[0]'(by rw [hyl]; simp)) := List.getElem?_eq_getElem _
  have y1 : us[1]? = some (us[1]'(by rw [hyl]; simp)) := List.getElem?_eq_getElem _
  rw [y0, p0, c0, List.drop_zero] at g0
  rw [y1, p1, c1] at g1
  obtain ⟨a, c, zs, z1, z2, z3⟩ := trod_intS hk0 hq0 cq0 g0
  obtain ⟨a', c', xs, x1, x2, x3, x4⟩ := trod_holes ht hT o0 o1 n0 n1 hCt h0 h1 he hc g1
  refine ⟨⟨a, c, zs, a', c', xs⟩, ?_, ⟨z2, x2⟩, z3, x3, x4⟩
  have hcs : (Value.agg cs).cells.toList = cs.toList := rfl
  rw [hcs] at z1 x1 hl
  have e1 : cs.toList = cs.toList.take 1 ++ cs.toList.drop 1 := (List.take_append_drop _ _).symm
  have e2 : (cs.toList.drop 1).take 1 = cs.toList.drop 1 := List.take_of_length_le (by rw [List.length_drop, hl, hCG]; omega)
  have e3 : cs.toList = [.slice a zs.length c, .slice a' xs.length c'] := by
    rw [e1, ← e2, x1, z1]
    rfl
  have e4 : cs = #[.slice a zs.length c, .slice a' xs.length c'] := by
    apply Array.ext'
    rw [e3]
  rw [e4]
end
end Go.Proofs.Ytobfephcmiolbab
