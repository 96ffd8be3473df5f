/- Arguments that are yards and slices of slices of integers, opened. -/
import Derived.Test.YthfmmlpbflfpaacOpenI
import Derived.Test.YthfmmlpbflfpaacYardA
namespace Go.Proofs.Ythfmmlpbflfpaac
open Go.ChangeShapes Go.WideShapes Go.ChangeAt Go.RowKit
set_option linter.unusedVariables false
set_option linter.unusedSimpArgs false

section
variable {H : Type} {enc : TypeId × Value → H} {P : Program} {w : World} {base : Nat} {spare : Nat → Bool} {held : Bool}

theorem trod_ss {t e q : TypeId} {fuel : Nat} {cs : List Value} {x : DataW H × List MemPlace} (ht : P.underlying t = some (.slice e)) (h1 : P.underlying e = some (.slice q)) (hCt : P.cellsOf e = 1) (he : P.underlying q = some (.int .i64)) (hc : P.cellsOf q = 1) (h : DataW.trod enc P w base spare held fuel t cs = some x) :
    ∃ (a : Option Addr) (cap : Nat) (xs : List Sl), cs = [.slice a xs.length cap] ∧ RdSS w (.slice a xs.length cap) xs ∧ xs.length ≤ maxLen ∧ ∀ x ∈ xs, x.t.length ≤ maxLen := by
  rcases Go.Deep.open_slice ht h with ⟨hcs, _⟩ | ⟨a, len, cap, m, n, D, Pl, hcs, _, hl, hm, hmm, _, hi⟩
  · exact ⟨none, 0, [], by simpa using hcs, ⟨⟨none, 0, rfl, .inl rfl⟩, by simp⟩, Nat.zero_le _, by simp⟩
  · have lm : len ≤ m := by rw [hmm]; split <;> omega
    obtain ⟨xs, hxl, hx⟩ := choose_list len (fun i (y : Sl) => (RdI w y.u y.t ∧ y.t.length ≤ maxLen) ∧ ∀ j u, (encSl y)[j]? = some u → w.cell? (a.add (i * 1 + j)) = some u) (by
      intro i hil
      obtain ⟨cs', hcc, ht'⟩ := hi i (by omega)
      obtain ⟨a2, c2, zs, rfl, z2, z3⟩ := trod_intS h1 he hc ht'
      refine ⟨⟨a2, c2, zs⟩, ⟨z2, z3⟩, fun j u hu => ?_⟩
      obtain ⟨_, _, hat⟩ := World.cells?_some hcc
      have hj : j < P.cellsOf e := by rw [hCt]; have := (List.getElem?_eq_some_iff.1 hu).1; simpa [encSl] using this
      have := hat j hj
      rw [Go.Deep.add_add, hCt] at this
      rw [this]
      exact hu)
    refine ⟨some a, cap, xs, by rw [hxl]; exact hcs, ⟨⟨some a, cap, rfl, ?_⟩, ?_⟩, by omega, ?_⟩
    · by_cases h0' : xs = []
      · exact .inl h0'
      · right
        obtain ⟨y, hy⟩ : ∃ y, xs[0]? = some y := ⟨_, List.getElem?_eq_getElem (List.length_pos_iff.mpr h0')⟩
        have c0 := (hx 0 y hy).2 0 _ rfl
        obtain ⟨b, off, spot⟩ := a
        have hspot : spot = none := by simpa [Addr.add] using World.cell?_spot c0
        subst hspot
        refine ⟨b, off, rfl, fun i z hz j v hv => ?_⟩
        rw [← Go.WideShapes.add_plain]
        exact (hx i z hz).2 j v hv
    · intro y hy
      obtain ⟨i, hi', rfl⟩ := List.mem_iff_getElem.1 hy
      exact (hx i _ (List.getElem?_eq_getElem hi')).1.1
    · intro y hy
      obtain ⟨i, hi', rfl⟩ := List.mem_iff_getElem.1 hy
      exact (hx i _ (List.getElem?_eq_getElem hi')).1.2

/-- A slice of slices of int64s, by value. -/
theorem open_ss {r : Reach} {b0 : Nat} {t e q : TypeId} {v : Value} {d : DataW H} {p : List MemPlace} (ht : P.underlying t = some (.slice e)) (h1 : P.underlying e = some (.slice q)) (hCt : P.cellsOf e = 1) (he : P.underlying q = some (.int .i64)) (hc : P.cellsOf q = 1)
    (hv : Value.okWide P w r b0 t v) (h : DataW.Trod enc P w base spare held t v d p) :
    ∃ (a : Option Addr) (cap m : Nat) (xs : List Sl), v = .slice a m cap ∧ RdSS w (.slice a m cap) xs ∧ m ≤ maxLen ∧ ∀ x ∈ xs, x.t.length ≤ maxLen := by
  obtain ⟨a, len, cap, rfl⟩ := okWide_slice ht hv
  obtain ⟨fuel, hd⟩ := h
  obtain ⟨a', cap', xs, hcs, h1, h2, h3⟩ := trod_ss ht h1 hCt he hc hd
  have hcs' : [Value.slice a len cap] = [Value.slice a' xs.length cap'] := hcs
  simp only [List.cons.injEq, and_true] at hcs'
  rw [hcs']
  exact ⟨a', cap', _, xs, rfl, h1, h2, h3⟩

/-- A yard by value. -/
theorem open_yard {r : Reach} {b0 : Nat} {t e q : TypeId} {f0 f1 : Field} {v : Value} {d : DataW H} {p : List MemPlace}
    (hT : P.underlying t = some (.struct #[f0, f1])) (o0 : f0.offset = 0) (o1 : f1.offset = 1) (c0 : P.cellsOf f0.type = 1) (c1 : P.cellsOf f1.type = 1) (hCt : P.cellsOf t = 2)
    (u0 : P.underlying f0.type = some (.int .i64)) (u1 : P.underlying f1.type = some (.slice e)) (h1 : P.underlying e = some (.slice q)) (hCe : P.cellsOf e = 1) (he : P.underlying q = some (.int .i64)) (hc : P.cellsOf q = 1)
    (hv : Value.okWide P w r b0 t v) (h : DataW.Trod enc P w base spare held t v d p) :
    ∃ (g : Yd) (n0 : Nat), v = (.agg #[.int .i64 g.h, .slice g.xa n0 g.xc]) ∧ RdYd w n0 g ∧ n0 ≤ maxLen ∧ ∀ x ∈ g.x, x.t.length ≤ maxLen := by
  obtain ⟨cs, rfl, hsz⟩ := okWide_struct hT hv
  obtain ⟨fuel, hd⟩ := h
  obtain ⟨us, n, _, _, hl, hyl, hat⟩ := DataW.trod_struct hT hd
  have hcs : (Value.agg cs).cells.toList = cs.toList := rfl
  have g0 := hat 0 f0 rfl
  have g1 := hat 1 f1 rfl
  have y0 : us[0]? = some (us[0]'(by rw [hyl]; simp)) := List.getElem?_eq_getElem _
  have y1 : us[1]? = some (us[1]'(by rw [hyl]; simp)) := List.getElem?_eq_getElem _
  rw [y0, o0, c0, List.drop_zero] at g0
  rw [y1, o1, c1] at g1
  obtain ⟨r0, e0, _, _⟩ := DataW.trod_int u0 g0
  obtain ⟨a, c, xs, z1, z2, z3, z4⟩ := trod_ss u1 h1 hCe he hc g1
  refine ⟨⟨r0, a, c, xs⟩, xs.length, ?_, ⟨z2⟩, z3, z4⟩
  have e1 : (Value.agg cs).cells.toList = (Value.agg cs).cells.toList.take 1 ++ (Value.agg cs).cells.toList.drop 1 := (List.take_append_drop _ _).symm
  have e2 : ((Value.agg cs).cells.toList.drop 1).take 1 = (Value.agg cs).cells.toList.drop 1 := List.take_of_length_le (by rw [List.length_drop, hl, hCt]; omega)
  have e : cs = #[.int .i64 r0, .slice a xs.length c] := by
    apply Array.ext'
    rw [← hcs, e1, ← e2, z1, e0]
    rfl
  rw [e]
end
end Go.Proofs.Ythfmmlpbflfpaac
