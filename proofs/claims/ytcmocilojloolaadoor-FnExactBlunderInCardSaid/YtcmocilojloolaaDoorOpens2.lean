/- Arguments that are slices of structs of integers, and structs that hold them. -/
import Derived.Test.YtcmocilojloolaaDoorOpens
import Derived.Test.YtcmocilojloolaaDoorRecs
import Derived.OpenShut
namespace Go.Proofs.YtcmocilojloolaaDoor
open Go.ChangeShapes Go.WideShapes Go.ChangeAt Go.RowKit
set_option linter.unusedVariables false
set_option linter.unusedSimpArgs false

/-- Every field is an int64. -/
def WfL {L : Type} (enc : L → List Value) (x : L) : Prop := ∀ u ∈ enc x, ∃ z, u = Value.int .i64 z ∧ (Lit.int .i64 z).wf = true

section
variable {H : Type} {enc : TypeId × Value → H} {P : Program} {w : World} {base : Nat} {spare : Nat → Bool} {held : Bool}

theorem choose_list {L : Type} (n : Nat) (p : Nat → L → Prop) (h : ∀ i, i < n → ∃ x, p i x) : ∃ xs : List L, xs.length = n ∧ ∀ i x, xs[i]? = some x → p i x := by
  induction n with
  | zero => exact ⟨[], rfl, by intro i x hx; simp at hx⟩
  | succ n ih =>
    obtain ⟨xs, hl, hx⟩ := ih fun i hi => h i (by omega)
    obtain ⟨y, hy⟩ := h n (by omega)
    refine ⟨xs ++ [y], by simp [hl], fun i x hi => ?_⟩
    by_cases e : i < n
    · rw [List.getElem?_append_left (by omega)] at hi
      exact hx i x hi
    · have el : i < n + 1 := by have := (List.getElem?_eq_some_iff.1 hi).1; simp [hl] at this; omega
      obtain rfl : i = n := by omega
      rw [List.getElem?_append_right (by omega), hl, Nat.sub_self] at hi
      simp at hi
      subst hi
      exact hy

theorem trod_rows {L : Type} (k : Nat) (encL : L → List Value) (hkl : ∀ x, (encL x).length = k) (mk : ∀ zs : List Int, zs.length = k → ∃ x : L, encL x = zs.map (Value.int .i64)) (hk : 0 < k) {t e : TypeId} {fs : Array Field} {fuel : Nat} {cs : List Value} {x : DataW H × List MemPlace}
    (ht : P.underlying t = some (.slice e)) (he : P.underlying e = some (.struct fs)) (hf : intFields P fs = true) (hC : P.cellsOf e = fs.size) (hK : fs.size = k) (h : DataW.trod enc P w base spare held fuel t cs = some x) :
    ∃ (a : Option Addr) (cap : Nat) (xs : List L), cs = [.slice a xs.length cap] ∧ RdS k encL w (.slice a xs.length cap) xs ∧ xs.length ≤ maxLen ∧ ∀ y ∈ xs, WfL encL y := by
  rcases Go.Deep.open_slice ht h with ⟨hcs, _⟩ | ⟨a, len, cap, m, n, D, Pl, hcs, _, hl, hm, hmm, _, hi⟩
  · exact ⟨none, 0, [], by simpa using hcs, ⟨none, 0, rfl, .inl rfl⟩, Nat.zero_le _, by simp⟩
  · have lm : len ≤ m := by rw [hmm]; split <;> omega
    obtain ⟨xs, hxl, hx⟩ := choose_list len (fun i (y : L) => WfL encL y ∧ ∀ j u, (encL y)[j]? = some u → w.cell? (a.add (i * k + j)) = some u) (by
      intro i hil
      obtain ⟨cs', hc, ht'⟩ := hi i (by omega)
      obtain ⟨zs, hzl, rfl, hzw⟩ := trod_ints he hf hC ht'
      obtain ⟨y, hy⟩ := mk zs (by omega)
      refine ⟨y, ?_, fun j u hu => ?_⟩
      · intro u hu
        rw [hy] at hu
        obtain ⟨z, hz, rfl⟩ := List.mem_map.1 hu
        exact ⟨z, rfl, hzw z hz⟩
      · obtain ⟨_, _, hat⟩ := World.cells?_some hc
        rw [hy] at hu
        have hj : j < P.cellsOf e := by rw [hC]; have := (List.getElem?_eq_some_iff.1 hu).1; simp at this; omega
        have := hat j hj
        rw [Go.Deep.add_add, hC, hK] at this
        rw [this, hu])
    refine ⟨some a, cap, xs, by rw [hxl]; exact hcs, ⟨some a, cap, rfl, ?_⟩, by omega, ?_⟩
    · by_cases h0 : xs = []
      · exact .inl h0
      · right
        obtain ⟨y, hy⟩ : ∃ y, xs[0]? = some y := ⟨_, List.getElem?_eq_getElem (List.length_pos_iff.mpr h0)⟩
        have hyl : ∃ u, (encL y)[0]? = some u := ⟨_, List.getElem?_eq_getElem (by rw [hkl]; exact hk)⟩
        obtain ⟨u, hu⟩ := hyl
        have c0 := (hx 0 y hy).2 0 u hu
        obtain ⟨b, off, spot⟩ := a
        have hspot : spot = none := by simpa [Addr.add] using World.cell?_spot c0
        subst hspot
        refine ⟨b, off, rfl, fun i z hz j v hv => ?_⟩
        rw [← Go.WideShapes.add_plain]
        exact (hx i z hz).2 j v hv
    · intro y hy
      obtain ⟨i, hi', rfl⟩ := List.mem_iff_getElem.1 hy
      exact (hx i _ (List.getElem?_eq_getElem hi')).1

/-- A slice of structs by value. -/
theorem open_rows {L : Type} (k : Nat) (encL : L → List Value) (hkl : ∀ x, (encL x).length = k) (mk : ∀ zs : List Int, zs.length = k → ∃ x : L, encL x = zs.map (Value.int .i64)) (hk : 0 < k) {r : Reach} {b0 : Nat} {t e : TypeId} {fs : Array Field} {v : Value} {d : DataW H} {p : List MemPlace}
    (ht : P.underlying t = some (.slice e)) (he : P.underlying e = some (.struct fs)) (hf : intFields P fs = true) (hC : P.cellsOf e = fs.size) (hK : fs.size = k) (hv : Value.okWide P w r b0 t v) (h : DataW.Trod enc P w base spare held t v d p) :
    ∃ (a : Option Addr) (cap : Nat) (xs : List L), v = .slice a xs.length cap ∧ RdS k encL w (.slice a xs.length cap) xs ∧ xs.length ≤ maxLen ∧ ∀ y ∈ xs, WfL encL y := by
  obtain ⟨a, len, cap, rfl⟩ := okWide_slice ht hv
  obtain ⟨fuel, hd⟩ := h
  obtain ⟨a', cap', xs, hcs, h1, h2, h3⟩ := trod_rows k encL hkl mk hk ht he hf hC hK hd
  have hcs' : [Value.slice a len cap] = [Value.slice a' xs.length cap'] := hcs
  simp only [List.cons.injEq, and_true] at hcs'
  exact ⟨a', cap', xs, hcs', h1, h2, h3⟩

/-- A struct of a struct of int64s and a slice of structs of int64s. -/
theorem open_flat_rows {L : Type} (k : Nat) (encL : L → List Value) (hkl : ∀ x, (encL x).length = k) (mk : ∀ zs : List Int, zs.length = k → ∃ x : L, encL x = zs.map (Value.int .i64)) (hk : 0 < k) {r : Reach} {b0 : Nat} {t e : TypeId} {f0 f1 : Field} {fp fs : Array Field} {v : Value} {d : DataW H} {p : List MemPlace}
    (hT : P.underlying t = some (.struct #[f0, f1])) (o0 : f0.offset = 0) (o1 : f1.offset = fp.size) (n1 : P.cellsOf f1.type = 1) (hCt : P.cellsOf t = fp.size + 1)
    (hp : P.underlying f0.type = some (.struct fp)) (hpi : intFields P fp = true) (hpc : P.cellsOf f0.type = fp.size)
    (ht : P.underlying f1.type = some (.slice e)) (he : P.underlying e = some (.struct fs)) (hf : intFields P fs = true) (hC : P.cellsOf e = fs.size) (hK : fs.size = k) (hv : Value.okWide P w r b0 t v) (h : DataW.Trod enc P w base spare held t v d p) :
    ∃ (zs : List Int) (a : Option Addr) (cap : Nat) (xs : List L), zs.length = fp.size ∧ (∀ z ∈ zs, (Lit.int .i64 z).wf = true) ∧ v = .agg (zs.map (Value.int .i64) ++ [Value.slice a xs.length cap]).toArray ∧ RdS k encL w (.slice a xs.length cap) xs ∧ xs.length ≤ maxLen ∧ ∀ y ∈ xs, WfL encL y := by
  obtain ⟨cs, rfl, hsz⟩ := okWide_struct hT hv
  obtain ⟨fuel, hd⟩ := h
  obtain ⟨ys, n, _, _, hl, hyl, hat⟩ := DataW.trod_struct hT hd
  have g0 := hat 0 f0 rfl
  have g1 := hat 1 f1 rfl
  have y0 : ys[0]? = some (ys[0]'(by rw [hyl]; simp)) := List.getElem?_eq_getElem _
  have y1 : ys[1]? = some (ys[1]'(by rw [hyl]; simp)) := List.getElem?_eq_getElem _
  rw [y0, o0, hpc] at g0
  rw [y1, o1, n1] at g1
  obtain ⟨zs, z1, z2, z3⟩ := trod_ints hp hpi hpc g0
  obtain ⟨a, cap, xs, x1, x2, x3, x4⟩ := trod_rows k encL hkl mk hk ht he hf hC hK g1
  refine ⟨zs, a, cap, xs, z1, z3, ?_, x2, x3, x4⟩
  have hcs : (Value.agg cs).cells.toList = cs.toList := rfl
  rw [hcs] at z2 x1 hl
  have e1 : cs.toList = cs.toList.take fp.size ++ cs.toList.drop fp.size := (List.take_append_drop _ _).symm
  have e2 : (cs.toList.drop fp.size).take 1 = cs.toList.drop fp.size := List.take_of_length_le (by rw [List.length_drop, hl, hCt]; omega)
  have e3 : cs.toList = zs.map (Value.int .i64) ++ [Value.slice a xs.length cap] := by
    rw [e1, ← e2, x1, ← z2]
    simp
  rw [← e3]
end
end Go.Proofs.YtcmocilojloolaaDoor
