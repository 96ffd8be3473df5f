/- What the listed package-level variables of rings hold. -/
import Derived.Test.YtpphbjgaldidaaaDoorRows
import Derived.Test.YtpphbjgaldidaaaDoorBase
import Derived.Lib.LaidTab
import Derived.WalkSpells
import Derived.OpenShut
namespace Go.Proofs.YtpphbjgaldidaaaDoor
open Go.ChangeShapes Go.WideShapes Go.ChangeAt Go.RowKit
set_option linter.unusedVariables false
set_option linter.unusedSimpArgs false

def debL : List Int := [0, 1, 28, 2, 29, 14, 24, 3, 30, 22, 20, 15, 25, 17, 4, 8, 31, 27, 13, 23, 21, 19, 16, 7, 26, 12, 18, 6, 11, 5, 10, 9]
def keyRows : List (List Int) := [[10, 0], [9, 4], [7, 7], [4, 9], [0, 10], [-4, 9], [-7, 7], [-9, 4], [-10, 0], [-9, -4], [-7, -7], [-4, -9], [0, -10], [4, -9], [7, -7], [9, -4]]
def keyL : List Int := keyRows.flatten

/-- An array of arrays of integers that reads as the rows holds their numbers, cell for cell. -/
theorem cells_of_tab2 {H : Type} {enc : TypeId × Value → H} {P : Program} {w : World} {base : Nat} {sp : Nat → Bool} {held : Bool} {fuel : Nat} {t e e2 : TypeId} {n m : Nat} {k : IntKind} {cs : List Value} {rows : List (List Int)} {p : List MemPlace}
    (ht : P.underlying t = some (.array n e)) (he : P.underlying e = some (.array m e2)) (he2 : P.underlying e2 = some (.int k)) (h1 : P.cellsOf e2 = 1) (h2 : P.cellsOf e = m) (h3 : P.cellsOf t = n * m)
    (h : DataW.trod enc P w base sp held fuel t cs = some (.agg (rows.map fun zs => Lib.tabData k zs), p)) (hr : ∀ r ∈ rows, r.length = m) : cs = rows.flatten.map fun z => Value.int k z := by
  obtain ⟨xs, f, rfl, hx, hl, hn, hat⟩ := DataW.trod_array ht h
  rw [h3] at hl
  simp only [Prod.mk.injEq, DataW.agg.injEq] at hx
  obtain ⟨hx, -⟩ := hx
  have hrl : rows.length = n := by have := congrArg List.length hx; simp at this; omega
  have key : ∀ (i : Nat) (zs : List Int), rows[i]? = some zs → (cs.drop (i * m)).take m = zs.map fun z => Value.int k z := by
    intro i zs hz
    have hi : i < n := by rw [← hrl]; exact (List.getElem?_eq_some_iff.1 hz).1
    have h5 := hat i hi
    rw [h2] at h5
    have hxi : xs[i]? = some (xs[i]'(by omega)) := List.getElem?_eq_getElem (by omega)
    have e1 : (xs.map (·.1))[i]? = some (Lib.tabData k zs : DataW H) := by rw [← hx, List.getElem?_map, hz]; rfl
    rw [List.getElem?_map, hxi] at e1
    simp only [Option.map_some, Option.some.injEq] at e1
    rw [hxi] at h5
    generalize xs[i]'(by omega) = ab at h5 e1
    obtain ⟨a, b⟩ := ab
    simp only at e1
    subst e1
    exact Lib.cells_of_tab he he2 h1 h2 h5
  -- cut by cut
  suffices hs : ∀ (rs : List (List Int)) (c : List Value), c.length = rs.length * m → (∀ r ∈ rs, r.length = m) → (∀ (i : Nat) (zs : List Int), rs[i]? = some zs → (c.drop (i * m)).take m = zs.map fun z => Value.int k z) → c = rs.flatten.map fun z => Value.int k z from
    hs rows cs (by rw [hrl]; exact hl) hr key
  intro rs
  induction rs with
  | nil => intro c hc _ _; simp at hc; simp [hc]
  | cons r rs ih =>
    intro c hc hrr hk
    have h0 := hk 0 r rfl
    rw [Nat.zero_mul, List.drop_zero] at h0
    rw [List.flatten_cons, List.map_append, ← h0]
    have hd := ih (c.drop m) (by rw [List.length_drop, hc, List.length_cons, Nat.succ_mul]; omega) (fun r' h' => hrr r' (by simp [h'])) (fun i zs hz => by
      have := hk (i + 1) zs (by simpa using hz)
      rw [List.drop_drop, show m + i * m = (i + 1) * m by rw [Nat.succ_mul]; omega]
      exact this)
    rw [← hd, List.take_append_drop]

/-- The turns of the tapered rings. -/
def TKeys (w : World) : Prop := ∀ i : Nat, i < 32 → w.cell? ⟨0, i, none⟩ = some (.int .i64 (keyL.getD i 0))

theorem TKeys.later {w w' : World} (h : TKeys w) (b : Below w.heap.size w w') : TKeys w' := fun i hi => cell_later b (h i hi)

theorem gKeys : Tryd.prog.globalNamed "loop.example/g01099/impl.turnsOfKeys" = some 0 := by kernel_rfl
theorem gKeysType : (Tryd.prog.globals[0]?).map (·.type) = some 66 := by kernel_rfl
theorem cellsKeys : Tryd.prog.cellsOf 66 = 16 * 2 := by kernel_rfl
theorem cellsPair : Tryd.prog.cellsOf 48 = 2 := by kernel_rfl
theorem cellsI64 : Tryd.prog.cellsOf 2 = 1 := by kernel_rfl

theorem TKeys.of1 {W : World} {rest : List (String × DataW Unit)} (h : laidMet Tryd.prog (("loop.example/g01099/impl.turnsOfKeys", Rows.laid_loop_example_g01099_impl_turnsOfKeys) :: rest) W) : TKeys W := by
  obtain ⟨ps, ⟨g', t', cs, fuel, p, q, hg', ht', hvar, hd, _, _⟩, _⟩ := h
  obtain rfl := Option.some.inj (gKeys.symm.trans hg')
  obtain rfl := Option.some.inj (gKeysType.symm.trans ht')
  have e := cells_of_tab2 (rows := keyRows) (k := .i64) Tryd.underlying66 Tryd.underlying48 Tryd.underlying2 cellsI64 cellsPair cellsKeys hd (by decide)
  intro i hi
  have tab : Lib.TabIs Tryd.prog W "loop.example/g01099/impl.turnsOfKeys" .i64 keyL := by
    unfold Lib.TabIs
    rw [hvar]
    unfold keyL
    rw [← e]
  exact tab.cell gKeys i hi
end Go.Proofs.YtpphbjgaldidaaaDoor
