/- The tree of a survey: of the program. -/
import Derived.Test.YtcmocilojloolaaDoorTreeG
import Derived.Test.YtcmocilojloolaaDoorRows
import Derived.Stop.LaidTwo
import Derived.Deep.RegionHeld3
namespace Go.Proofs.YtcmocilojloolaaDoor
open Go.ChangeShapes Go.WideShapes Go.ChangeAt Go.RowKit
set_option linter.unusedVariables false
set_option linter.unusedSimpArgs false

theorem gNV : Tryd.prog.globalNamed "loop.example/g01099/impl.errNotValid" = some 0 := by kernel_rfl
theorem gNC : Tryd.prog.globalNamed "loop.example/g01099/impl.errNotConnected" = some 1 := by kernel_rfl
theorem gNVT : (Tryd.prog.globals[0]?).map (·.type) = some 69 := by kernel_rfl
theorem gNCT : (Tryd.prog.globals[1]?).map (·.type) = some 69 := by kernel_rfl
theorem cellsEs : Tryd.prog.cellsOf 154 = 1 := by kernel_rfl
theorem cellsSt' : Tryd.prog.cellsOf 9 = 1 := by kernel_rfl
theorem starEs : "*" ++ "errors.errorString" = "*errors.errorString" := by decide
theorem rowEs (u : TypeId) (h : Tryd.prog.typeName? 3 u = some "*errors.errorString") : u = 136 :=
  typeName_ptr_named (nm := "errors.errorString") (by rw [starEs]; kernel_rfl) (by kernel_rfl) (by decide) u (by rw [starEs]; exact h)

/-- The two errors of surveys. -/
def TSv (w : World) : Prop := ∃ a0 a1 : Addr, a0 ≠ a1 ∧ w.var? Tryd.prog "loop.example/g01099/impl.errNotValid" = some #[.iface 136 (.pointer (some a0))] ∧ w.var? Tryd.prog "loop.example/g01099/impl.errNotConnected" = some #[.iface 136 (.pointer (some a1))] ∧ 0 < w.heap.size ∧ 1 < w.heap.size
theorem var_belowV {w w' : World} {s : String} {g : Nat} {cs : Array Value} (hg : Tryd.prog.globalNamed s = some g) (hl : g < w.heap.size) (h : w.var? Tryd.prog s = some cs) (b : ∀ k, k < w.heap.size → w'.heap[k]? = w.heap[k]?) : w'.var? Tryd.prog s = some cs := by
  rw [← h]
  simp only [World.var?, hg, Option.bind_some]
  rw [b g hl]
theorem TSv.later {w w' : World} (h : TSv w) (b : Below w.heap.size w w') : TSv w' := by
  obtain ⟨a0, a1, h1, e1, e2, h4, h5⟩ := h
  exact ⟨a0, a1, h1, var_belowV gNV h4 e1 (fun k hk => b.block k hk), var_belowV gNC h5 e2 (fun k hk => b.block k hk), Nat.lt_of_lt_of_le h4 b.size, Nat.lt_of_lt_of_le h5 b.size⟩
theorem TSv.of1 {W : World} {rest : List (String × DataW Unit)} (h : laidMet Tryd.prog (("loop.example/g01099/impl.errNotValid", Rows.laid_loop_example_g01099_impl_errNotValid) :: ("loop.example/g01099/impl.errNotConnected", Rows.laid_loop_example_g01099_impl_errNotConnected) :: rest) W) : TSv W := by
  obtain ⟨a0, a1, s0, s1, c0, c1, t0, t1, e0, e1, -, -, -, -, -, -, hne, -, -⟩ := laid_sentinels2 h gNV gNVT gNC gNCT Tryd.underlying69 rowEs Tryd.underlying136 Tryd.underlying154 rfl rfl Tryd.underlying9 cellsEs cellsSt'
  have k0 := World.var?_cell gNV e0 0
  have k1 := World.var?_cell gNC e1 0
  exact ⟨a0, a1, hne, e0, e1, World.block_lt_of_cell? W _ (by simpa using k0), World.block_lt_of_cell? W _ (by simpa using k1)⟩
/-- The errors as values. -/
def nvE (a : Addr) : Value := .iface 136 (.pointer (some a))
theorem TSv.cells {w : World} (h : TSv w) : ∃ a0 a1 : Addr, a0 ≠ a1 ∧ w.cell? ⟨0, 0, none⟩ = some (.iface 136 (.pointer (some a0))) ∧ w.cell? ⟨1, 0, none⟩ = some (.iface 136 (.pointer (some a1))) := by
  obtain ⟨a0, a1, h1, e1, e2, h4, h5⟩ := h
  exact ⟨a0, a1, h1, by have := World.var?_cell gNV e1 0; simpa using this, by have := World.var?_cell gNC e2 0; simpa using this⟩

/-- What the tree's loop keeps: the groups are alike to the specification's parts. -/
structure GrpOk (n : Nat) (xs : List St) (k : Nat) (g : List Lk) (R : Nat → Nat) (S : Nat → Int) (D : Nat → Nat) : Prop where
  forest : Forest n g R S D
  alike : Alike n (trTo n xs k) R S
  count : (trTo n xs k).o.length + roots n R = n
  bound : ∀ q, q < n → -tb k ≤ S q ∧ S q ≤ tb k

theorem roots_id (n : Nat) : roots n (fun p => p) = n := by
  unfold roots
  rw [show (List.range n).countP (fun p => p == p) = (List.range n).length from List.countP_eq_length.mpr (by simp)]
  simp
theorem grp_zero (n : Nat) (xs : List St) : GrpOk n xs 0 (iniTo n n) (fun p => p) (fun _ => 0) (fun _ => 0) := by
  refine ⟨iniTo_forest n, ⟨?_, ?_⟩, ?_, ?_⟩
  · intro p q hp hq
    simp [trTo, trInit, hp, hq]; omega
  · intro p q hp hq e
    have e : p = q := e
    subst e
    omega
  · simp [trTo, trInit, roots_id]
  · intro q hq; simp [tb]
theorem tb_le {k : Nat} (h : k ≤ 8) : tb k ≤ 328000 := by
  have : k = 0 ∨ k = 1 ∨ k = 2 ∨ k = 3 ∨ k = 4 ∨ k = 5 ∨ k = 6 ∨ k = 7 ∨ k = 8 := by omega
  rcases this with rfl | rfl | rfl | rfl | rfl | rfl | rfl | rfl | rfl <;> decide
theorem grp_none {n : Nat} {xs : List St} {k : Nat} {g g' : List Lk} {R : Nat → Nat} {S : Nat → Int} {D : Nat → Nat} (h : GrpOk n xs k g R S D) {x : St} (hx : xs[k]? = some x) (ok : OkSt n x) (he : R x.f.toNat = R x.t.toNat) (hF : Forest n g' R S D) :
    GrpOk n xs (k + 1) g' R S D ∧ (trTo n xs (k + 1)).o = (trTo n xs k).o := by
  have e := trTo_succ (n := n) hx
  rw [h.alike.none ok he] at e
  have := tb_nonneg k
  exact ⟨⟨hF, by rw [e]; exact h.alike, by rw [e]; exact h.count, fun q hq => by have := h.bound q hq; simp only [tb]; omega⟩, by rw [e]⟩
theorem grp_join {n : Nat} {xs : List St} {k : Nat} {g g' : List Lk} {R : Nat → Nat} {S : Nat → Int} {D : Nat → Nat} (h : GrpOk n xs k g R S D) {x : St} (hx : xs[k]? = some x) (hxs : ∀ x ∈ xs, OkSt n x) (he : R x.f.toNat ≠ R x.t.toNat)
    (hF : Forest n g' (rJoin R x.f.toNat x.t.toNat) (sJoin R S x.f.toNat x.t.toNat x.r) (dJoin R D x.t.toNat)) :
    GrpOk n xs (k + 1) g' (rJoin R x.f.toNat x.t.toNat) (sJoin R S x.f.toNat x.t.toNat x.r) (dJoin R D x.t.toNat) ∧ (trTo n xs (k + 1)).o = (trTo n xs k).o ++ [(k : Int)] := by
  have e := trTo_succ (n := n) hx
  have ok := hxs x (List.mem_of_getElem? hx)
  obtain ⟨f0, f1, t0, t1, -, r0, r1, -, -⟩ := id ok
  obtain ⟨ha, ho⟩ := h.alike.join (trTo_ok hxs k) k ok he
  rw [← e] at ha ho
  have hr := roots_join h.forest (f := x.f.toNat) (t := x.t.toNat) (by omega) (by omega) he
  have hc := h.count
  refine ⟨⟨hF, ha, by rw [ho, List.length_append]; simp; omega, ?_⟩, ho⟩
  intro q hq
  have b1 := h.bound q hq
  have b2 := h.bound x.f.toNat (by omega)
  have b3 := h.bound x.t.toNat (by omega)
  have := tb_nonneg k
  simp only [tb]
  unfold sJoin
  split <;> omega
theorem trTo_o_len {n : Nat} {xs : List St} {k : Nat} {g : List Lk} {R : Nat → Nat} {S : Nat → Int} {D : Nat → Nat} (h : GrpOk n xs k g R S D) : (trTo n xs k).o.length ≤ n := by have := h.count; omega
/-- All points are connected if no more than one group is left. -/
theorem grp_all {n : Nat} {xs : List St} {k : Nat} {g : List Lk} {R : Nat → Nat} {S : Nat → Int} {D : Nat → Nat} (h : GrpOk n xs k g R S D) (hxs : ∀ x ∈ xs, OkSt n x) : trAll (trTo n xs k) = true ↔ n ≤ (trTo n xs k).o.length + 1 := by
  rw [trAll_roots h.forest h.alike (trTo_ok hxs k)]
  have := h.count; omega
end Go.Proofs.YtcmocilojloolaaDoor
