/- The row of Pascal's triangle below another one, of the program. -/
import Derived.Test.YthhnnkgfnhggbabTrS
import Derived.Lib.LazyBuf
namespace Go.Proofs.Ythhnnkgfnhggbab
open Go.ChangeShapes Go.WideShapes Go.ChangeAt Go.RowKit
set_option linter.unusedVariables false
set_option linter.unusedSimpArgs false

theorem info_int : (Try.prog.info? 2).map (fun i => (i.zero, i.size, i.bytes)) = some (some (.int .i64 0), 1, 8) := by kernel_rfl
theorem infoI_parts : ∃ i : TypeInfo, Try.prog.info? 2 = some i ∧ i.zero = some (.int .i64 0) ∧ i.size = 1 ∧ i.bytes = 8 := by
  have h := info_int
  match e : Try.prog.info? 2 with
  | none => rw [e] at h; cases h
  | some i => rw [e] at h; simp at h; exact ⟨i, rfl, h.1, h.2.1, h.2.2⟩

/-- A slice literal of integers. -/
theorem ownI_lit (w : World) (zs : List Int) (hz : zs.length ≤ 100) : OwnI (w.alloc (.cells (zs.map (Value.int .i64)).toArray 2)) w.heap.size (.slice (some ⟨w.heap.size, 0, none⟩) zs.length zs.length) zs := by
  refine ⟨by simp, .inr ⟨w.heap.size, zs.length, _, rfl, Nat.le_refl _, heap_alloc_new w _, Nat.le_refl _, by unfold maxLen; omega, by simp, by rw [Nat.mul_one]; exact List.take_of_length_le (by simp)⟩⟩

set_option maxRecDepth 100000 in
set_option maxHeartbeats 2000000 in
theorem clone_any (a : Option Addr) (cap n : Nat) (zs : List Int) (w : World) (hn : n = zs.length) (h0 : 0 < n) (hn2 : n ≤ 1000000) (hr : RdI w (.slice a n cap) zs) :
    Calls Try.prog 22 #[.slice a n cap] w fun e w' => ∃ v, e = .returned v ∧ OwnI w' w.heap.size v zs ∧ Below w.heap.size w w' := by
  obtain ⟨a', cap', e, hc⟩ := hr
  simp only [Value.slice.injEq] at e
  obtain ⟨rfl, -, rfl⟩ := e
  obtain ⟨b, off, rfl, hc1⟩ := hc.resolve_left (by intro h; rw [h] at hn; simp at hn; omega)
  have HC := Lib.hid hc1
  have HN := Lib.hid hn
  have own : (w.alloc (.cells #[] 2)).ownsRow w.heap.size 2 1 (.slice (some ⟨w.heap.size, 0, none⟩) 0 0) 0 [] := ownI_lit w [] (by simp)
  clear hc hc1 hn
  have hnews : ∀ (j : Nat) (u : Value), (zs.map (Value.int .i64))[j]? = some u → (w.alloc (.cells #[] 2)).cell? ((⟨b, off, none⟩ : Addr).add j) = some u := by
    intro j u hu
    rw [List.getElem?_map] at hu
    obtain ⟨y, hy, rfl⟩ := Option.map_eq_some_iff.1 hu
    have c := HC.out j y hy
    have hb := World.block_lt_of_cell? w _ c
    rw [Go.WideShapes.add_plain]
    exact ((Below.alloc (Below.refl w.heap.size w) (Nat.le_refl _) _).cell (p := ⟨b, off + j, none⟩) hb).trans c
  have HNW := Lib.hid hnews
  have OWN := Lib.hid own
  clear hnews own
  have hl : (zs.map (Value.int .i64)).length = n * 1 := by rw [List.length_map, HN.out, Nat.mul_one]
  have HL := Lib.hid hl
  clear hl
  obtain ⟨i0, hi, hz0, hz1, hz2⟩ := infoI_parts
  have q22 : ∀ (w : World) (a : Addr) (n c : Nat), (binOp .eql 22 (.slice (some a) n c) (.slice none 0 0)).run Try.prog w = .ok (.bool false) w := fun w a n c => Go.run_eql_slice_nil w _ _ (some a) n c Try.underlying22
  go_enter Try.func22, Try.ntmps22
  go_wp2_with (at_builtin; refine wpList_append_lies _ rfl _ _ _ rfl w.heap.size 2 i0 _ 1 8 Try.underlying22 hi hz0 hz1 hz2 rfl (by omega) _ _ _ rfl OWN.out ⟨b, off, none⟩ n cap (zs.map (Value.int .i64)) rfl HL.out HNW.out (by simp [Value.oneCell']) (by omega) (by unfold maxLen; omega) (by omega) (by simp) _ rfl ?_)
  intro gg cap1 w5 hown1 hgrow hat hlt'
  have B5 : Below w.heap.size w w5 := (Below.alloc (Below.refl w.heap.size w) (Nat.le_refl _) _).grown hgrow (by simp) (fun j e => by cases e; exact Nat.le_refl _)
  have B := Lib.hid B5
  have O5 : Hid (OwnI w5 w.heap.size (.slice (some ⟨gg, 0, none⟩) n cap1) zs) := by
    show OwnI _ _ _ _
    unfold OwnI
    rw [← HN.out]
    have h := hown1
    exact h
  clear hown1 hgrow hat hlt' B5
  go_wp2
  go_ret
  exact ⟨_, rfl, by simpa using O5.out, B.out⟩


/-- The row below, as far as it is filled. -/
def belL (r : List Int) (k : Nat) : List Int := (nextRow r).take (k + 1) ++ (r ++ [0]).drop (k + 1)
theorem belL_len (r : List Int) (k : Nat) (hk : k ≤ r.length) : (belL r k).length = r.length + 1 := by simp [belL, nextRow_len]; omega
theorem belL_zero {r : List Int} (h : 0 < r.length) : belL r 0 = r ++ [0] := by
  cases r with
  | nil => simp at h
  | cons a r => simp [belL, nextRow]
theorem belL_all (r : List Int) : belL r r.length = nextRow r := by
  unfold belL
  rw [List.take_of_length_le (by rw [nextRow_len]; omega), List.drop_of_length_le (by simp), List.append_nil]
theorem belL_get {r : List Int} {k : Nat} (hk : k < r.length) {x : Int} (hx : (r ++ [0])[k + 1]? = some x) : (belL r k)[k + 1]? = some x := by
  have e : ((nextRow r).take (k + 1)).length = k + 1 := by rw [List.length_take, nextRow_len]; omega
  unfold belL
  rw [List.getElem?_append_right (by omega), e, Nat.sub_self, List.getElem?_drop]
  exact hx
theorem belL_set {r : List Int} {k : Nat} {x y : Int} (hx : (r ++ [0])[k + 1]? = some x) (hy : r[k]? = some y) : (belL r k).set (k + 1) (x + y) = belL r (k + 1) := by
  have hk : k < r.length := (List.getElem?_eq_some_iff.1 hy).1
  have e : ((nextRow r).take (k + 1)).length = k + 1 := by rw [List.length_take, nextRow_len]; omega
  have hl : k + 1 < (r ++ [0]).length := by simp; omega
  unfold belL
  rw [List.set_append_right _ _ (by omega), e, Nat.sub_self, List.drop_eq_getElem_cons hl, List.set_cons_zero, List.take_add_one (i := k + 1), nextRow_get hx hy]
  simp

end Go.Proofs.Ythhnnkgfnhggbab
