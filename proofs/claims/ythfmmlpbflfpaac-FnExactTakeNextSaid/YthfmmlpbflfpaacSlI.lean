/- slices.Min, Max, Index and Clone of integers. -/
import Derived.Test.YthfmmlpbflfpaacInts
import Derived.Lib.LazyBuf
import Derived.Deep.AppendLies
namespace Go.Proofs.Ythfmmlpbflfpaac
open Go.ChangeShapes Go.WideShapes Go.ChangeAt Go.RowKit
set_option linter.unusedVariables false
set_option linter.unusedSimpArgs false

theorem info_int : (Try.prog.info? 2).map (fun i => (i.zero, i.size, i.bytes)) = some (some (.int .i64 0), 1, 8) := by kernel_rfl
theorem infoI_parts : ∃ i : TypeInfo, Try.prog.info? 2 = some i ∧ i.zero = some (.int .i64 0) ∧ i.size = 1 ∧ i.bytes = 8 := by
  have h := info_int
  match e : Try.prog.info? 2 with
  | none => rw [e] at h; cases h
  | some i => rw [e] at h; simp at h; exact ⟨i, rfl, h.1, h.2.1, h.2.2⟩

/-- A slice literal of integers. -/
theorem ownI_lit (w : World) (zs : List Int) (hz : zs.length ≤ 100) : OwnI (w.alloc (.cells (zs.map (Value.int .i64)).toArray 2)) w.heap.size (.slice (some ⟨w.heap.size, 0, none⟩) zs.length zs.length) zs := by
  refine ⟨by simp, .inr ⟨w.heap.size, zs.length, _, rfl, Nat.le_refl _, heap_alloc_new w _, Nat.le_refl _, by unfold maxLen; omega, by simp, by rw [Nat.mul_one]; exact List.take_of_length_le (by simp)⟩⟩

def LeastOf (zs : List Int) (x : Int) : Prop := x ∈ zs ∧ ∀ y ∈ zs, x ≤ y
def GreatestOf (zs : List Int) (x : Int) : Prop := x ∈ zs ∧ ∀ y ∈ zs, y ≤ x

theorem take_mem {zs : List Int} {k : Nat} {y : Int} (hy : zs[k]? = some y) (x : Int) : x ∈ zs.take (k + 1) ↔ x ∈ zs.take k ∨ x = y := by
  rw [List.take_add_one, hy]; simp


set_option maxRecDepth 100000 in
set_option maxHeartbeats 2000000 in
theorem clone_any (a : Option Addr) (cap n : Nat) (zs : List Int) (w : World) (hn : n = zs.length) (h0 : 0 < n) (hn2 : n ≤ 1000000) (hr : RdI w (.slice a n cap) zs) :
    Calls Try.prog 52 #[.slice a n cap] w fun e w' => ∃ v, e = .returned v ∧ OwnI w' w.heap.size v zs ∧ Below w.heap.size w w' := by
  obtain ⟨a', cap', e, hc⟩ := hr
  simp only [Value.slice.injEq] at e
  obtain ⟨rfl, -, rfl⟩ := e
  obtain ⟨b, off, rfl, hc1⟩ := hc.resolve_left (by intro h; rw [h] at hn; simp at hn; omega)
  have HC := Lib.hid hc1
  have HN := Lib.hid hn
  have own : (w.alloc (.cells #[] 2)).ownsRow w.heap.size 2 1 (.slice (some ⟨w.heap.size, 0, none⟩) 0 0) 0 [] := ownI_lit w [] (by simp)
  clear hc hc1 hn
  have hnews : ∀ (j : Nat) (u : Value), (zs.map (Value.int .i64))[j]? = some u → (w.alloc (.cells #[] 2)).cell? ((⟨b, off, none⟩ : Addr).add j) = some u := by
    intro j u hu
    rw [List.getElem?_map] at hu
    obtain ⟨y, hy, rfl⟩ := Option.map_eq_some_iff.1 hu
    have c := HC.out j y hy
    have hb := World.block_lt_of_cell? w _ c
    rw [Go.WideShapes.add_plain]
    exact ((Below.alloc (Below.refl w.heap.size w) (Nat.le_refl _) _).cell (p := ⟨b, off + j, none⟩) hb).trans c
  have HNW := Lib.hid hnews
  have OWN := Lib.hid own
  clear hnews own
  have hl : (zs.map (Value.int .i64)).length = n * 1 := by rw [List.length_map, HN.out, Nat.mul_one]
  have HL := Lib.hid hl
  clear hl
  obtain ⟨i0, hi, hz0, hz1, hz2⟩ := infoI_parts
  have q22 : ∀ (w : World) (a : Addr) (n c : Nat), (binOp .eql 44 (.slice (some a) n c) (.slice none 0 0)).run Try.prog w = .ok (.bool false) w := fun w a n c => Go.run_eql_slice_nil w _ _ (some a) n c Try.underlying44
  go_enter Try.func52, Try.ntmps52
  go_wp2_with (at_builtin; refine wpList_append_lies _ rfl _ _ _ rfl w.heap.size 2 i0 _ 1 8 Try.underlying44 hi hz0 hz1 hz2 rfl (by omega) _ _ _ rfl OWN.out ⟨b, off, none⟩ n cap (zs.map (Value.int .i64)) rfl HL.out HNW.out (by simp [Value.oneCell']) (by omega) (by unfold maxLen; omega) (by omega) (by simp) _ rfl ?_)
  intro gg cap1 w5 hown1 hgrow hat hlt'
  have B5 : Below w.heap.size w w5 := (Below.alloc (Below.refl w.heap.size w) (Nat.le_refl _) _).grown hgrow (by simp) (fun j e => by cases e; exact Nat.le_refl _)
  have B := Lib.hid B5
  have O5 : Hid (OwnI w5 w.heap.size (.slice (some ⟨gg, 0, none⟩) n cap1) zs) := by
    show OwnI _ _ _ _
    unfold OwnI
    rw [← HN.out]
    have h := hown1
    exact h
  clear hown1 hgrow hat hlt' B5
  go_wp2
  go_ret
  exact ⟨_, rfl, by simpa using O5.out, B.out⟩

end Go.Proofs.Ythfmmlpbflfpaac
