/- slices.Min, Max, Index and Clone of integers. -/
import Derived.Test.YthhnnkgfnhggbabDoorInts
import Derived.Lib.LazyBuf
import Derived.Deep.AppendLies
namespace Go.Proofs.YthhnnkgfnhggbabDoor
open Go.ChangeShapes Go.WideShapes Go.ChangeAt Go.RowKit
set_option linter.unusedVariables false
set_option linter.unusedSimpArgs false

theorem info_int : (Tryd.prog.info? 2).map (fun i => (i.zero, i.size, i.bytes)) = some (some (.int .i64 0), 1, 8) := by kernel_rfl
theorem infoI_parts : ∃ i : TypeInfo, Tryd.prog.info? 2 = some i ∧ i.zero = some (.int .i64 0) ∧ i.size = 1 ∧ i.bytes = 8 := by
  have h := info_int
  match e : Tryd.prog.info? 2 with
  | none => rw [e] at h; cases h
  | some i => rw [e] at h; simp at h; exact ⟨i, rfl, h.1, h.2.1, h.2.2⟩

/-- A slice literal of integers. -/
theorem ownI_lit (w : World) (zs : List Int) (hz : zs.length ≤ 100) : OwnI (w.alloc (.cells (zs.map (Value.int .i64)).toArray 2)) w.heap.size (.slice (some ⟨w.heap.size, 0, none⟩) zs.length zs.length) zs := by
  refine ⟨by simp, .inr ⟨w.heap.size, zs.length, _, rfl, Nat.le_refl _, heap_alloc_new w _, Nat.le_refl _, by unfold maxLen; omega, by simp, by rw [Nat.mul_one]; exact List.take_of_length_le (by simp)⟩⟩

def LeastOf (zs : List Int) (x : Int) : Prop := x ∈ zs ∧ ∀ y ∈ zs, x ≤ y
def GreatestOf (zs : List Int) (x : Int) : Prop := x ∈ zs ∧ ∀ y ∈ zs, y ≤ x

theorem take_mem {zs : List Int} {k : Nat} {y : Int} (hy : zs[k]? = some y) (x : Int) : x ∈ zs.take (k + 1) ↔ x ∈ zs.take k ∨ x = y := by
  rw [List.take_add_one, hy]; simp

set_option maxHeartbeats 2000000 in
theorem min_any (a : Option Addr) (cap n : Nat) (zs : List Int) (w : World) (hn : n = zs.length) (h0 : 0 < n) (hn2 : n ≤ 1000000) (hr : RdI w (.slice a n cap) zs) (x : Int) (hx : LeastOf zs x) :
    Calls Tryd.prog 160 #[.slice a n cap] w fun e w' => e = .returned (.int .i64 x) ∧ w = w' := by
  obtain ⟨a', cap', e, hc⟩ := hr
  simp only [Value.slice.injEq] at e
  obtain ⟨rfl, -, rfl⟩ := e
  obtain ⟨b, off, rfl, hc1⟩ := hc.resolve_left (by intro h; rw [h] at hn; simp at hn; omega)
  obtain ⟨y0, hy0⟩ : ∃ y, zs[0]? = some y := ⟨_, List.getElem?_eq_getElem (by omega)⟩
  have c0 := hc1 0 y0 hy0
  have HC := Lib.hid hc1
  have HN := Lib.hid hn
  have HX := Lib.hid hx
  have l0 : ¬ (n : Int) < 1 := by omega
  have T0 : Hid (LeastOf (zs.take 1) y0) := by
    show _ ∧ _
    constructor
    · rw [take_mem hy0]; exact .inr rfl
    · intro y hy; rw [take_mem hy0] at hy; rcases hy with h | h
      · simp at h
      · omega
  clear hc hc1 hn hx hy0
  rw [Nat.add_zero] at c0
  go_enter Tryd.func160, Tryd.ntmps160
  go_wp2
  go_loopw [3, 4] (fun m i wr => ∃ (k : Nat) (y : Int), 1 ≤ k ∧ k ≤ n ∧ i = .int .i64 k ∧ m = .int .i64 y ∧ wr = w ∧ Hid (LeastOf (zs.take k) y)) (fun _ i _ => n - (intOf i).toNat)
  case atStart => exact ⟨1, y0, by omega, by omega, rfl, rfl, rfl, T0⟩
  case round =>
    obtain ⟨k, y, k1, hk, rfl, rfl, rfl, T⟩ := hrel
    clear T0 c0 l0
    by_cases hlt : k < n
    · obtain ⟨z, hz⟩ : ∃ z, zs[k]? = some z := ⟨_, List.getElem?_eq_getElem (by have := HN.out; omega)⟩
      have c1 := HC.out k z hz
      have lt : (k : Int) < n := by omega
      have T' : ∀ v : Int, (v = y ∧ y ≤ z ∨ v = z ∧ z ≤ y) → LeastOf (zs.take (k + 1)) v := by
        intro v hv
        obtain ⟨t1, t2⟩ := T.out
        constructor
        · rw [take_mem hz]; rcases hv with ⟨rfl, _⟩ | ⟨rfl, _⟩
          · exact .inl t1
          · exact .inr rfl
        · intro u hu
          rw [take_mem hz] at hu
          rcases hu with hu | rfl
          · have := t2 u hu; omega
          · omega
      have T2 := Lib.hid T'
      clear T' T hz
      by_cases hyz : y ≤ z
      · go_wp2
        exact ⟨⟨k + 1, y, by omega, by omega, by go_num, rfl, trivial, T2.out _ (.inl ⟨rfl, hyz⟩)⟩, by simp only [intOf]; omega⟩
      · have hzy : z < y := by omega
        clear hyz
        go_wp2
        exact ⟨⟨k + 1, z, by omega, by omega, by go_num, by simp [hzy], trivial, T2.out _ (.inr ⟨rfl, by omega⟩)⟩, by simp only [intOf]; omega⟩
    · obtain rfl : k = n := by omega
      have e : y = x := by
        have := T.out
        rw [List.take_of_length_le (by have := HN.out; omega)] at this
        obtain ⟨a1, a2⟩ := this
        obtain ⟨b1, b2⟩ := HX.out
        have := a2 x b1
        have := b2 y a1
        omega
      subst e
      have nlt : ¬ (k : Int) < k := by omega
      go_wp2
      go_ret
      exact ⟨rfl, rfl⟩
set_option maxHeartbeats 2000000 in
theorem max_any (a : Option Addr) (cap n : Nat) (zs : List Int) (w : World) (hn : n = zs.length) (h0 : 0 < n) (hn2 : n ≤ 1000000) (hr : RdI w (.slice a n cap) zs) (x : Int) (hx : GreatestOf zs x) :
    Calls Tryd.prog 161 #[.slice a n cap] w fun e w' => e = .returned (.int .i64 x) ∧ w = w' := by
  obtain ⟨a', cap', e, hc⟩ := hr
  simp only [Value.slice.injEq] at e
  obtain ⟨rfl, -, rfl⟩ := e
  obtain ⟨b, off, rfl, hc1⟩ := hc.resolve_left (by intro h; rw [h] at hn; simp at hn; omega)
  obtain ⟨y0, hy0⟩ : ∃ y, zs[0]? = some y := ⟨_, List.getElem?_eq_getElem (by omega)⟩
  have c0 := hc1 0 y0 hy0
  have HC := Lib.hid hc1
  have HN := Lib.hid hn
  have HX := Lib.hid hx
  have l0 : ¬ (n : Int) < 1 := by omega
  have T0 : Hid (GreatestOf (zs.take 1) y0) := by
    show _ ∧ _
    constructor
    · rw [take_mem hy0]; exact .inr rfl
    · intro y hy; rw [take_mem hy0] at hy; rcases hy with h | h
      · simp at h
      · omega
  clear hc hc1 hn hx hy0
  rw [Nat.add_zero] at c0
  go_enter Tryd.func161, Tryd.ntmps161
  go_wp2
  go_loopw [3, 4] (fun m i wr => ∃ (k : Nat) (y : Int), 1 ≤ k ∧ k ≤ n ∧ i = .int .i64 k ∧ m = .int .i64 y ∧ wr = w ∧ Hid (GreatestOf (zs.take k) y)) (fun _ i _ => n - (intOf i).toNat)
  case atStart => exact ⟨1, y0, by omega, by omega, rfl, rfl, rfl, T0⟩
  case round =>
    obtain ⟨k, y, k1, hk, rfl, rfl, rfl, T⟩ := hrel
    clear T0 c0 l0
    by_cases hlt : k < n
    · obtain ⟨z, hz⟩ : ∃ z, zs[k]? = some z := ⟨_, List.getElem?_eq_getElem (by have := HN.out; omega)⟩
      have c1 := HC.out k z hz
      have lt : (k : Int) < n := by omega
      have T' : ∀ v : Int, (v = y ∧ z ≤ y ∨ v = z ∧ y ≤ z) → GreatestOf (zs.take (k + 1)) v := by
        intro v hv
        obtain ⟨t1, t2⟩ := T.out
        constructor
        · rw [take_mem hz]; rcases hv with ⟨rfl, _⟩ | ⟨rfl, _⟩
          · exact .inl t1
          · exact .inr rfl
        · intro u hu
          rw [take_mem hz] at hu
          rcases hu with hu | rfl
          · have := t2 u hu; omega
          · omega
      have T2 := Lib.hid T'
      clear T' T hz
      by_cases hyz : z ≤ y
      · go_wp2
        exact ⟨⟨k + 1, y, by omega, by omega, by go_num, rfl, trivial, T2.out _ (.inl ⟨rfl, hyz⟩)⟩, by simp only [intOf]; omega⟩
      · have hzy : y < z := by omega
        clear hyz
        go_wp2
        exact ⟨⟨k + 1, z, by omega, by omega, by go_num, by simp [hzy], trivial, T2.out _ (.inr ⟨rfl, by omega⟩)⟩, by simp only [intOf]; omega⟩
    · obtain rfl : k = n := by omega
      have e : y = x := by
        have := T.out
        rw [List.take_of_length_le (by have := HN.out; omega)] at this
        obtain ⟨a1, a2⟩ := this
        obtain ⟨b1, b2⟩ := HX.out
        have := a2 x b1
        have := b2 y a1
        omega
      subst e
      have nlt : ¬ (k : Int) < k := by omega
      go_wp2
      go_ret
      exact ⟨rfl, rfl⟩


end Go.Proofs.YthhnnkgfnhggbabDoor
