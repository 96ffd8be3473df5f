/- Settled lists on both sides; the volume that has settled; where neighbours differ most. (Written by tools/mksett.py.) -/
import Derived.Test.YthhnnkgfnhggbabPart
import Derived.Handy
import Derived.BigQuiet
namespace Go.Proofs.Ythhnnkgfnhggbab
open Go.ChangeShapes Go.WideShapes Go.ChangeAt Go.RowKit
set_option linter.unusedVariables false
set_option linter.unusedSimpArgs false

theorem bool_is (P : Prop) : ∃ b : Bool, b = true ↔ P := by
  by_cases h : P
  · exact ⟨true, by simp [h]⟩
  · exact ⟨false, by simp [h]⟩

theorem isSettlement_any (x : Int) (w : World) (b : Bool) (hb : b = true ↔ 0 ≤ x ∧ x ≤ 2000000) : Calls Try.prog 20 #[.int .i64 x] w fun e w' => e = .returned (.bool b) ∧ w = w' := by
  have C := Lib.hid (fun w => within_any x 0 2000000 b hb w)
  clear hb
  go_enter Try.func20, Try.ntmps20
  go_wp2_with fail
  refine (C.out _).mono ?_
  rintro e w' ⟨rfl, rfl⟩
  go_wp2
  go_ret
  exact ⟨rfl, rfl⟩

set_option maxHeartbeats 1000000 in
theorem every_isSettlement (v : Value) (zs : List Int) (w : World) (h : RdI w v zs) (lz : zs.length ≤ 1099511627776) (b : Bool) (hb : b = true ↔ AllIn 0 2000000 zs) :
    Calls Try.prog 19 #[v, .func (Fn.func 20) #[] #[]] w fun e w' => e = .returned (.bool b) ∧ w = w' := by
  obtain ⟨a, cap, rfl, ra⟩ := h
  obtain ⟨n, hn⟩ : ∃ n, n = zs.length := ⟨_, rfl⟩
  rw [← hn] at lz
  rw [← hn]
  have RA := Lib.hid ra
  have HN := Lib.hid hn
  have HB := Lib.hid hb
  clear ra hn hb
  go_enter Try.func19, Try.ntmps19
  go_wp2
  go_loop [6, 9] (fun _ i => ∃ k : Nat, k ≤ n ∧ i = .int .i64 k ∧ Hid (AllIn 0 2000000 (zs.take k))) (fun _ i => n - (intOf i).toNat)
  case atStart => exact ⟨0, by omega, rfl, fun x hx => by simp at hx⟩
  case round =>
    obtain ⟨k, hk, rfl, ha⟩ := hrel
    by_cases hlt : k < n
    · obtain ⟨x, hx⟩ : ∃ x, zs[k]? = some x := ⟨_, List.getElem?_eq_getElem (by have := HN.out; omega)⟩
      obtain ⟨ba, oa, rfl, ca'⟩ := RA.out.resolve_left (by intro h; have := HN.out; rw [h] at this; simp at this; omega)
      have c1 := ca' k x hx
      have HX := Lib.hid hx
      clear ca' hx
      by_cases hv : 0 ≤ x ∧ x ≤ 2000000
      · go_wp2_with (go_at_call 20; refine (isSettlement_any _ _ true (by simpa using hv)).mono ?_; rintro e w' ⟨rfl, rfl⟩)
        exact ⟨⟨k + 1, by omega, by go_num, ha.out.take_succ HX.out hv.1 hv.2⟩, by simp only [intOf]; omega⟩
      · obtain rfl : b = false := b_false HB.out (fun hA => hv (hA.at HX.out))
        go_wp2_with (go_at_call 20; refine (isSettlement_any _ _ false (by simp; omega)).mono ?_; rintro e w' ⟨rfl, rfl⟩)
        go_ret
        exact ⟨rfl, rfl⟩
    · obtain rfl : k = n := by omega
      obtain rfl : b = true := HB.out.mpr (by have := ha.out; rwa [List.take_of_length_le (by have := HN.out; omega)] at this)
      go_wp2
      go_ret
      exact ⟨rfl, rfl⟩

def OkSe (zs : List Int) : Prop := zs.length = 24 ∧ AllIn 0 2000000 zs

theorem isSettled_any (v : Value) (zs : List Int) (w : World) (h : RdI w v zs) (lz : zs.length ≤ 1099511627776) (b : Bool) (hb : b = true ↔ OkSe zs) :
    Calls Try.prog 14 #[v] w fun e w' => e = .returned (.bool b) ∧ w = w' := by
  obtain ⟨b1, h1⟩ := bool_is (AllIn 0 2000000 zs)
  have C := Lib.hid (every_isSettlement v zs w h lz b1 h1)
  have HB : Hid (b = true ↔ zs.length = 24 ∧ b1 = true) := by show _ ↔ _; rw [h1]; exact hb
  obtain ⟨a, cap, rfl, ra⟩ := h
  obtain ⟨n, hn⟩ : ∃ n, n = zs.length := ⟨_, rfl⟩
  rw [← hn] at C HB lz
  rw [← hn]
  clear ra hn hb h1
  by_cases g : n = 24
  · have g1 : ((n : Int) == 24) = true := by simp; omega
    obtain rfl : b = b1 := by rw [Bool.eq_iff_iff, HB.out]; simp [g]
    clear HB g
    go_enter Try.func14, Try.ntmps14
    go_wp2_with fail
    refine C.out.mono ?_
    rintro e w1 ⟨rfl, rfl⟩
    go_wp2
    go_ret
    exact ⟨by simp, rfl⟩
  · have g1 : ((n : Int) == 24) = false := by simp; omega
    obtain rfl : b = false := b_false HB.out (fun h => g h.1)
    clear HB g C
    go_enter Try.func14, Try.ntmps14
    go_wp2
    go_ret
    exact ⟨rfl, rfl⟩

set_option maxHeartbeats 1000000 in
theorem l07Settled_any (v : Value) (zs : List Int) (w : World) (h : RdI w v zs) (lz : zs.length ≤ 1099511627776) (b : Bool) (hb : b = true ↔ OkSe zs) :
    Calls Try.prog 12 #[v] w fun e w' => e = .returned (.bool b) ∧ w = w' := by
  obtain ⟨a, cap, rfl, ra⟩ := h
  obtain ⟨n, hn⟩ : ∃ n, n = zs.length := ⟨_, rfl⟩
  rw [← hn] at lz
  rw [← hn]
  have RA := Lib.hid ra
  have HN := Lib.hid hn
  have HB := Lib.hid hb
  clear ra hn hb
  go_enter Try.func12, Try.ntmps12
  go_wp2
  go_loop [3] (fun i => ∃ k : Nat, k ≤ n ∧ i = .int .i64 k ∧ Hid (AllIn 0 2000000 (zs.take k))) (fun i => n - (intOf i).toNat)
  case atStart => exact ⟨0, by omega, rfl, fun x hx => by simp at hx⟩
  case round =>
    obtain ⟨k, hk, rfl, ha⟩ := hrel
    by_cases hlt : k < n
    · obtain ⟨x, hx⟩ : ∃ x, zs[k]? = some x := ⟨_, List.getElem?_eq_getElem (by have := HN.out; omega)⟩
      obtain ⟨ba, oa, rfl, ca'⟩ := RA.out.resolve_left (by intro h; have := HN.out; rw [h] at this; simp at this; omega)
      have c1 := ca' k x hx
      have HX := Lib.hid hx
      clear ca' hx
      by_cases hv : 0 ≤ x ∧ x ≤ 2000000
      · go_wp2_with fail
        refine (in_any x 0 2000000 true (by simpa using hv) _).mono ?_
        rintro e w' ⟨rfl, rfl⟩
        go_wp2
        exact ⟨⟨k + 1, by omega, by go_num, ha.out.take_succ HX.out hv.1 hv.2⟩, by simp only [intOf]; omega⟩
      · obtain rfl : b = false := b_false HB.out (fun hA => hv (hA.2.at HX.out))
        go_wp2_with fail
        refine (in_any x 0 2000000 false (by simp; omega) _).mono ?_
        rintro e w' ⟨rfl, rfl⟩
        go_wp2
        go_ret
        exact ⟨rfl, rfl⟩
    · obtain rfl : k = n := by omega
      have hA : AllIn 0 2000000 zs := by have := ha.out; rwa [List.take_of_length_le (by have := HN.out; omega)] at this
      by_cases hl : k = 24
      · have h3 : ((k : Int) == 24) = true := by simp; omega
        obtain rfl : b = true := HB.out.mpr ⟨by have := HN.out; omega, hA⟩
        clear hA hl
        go_wp2
        go_ret
        exact ⟨rfl, rfl⟩
      · obtain rfl : b = false := b_false HB.out (fun h => by have := h.1; have := HN.out; omega)
        have h3 : ((k : Int) == 24) = false := by simp; omega
        clear hl hA
        go_wp2
        go_ret
        exact ⟨rfl, rfl⟩

/-- The sum of the first k numbers. -/
def sumTo (zs : List Int) : Nat → Int
  | 0 => 0
  | k + 1 => sumTo zs k + zs.getD k 0
theorem sumTo_succ {zs : List Int} {k : Nat} {x : Int} (h : zs[k]? = some x) : sumTo zs (k + 1) = sumTo zs k + x := by simp only [sumTo, getD_of h]
theorem sumTo_bd {zs : List Int} {hi : Int} (h0 : 0 ≤ hi) (h : AllIn 0 hi zs) (k : Nat) : 0 ≤ sumTo zs k ∧ sumTo zs k ≤ hi * k := by
  induction k with
  | zero => simp [sumTo]
  | succ k ih =>
    simp only [sumTo, List.getD]
    rw [show hi * ((k + 1 : Nat) : Int) = hi * k + hi by push_cast; rw [Int.mul_add, Int.mul_one]]
    cases hx : zs[k]? with
    | none => simp only [Option.getD_none]; omega
    | some g => have := h.at hx; simp only [Option.getD_some]; omega
/-- What VolumeOf answers. -/
def VolRes (zs : List Int) (n : Int) (b : Bool) : Prop := (OkSe zs ∧ n = sumTo zs 24 ∧ b = true) ∨ (¬ OkSe zs ∧ n = 0 ∧ b = false)




/-- By how much the neighbours i and i + 1 differ. -/
def difN (zs : List Int) (i : Nat) : Int := if zs.getD i 0 - zs.getD (i + 1) 0 < -(zs.getD i 0 - zs.getD (i + 1) 0) then -(zs.getD i 0 - zs.getD (i + 1) 0) else zs.getD i 0 - zs.getD (i + 1) 0
theorem difN_nonneg (zs : List Int) (i : Nat) : 0 ≤ difN zs i := by unfold difN; split <;> omega
theorem difN_of {zs : List Int} {i : Nat} {x y : Int} (hx : zs[i]? = some x) (hy : zs[i + 1]? = some y) : difN zs i = if x - y < -(x - y) then -(x - y) else x - y := by unfold difN; rw [getD_of hx, getD_of hy]

/-- p is the first of the first k pairs that differs most, by d. -/
structure Steep (zs : List Int) (k p : Nat) (d : Int) : Prop where
  lt : p < k
  eq : d = difN zs p
  most : ∀ i, i < k → difN zs i ≤ d
  first : ∀ i, i < p → difN zs i < d

theorem steep_one (zs : List Int) : Steep zs 1 0 (difN zs 0) := by
  refine ⟨by omega, rfl, fun i h => ?_, fun i h => by omega⟩
  obtain rfl : i = 0 := by omega
  omega
theorem Steep.more {zs : List Int} {k p : Nat} {d : Int} (h : Steep zs k p d) (g : d < difN zs k) : Steep zs (k + 1) k (difN zs k) :=
  ⟨by omega, rfl, fun i hi => by
    by_cases e : i = k
    · subst e; omega
    · have := h.most i (by omega); omega, fun i hi => by have := h.most i (by omega); omega⟩
theorem Steep.same {zs : List Int} {k p : Nat} {d : Int} (h : Steep zs k p d) (g : difN zs k ≤ d) : Steep zs (k + 1) p d :=
  ⟨by have := h.lt; omega, h.eq, fun i hi => by
    by_cases e : i = k
    · subst e; omega
    · exact h.most i (by omega), h.first⟩
theorem Steep.uniq {zs : List Int} {k p p' : Nat} {d d' : Int} (h : Steep zs k p d) (h' : Steep zs k p' d') : p = p' ∧ d = d' := by
  have e : d = d' := by have a := h.most p' h'.lt; have b := h'.most p h.lt; have := h.eq; have := h'.eq; omega
  refine ⟨?_, e⟩
  have e1 : ¬ p' < p := fun c => by have := h.first p' c; have := h'.eq; omega
  have e2 : ¬ p < p' := fun c => by have := h'.first p c; have := h.eq; omega
  omega
theorem steep_ex (zs : List Int) (k : Nat) : ∃ p d, Steep zs (k + 1) p d := by
  induction k with
  | zero => exact ⟨_, _, steep_one zs⟩
  | succ k ih =>
    obtain ⟨p, d, h⟩ := ih
    by_cases g : d < difN zs (k + 1)
    · exact ⟨_, _, h.more g⟩
    · exact ⟨_, _, h.same (by omega)⟩



/-- What SteepestOf answers. -/
def SteepRes (zs : List Int) (p d : Int) (b : Bool) : Prop := (∃ n : Nat, OkSe zs ∧ p = n ∧ Steep zs 23 n d ∧ b = true) ∨ (¬ OkSe zs ∧ p = 0 ∧ d = 0 ∧ b = false)

end Go.Proofs.Ythhnnkgfnhggbab
