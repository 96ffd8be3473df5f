/- Lists of numbers that are not too great: which functions say so. -/
import Derived.Test.YthkmcbngbpiboaaDoorInts
namespace Go.Proofs.YthkmcbngbpiboaaDoor
open Go.ChangeShapes Go.WideShapes Go.ChangeAt Go.RowKit
set_option linter.unusedVariables false
set_option linter.unusedSimpArgs false

/-- Every number of the list is a value. -/
def AllVal (zs : List Int) : Prop := ∀ x ∈ zs, -1000000000 ≤ x ∧ x ≤ 1000000000

theorem AllVal.at {zs : List Int} (h : AllVal zs) {k : Nat} {x : Int} (hx : zs[k]? = some x) : -1000000000 ≤ x ∧ x ≤ 1000000000 := h x (List.mem_of_getElem? hx)
theorem AllVal.take_succ {zs : List Int} {k : Nat} {x : Int} (h : AllVal (zs.take k)) (hx : zs[k]? = some x) (h1 : -1000000000 ≤ x) (h2 : x ≤ 1000000000) : AllVal (zs.take (k + 1)) := by
  intro y hy
  rw [List.take_add_one, hx] at hy
  rcases List.mem_append.mp hy with hy | hy
  · exact h y hy
  · have : y = x := by simpa using hy
    subst this; exact ⟨h1, h2⟩

def valB (x : Int) : Bool := decide (-1000000000 ≤ x ∧ x ≤ 1000000000)

theorem isValB_any (x : Int) (w : World) : Calls Tryd.prog 45 #[.int .i64 x] w fun e w' => e = .returned (.bool (valB x)) ∧ w = w' := by
  rcases (by omega : x < -1000000000 ∨ (-1000000000 ≤ x ∧ 1000000000 < x) ∨ (-1000000000 ≤ x ∧ x ≤ 1000000000)) with h | ⟨h, h'⟩ | ⟨h, h'⟩
  · have e : valB x = false := by unfold valB; simp; omega
    have h3 : decide (-1000000000 ≤ x) = false := by simp; omega
    rw [e]
    go_enter Tryd.func45, Tryd.ntmps45
    go_wp2
    go_ret
    exact ⟨rfl, rfl⟩
  · have e : valB x = false := by unfold valB; simp; omega
    have h3 : decide (x ≤ 1000000000) = false := by simp; omega
    rw [e]
    go_enter Tryd.func45, Tryd.ntmps45
    go_wp2
    go_ret
    exact ⟨rfl, rfl⟩
  · have e : valB x = true := by unfold valB; simp; omega
    have h3 : decide (x ≤ 1000000000) = true := by simp; omega
    rw [e]
    go_enter Tryd.func45, Tryd.ntmps45
    go_wp2
    go_ret
    exact ⟨rfl, rfl⟩

set_option maxHeartbeats 1000000 in
theorem everyValue_any (v : Value) (zs : List Int) (w : World) (h : RdI w v zs) (lz : zs.length ≤ 1099511627776) (b : Bool) (hb : b = true ↔ AllVal zs) :
    Calls Tryd.prog 80 #[v, .func (Fn.func 45) #[] #[]] w fun e w' => e = .returned (.bool b) ∧ w = w' := by
  obtain ⟨a, cap, rfl, ra⟩ := h
  obtain ⟨n, hn⟩ : ∃ n, n = zs.length := ⟨_, rfl⟩
  rw [← hn] at lz
  rw [← hn]
  have RA := Lib.hid ra
  have HN := Lib.hid hn
  have HB := Lib.hid hb
  clear ra hn hb
  go_enter Tryd.func80, Tryd.ntmps80
  go_wp2
  go_loop [6, 9] (fun _ i => ∃ k : Nat, k ≤ n ∧ i = .int .i64 k ∧ Hid (AllVal (zs.take k))) (fun _ i => n - (intOf i).toNat)
  case atStart => exact ⟨0, by omega, rfl, fun x hx => by simp at hx⟩
  case round =>
    obtain ⟨k, hk, rfl, ha⟩ := hrel
    by_cases hlt : k < n
    · obtain ⟨x, hx⟩ : ∃ x, zs[k]? = some x := ⟨_, List.getElem?_eq_getElem (by have := HN.out; omega)⟩
      obtain ⟨ba, oa, rfl, ca'⟩ := RA.out.resolve_left (by intro h; have := HN.out; rw [h] at this; simp at this; omega)
      have c1 := ca' k x hx
      have HX := Lib.hid hx
      clear ca' hx
      by_cases hv : valB x = true
      · go_wp2_with (go_at_call 45; refine (isValB_any _ _).mono ?_; rintro e w' ⟨rfl, rfl⟩)
        have hv' : -1000000000 ≤ x ∧ x ≤ 1000000000 := by unfold valB at hv; simpa using hv
        exact ⟨⟨k + 1, by omega, by go_num, ha.out.take_succ HX.out hv'.1 hv'.2⟩, by simp only [intOf]; omega⟩
      · have hv2 : valB x = false := by simpa using hv
        obtain rfl : b = false := by
          cases b with
          | false => rfl
          | true => exact absurd (by have := (HB.out.mp rfl).at HX.out; unfold valB; simpa using this) hv
        clear hv
        go_wp2_with (go_at_call 45; refine (isValB_any _ _).mono ?_; rintro e w' ⟨rfl, rfl⟩)
        go_ret
        exact ⟨rfl, rfl⟩
    · obtain rfl : k = n := by omega
      obtain rfl : b = true := HB.out.mpr (by have := ha.out; rwa [List.take_of_length_le (by have := HN.out; omega)] at this)
      go_wp2
      go_ret
      exact ⟨rfl, rfl⟩

theorem isList_any (v : Value) (zs : List Int) (w : World) (h : RdI w v zs) (lz : zs.length ≤ 1099511627776) (b : Bool) (hb : b = true ↔ zs.length ≤ 64 ∧ AllVal zs) :
    Calls Tryd.prog 48 #[v] w fun e w' => e = .returned (.bool b) ∧ w = w' := by
  have H := Lib.hid h
  obtain ⟨a, cap, rfl, ra⟩ := h
  obtain ⟨n, hn⟩ : ∃ n, n = zs.length := ⟨_, rfl⟩
  have HB := Lib.hid hb
  have LZ := Lib.hid lz
  have HN := Lib.hid hn
  rw [← hn] at lz
  rw [← hn] at H
  rw [← hn]
  clear hb ra hn
  by_cases hl : (n : Int) ≤ 64
  · go_enter Tryd.func48, Tryd.ntmps48
    go_wp2_with (go_at_call 80; refine (everyValue_any _ zs _ H.out LZ.out b (by rw [HB.out, ← HN.out]; constructor; exact fun h => h.2; exact fun h => ⟨by omega, h⟩)).mono ?_; rintro e w' ⟨rfl, rfl⟩)
    go_ret
    exact ⟨rfl, rfl⟩
  · obtain rfl : b = false := by
      cases b with
      | false => rfl
      | true => have := (HB.out.mp rfl).1; have := HN.out; omega
    have h3 : decide ((n : Int) ≤ 64) = false := by simpa using hl
    clear hl
    go_enter Tryd.func48, Tryd.ntmps48
    go_wp2
    go_ret
    exact ⟨rfl, rfl⟩

set_option maxHeartbeats 1000000 in
theorem l01List_any (v : Value) (zs : List Int) (w : World) (h : RdI w v zs) (lz : zs.length ≤ 1099511627776) (b : Bool) (hb : b = true ↔ zs.length ≤ 64 ∧ AllVal zs) :
    Calls Tryd.prog 46 #[v] w fun e w' => e = .returned (.bool b) ∧ w = w' := by
  obtain ⟨a, cap, rfl, ra⟩ := h
  obtain ⟨n, hn⟩ : ∃ n, n = zs.length := ⟨_, rfl⟩
  rw [← hn] at lz hb
  rw [← hn]
  have RA := Lib.hid ra
  have HN := Lib.hid hn
  have HB := Lib.hid hb
  clear ra hn hb
  go_enter Tryd.func46, Tryd.ntmps46
  go_wp2
  go_loop [3] (fun i => ∃ k : Nat, k ≤ n ∧ i = .int .i64 k ∧ Hid (AllVal (zs.take k))) (fun i => n - (intOf i).toNat)
  case atStart => exact ⟨0, by omega, rfl, fun x hx => by simp at hx⟩
  case round =>
    obtain ⟨k, hk, rfl, ha⟩ := hrel
    by_cases hlt : k < n
    · obtain ⟨x, hx⟩ : ∃ x, zs[k]? = some x := ⟨_, List.getElem?_eq_getElem (by have := HN.out; omega)⟩
      obtain ⟨ba, oa, rfl, ca'⟩ := RA.out.resolve_left (by intro h; have := HN.out; rw [h] at this; simp at this; omega)
      have c1 := ca' k x hx
      have HX := Lib.hid hx
      clear ca' hx
      rcases (by omega : x < -1000000000 ∨ (-1000000000 ≤ x ∧ 1000000000 < x) ∨ (-1000000000 ≤ x ∧ x ≤ 1000000000)) with h | ⟨h, h'⟩ | ⟨h, h'⟩
      · obtain rfl : b = false := by
          cases b with
          | false => rfl
          | true => have := (HB.out.mp rfl).2.at HX.out; omega
        have h3 : decide (-1000000000 ≤ x) = false := by simp; omega
        go_wp2
        go_ret
        exact ⟨rfl, rfl⟩
      · obtain rfl : b = false := by
          cases b with
          | false => rfl
          | true => have := (HB.out.mp rfl).2.at HX.out; omega
        have h3 : decide (x ≤ 1000000000) = false := by simp; omega
        go_wp2
        go_ret
        exact ⟨rfl, rfl⟩
      · have h3 : decide (x ≤ 1000000000) = true := by simp; omega
        go_wp2
        exact ⟨⟨k + 1, by omega, by go_num, ha.out.take_succ HX.out h h'⟩, by simp only [intOf]; omega⟩
    · obtain rfl : k = n := by omega
      have ha' := ha.out
      rw [List.take_of_length_le (by have := HN.out; omega)] at ha'
      have e : b = decide ((k : Int) ≤ 64) := by
        cases b with
        | true => have := (HB.out.mp rfl).1; symm; simp; omega
        | false =>
          symm; simp only [decide_eq_false_iff_not]; intro h
          exact absurd (HB.out.mpr ⟨by omega, ha'⟩) (by simp)
      subst e
      clear ha' HB
      go_wp2
      go_ret
      exact ⟨rfl, rfl⟩
end Go.Proofs.YthkmcbngbpiboaaDoor
