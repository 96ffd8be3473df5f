/- The walk of sort.Search over the ends of curves. -/
import Derived.Test.YthhnnkgfnhggbaaRingsOf
namespace Go.Proofs.Ythhnnkgfnhggbaa
open Go.ChangeShapes Go.WideShapes Go.ChangeAt Go.RowKit
set_option linter.unusedVariables false
set_option linter.unusedSimpArgs false

set_option maxRecDepth 100000 in
set_option maxHeartbeats 1000000 in
theorem at1_any (R E : Nat) (ring : Int) (w : World) (es : List Int) (a : Option Addr) (cap : Nat) (hR : w.cell? ⟨R, 0, none⟩ = some (.int .i64 ring)) (hE : w.cell? ⟨E, 0, none⟩ = some (.slice a es.length cap))
    (hes : RdI w (.slice a es.length cap) es) (i : Nat) (x : Int) (hx : es[i]? = some x) (b : Bool) (hb : decide (ring < x) = b) :
    Calls Try.prog 90 #[.int .i64 i, .pointer (some ⟨R, 0, none⟩), .pointer (some ⟨E, 0, none⟩)] w fun e w' => e = .returned (.bool b) ∧ ∃ n, w' = w.drewN n := by
  obtain ⟨a', c', hv, h2⟩ := hes
  simp only [Value.slice.injEq] at hv
  obtain ⟨rfl, -, -⟩ := hv
  obtain ⟨bb, off, rfl, c⟩ := h2.resolve_left (by intro e; rw [e] at hx; simp at hx)
  have c1 := c i x hx
  have hi : i < es.length := (List.getElem?_eq_some_iff.1 hx).1
  obtain ⟨N, hN⟩ : ∃ N, N = es.length := ⟨_, rfl⟩
  rw [← hN] at hE hi
  have l1 : (i : Int) < (N : Int) := by omega
  clear h2 c hx hN
  go_enter Try.func90, Try.ntmps90
  go_wp2
  go_quiet (fail)
  go_wp2
  go_ret
  exact ⟨by simp [hb], _, rfl⟩

set_option maxRecDepth 100000 in
set_option maxHeartbeats 4000000 in
theorem search_any (R E : Nat) (ring : Int) (w : World) (es : List Int) (a : Option Addr) (cap : Nat) (hR : w.cell? ⟨R, 0, none⟩ = some (.int .i64 ring)) (hE : w.cell? ⟨E, 0, none⟩ = some (.slice a es.length cap))
    (hes : RdI w (.slice a es.length cap) es) (le : es.length ≤ 8) :
    Calls Try.prog 89 #[.int .i64 es.length, .func (.func 90) #[] #[.pointer (some ⟨R, 0, none⟩), .pointer (some ⟨E, 0, none⟩)]] w fun e w' =>
      ∃ k : Nat, e = .returned (.int .i64 k) ∧ k ≤ es.length ∧ (∀ x, 0 < k → es[k - 1]? = some x → x ≤ ring) ∧ (∀ x, es[k]? = some x → ring < x) ∧ ∃ n, w' = w.drewN n := by
  have C := Lib.hid (fun (m i : Nat) (x : Int) (hx : es[i]? = some x) (b : Bool) (hb : decide (ring < x) = b) => at1_any R E ring (w.drewN m) es a cap hR hE (hes.drewN m) i x hx b hb)
  obtain ⟨N, hN⟩ : ∃ N, N = es.length := ⟨_, rfl⟩
  rw [← hN]
  rw [← hN] at le
  have HN := Lib.hid hN
  clear hR hE hes hN
  go_enter Try.func89, Try.ntmps89
  go_wp2
  go_loopw [5, 6] (fun iv jv wr => ∃ (i j m : Nat), i ≤ j ∧ j ≤ N ∧ iv = .int .i64 i ∧ jv = .int .i64 j ∧ wr = w.drewN m ∧ Hid (∀ x, 0 < i → es[i - 1]? = some x → x ≤ ring) ∧ Hid (∀ x, es[j]? = some x → ring < x)) (fun iv jv _ => (intOf jv - intOf iv).toNat)
  case atStart => exact ⟨0, N, 0, by omega, by omega, rfl, rfl, rfl, fun x h => absurd h (by omega), fun x h => by have h2 := (List.getElem?_eq_some_iff.1 h).1; have := HN.out; omega⟩
  case round =>
    obtain ⟨i, j, m, h1, h2, rfl, rfl, rfl, hi, hj⟩ := hrel
    by_cases hlt : i < j
    · have l1 : (i : Int) < (j : Int) := by omega
      obtain ⟨h, hh⟩ : ∃ h, h = (i + j) / 2 := ⟨_, rfl⟩
      have q1 : IntKind.i64.wrap ((i : Int) + (j : Int)) = (i : Int) + (j : Int) := IntWalk.i64_in _ (by omega)
      have hN : h < N := by omega
      obtain ⟨x, hx⟩ : ∃ x, es[h]? = some x := ⟨_, List.getElem?_eq_getElem (by have := HN.out; omega)⟩
      have e1 : ((i : Int) + (j : Int)) / 2 = (h : Int) := by omega
      have b1 : i ≤ h := by omega
      have b2 : h < j := by omega
      have HX := Lib.hid hx
      have E1 := Lib.hid e1
      clear hx hh e1
      go_wp2_with fail
      rw [E1.out]
      by_cases g : ring < x
      · refine (C.out m h x HX.out true (by simpa using g)).mono ?_
        rintro e w' ⟨rfl, n, rfl⟩
        have hj' : Hid (∀ x, es[h]? = some x → ring < x) := fun y hy => by rw [HX.out] at hy; rw [← Option.some.inj hy]; exact g
        clear g
        go_wp2
        exact ⟨⟨i, h, m + n, b1, by omega, rfl, rfl, rfl, hi, hj'⟩, by simp only [intOf]; omega⟩
      · refine (C.out m h x HX.out false (by simpa using g)).mono ?_
        rintro e w' ⟨rfl, n, rfl⟩
        have hi' : Hid (∀ x, 0 < h + 1 → es[h + 1 - 1]? = some x → x ≤ ring) := fun y _ hy => by rw [Nat.add_sub_cancel, HX.out] at hy; rw [← Option.some.inj hy]; omega
        clear g
        go_wp2
        exact ⟨⟨h + 1, j, m + n, by omega, by omega, by go_num, rfl, rfl, hi', hj⟩, by simp only [intOf]; omega⟩
    · obtain rfl : i = j := by omega
      have HI := hi
      have HJ := hj
      go_wp2
      go_ret
      exact ⟨i, rfl, h2, HI.out, HJ.out, _, rfl⟩
end Go.Proofs.Ythhnnkgfnhggbaa
