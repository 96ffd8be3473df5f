/- The walks of the program's 'are curves those of an axis'. -/
import Derived.Test.YthhnnkgfnhggbaaSpecIs
import Derived.Test.YthhnnkgfnhggbaaInts
namespace Go.Proofs.Ythhnnkgfnhggbaa
open Go.ChangeShapes Go.WideShapes Go.ChangeAt Go.RowKit
set_option linter.unusedVariables false
set_option linter.unusedSimpArgs false

def OkCv (c : Cv) : Prop := (1 ≤ c.r ∧ c.r ≤ 60) ∧ OkTurn c.b ∧ OkTurn c.s
def sumR : List Cv → Int
  | [] => 0
  | c :: cs => c.r + sumR cs
theorem sumR_append (a b : List Cv) : sumR (a ++ b) = sumR a + sumR b := by
  induction a with
  | nil => simp [sumR]
  | cons c cs ih => simp only [List.cons_append, sumR, ih]; omega
def endsTo (cs : List Cv) (k : Nat) : List Int := (List.range k).map fun i => sumR (cs.take (i + 1))
theorem endsTo_length (cs : List Cv) (k : Nat) : (endsTo cs k).length = k := by simp [endsTo]
theorem endsTo_succ (cs : List Cv) (k : Nat) : endsTo cs (k + 1) = endsTo cs k ++ [sumR (cs.take (k + 1))] := by simp [endsTo, List.range_succ]
theorem sumR_take_succ (cs : List Cv) (k : Nat) (c : Cv) (h : cs[k]? = some c) : sumR (cs.take (k + 1)) = sumR (cs.take k) + c.r := by
  rw [List.take_add_one, h, Option.toList_some, sumR_append]; simp [sumR]
theorem sumR_bd (cs : List Cv) (h : ∀ c ∈ cs, OkCv c) : 0 ≤ sumR cs ∧ sumR cs ≤ 60 * cs.length := by
  induction cs with
  | nil => simp [sumR]
  | cons c cs ih =>
    have := (h c (by simp)).1
    have := ih (fun d hd => h d (by simp [hd]))
    simp only [sumR, List.length_cons]; omega

theorem withinI_any (n lo hi : Int) (b : Bool) (hb : b = true ↔ lo ≤ n ∧ n ≤ hi) (w : World) :
    Calls Try.prog 49 #[.int .i64 n, .int .i64 lo, .int .i64 hi] w fun e w' => e = .returned (.bool b) ∧ w = w' := by
  by_cases h1 : lo ≤ n
  · by_cases h2 : n ≤ hi
    · obtain rfl : b = true := hb.mpr ⟨h1, h2⟩
      clear hb
      go_enter Try.func49, Try.ntmps49
      go_wp2
      go_ret
      exact ⟨rfl, rfl⟩
    · obtain rfl : b = false := bool_false hb fun h => h2 h.2
      clear hb
      go_enter Try.func49, Try.ntmps49
      go_wp2
      go_ret
      exact ⟨rfl, rfl⟩
  · obtain rfl : b = false := bool_false hb fun h => h1 h.1
    clear hb
    go_enter Try.func49, Try.ntmps49
    go_wp2
    go_ret
    exact ⟨rfl, rfl⟩

set_option maxHeartbeats 1000000 in
theorem curveOk_any (c : Cv) (b : Bool) (hb : b = true ↔ OkCv c) (w : World) :
    Calls Try.prog 88 #[(.agg #[.int .i64 c.r, .int .i64 c.b, .int .i64 c.s])] w fun e w' => e = .returned (.bool b) ∧ w' = w.alloc (.cells #[.int .i64 c.r, .int .i64 c.b, .int .i64 c.s] 46) := by
  by_cases h1 : 1 ≤ c.r ∧ c.r ≤ 60
  · have c1 := Lib.hid (fun w => within_any c.r 1 60 true ⟨fun _ => h1, fun _ => rfl⟩ w)
    by_cases h2 : OkTurn c.b
    · have c2 := Lib.hid (fun w => isTurn_any c.b true ⟨fun _ => h2, fun _ => rfl⟩ w)
      have c3 := Lib.hid (fun w => isTurn_any c.s b ⟨fun e => (hb.mp e).2.2, fun e => hb.mpr ⟨h1, h2, e⟩⟩ w)
      clear hb h1 h2
      go_enter Try.func88, Try.ntmps88
      go_wp2_with fail
      refine (c1.out _).mono ?_
      rintro e w1 ⟨rfl, rfl⟩
      go_wp2_with fail
      refine (c2.out _).mono ?_
      rintro e w1 ⟨rfl, rfl⟩
      go_wp2_with fail
      refine (c3.out _).mono ?_
      rintro e w1 ⟨rfl, rfl⟩
      go_wp2
      go_ret
      exact ⟨rfl, rfl⟩
    · obtain rfl : b = false := bool_false hb fun h => h2 h.2.1
      have c2 := Lib.hid (fun w => isTurn_any c.b false ⟨fun h => (by cases h), fun h => absurd h h2⟩ w)
      clear hb h1 h2
      go_enter Try.func88, Try.ntmps88
      go_wp2_with fail
      refine (c1.out _).mono ?_
      rintro e w1 ⟨rfl, rfl⟩
      go_wp2_with fail
      refine (c2.out _).mono ?_
      rintro e w1 ⟨rfl, rfl⟩
      go_wp2
      go_ret
      exact ⟨rfl, rfl⟩
  · obtain rfl : b = false := bool_false hb fun h => h1 h.1
    have c1 := Lib.hid (fun w => within_any c.r 1 60 false ⟨fun h => (by cases h), fun h => absurd h h1⟩ w)
    clear hb h1
    go_enter Try.func88, Try.ntmps88
    go_wp2_with fail
    refine (c1.out _).mono ?_
    rintro e w1 ⟨rfl, rfl⟩
    go_wp2
    go_ret
    exact ⟨rfl, rfl⟩

set_option maxRecDepth 100000 in
set_option maxHeartbeats 2000000 in
theorem every_any (v : Value) (cs : List Cv) (w : World) (h : RdS 3 encCv w v cs) (lz : cs.length ≤ 1048576) (b : Bool) (hb : b = true ↔ ∀ c ∈ cs, OkCv c) :
    Calls Try.prog 87 #[v, .func (.func 88) #[] #[]] w fun e w' => e = .returned (.bool b) ∧ Below w.heap.size w w' := by
  have H := Lib.hid h
  have HB := Lib.hid hb
  obtain ⟨a, cap, rfl, _⟩ := h
  obtain ⟨n, hn⟩ : ∃ n, n = cs.length := ⟨_, rfl⟩
  rw [← hn] at H lz
  rw [← hn]
  have HN := Lib.hid hn
  clear hn hb
  go_enter Try.func87, Try.ntmps87
  go_wp2
  go_loopw [9] (fun i wr => ∃ k : Nat, k ≤ n ∧ i = .int .i64 k ∧ Hid (∀ c ∈ cs.take k, OkCv c) ∧ Hid (Below w.heap.size w wr)) (fun i _ => n - (intOf i).toNat)
  case atStart => exact ⟨0, by omega, rfl, by intro c hc; simp at hc, Below.refl _ _⟩
  case round =>
    obtain ⟨k, hk, rfl, hall, B⟩ := hrel
    by_cases hlt : k < n
    · obtain ⟨c, hx⟩ : ∃ x, cs[k]? = some x := ⟨_, List.getElem?_eq_getElem (by have := HN.out; omega)⟩
      obtain ⟨ba, oa, rfl, e0, e1, e2⟩ := (H.out.later B.out).at3 k c hx
      have hsz := B.out.size
      by_cases hc : OkCv c
      · have d1 := Lib.hid (fun w => curveOk_any c true ⟨fun _ => hc, fun _ => rfl⟩ w)
        have hall' : Hid (∀ c ∈ cs.take (k + 1), OkCv c) := by
          intro d hd
          rw [List.take_add_one, hx] at hd
          simp at hd
          rcases hd with hd | rfl
          · exact hall.out d hd
          · exact hc
        clear hx hc hall
        go_wp2_with fail
        refine (d1.out _).mono ?_
        rintro e w3 ⟨rfl, rfl⟩
        go_wp2
        exact ⟨⟨k + 1, by omega, by go_num, hall', (B.out.alloc hsz _).alloc (by simp; omega) _⟩, by simp only [intOf]; omega⟩
      · have d1 := Lib.hid (fun w => curveOk_any c false ⟨fun h => (by cases h), fun h => absurd h hc⟩ w)
        obtain rfl : b = false := bool_false HB.out (fun h => hc (h c (List.mem_of_getElem? hx)))
        clear hx hc hall
        go_wp2_with fail
        refine (d1.out _).mono ?_
        rintro e w3 ⟨rfl, rfl⟩
        go_wp2
        go_ret
        exact ⟨rfl, (B.out.alloc hsz _).alloc (by simp; omega) _⟩
    · obtain rfl : k = n := by omega
      obtain rfl : b = true := HB.out.mpr (by have := hall.out; rwa [List.take_of_length_le (by have := HN.out; omega)] at this)
      go_wp2
      go_ret
      exact ⟨rfl, B.out⟩
end Go.Proofs.Ythhnnkgfnhggbaa
