/- The poses of an axis that is driven from the other end. -/
import Derived.Test.YthhnnkgfnhggbaaRoad
import Derived.Test.YthhnnkgfnhggbaaPosesOf
namespace Go.Proofs.Ythhnnkgfnhggbaa
open Go.ChangeShapes Go.WideShapes Go.ChangeAt Go.RowKit
set_option linter.unusedVariables false
set_option linter.unusedSimpArgs false

/-- The pose number i on the way back, of poses p 0 .. p n. -/
def backAt (p : Nat → Ps) (n i : Nat) : Ps := ⟨(p (n - i)).s, (p (n - i)).h, -(p (n - i - 1)).y, -(p (n - i - 1)).p⟩
def backL (p : Nat → Ps) (n : Nat) : List Ps := (List.range (n + 1)).map (backAt p n)
theorem backL_len (p : Nat → Ps) (n : Nat) : (backL p n).length = n + 1 := by simp [backL]
theorem backL_get (p : Nat → Ps) {n i : Nat} (h : i ≤ n) : (backL p n)[i]? = some (backAt p n i) := by
  unfold backL
  rw [List.getElem?_map, List.getElem?_range (by omega)]
  rfl
/-- The curves on the way back. -/
def revT (ts : List Cv) : List Cv := (ts.take (ts.length - 1)).reverse ++ [⟨1, 0, 0⟩]
theorem rev_get (ts : List Cv) (i : Nat) (h : i + 1 < ts.length) : (ts.take (ts.length - 1)).reverse[i]? = ts[ts.length - 2 - i]? := by
  rw [List.getElem?_reverse (by rw [List.length_take]; omega), List.length_take, List.getElem?_take_of_lt (by omega)]
  congr 1
  omega
theorem revT_len (ts : List Cv) (h : 1 ≤ ts.length) : (revT ts).length = ts.length := by
  simp only [revT, List.length_append, List.length_reverse, List.length_take, List.length_cons, List.length_nil]
  omega

section
variable {q : Ps} {ts : List Cv} {n : Nat} (hn : ts.length = n) (h1 : 1 ≤ n) (hr : ∀ t ∈ ts, t.r = 1)
include hn h1 hr
theorem rev_dif (i : Nat) (hi : i < n) : (revT ts)[i]? = some (dif (backAt (fun i => poseN q (ts.take i)) n i) (backAt (fun i => poseN q (ts.take i)) n (i + 1))) := by
  by_cases h : i + 1 < n
  · obtain ⟨m, hm⟩ : ∃ m, n = m + 2 + i := ⟨n - 2 - i, by omega⟩
    obtain ⟨t, ht⟩ : ∃ t, ts[m]? = some t := ⟨_, List.getElem?_eq_getElem (by omega)⟩
    have e : (revT ts)[i]? = some t := by
      unfold revT
      rw [List.getElem?_append_left (by rw [List.length_reverse, List.length_take]; omega), rev_get ts i (by omega), show ts.length - 2 - i = m by omega, ht]
    have s := poseN_succ q ts m t ht
    rw [e, dif, backAt, backAt]
    simp only [show n - (i + 1) - 1 = m by omega, show n - i - 1 = m + 1 by omega, s, stepP]
    have r1 := hr t (List.mem_of_getElem? ht)
    cases t
    simp only at r1
    subst r1
    congr 2 <;> dsimp only <;> omega
  · have e : (revT ts)[i]? = some ⟨1, 0, 0⟩ := by
      unfold revT
      have l : (ts.take (ts.length - 1)).reverse.length = i := by rw [List.length_reverse, List.length_take]; omega
      rw [List.getElem?_append_right (by omega), l, Nat.sub_self]
      rfl
    rw [e, dif, backAt, backAt]
    simp only [show n - (i + 1) - 1 = 0 by omega, show n - i - 1 = 0 by omega]
    congr 2 <;> omega

theorem difs_back : difs (backL (fun i => poseN q (ts.take i)) n) = revT ts := by
  apply List.ext_getElem?
  intro i
  by_cases hi : i < n
  · rw [rev_dif hn h1 hr (q := q) i hi]
    exact difs_get (backL_get _ (by omega)) (backL_get _ (by omega))
  · rw [List.getElem?_eq_none (by rw [difs_len, backL_len]; omega), List.getElem?_eq_none (by rw [revT_len ts (by omega)]; omega)]

theorem road_back (ho : ∀ i, i ≤ n → OkP (poseN q (ts.take i))) (ht : ∀ t ∈ ts, OkTurn t.b ∧ OkTurn t.s) : Road (backL (fun i => poseN q (ts.take i)) n) (n + 1) := by
  constructor
  · intro j x hj hx
    rw [backL_get _ (by omega)] at hx
    cases hx
    have a := ho (n - j) (by omega)
    have b := ho (n - j - 1) (by omega)
    unfold OkP OkOff OkHead at a b
    unfold OkP OkOff OkHead backAt
    refine ⟨a.1, a.2.1, ?_, ?_⟩ <;> dsimp only <;> omega
  · intro j a b hj ha hb
    have d := rev_dif hn h1 hr (q := q) j (by omega)
    rw [backL_get _ (by omega)] at ha
    rw [backL_get _ (by omega)] at hb
    have ea := Option.some.inj ha
    have eb := Option.some.inj hb
    rw [ea, eb] at d
    have dt : OkTurn (b.y - a.y) ∧ OkTurn (b.p - a.p) := by
      have hm := List.mem_of_getElem? d
      unfold revT at hm
      rcases List.mem_append.1 hm with hm | hm
      · exact ht _ (List.mem_of_mem_take (List.mem_reverse.1 hm))
      · simp only [List.mem_singleton, dif, Cv.mk.injEq] at hm
        rw [hm.2.1, hm.2.2]
        unfold OkTurn
        omega
    refine ⟨dt.1, dt.2, ?_⟩
    obtain ⟨t, htm⟩ : ∃ t, ts[n - j - 1]? = some t := ⟨_, List.getElem?_eq_getElem (by omega)⟩
    have s := poseN_succ q ts (n - j - 1) t htm
    rw [show n - j - 1 + 1 = n - j by omega] at s
    subst ea eb
    unfold stepP backAt
    simp only [show n - (j + 1) = n - j - 1 by omega, s, stepP]
    refine Ps.eq ?_ ?_ ?_ ?_ <;> dsimp only <;> omega
end
end Go.Proofs.Ythhnnkgfnhggbaa
