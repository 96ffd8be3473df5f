/- What is reckoned of reversed and mirrored axes. -/
import Derived.Test.YthhnnkgfnhggbaaRevE
import Derived.Test.YthhnnkgfnhggbaaMirror
import Derived.Test.YthhnnkgfnhggbaaDrawA
namespace Go.Proofs.Ythhnnkgfnhggbaa
open Go.ChangeShapes Go.WideShapes Go.ChangeAt Go.RowKit
set_option linter.unusedVariables false
set_option linter.unusedSimpArgs false

theorem poseN_mir (ts : List Cv) : ∀ q : Ps, poseN (mirP q) (ts.map mirC) = mirP (poseN q ts) := by
  induction ts with
  | nil => intro q; rfl
  | cons t ts ih =>
    intro q
    have e : stepP (mirP q) (mirC t).b (mirC t).s = mirP (stepP q t.b t.s) := by
      unfold stepP mirP mirC
      refine Ps.eq ?_ ?_ ?_ ?_ <;> dsimp only <;> omega
    show poseN (stepP (mirP q) (mirC t).b (mirC t).s) (ts.map mirC) = mirP (poseN (stepP q t.b t.s) ts)
    rw [e]
    exact ih _
theorem turnsC_mir (cs : List Cv) : turnsC (cs.map mirC) = (turnsC cs).map mirC := by
  induction cs with
  | nil => rfl
  | cons c cs ih =>
    have e : ∀ (c : Cv) (l : List Cv), turnsC (c :: l) = List.replicate c.r.toNat ⟨1, c.b, c.s⟩ ++ turnsC l := fun c l => rfl
    rw [List.map_cons, e, e, ih, List.map_append, List.map_replicate]
    rfl
theorem sumR_mir (cs : List Cv) : sumR (cs.map mirC) = sumR cs := by
  induction cs with
  | nil => rfl
  | cons c cs ih => simp only [List.map_cons, sumR, ih]; rfl
theorem mir_ok {q : Ps} {cs : List Cv} (h : OkA q cs) : OkA (mirP q) (cs.map mirC) := by
  obtain ⟨l1, l8, hc, s0, s60⟩ := h.parts'
  refine okA_of_poses (by rw [List.length_map]; exact l1) (by rw [List.length_map]; exact l8) ?_ (by rw [sumR_mir]; exact s60) ?_
  · intro c hm
    obtain ⟨d, hd, rfl⟩ := List.mem_map.1 hm
    have := hc d hd
    unfold OkCv OkTurn at this
    unfold OkCv OkTurn mirC
    dsimp only
    omega
  · intro i hi
    rw [turnsC_mir] at hi ⊢
    rw [List.length_map] at hi
    rw [← List.map_take, poseN_mir]
    have := h.pose i hi
    unfold OkP OkOff OkHead at this
    unfold OkP OkOff OkHead mirP
    dsimp only
    omega
theorem allPs_mir (q : Ps) (cs : List Cv) (i : Nat) (h : i ≤ (turnsC cs).length) : (allPs (mirP q) (cs.map mirC))[i]? = some (mirP (poseN q ((turnsC cs).take i))) := by
  rw [allPs, posesTo_get _ _ _ _ (by rw [turnsC_mir, List.length_map]; omega), turnsC_mir, ← List.map_take, poseN_mir]

/-- The axis of some poses has them. -/
theorem road_poses {xs : List Ps} (hr : Road xs xs.length) (h2 : 2 ≤ xs.length) : allPs (headP xs) (mergeL (difs xs)) = xs := by
  have h0 : xs[0]? = some (headP xs) := by
    unfold headP
    rw [List.head?_eq_getElem?]
    obtain ⟨x, hx⟩ : ∃ x, xs[0]? = some x := ⟨_, List.getElem?_eq_getElem (by omega)⟩
    rw [hx]
    rfl
  have hp : ∀ d ∈ difs xs, 1 ≤ d.r := fun d hd => by rw [difs_one d hd]; omega
  have ht : turnsC (mergeL (difs xs)) = difs xs := by rw [turnsC_merge _ hp, turnsC_one _ difs_one]
  rw [allPs, ht, difs_len]
  apply List.ext_getElem?
  intro i
  by_cases hi : i < xs.length
  · obtain ⟨x, hx⟩ : ∃ x, xs[i]? = some x := ⟨_, List.getElem?_eq_getElem hi⟩
    rw [posesTo_get _ _ _ _ (by omega), poseN_difs hr h0 i x hi hx, hx]
  · rw [List.getElem?_eq_none (by rw [posesTo_length]; omega), List.getElem?_eq_none (by omega)]

/-- A list of k rows in each of which all are alike. -/
def Blocks (k : Nat) (xs : List Cv) : Prop := ∃ ls : List (List Cv), ls.length ≤ k ∧ xs = ls.flatten ∧ ∀ l ∈ ls, ∀ a ∈ l, ∀ b ∈ l, Like a b
theorem Blocks.reverse {k : Nat} {xs : List Cv} (h : Blocks k xs) : Blocks k xs.reverse := by
  obtain ⟨ls, h1, rfl, h2⟩ := h
  refine ⟨(ls.map List.reverse).reverse, by simpa using h1, by rw [List.reverse_flatten], ?_⟩
  intro l hl a ha b hb
  rw [List.mem_reverse, List.mem_map] at hl
  obtain ⟨m, hm, rfl⟩ := hl
  exact h2 m hm a (List.mem_reverse.1 ha) b (List.mem_reverse.1 hb)
theorem Blocks.snoc {k : Nat} {xs : List Cv} (h : Blocks k xs) (x : Cv) : Blocks (k + 1) (xs ++ [x]) := by
  obtain ⟨ls, h1, rfl, h2⟩ := h
  refine ⟨ls ++ [[x]], by simp; omega, by simp, ?_⟩
  intro l hl a ha b hb
  rcases List.mem_append.1 hl with hl | hl
  · exact h2 l hl a ha b hb
  · obtain rfl : l = [x] := by simpa using hl
    obtain rfl : a = x := by simpa using ha
    obtain rfl : b = a := by simpa using hb
    exact ⟨rfl, rfl⟩
theorem Blocks.head (ls : List (List Cv)) : ∀ (k : Nat) (xs ys : List Cv), ls.length ≤ k → ls.flatten = xs ++ ys → (∀ l ∈ ls, ∀ a ∈ l, ∀ b ∈ l, Like a b) → Blocks k xs := by
  induction ls with
  | nil =>
    intro k xs ys _ h _
    simp only [List.flatten_nil] at h
    obtain ⟨rfl, -⟩ := List.append_eq_nil_iff.1 h.symm
    exact ⟨[], by simp, rfl, by simp⟩
  | cons l ls ih =>
    intro k xs ys hk h h2
    rw [List.length_cons] at hk
    rw [List.flatten_cons] at h
    rcases List.append_eq_append_iff.1 h with ⟨a, rfl, e⟩ | ⟨c, e, e2⟩
    · obtain ⟨ms, m1, m2, m3⟩ := ih (k - 1) a ys (by omega) e (fun l hl => h2 l (List.mem_cons_of_mem _ hl))
      refine ⟨l :: ms, by rw [List.length_cons]; omega, by rw [List.flatten_cons, m2], ?_⟩
      intro m hm
      rcases List.mem_cons.1 hm with rfl | hm
      · exact h2 _ (List.mem_cons_self ..)
      · exact m3 m hm
    · refine ⟨[xs], by simp; omega, by simp, ?_⟩
      intro m hm a ha b hb
      obtain rfl : m = xs := by simpa using hm
      exact h2 l (List.mem_cons_self ..) a (by rw [e]; exact List.mem_append_left _ ha) b (by rw [e]; exact List.mem_append_left _ hb)
theorem mergeOne_last (out : List Cv) (c : Cv) : ∃ d, (mergeOne out c).getLast? = some d ∧ Like d c := by
  unfold mergeOne
  split
  · split
    · rename_i l hl hk
      exact ⟨⟨l.r + c.r, l.b, l.s⟩, by rw [List.getLast?_concat], hk⟩
    · exact ⟨c, by rw [List.getLast?_concat], rfl, rfl⟩
  · exact ⟨c, rfl, rfl, rfl⟩
theorem merge_alike (l : List Cv) : ∀ (out : List Cv) (d : Cv), out.getLast? = some d → (∀ a ∈ l, Like d a) → (l.foldl mergeOne out).length = out.length := by
  induction l with
  | nil => intro out d _ _; rfl
  | cons c l ih =>
    intro out d hd ha
    have hc := ha c (List.mem_cons_self ..)
    have e : mergeOne out c = out.dropLast ++ [⟨d.r + c.r, d.b, d.s⟩] := by
      unfold mergeOne
      rw [hd]
      simp only [if_pos hc]
    have hne : out ≠ [] := by intro h0; rw [h0] at hd; simp at hd
    have hl : 0 < out.length := List.length_pos_iff.2 hne
    rw [List.foldl_cons, ih (mergeOne out c) ⟨d.r + c.r, d.b, d.s⟩ (by rw [e, List.getLast?_concat]) (fun a h => ha a (List.mem_cons_of_mem _ h)), e]
    simp only [List.length_append, List.length_dropLast, List.length_cons, List.length_nil]
    omega
theorem merge_block (l out : List Cv) (h : ∀ a ∈ l, ∀ b ∈ l, Like a b) : (l.foldl mergeOne out).length ≤ out.length + 1 := by
  cases l with
  | nil => simp
  | cons c l =>
    obtain ⟨d, hd, hk⟩ := mergeOne_last out c
    rw [List.foldl_cons, merge_alike l _ d hd (fun a ha => by
      have := h c (List.mem_cons_self ..) a (List.mem_cons_of_mem _ ha)
      exact ⟨hk.1.trans this.1, hk.2.trans this.2⟩)]
    exact mergeOne_length out c
theorem Blocks.merge {k : Nat} {xs : List Cv} (h : Blocks k xs) : (mergeL xs).length ≤ k := by
  obtain ⟨ls, h1, rfl, h2⟩ := h
  suffices g : ∀ (ls : List (List Cv)) (out : List Cv), (∀ l ∈ ls, ∀ a ∈ l, ∀ b ∈ l, Like a b) → (ls.flatten.foldl mergeOne out).length ≤ out.length + ls.length by
    have := g ls [] h2
    unfold mergeL
    simp only [List.length_nil] at this
    omega
  intro ls
  induction ls with
  | nil => intro out _; simp
  | cons l ls ih =>
    intro out h
    rw [List.flatten_cons, List.foldl_append, List.length_cons]
    have a := merge_block l out (h l (List.mem_cons_self ..))
    have b := ih (l.foldl mergeOne out) (fun m hm => h m (List.mem_cons_of_mem _ hm))
    omega
theorem rev_length (cs : List Cv) (h : 1 ≤ (turnsC cs).length) : (mergeL (revT (turnsC cs))).length ≤ cs.length + 1 := by
  have h0 : Blocks cs.length (turnsC cs) := by
    refine ⟨cs.map fun c => List.replicate c.r.toNat ⟨1, c.b, c.s⟩, by simp, by rw [turnsC, List.flatMap_def], ?_⟩
    intro l hl a ha b hb
    obtain ⟨c, _, rfl⟩ := List.mem_map.1 hl
    rw [(List.mem_replicate.1 ha).2, (List.mem_replicate.1 hb).2]
    exact ⟨rfl, rfl⟩
  obtain ⟨ls, h1, h2, h3⟩ := h0
  have e : ls.flatten = (turnsC cs).take ((turnsC cs).length - 1) ++ (turnsC cs).drop ((turnsC cs).length - 1) := by rw [List.take_append_drop]; exact h2.symm
  exact ((Blocks.head ls cs.length _ _ h1 e h3).reverse.snoc _).merge
end Go.Proofs.Ythhnnkgfnhggbaa
