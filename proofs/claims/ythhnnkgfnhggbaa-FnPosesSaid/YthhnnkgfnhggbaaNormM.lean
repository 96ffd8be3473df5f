/- What is reckoned of the normal axis: the merged turns are the merged curves; no two neighbours are alike; it has the same poses. -/
import Derived.Test.YthhnnkgfnhggbaaRevL
namespace Go.Proofs.Ythhnnkgfnhggbaa
open Go.ChangeShapes Go.WideShapes Go.ChangeAt Go.RowKit
set_option linter.unusedVariables false
set_option linter.unusedSimpArgs false

theorem mergeOne_twice (out : List Cv) (x y b s : Int) : mergeOne (mergeOne out ⟨x, b, s⟩) ⟨y, b, s⟩ = mergeOne out ⟨x + y, b, s⟩ := by
  unfold mergeOne
  cases h : out.getLast? with
  | none => simp [Like]
  | some l =>
    dsimp only
    by_cases hk : Like l ⟨x, b, s⟩
    · have hk2 : Like l ⟨x + y, b, s⟩ := hk
      have hk3 : Like ⟨l.r + x, l.b, l.s⟩ ⟨y, b, s⟩ := hk
      rw [if_pos hk, if_pos hk2, List.getLast?_concat]
      dsimp only
      rw [if_pos hk3, List.dropLast_concat]
      simp only [Int.add_assoc]
    · have hk2 : ¬ Like l ⟨x + y, b, s⟩ := hk
      rw [if_neg hk, if_neg hk2, List.getLast?_concat]
      dsimp only
      have hk3 : Like (⟨x, b, s⟩ : Cv) ⟨y, b, s⟩ := ⟨rfl, rfl⟩
      rw [if_pos hk3, List.dropLast_concat]
theorem merge_run (b s : Int) (n : Nat) : ∀ (out : List Cv) (x : Int), (List.replicate n (⟨1, b, s⟩ : Cv)).foldl mergeOne (mergeOne out ⟨x, b, s⟩) = mergeOne out ⟨x + n, b, s⟩ := by
  induction n with
  | zero => intro out x; simp
  | succ n ih =>
    intro out x
    rw [List.replicate_succ, List.foldl_cons, mergeOne_twice, ih]
    congr 2
    push_cast
    omega
theorem merge_curve (c : Cv) (h : 1 ≤ c.r) (out : List Cv) : (List.replicate c.r.toNat (⟨1, c.b, c.s⟩ : Cv)).foldl mergeOne out = mergeOne out c := by
  obtain ⟨n, hn⟩ : ∃ n : Nat, c.r = n + 1 := ⟨c.r.toNat - 1, by omega⟩
  have e : c.r.toNat = n + 1 := by omega
  rw [e, List.replicate_succ, List.foldl_cons, merge_run]
  obtain ⟨r, b, s⟩ := c
  simp only at hn
  congr 2
  omega
theorem merge_turns (cs : List Cv) (h : ∀ c ∈ cs, 1 ≤ c.r) : mergeL (turnsC cs) = mergeL cs := by
  unfold mergeL
  suffices g : ∀ (cs out : List Cv), (∀ c ∈ cs, 1 ≤ c.r) → (turnsC cs).foldl mergeOne out = cs.foldl mergeOne out from g cs [] h
  intro cs
  induction cs with
  | nil => intro out _; rfl
  | cons c cs ih =>
    intro out h
    have e : turnsC (c :: cs) = List.replicate c.r.toNat ⟨1, c.b, c.s⟩ ++ turnsC cs := rfl
    rw [e, List.foldl_append, merge_curve c (h c (List.mem_cons_self ..)), List.foldl_cons]
    exact ih _ (fun d hd => h d (List.mem_cons_of_mem _ hd))

/-- No two neighbours are alike. -/
def ApartL (l : List Cv) : Prop := ∀ i a b, l[i]? = some a → l[i + 1]? = some b → ¬ Like a b
theorem ApartL.one {out : List Cv} (h : ApartL out) (c : Cv) : ApartL (mergeOne out c) := by
  unfold mergeOne
  cases hl : out.getLast? with
  | none =>
    intro i a b _ hb
    simp at hb
  | some l =>
    dsimp only
    have hne : out ≠ [] := by intro h0; rw [h0] at hl; simp at hl
    have hp : 0 < out.length := List.length_pos_iff.2 hne
    rw [List.getLast?_eq_getElem?] at hl
    by_cases hk : Like l c
    · rw [if_pos hk]
      intro i a b ha hb
      have ld : out.dropLast.length = out.length - 1 := List.length_dropLast
      have hi : i + 1 < out.length := by
        have := (List.getElem?_eq_some_iff.1 hb).1
        rw [List.length_append, ld] at this
        simp at this
        omega
      rw [List.getElem?_append_left (by omega), List.getElem?_dropLast, if_pos (by omega)] at ha
      by_cases e : i + 1 < out.length - 1
      · rw [List.getElem?_append_left (by omega), List.getElem?_dropLast, if_pos (by omega)] at hb
        exact h i a b ha hb
      · rw [List.getElem?_append_right (by omega), ld, show i + 1 - (out.length - 1) = 0 by omega] at hb
        have hb' : (⟨l.r + c.r, l.b, l.s⟩ : Cv) = b := by simpa using hb
        subst hb'
        exact h i a l ha (by rw [show i + 1 = out.length - 1 by omega]; exact hl)
    · rw [if_neg hk]
      intro i a b ha hb
      have hi : i + 1 < out.length + 1 := by
        have := (List.getElem?_eq_some_iff.1 hb).1
        simpa using this
      rw [List.getElem?_append_left (by omega)] at ha
      by_cases e : i + 1 < out.length
      · rw [List.getElem?_append_left e] at hb
        exact h i a b ha hb
      · rw [List.getElem?_append_right (by omega), show i + 1 - out.length = 0 by omega] at hb
        have hb' : c = b := by simpa using hb
        subst hb'
        rw [show i = out.length - 1 by omega, hl] at ha
        cases ha
        exact hk
theorem mergeL_apart (cs : List Cv) : ApartL (mergeL cs) := by
  unfold mergeL
  suffices g : ∀ (cs out : List Cv), ApartL out → ApartL (cs.foldl mergeOne out) from g cs [] (fun i a b ha => by simp at ha)
  intro cs
  induction cs with
  | nil => intro out h; exact h
  | cons c cs ih => intro out h; exact ih _ (h.one c)

theorem normal_ok {q : Ps} {cs : List Cv} (h : OkA q cs) : OkA q (mergeL cs) ∧ turnsC (mergeL cs) = turnsC cs := by
  obtain ⟨l1, l8, hc, s0, s60⟩ := h.parts'
  have hp : ∀ c ∈ cs, 1 ≤ c.r := fun c hm => (hc c hm).1.1
  have ht := turnsC_merge cs hp
  have hs := mergeL_sum cs
  have hpp := mergeL_pos cs hp
  have hne : 1 ≤ (mergeL cs).length := by
    by_cases h0 : (mergeL cs).length = 0
    · have e := List.eq_nil_of_length_eq_zero h0
      rw [e] at ht
      have hl := turnsC_len cs hc
      rw [← ht] at hl
      have : 1 ≤ sumR cs := by
        obtain ⟨c, hcm⟩ : ∃ c, c ∈ cs := List.exists_mem_of_length_pos (by omega)
        have a := sumR_mem' cs hp c hcm
        have b := hp c hcm
        omega
      simp [turnsC] at hl
      omega
    · omega
  refine ⟨okA_of_poses hne (Nat.le_trans (mergeL_length cs) l8) ?_ (by rw [hs]; exact s60) ?_, ht⟩
  · intro c hm
    have a := mergeL_turn cs (fun d hd => (hc d hd).2) c hm
    have b := hpp c hm
    have d := sumR_mem' _ hpp c hm
    rw [hs] at d
    exact ⟨⟨b, by omega⟩, a⟩
  · intro i hi
    rw [ht] at hi ⊢
    exact h.pose i hi
theorem normal_poses {q : Ps} {cs : List Cv} (h : OkA q cs) : allPs q (mergeL cs) = allPs q cs := by
  unfold allPs
  rw [(normal_ok h).2]

/-- The poses of an axis are a road, whose axis is the normal one. -/
theorem poses_road {q : Ps} {cs : List Cv} (h : OkA q cs) : Road (allPs q cs) (allPs q cs).length ∧ difs (allPs q cs) = turnsC cs ∧ headP (allPs q cs) = q := by
  obtain ⟨l1, l8, hc, s0, s60⟩ := h.parts'
  have hl : (allPs q cs).length = (turnsC cs).length + 1 := by rw [allPs, posesTo_length]
  have hg : ∀ i, i ≤ (turnsC cs).length → (allPs q cs)[i]? = some (poseN q ((turnsC cs).take i)) := fun i hi => posesTo_get _ _ _ _ (by omega)
  have hd : ∀ i t, (turnsC cs)[i]? = some t → dif (poseN q ((turnsC cs).take i)) (poseN q ((turnsC cs).take (i + 1))) = t := by
    intro i t ht
    rw [poseN_succ q _ i t ht, dif, stepP]
    have h1 : t.r = 1 := by
      have := List.mem_of_getElem? ht
      unfold turnsC at this
      obtain ⟨c, _, hc⟩ := List.mem_flatMap.1 this
      rw [(List.mem_replicate.1 hc).2]
    obtain ⟨r, b, s⟩ := t
    simp only at h1
    subst h1
    refine Cv.eq ?_ ?_ ?_ <;> dsimp only <;> omega
  refine ⟨⟨?_, ?_⟩, ?_, ?_⟩
  · intro j x hj hx
    rw [hg j (by omega)] at hx
    cases hx
    exact h.pose j (by omega)
  · intro j a b hj ha hb
    obtain ⟨t, ht⟩ : ∃ t, (turnsC cs)[j]? = some t := ⟨_, List.getElem?_eq_getElem (by omega)⟩
    rw [hg j (by omega)] at ha
    rw [hg (j + 1) (by omega)] at hb
    have e := hd j t ht
    have ea := Option.some.inj ha
    have eb := Option.some.inj hb
    rw [ea, eb] at e
    have tt := turnsC_turn cs hc t (List.mem_of_getElem? ht)
    have s := poseN_succ q (turnsC cs) j t ht
    rw [ea, eb] at s
    unfold dif at e
    subst e
    exact ⟨tt.1, tt.2, s.symm⟩
  · apply List.ext_getElem?
    intro i
    by_cases hi : i < (turnsC cs).length
    · obtain ⟨t, ht⟩ : ∃ t, (turnsC cs)[i]? = some t := ⟨_, List.getElem?_eq_getElem hi⟩
      rw [difs_get (hg i (by omega)) (hg (i + 1) (by omega)), hd i t ht, ht]
    · rw [List.getElem?_eq_none (by rw [difs_len, hl]; omega), List.getElem?_eq_none (by omega)]
  · unfold headP
    rw [List.head?_eq_getElem?, hg 0 (by omega)]
    rfl
theorem poses_axV {q : Ps} {cs : List Cv} (h : OkA q cs) : AxV (allPs q cs) ∧ mergeL (difs (allPs q cs)) = mergeL cs := by
  obtain ⟨l1, l8, hc, s0, s60⟩ := h.parts'
  obtain ⟨hr, hd, -⟩ := poses_road h
  have hl : (allPs q cs).length = (turnsC cs).length + 1 := by rw [allPs, posesTo_length]
  have ht := turnsC_len cs hc
  have h1 : 1 ≤ sumR cs := by
    obtain ⟨c, hcm⟩ : ∃ c, c ∈ cs := List.exists_mem_of_length_pos (by omega)
    have a := sumR_mem' cs (fun c hm => (hc c hm).1.1) c hcm
    have b := (hc c hcm).1.1
    omega
  have e : mergeL (difs (allPs q cs)) = mergeL cs := by rw [hd]; exact merge_turns cs (fun c hm => (hc c hm).1.1)
  refine ⟨⟨⟨by omega, by omega⟩, hr, ?_⟩, e⟩
  rw [e]
  exact Nat.le_trans (mergeL_length cs) l8
end Go.Proofs.Ythhnnkgfnhggbaa
