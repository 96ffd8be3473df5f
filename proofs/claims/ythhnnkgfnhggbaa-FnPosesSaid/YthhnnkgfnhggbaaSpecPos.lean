/- The poses of an axis, by their numbers; the walk of the specification's poses. -/
import Derived.Test.YthhnnkgfnhggbaaRingsOf
import Derived.Test.YthhnnkgfnhggbaaAppends
namespace Go.Proofs.Ythhnnkgfnhggbaa
open Go.ChangeShapes Go.WideShapes Go.ChangeAt Go.RowKit
set_option linter.unusedVariables false
set_option linter.unusedSimpArgs false

/-- The pose behind rings with these turns. -/
def poseN (p : Ps) (ts : List Cv) : Ps := ts.foldl (fun p t => stepP p t.b t.s) p
theorem poseN_append (p : Ps) (a b : List Cv) : poseN p (a ++ b) = poseN (poseN p a) b := by simp [poseN]
theorem poseN_succ (p : Ps) (ts : List Cv) (i : Nat) (t : Cv) (h : ts[i]? = some t) : poseN p (ts.take (i + 1)) = stepP (poseN p (ts.take i)) t.b t.s := by
  rw [List.take_add_one, h, Option.toList_some, poseN_append]; rfl
theorem runsP_eq (p : Ps) (b s : Int) (n : Nat) : runsP p b s n = poseN p (List.replicate n ⟨1, b, s⟩) := by
  induction n generalizing p with
  | zero => rfl
  | succ n ih => rw [List.replicate_succ, runsP, ih]; rfl

/-- The first n poses. -/
def posesTo (p : Ps) (ts : List Cv) (n : Nat) : List Ps := (List.range n).map fun i => poseN p (ts.take i)
theorem posesTo_length (p : Ps) (ts : List Cv) (n : Nat) : (posesTo p ts n).length = n := by simp [posesTo]
theorem posesTo_succ (p : Ps) (ts : List Cv) (n : Nat) : posesTo p ts (n + 1) = posesTo p ts n ++ [poseN p (ts.take n)] := by simp [posesTo, List.range_succ]
theorem posesTo_get (p : Ps) (ts : List Cv) (n i : Nat) (h : i < n) : (posesTo p ts n)[i]? = some (poseN p (ts.take i)) := by
  unfold posesTo
  rw [List.getElem?_map, List.getElem?_range h]; rfl

theorem seqP_length (m : Int) (p : Ps) (b s : Int) (n : Nat) : (seqP m p b s n).length = n := by
  induction n generalizing m p with
  | zero => rfl
  | succ n ih => simp [seqP, ih]
theorem seqP_get (m : Int) (p : Ps) (b s : Int) (n i : Nat) (h : i < n) : (seqP m p b s n)[i]? = some (m + i + 1, poseN p (List.replicate (i + 1) ⟨1, b, s⟩)) := by
  induction n generalizing m p i with
  | zero => omega
  | succ n ih =>
    cases i with
    | zero => simp [seqP, poseN]
    | succ i =>
      simp only [seqP, List.getElem?_cons_succ]
      rw [ih (m + 1) _ i (by omega), List.replicate_succ (n := i + 1)]
      congr 2
      push_cast
      omega

theorem restP_get (cs : List Cv) : ∀ (m : Int) (p : Ps) (i : Nat), (∀ c ∈ cs, OkCv c) → i < (turnsC cs).length → (restP m p cs)[i]? = some (m + i + 1, poseN p ((turnsC cs).take (i + 1))) := by
  induction cs with
  | nil => intro m p i _ h; simp [turnsC] at h
  | cons c cs ih =>
    intro m p i ha h
    have e : turnsC (c :: cs) = List.replicate c.r.toNat ⟨1, c.b, c.s⟩ ++ turnsC cs := by simp [turnsC]
    have h1 := (ha c (by simp)).1
    rw [e] at h ⊢
    simp only [restP]
    rw [List.length_append, List.length_replicate] at h
    by_cases hi : i < c.r.toNat
    · rw [List.getElem?_append_left (by rw [seqP_length]; exact hi), seqP_get _ _ _ _ _ _ hi, List.take_append_of_le_length (by rw [List.length_replicate]; omega), List.take_replicate, Nat.min_eq_left (by omega)]
    · rw [List.getElem?_append_right (by rw [seqP_length]; omega), seqP_length, ih _ _ _ (fun d hd => ha d (by simp [hd])) (by omega)]
      have e2 : (List.replicate c.r.toNat (⟨1, c.b, c.s⟩ : Cv) ++ turnsC cs).take (i + 1) = List.replicate c.r.toNat ⟨1, c.b, c.s⟩ ++ (turnsC cs).take (i - c.r.toNat + 1) := by
        rw [List.take_append, List.length_replicate, List.take_of_length_le (by rw [List.length_replicate]; omega), show i + 1 - c.r.toNat = i - c.r.toNat + 1 by omega]
      rw [e2, poseN_append, ← runsP_eq]
      congr 2
      omega

theorem allP_get (q : Ps) (cs : List Cv) (ha : ∀ c ∈ cs, OkCv c) (i : Nat) (h : i ≤ (turnsC cs).length) : (allP q cs)[i]? = some ((i : Int), poseN q ((turnsC cs).take i)) := by
  unfold allP
  cases i with
  | zero => simp [poseN]
  | succ i =>
    rw [List.getElem?_cons_succ, restP_get cs 0 q i ha (by omega)]
    congr 2
    push_cast
    omega

theorem OkA.pose {q : Ps} {cs : List Cv} (h : OkA q cs) (i : Nat) (hi : i ≤ (turnsC cs).length) : OkP (poseN q ((turnsC cs).take i)) :=
  ((okA_iff q cs).mp h).2 _ (List.mem_of_getElem? (allP_get q cs h.parts.2.2.1 i hi))

theorem turnsC_turn (cs : List Cv) (ha : ∀ c ∈ cs, OkCv c) : ∀ t ∈ turnsC cs, OkTurn t.b ∧ OkTurn t.s := by
  intro t ht
  unfold turnsC at ht
  obtain ⟨c, hc, h⟩ := List.mem_flatMap.1 ht
  rw [(List.mem_replicate.1 h).2]
  exact (ha c hc).2
end Go.Proofs.Ythhnnkgfnhggbaa
