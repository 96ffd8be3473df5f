/- What is reckoned of rings, without a program: sets of joints as lists and as bits. -/
import Derived.Test.YtgockhlainnnnacDoorRingIs
namespace Go.Proofs.YtgockhlainnnnacDoor
open Go.ChangeShapes Go.WideShapes Go.ChangeAt Go.RowKit
set_option linter.unusedVariables false
set_option linter.unusedSimpArgs false

/-- A number is put to its place among rising ones, once. -/
def putL (n : Int) : List Int → List Int
  | [] => [n]
  | x :: xs => if n ≤ x then (if n < x then n :: x :: xs else x :: xs) else x :: putL n xs

theorem putL_length (n : Int) (xs : List Int) : (putL n xs).length ≤ xs.length + 1 := by
  induction xs with
  | nil => simp [putL]
  | cons x xs ih =>
    simp only [putL]
    split
    · split <;> simp
    · simp only [List.length_cons]; omega

def sixSteps : List Int := [0, 1, 4, 7, 10, 13]
def fiveSteps : List Int := [2, 5, 8, 11, 14]
def putAll (a : Int) (steps : List Int) : List Int := steps.foldl (fun l s => putL ((a + s).tmod 16) l) []
def jointsL (a : Int) : List Int := putAll a sixSteps
def nextL (a : Int) : List Int := putAll a fiveSteps
def meetL (a b : Int) : List Int := (jointsL a).filter fun x => decide (x ∈ jointsL b)

theorem putAll_succ (a : Int) (steps : List Int) (k : Nat) (s : Int) (h : steps[k]? = some s) : putAll a (steps.take (k + 1)) = putL ((a + s).tmod 16) (putAll a (steps.take k)) := by
  unfold putAll
  rw [List.take_add_one, h, Option.toList_some, List.foldl_append]
  rfl

theorem putAll_length (a : Int) (steps : List Int) : (putAll a steps).length ≤ steps.length := by
  unfold putAll
  suffices h : ∀ l : List Int, (steps.foldl (fun l s => putL ((a + s).tmod 16) l) l).length ≤ l.length + steps.length by
    have := h []
    simpa using this
  induction steps with
  | nil => intro l; simp
  | cons s ss ih =>
    intro l
    have h1 := ih (putL ((a + s).tmod 16) l)
    have h2 := putL_length ((a + s).tmod 16) l
    simp only [List.foldl_cons, List.length_cons]
    omega

/-- The joints of a ring with a key, a bit for each. -/
def jM (a : Int) : Int := [9363, 18726, 37452, 9369, 18738, 37476, 9417, 18834, 37668, 9801, 19602, 39204, 12873, 25746, 51492, 37449].getD a.toNat 0

/-- Two keys whose joints don't meet. -/
def Free (a b : Int) : Prop := meetL a b = []
instance (a b : Int) : Decidable (Free a b) := inferInstanceAs (Decidable (_ = _))

theorem free_bits_fin : ∀ a b : Fin 16, (bits BinOp.and IntKind.u16 (jM a.val) (jM b.val) = 0) ↔ Free (a.val : Int) (b.val : Int) := by decide +kernel

theorem fin16 (a : Int) (h : 0 ≤ a ∧ a ≤ 15) : ∃ f : Fin 16, ((f.val : Nat) : Int) = a := ⟨⟨a.toNat, by omega⟩, by simp; omega⟩

theorem free_bits (a b : Int) (ha : 0 ≤ a ∧ a ≤ 15) (hb : 0 ≤ b ∧ b ≤ 15) : (bits BinOp.and IntKind.u16 (jM a) (jM b) = 0) ↔ Free a b := by
  obtain ⟨f, rfl⟩ := fin16 a ha
  obtain ⟨g, rfl⟩ := fin16 b hb
  exact free_bits_fin f g

theorem free_symm_fin : ∀ a b : Fin 16, Free (a.val : Int) (b.val : Int) ↔ Free (b.val : Int) (a.val : Int) := by decide +kernel
theorem free_symm (a b : Int) (ha : 0 ≤ a ∧ a ≤ 15) (hb : 0 ≤ b ∧ b ≤ 15) : Free a b ↔ Free b a := by
  obtain ⟨f, rfl⟩ := fin16 a ha
  obtain ⟨g, rfl⟩ := fin16 b hb
  exact free_symm_fin f g

/-- A tube: at most 60 valid rings, no two neighbouring ones with joints that meet. -/
def OkT (xs : List Rg) : Prop := xs.length ≤ 60 ∧ (∀ r ∈ xs, OkR r) ∧ ∀ i r s, xs[i]? = some r → xs[i + 1]? = some s → Free r.y s.y
end Go.Proofs.YtgockhlainnnnacDoor
