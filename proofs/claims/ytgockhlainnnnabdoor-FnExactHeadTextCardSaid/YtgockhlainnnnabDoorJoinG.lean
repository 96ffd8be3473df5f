/- Joined texts of any things. -/
import Derived.Test.YtgockhlainnnnabDoorJoin
namespace Go.Proofs.YtgockhlainnnnabDoor
open Go.ChangeShapes Go.WideShapes Go.ChangeAt Go.RowKit
set_option linter.unusedVariables false
set_option linter.unusedSimpArgs false

/-- What has been written behind k texts. -/
def joinG (sep : List UInt8) (ts : List (List UInt8)) : Nat → List UInt8
  | 0 => []
  | k + 1 => joinG sep ts k ++ ((if k = 0 then [] else sep) ++ ts.getD k [])
theorem joinG_len (sep : List UInt8) (hs : sep.length ≤ 4) (ts : List (List UInt8)) (M : Nat) (hx : ∀ t ∈ ts, t.length ≤ M) : ∀ k, k ≤ ts.length → (joinG sep ts k).length ≤ (M + 4) * k := by
  intro k
  induction k with
  | zero => intro _; simp [joinG]
  | succ k ih =>
    intro hk
    have h1 := ih (by omega)
    obtain ⟨x, hxk⟩ : ∃ x, ts[k]? = some x := ⟨_, List.getElem?_eq_getElem (by omega)⟩
    have h2 := hx x (List.mem_of_getElem? hxk)
    have e : ts.getD k [] = x := by simp [List.getD, hxk]
    have h4 : (if k = 0 then [] else sep).length ≤ 4 := by split <;> simp [hs]
    simp only [joinG, List.length_append, e]
    rw [Nat.mul_succ]
    omega
theorem joinTo_eqG (sep : List UInt8) (xs : List Int) : ∀ k, k ≤ xs.length → joinTo sep xs k = joinG sep (xs.map Lib.itoa) k := by
  intro k
  induction k with
  | zero => intro _; rfl
  | succ k ih =>
    intro hk
    obtain ⟨x, hxk⟩ : ∃ x, xs[k]? = some x := ⟨_, List.getElem?_eq_getElem (by omega)⟩
    simp only [joinTo, joinG, ih (by omega)]
    simp [List.getD, hxk]
theorem joinG_step {sep : List UInt8} {ts : List (List UInt8)} {k : Nat} {x : List UInt8} (hk : 1 ≤ k) (hx : ts[k]? = some x) : joinG sep ts (k + 1) = joinG sep ts k ++ (sep ++ x) := by
  simp only [joinG]
  rw [if_neg (by omega)]
  simp [List.getD, hx]
theorem joinG_one {sep : List UInt8} {ts : List (List UInt8)} {x : List UInt8} (hx : ts[0]? = some x) : joinG sep ts 1 = x := by
  simp [joinG, List.getD, hx]
end Go.Proofs.YtgockhlainnnnabDoor
