/- Slices of structs of one-cell fields: how they are read, and what a call owns of them. -/
import Derived.Test.YtcmocilojloolaaDoorBase
import Derived.Deep.QuietTactic
import Derived.BigQuiet
import Derived.WalkSmall
import Derived.Handy
import Derived.Lib.SmallJoins
namespace Go.Proofs.YtcmocilojloolaaDoor
open Go.ChangeShapes Go.WideShapes Go.ChangeAt Go.RowKit
set_option linter.unusedVariables false
set_option linter.unusedSimpArgs false

section
variable {T : Type} {k : Nat} {enc : T → List Value} {t : TypeId}

/-- v is a slice whose elements are xs, in w; an element x lies as the cells enc x, of which there are k. -/
def RdS (k : Nat) (enc : T → List Value) (w : World) (v : Value) (xs : List T) : Prop :=
  ∃ (a : Option Addr) (cap : Nat), v = .slice a xs.length cap ∧ (xs = [] ∨ ∃ b off : Nat, a = some ⟨b, off, none⟩ ∧ ∀ i x, xs[i]? = some x → ∀ j u, (enc x)[j]? = some u → w.cell? ⟨b, off + (i * k + j), none⟩ = some u)

/-- v is a slice of the call's own, from block B on. -/
def OwnS (t : TypeId) (k : Nat) (enc : T → List Value) (w : World) (B : Nat) (v : Value) (xs : List T) : Prop := w.ownsRow B t k v xs.length (xs.flatMap enc)

theorem flat_get (hk : ∀ x, (enc x).length = k) : ∀ (xs : List T) (i : Nat) (x : T), xs[i]? = some x → ∀ j u, (enc x)[j]? = some u → (xs.flatMap enc)[i * k + j]? = some u := by
  intro xs
  induction xs with
  | nil => intro i x h; simp at h
  | cons y ys ih =>
    intro i x h j u hj
    rw [List.flatMap_cons]
    cases i with
    | zero =>
      simp at h
      subst h
      have : j < (enc y).length := (List.getElem?_eq_some_iff.1 hj).1
      rw [Nat.zero_mul, Nat.zero_add, List.getElem?_append_left this]
      exact hj
    | succ i =>
      rw [List.getElem?_append_right (by rw [hk, Nat.succ_mul]; omega), hk, show (i + 1) * k + j - k = i * k + j by rw [Nat.succ_mul]; omega]
      exact ih i x (by simpa using h) j u hj

theorem flat_len (hk : ∀ x, (enc x).length = k) (xs : List T) : (xs.flatMap enc).length = xs.length * k := by
  induction xs with
  | nil => simp
  | cons y ys ih => rw [List.flatMap_cons, List.length_append, ih, hk, List.length_cons, Nat.succ_mul]; omega

theorem OwnS.rd {w : World} {B : Nat} {v : Value} {xs : List T} (hk : ∀ x, (enc x).length = k) (h : OwnS t k enc w B v xs) : RdS k enc w v xs := by
  obtain ⟨h1, h2 | ⟨g, cap, cur, rfl, h3⟩⟩ := h
  · obtain ⟨rfl, h2⟩ := h2
    have : xs = [] := List.eq_nil_of_length_eq_zero h2
    subst this
    exact ⟨none, 0, rfl, .inl rfl⟩
  · refine ⟨_, cap, rfl, .inr ⟨g, 0, rfl, fun i x hx j u hu => ?_⟩⟩
    have hg := flat_get hk xs i x hx j u hu
    have hl : i * k + j < xs.length * k := by rw [← flat_len hk xs]; exact (List.getElem?_eq_some_iff.1 hg).1
    have := World.ownsRow.cellAt (base := B) (w := w) (e := t) (size := k) (g := g) (n := xs.length) (cap := cap) (xs := xs.flatMap enc) ⟨h1, .inr ⟨g, cap, cur, rfl, h3⟩⟩ (i * k + j) hl
    rw [Nat.zero_add, this, hg]

theorem RdS.lift {w w' : World} {v : Value} {xs : List T} {B : Nat} (h : RdS k enc w v xs) (hv : ∀ b, v.ownBlock = some b → b < B) (hb : Below B w w') : RdS k enc w' v xs := by
  obtain ⟨a, cap, rfl, h | ⟨b, off, rfl, h⟩⟩ := h
  · exact ⟨a, cap, rfl, .inl h⟩
  · exact ⟨_, cap, rfl, .inr ⟨b, off, rfl, fun i x hx j u hu => (hb.cell (p := ⟨b, off + (i * k + j), none⟩) (by exact hv b rfl)).trans (h i x hx j u hu)⟩⟩

theorem RdS.later {w w' : World} {v : Value} {xs : List T} (h : RdS k enc w v xs) (hb : Below w.heap.size w w') : RdS k enc w' v xs := by
  obtain ⟨a, cap, rfl, h | ⟨b, off, rfl, h⟩⟩ := h
  · exact ⟨a, cap, rfl, .inl h⟩
  · refine ⟨_, cap, rfl, .inr ⟨b, off, rfl, fun i x hx j u hu => (hb.cell (p := ⟨b, off + (i * k + j), none⟩) ?_).trans (h i x hx j u hu)⟩⟩
    have c := h i x hx j u hu
    by_cases hc : b < w.heap.size
    · exact hc
    · simp [World.cell?, Array.getElem?_eq_none (show w.heap.size ≤ b by omega)] at c

theorem RdS.drewN {w : World} {v : Value} {xs : List T} (h : RdS k enc w v xs) (n : Nat) : RdS k enc (w.drewN n) v xs := h
theorem OwnS.drewN {w : World} {B : Nat} {v : Value} {xs : List T} (h : OwnS t k enc w B v xs) (n : Nat) : OwnS t k enc (w.drewN n) B v xs := h

theorem OwnS.kept {w w' : World} {B : Nat} {v : Value} {xs : List T} {row : Option Nat} (h : OwnS t k enc w B v xs) (hg : w.grownBy w' row) (hne : v.ownBlock = none ∨ v.ownBlock ≠ row) : OwnS t k enc w' B v xs := World.ownsRow.kept h hg hne

theorem OwnS.below {w w' : World} {B C : Nat} {v : Value} {xs : List T} (h : OwnS t k enc w B v xs) (hb : Below C w w') (hC : ∀ b, v.ownBlock = some b → b < C) : OwnS t k enc w' B v xs := by
  obtain ⟨h1, h2 | ⟨g, cap, cur, rfl, h3, h4, h5⟩⟩ := h
  · exact ⟨h1, .inl h2⟩
  · exact ⟨h1, .inr ⟨g, cap, cur, rfl, h3, by rw [hb.block g (hC g rfl)]; exact h4, h5⟩⟩

theorem OwnS.lt {w : World} {B : Nat} {v : Value} {xs : List T} (h : OwnS t k enc w B v xs) : ∀ b, v.ownBlock = some b → B ≤ b ∧ b < w.heap.size := World.ownsRow.lt h

theorem OwnS.later {w w' : World} {B : Nat} {v : Value} {xs : List T} (h : OwnS t k enc w B v xs) (hb : Below w.heap.size w w') : OwnS t k enc w' B v xs := h.below hb fun b e => (h.lt b e).2

theorem OwnS.mono {w : World} {B B' : Nat} {v : Value} {xs : List T} (h : OwnS t k enc w B v xs) (hB : B' ≤ B) : OwnS t k enc w B' v xs := Go.Joins.ownsRow_le h hB

theorem OwnS.nil (w : World) (B : Nat) : OwnS t k enc w B (.slice none 0 0) ([] : List T) := World.ownsRow_nil w B t k

theorem flat_set1 (hk : ∀ x, (enc x).length = k) : ∀ (xs : List T) (i j : Nat) (x y : T) (u : Value), xs[i]? = some x → j < k → (enc x).set j u = enc y → (xs.flatMap enc).set (i * k + j) u = (xs.set i y).flatMap enc := by
  intro xs
  induction xs with
  | nil => intro i j x y u h; simp at h
  | cons z zs ih =>
    intro i j x y u h hj he
    rw [List.flatMap_cons]
    cases i with
    | zero =>
      simp at h
      subst h
      rw [Nat.zero_mul, Nat.zero_add, List.set_append_left _ _ (by rw [hk]; exact hj), he, List.set_cons_zero, List.flatMap_cons]
    | succ i =>
      rw [List.set_append_right _ _ (by rw [hk, Nat.succ_mul]; omega), hk, show (i + 1) * k + j - k = i * k + j by rw [Nat.succ_mul]; omega, ih i j x y u (by simpa using h) hj he, List.set_cons_succ, List.flatMap_cons]

/-- A store into one field of an element of an own slice. -/
theorem OwnS.stored1 (hk : ∀ x, (enc x).length = k) {w : World} {B g cap n : Nat} {xs : List T} (hn : n = xs.length) (h : OwnS t k enc w B (.slice (some ⟨g, 0, none⟩) n cap) xs) (i j : Nat) (x y : T) (u : Value)
    (hx : xs[i]? = some x) (hj : j < k) (he : (enc x).set j u = enc y) :
    OwnS t k enc (w.setCell ⟨g, i * k + j, none⟩ u) B (.slice (some ⟨g, 0, none⟩) n cap) (xs.set i y) := by
  subst hn
  have := (World.ownsRow.stored h (i * k + j) u).1
  unfold OwnS
  rw [List.length_set, ← flat_set1 hk xs i j x y u hx hj he]
  exact this

theorem OwnS.cellAt (hk : ∀ x, (enc x).length = k) {w : World} {B g cap n : Nat} {xs : List T} (hn : n = xs.length) (h : OwnS t k enc w B (.slice (some ⟨g, 0, none⟩) n cap) xs) (i : Nat) (x : T) (hx : xs[i]? = some x) (j : Nat) (u : Value) (hu : (enc x)[j]? = some u) :
    w.cell? ⟨g, i * k + j, none⟩ = some u := by
  subst hn
  have hg := flat_get hk xs i x hx j u hu
  have hl : i * k + j < xs.length * k := by rw [← flat_len hk xs]; exact (List.getElem?_eq_some_iff.1 hg).1
  rw [World.ownsRow.cellAt h (i * k + j) hl, hg]

theorem OwnS.frozenAt {w : World} {B g cap n : Nat} {xs : List T} (hn : n = xs.length) (h : OwnS t k enc w B (.slice (some ⟨g, 0, none⟩) n cap) xs) (j : Nat) : w.frozen? ⟨g, j, none⟩ = false := by
  subst hn
  exact World.ownsRow.frozenAt h j

theorem OwnS.setBelow {w : World} {B : Nat} {v : Value} {xs : List T} (h : OwnS t k enc w B v xs) {a : Addr} (ha : a.block < B) (u : Value) : OwnS t k enc (w.setCell a u) B v xs := ownsRow_setCell_below h ha u

theorem OwnS.alloc {w : World} {B : Nat} {v : Value} {xs : List T} (h : OwnS t k enc w B v xs) (o : Obj) : OwnS t k enc (w.alloc o) B v xs := World.ownsRow.alloc h o

theorem OwnS.form {w : World} {B : Nat} {v : Value} {xs : List T} (h : OwnS t k enc w B v xs) : ∃ a cap, v = .slice a xs.length cap := by
  obtain ⟨h1, h2 | ⟨g, cap, cur, rfl, h3⟩⟩ := h
  · exact ⟨none, 0, by rw [h2.1, h2.2]⟩
  · exact ⟨_, cap, rfl⟩

theorem OwnS.forms {w : World} {B : Nat} {v : Value} {xs : List T} (h : OwnS t k enc w B v xs) : (v = .slice none 0 0 ∧ xs = []) ∨ ∃ g cap, v = .slice (some ⟨g, 0, none⟩) xs.length cap := by
  obtain ⟨h1, h2 | ⟨g, cap, cur, rfl, h3⟩⟩ := h
  · exact .inl ⟨h2.1, List.eq_nil_of_length_eq_zero h2.2⟩
  · exact .inr ⟨g, cap, rfl⟩
end

theorem made_flat {T : Type} {k : Nat} {enc : T → List Value} (hk : ∀ x, (enc x).length = k) (hp : 0 < k) (x : T) (z : Array Value) (hz : z.toList = enc x) (n : Nat) : (madeCells z (n * k)).toList = (List.replicate n x).flatMap enc := by
  have zs : z.size = k := by rw [← Array.length_toList, hz, hk]
  apply List.ext_getElem?
  intro i
  by_cases hi : i < n * k
  · have hq : i / k < n := Nat.div_lt_of_lt_mul (by rwa [Nat.mul_comm])
    have hr : i % k < k := Nat.mod_lt _ hp
    have hx : (List.replicate n x)[i / k]? = some x := by rw [List.getElem?_replicate, if_pos hq]
    have hu : (enc x)[i % k]? = some ((enc x)[i % k]'(by rw [hk]; exact hr)) := List.getElem?_eq_getElem _
    have h := flat_get hk (List.replicate n x) (i / k) x hx (i % k) _ hu
    rw [show i / k * k + i % k = i from Nat.div_add_mod' i k] at h
    rw [h, ← hu, ← hz]
    simp only [madeCells]
    rw [Array.getElem?_toList, Array.getElem?_map, Array.getElem?_eq_getElem (by simpa using hi), Array.getElem?_toList, zs]
    simp only [Option.map_some, Array.getElem_range]
    rw [getElem!_pos z (i % k) (by rw [zs]; exact hr), Array.getElem?_eq_getElem (by rw [zs]; exact hr)]
  · rw [List.getElem?_eq_none (by rw [Array.length_toList, size_madeCells]; omega), List.getElem?_eq_none (by rw [flat_len hk, List.length_replicate]; omega)]

theorem grownBy_trans' {a b c : World} {row : Option Nat} (h : a.grownBy b row) (k : b.grownBy c row) : a.grownBy c row :=
  ⟨k.os.trans h.os, k.tape.trans h.tape, k.output.trans h.output, Nat.le_trans h.size k.size, fun i hi hn => (k.block i (Nat.lt_of_lt_of_le hi h.size) hn).trans (h.block i hi hn)⟩

theorem grownBy_setCell' (w : World) (a : Addr) (u : Value) : w.grownBy (w.setCell a u) (some a.block) :=
  ⟨rfl, rfl, rfl, by simp [World.setCell], fun k _ hk => Below.heap_setCell w a u k (fun e => hk (by rw [e]))⟩

theorem grownBy_alloc' {w w' : World} {row : Option Nat} (h : w.grownBy w' row) (o : Obj) : w.grownBy (w'.alloc o) row :=
  ⟨h.os, h.tape, h.output, by rw [World.size_alloc]; exact Nat.le_succ_of_le h.size, fun i hi hn => (Below.heap_alloc w' o i (Nat.lt_of_lt_of_le hi h.size)).trans (h.block i hi hn)⟩

end Go.Proofs.YtcmocilojloolaaDoor
